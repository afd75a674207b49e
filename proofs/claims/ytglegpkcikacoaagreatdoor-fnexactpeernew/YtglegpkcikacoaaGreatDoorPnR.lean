/-
  slices.Repeat of one number, so many times. Condition: 1 to 5 times.
-/
import Derived.Test.YtglegpkcikacoaaGreatDoorKNew
set_option linter.unusedVariables false
set_option linter.unusedSimpArgs false
set_option maxRecDepth 100000
set_option maxHeartbeats 8000000
namespace Go.Proofs.YtglegpkcikacoaaGreatDoor.Gen
open ChangeShapes WideShapes ChangeAt RowKit Joins Deep Base
theorem mul64_any (n : Nat) (hn : 1 <= n /\ n <= 5) (w : World) :
 Calls Tryz.prog 135 #[.int .u64 1, .int .u64 (n : Int)] w fun e w' => e = .returned (.tuple #[.int .u64 0, .int .u64 (n : Int)]) /\ w' = w := by
 obtain rfl | rfl | rfl | rfl | rfl : n = 1 ∨ n = 2 ∨ n = 3 ∨ n = 4 ∨ n = 5 := by omega
 all_goals
  go_enter Tryz.func135, Tryz.ntmps135
  go_wp2
  exact bodyPost_ret (by simp [results, Tryz.results135, go_sem]; rfl) rfl ⟨rfl, rfl⟩
theorem mul_any (n : Nat) (hn : 1 <= n /\ n <= 5) (w : World) :
 Calls Tryz.prog 87 #[.int .u64 1, .int .u64 (n : Int)] w fun e w' => e = .returned (.tuple #[.int .u64 0, .int .u64 (n : Int)]) /\ w' = w := by
 have H := hidP (mul64_any n hn w)
 clear hn
 go_enter Tryz.func87, Tryz.ntmps87
 go_wp2_with fail
 refine H.out.mono ?_
 rintro e w1 ⟨rfl, rfl⟩
 go_wp2
 exact bodyPost_ret (v := .tuple #[.int .u64 0, .int .u64 (n : Int)]) (by simp [results, Tryz.results87, go_sem]) rfl ⟨rfl, rfl⟩
theorem wp_copy_is {P : Program} {w w' : World} {o : Oper} {a : Act} {K : Act -> World -> Prop} {Q : Go.Exit -> Act -> World -> Prop} (s x : Operand) (t : TypeId)
 (ho : o.op = .call { callee := .builtin .copy, args := #[s, x], argTypes := #[t, t] }) (v xv r : Value) (hs : a.eval s = v) (hx : a.eval x = xv)
 (hr : (Builtin.copy_ #[t, t] o.type #[v, xv]).run P w = .ok r w') (h : K (a.put o.dst r) w') : Oper.wp P o a w K Q := by
 unfold Oper.wp execOp
 simp only [ho, resolve, invoke, builtin, Sem.run_bind, Sem.run_pure, Result.andThen_ok, List.map_toArray, List.map_cons, List.map_nil, hs, hx, hr]
 exact h
def Qco (k n : Nat) : Array Value := (List.replicate k (Value.int .i64 1) ++ List.replicate (n - k) (Value.int .i64 0)).toArray
theorem Qif {W : World} {g n k m o : Nat} {a : Addr} {sc : Nat} {sl dl dc : Nat} (p : Blk W g 3 (Qco k n)) (hk : k <= n) (ho : o <= n) (hm : m = Nat.min sl dl) (hok : o <= k /\ k <= o + m) (hf : o + m <= n) (hs : ∀ j, j < m -> W.cell? (a.add j) = some (.int .i64 1)) :
 (Builtin.copy_ #[30, 30] 3 #[.slice (some ⟨g, o, none⟩) dl dc, .slice (some a) sl sc]).run Tryz.prog W = .ok (.int .i64 (m : Int)) (W.setRow g (Qco (o + m) n)) := by
 have h := run_copy_row (P := Tryz.prog) W 30 30 3 3 g o dl dc a sl sc (Qco k n) 3 (List.replicate m (.int .i64 1)) Tryz.underlying30 (by kernel_rfl) p (by simp [hm]) (fun j v hv => by
  rw [List.getElem?_replicate] at hv
  by_cases hj : j < m
  . rw [if_pos hj] at hv; rw [hs j hj, hv]
  . rw [if_neg hj] at hv; cases hv) (by simp [Qco]; omega) (fun v hv => by rw [(List.mem_replicate.1 hv).2]; rfl)
 rw [h]
 have e : (Qco k n).toList.take o ++ List.replicate m (Value.int .i64 1) ++ (Qco k n).toList.drop (o + (List.replicate m (Value.int .i64 1)).length) = (Qco (o + m) n).toList := by
  have e1 : (List.replicate m (Value.int .i64 1)).length = m := by simp
  rw [e1]
  unfold Qco
  simp only [List.toList_toArray]
  rw [List.take_append_of_le_length (by simp; omega), List.take_replicate, Nat.min_eq_left hok.1, List.drop_append, List.drop_eq_nil_of_le (by simp; omega), List.length_replicate, List.drop_replicate, List.nil_append, List.replicate_append_replicate]
  rw [show n - k - (o + m - k) = n - (o + m) by omega]
 rw [e]
 simp [goInt]
theorem repeat_any (n : Nat) (hn : 1 <= n /\ n <= 5) (A : Option Addr) (w : World) (hA : At w A [(1 : Int)]) :
 Calls Tryz.prog 46 #[.slice A 1 1, .int .i64 (n : Int)] w fun e w' => e = .returned (.slice (some ⟨w.heap.size, 0, none⟩) n n) /\ Below w.heap.size w w' /\ Blk w' w.heap.size 3 (Qco n n) := by
 have HM := hidP (mul_any n hn)
 obtain ⟨b, o, rfl, hb, hi⟩ : ∃ b o, A = some ⟨b, o, none⟩ /\ b < w.heap.size /\ In w b o [(1 : Int)] := by
  rcases hA with h | h
  . simp at h
  . exact h
 have hc : w.cell? ⟨b, o, none⟩ = some (.int .i64 1) := by simpa using hi.cell (f := 0) 0 (by simp) rfl
 have hmk := Qbk (P := Tryz.prog) Tryz.underlying30 Qcp (by decide) n (by omega) w
 have HB := hidP (Qaa (Below.refl w.heap.size w) (.cells (madeCells #[Value.int .i64 0] n) 3))
 have e0 : madeCells #[Value.int .i64 0] n = Qco 0 n := by
  apply Array.ext
  . simp [madeCells, Qco]
  . intro i h1 h2
    simp [madeCells, Qco, Nat.mod_one]
 have hP0 := Blk.new w 3 (Qco 0 n)
 have hC := Qif (g := w.heap.size) (n := n) (k := 0) (m := 1) (o := 0) (a := ⟨b, o, none⟩) (sc := 1) (sl := 1) (dl := n) (dc := n) hP0 (by omega) (by omega) (Nat.min_eq_left hn.1).symm (by omega) (by omega) (fun j hj => by
  obtain rfl : j = 0 := by omega
  show World.cell? _ ⟨b, o + 0, none⟩ = _
  rw [Nat.add_zero, World.cell?_alloc_lt _ _ ⟨b, o, none⟩ hb]
  exact hc)
 rw [← e0] at hC hP0
 have HP1 := hidP (hP0.row (Qco 1 n))
 have HB1 := hidP (Qcm HB.out (Nat.le_refl _) (Qco 1 n))
 clear hi hc hA HB hP0 e0
 go_enter Tryz.func46, Tryz.ntmps46
 have hn1 : (1 : Int) <= (n : Int) := by omega
 have hn5 : (n : Int) <= 5 := by omega
 have hu : IntKind.u64.wrap (n : Int) = (n : Int) := by simp [IntKind.wrap, IntKind.bits, IntKind.signed]; omega
 go_wp2_with fail
 refine (HM.out _).mono ?_
 rintro e w1 ⟨rfl, rfl⟩
 go_wp2_with (at_builtin; refine Qfn rfl _ _ _ rfl _ _ _ rfl rfl hC ?_)
 clear hC hmk hu hb
 go_loopw [8] (fun v8 W => ∃ k : Nat, v8 = .int .i64 (k : Int) /\ 1 <= k /\ k <= n /\ Hid (Blk W w1.heap.size 3 (Qco k n)) /\ Hid (Below w1.heap.size w1 W)) (fun v8 _ => 5 - (intOf v8).toNat)
 case atStart => exact ⟨1, rfl, by decide, hn.1, HP1, HB1⟩
 case round =>
  obtain ⟨k, rfl, hk1, hk2, HP, HB⟩ := hrel
  by_cases hkn : k < n
  . have hkn' : (k : Int) < (n : Int) := by omega
    obtain ⟨m, hm⟩ : ∃ m : Nat, m = Nat.min k (n - k) := ⟨_, rfl⟩
    have hm1 : 1 <= m /\ m <= 5 /\ k + m <= n := by have := Nat.min_le_left k (n - k); have := Nat.min_le_right k (n - k); rcases Nat.le_total k (n - k) with h | h<;>simp [Nat.min_eq_left, Nat.min_eq_right, h] at hm<;>omega
    have hw : IntKind.i64.wrap ((k : Int) + (m : Int)) = ((k + m : Nat) : Int) := by simp [IntKind.wrap, IntKind.bits, IntKind.signed]; omega
    have Hm := hidP hm
    clear hm
    go_upto_region 9 with fail
    refine wp_region_noPanic ?_
    refine wp_region_held_drew (S := fun _ => True) (by kernel_rfl) trivial (fun hH => ?_)
    have p : Blk wr.drew w1.heap.size 3 (Qco k n) := HP.out.below ((Below.refl _ _).drew) (HP.out.lt)
    have b1 : Below w1.heap.size w1 wr.drew := HB.out.drew
    generalize wr.drew = u0 at *
    refine ztk [0, 1, 2, 3, 4, 5, 6] ?_; repeat (refine ztn (h := ?_); try simp only [zX,zY])
    refine zte ?_
    refine zR1 7 (fun K hK => ?_)
    simp only [zG]
    simp only [if_neg (show ¬ n = k by omega)]
    rw [if_pos (by rfl)]
    refine wp_copy_is _ _ _ (by rfl) _ _ _ (by rfl) (by rfl) (Qif (n := n) (k := k) (o := k) (m := m) p hk2 hk2 Hm.out (by omega) (by omega) (fun j hj => ?_)) ?_
    . rw [show (⟨w1.heap.size, 0, none⟩ : Addr).add j = ⟨w1.heap.size, j, none⟩ by unfold Addr.add; split<;>simp_all]
      refine p.cell ?_
      have hm := Hm.out
      have hjk : j < k := Nat.lt_of_lt_of_le hj (by rw [hm]; exact Nat.min_le_left _ _)
      simp only [Qco, List.getElem?_toArray]
      rw [List.getElem?_append_left (by simpa using hjk)]
      simp [hjk]
    have p2 := p.row (Qco (k + m) n)
    have b2 := Qcm b1 (Nat.le_refl _) (Qco (k + m) n)
    refine hK.out _ _ trivial (fun hH => ?_)
    clear hK K
    try simp only [zX,zY]
    refine ztk [8, 9] ?_; repeat (refine ztn (h := ?_); try simp only [zX,zY])
    refine zte ?_
    refine zdn ?_
    clear p b1 HP HB hH
    have HP := hidP p2
    have HB := hidP b2
    clear p2 b2 Hm
    go_wp2
    refine ⟨⟨k + m, by first | (rw [hw]; done) | (simp; done), by omega, by omega, HP, HB⟩, by simp [intOf]; omega⟩
  . obtain rfl : k = n := by omega
    go_wp2
    go_ret
    exact ⟨rfl, HB.out, HP.out⟩
end Go.Proofs.YtglegpkcikacoaaGreatDoor.Gen
