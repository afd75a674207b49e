/-
  The program's nodeOf and told. No condition.
-/
import Derived.Test.YtlcjaabnfdnfmaaGreatDoorKeepP
import Derived.Test.YtlcjaabnfdnfmaaGreatDoorPeS
import Derived.Test.YtlcjaabnfdnfmaaGreatDoorPeI4
import Derived.Test.YtlcjaabnfdnfmaaGreatDoorErrAs
import Derived.Test.YtlcjaabnfdnfmaaGreatDoorHNew
set_option linter.unusedVariables false
set_option linter.unusedSimpArgs false
set_option maxRecDepth 100000
set_option maxHeartbeats 8000000
namespace Go.Proofs.YtlcjaabnfdnfmaaGreatDoor.Gen
open ChangeShapes WideShapes ChangeAt RowKit Joins Deep Base
theorem told_node (ro wi le ke id te vo base bt role com su size : Int) (A vA nA pA dA hA0 : Option Addr) (cap vn vc nn nc pn pc dc hc : Nat) (l : List En) (db : List UInt8) (hs : List RpC) (x y : KC) (w : World) :
 Calls Tryz.prog 19 #[.agg #[.int .i64 te, .int .i64 vo, .int .i64 base, .int .i64 bt, .slice A l.length cap, .slice x.rA x.rs.length x.rc, .slice x.mA x.ms.length x.mc, .slice x.gA x.gs.length x.gc, .int .i64 x.time, .slice x.dA x.ds.length x.dc, .slice x.lA x.ls.length x.lc, .int .i64 ro, .int .i64 wi, .int .i64 le, .int .i64 ke, .int .i64 size, .int .i64 id, .int .i64 role, .slice vA vn vc, .slice nA nn nc, .slice pA pn pc, .int .i64 com, .slice y.rA y.rs.length y.rc, .slice y.mA y.ms.length y.mc, .slice y.gA y.gs.length y.gc, .int .i64 y.time, .slice y.dA y.ds.length y.dc, .slice y.lA y.ls.length y.lc, .slice dA db.length dc, .int .i64 su, .slice hA0 hs.length hc]] w fun e w' => e = .returned (.agg #[.int .i64 id, .int .i64 te, .int .i64 vo, .int .i64 base, .int .i64 bt, .slice A l.length cap, .slice x.rA x.rs.length x.rc, .slice x.mA x.ms.length x.mc, .slice x.gA x.gs.length x.gc, .int .i64 x.time, .slice x.dA x.ds.length x.dc, .slice x.lA x.ls.length x.lc, .int .i64 role, .slice vA vn vc, .slice nA nn nc, .slice pA pn pc, .int .i64 com, .slice y.rA y.rs.length y.rc, .slice y.mA y.ms.length y.mc, .slice y.gA y.gs.length y.gc, .int .i64 y.time, .slice y.dA y.ds.length y.dc, .slice y.lA y.ls.length y.lc, .slice dA db.length dc, .int .i64 su, .slice hA0 hs.length hc]) /\ Below w.heap.size w w' := by
 have P3 : Blk ((w.alloc (.cells #[.int .i64 te, .int .i64 vo, .int .i64 base, .int .i64 bt, .slice A l.length cap, .slice x.rA x.rs.length x.rc, .slice x.mA x.ms.length x.mc, .slice x.gA x.gs.length x.gc, .int .i64 x.time, .slice x.dA x.ds.length x.dc, .slice x.lA x.ls.length x.lc, .int .i64 ro, .int .i64 wi, .int .i64 le, .int .i64 ke, .int .i64 size, .int .i64 id, .int .i64 role, .slice vA vn vc, .slice nA nn nc, .slice pA pn pc, .int .i64 com, .slice y.rA y.rs.length y.rc, .slice y.mA y.ms.length y.mc, .slice y.gA y.gs.length y.gc, .int .i64 y.time, .slice y.dA y.ds.length y.dc, .slice y.lA y.ls.length y.lc, .slice dA db.length dc, .int .i64 su, .slice hA0 hs.length hc] 58)).alloc (.cells #[.int .i64 0, .int .i64 0, .int .i64 0, .int .i64 0, .int .i64 0, .slice none 0 0, .slice none 0 0, .slice none 0 0, .slice none 0 0, .int .i64 0, .slice none 0 0, .slice none 0 0, .int .i64 0, .slice none 0 0, .slice none 0 0, .slice none 0 0, .int .i64 0, .slice none 0 0, .slice none 0 0, .slice none 0 0, .int .i64 0, .slice none 0 0, .slice none 0 0, .slice none 0 0, .int .i64 0, .slice none 0 0] 42)) (w.heap.size + 1) 42 #[.int .i64 0, .int .i64 0, .int .i64 0, .int .i64 0, .int .i64 0, .slice none 0 0, .slice none 0 0, .slice none 0 0, .slice none 0 0, .int .i64 0, .slice none 0 0, .slice none 0 0, .int .i64 0, .slice none 0 0, .slice none 0 0, .slice none 0 0, .int .i64 0, .slice none 0 0, .slice none 0 0, .slice none 0 0, .int .i64 0, .slice none 0 0, .slice none 0 0, .slice none 0 0, .int .i64 0, .slice none 0 0] := by have := Blk.new (w.alloc (.cells #[.int .i64 te, .int .i64 vo, .int .i64 base, .int .i64 bt, .slice A l.length cap, .slice x.rA x.rs.length x.rc, .slice x.mA x.ms.length x.mc, .slice x.gA x.gs.length x.gc, .int .i64 x.time, .slice x.dA x.ds.length x.dc, .slice x.lA x.ls.length x.lc, .int .i64 ro, .int .i64 wi, .int .i64 le, .int .i64 ke, .int .i64 size, .int .i64 id, .int .i64 role, .slice vA vn vc, .slice nA nn nc, .slice pA pn pc, .int .i64 com, .slice y.rA y.rs.length y.rc, .slice y.mA y.ms.length y.mc, .slice y.gA y.gs.length y.gc, .int .i64 y.time, .slice y.dA y.ds.length y.dc, .slice y.lA y.ls.length y.lc, .slice dA db.length dc, .int .i64 su, .slice hA0 hs.length hc] 58)) 42 #[.int .i64 0, .int .i64 0, .int .i64 0, .int .i64 0, .int .i64 0, .slice none 0 0, .slice none 0 0, .slice none 0 0, .slice none 0 0, .int .i64 0, .slice none 0 0, .slice none 0 0, .int .i64 0, .slice none 0 0, .slice none 0 0, .slice none 0 0, .int .i64 0, .slice none 0 0, .slice none 0 0, .slice none 0 0, .int .i64 0, .slice none 0 0, .slice none 0 0, .slice none 0 0, .int .i64 0, .slice none 0 0]; rwa [World.size_alloc] at this
 go_enter Tryz.func19, Tryz.ntmps19
 go_upto_region 1 with fail
 refine wp_region_lit ?_
 iterate 63 go_step
 refine Qag rfl 42 _ _ rfl (g := w.heap.size + 1) (cells := #[.int .i64 id, .int .i64 te, .int .i64 vo, .int .i64 base, .int .i64 bt, .slice A l.length cap, .slice x.rA x.rs.length x.rc, .slice x.mA x.ms.length x.mc, .slice x.gA x.gs.length x.gc, .int .i64 x.time, .slice x.dA x.ds.length x.dc, .slice x.lA x.ls.length x.lc, .int .i64 role, .slice vA vn vc, .slice nA nn nc, .slice pA pn pc, .int .i64 com, .slice y.rA y.rs.length y.rc, .slice y.mA y.ms.length y.mc, .slice y.gA y.gs.length y.gc, .int .i64 y.time, .slice y.dA y.ds.length y.dc, .slice y.lA y.ls.length y.lc, .slice dA db.length dc, .int .i64 su, .slice hA0 hs.length hc]) rfl rfl P3 (by kernel_rfl) rfl (by simp [Value.oneCell']) ?_
 refine wpList_nil ?_
 have HB := hidP (P3.row #[.int .i64 id, .int .i64 te, .int .i64 vo, .int .i64 base, .int .i64 bt, .slice A l.length cap, .slice x.rA x.rs.length x.rc, .slice x.mA x.ms.length x.mc, .slice x.gA x.gs.length x.gc, .int .i64 x.time, .slice x.dA x.ds.length x.dc, .slice x.lA x.ls.length x.lc, .int .i64 role, .slice vA vn vc, .slice nA nn nc, .slice pA pn pc, .int .i64 com, .slice y.rA y.rs.length y.rc, .slice y.mA y.ms.length y.mc, .slice y.gA y.gs.length y.gc, .int .i64 y.time, .slice y.dA y.ds.length y.dc, .slice y.lA y.ls.length y.lc, .slice dA db.length dc, .int .i64 su, .slice hA0 hs.length hc])
 have B0 := hidP (show Below w.heap.size w ((w.alloc (.cells #[.int .i64 te, .int .i64 vo, .int .i64 base, .int .i64 bt, .slice A l.length cap, .slice x.rA x.rs.length x.rc, .slice x.mA x.ms.length x.mc, .slice x.gA x.gs.length x.gc, .int .i64 x.time, .slice x.dA x.ds.length x.dc, .slice x.lA x.ls.length x.lc, .int .i64 ro, .int .i64 wi, .int .i64 le, .int .i64 ke, .int .i64 size, .int .i64 id, .int .i64 role, .slice vA vn vc, .slice nA nn nc, .slice pA pn pc, .int .i64 com, .slice y.rA y.rs.length y.rc, .slice y.mA y.ms.length y.mc, .slice y.gA y.gs.length y.gc, .int .i64 y.time, .slice y.dA y.ds.length y.dc, .slice y.lA y.ls.length y.lc, .slice dA db.length dc, .int .i64 su, .slice hA0 hs.length hc] 58)).alloc (.cells #[.int .i64 0, .int .i64 0, .int .i64 0, .int .i64 0, .int .i64 0, .slice none 0 0, .slice none 0 0, .slice none 0 0, .slice none 0 0, .int .i64 0, .slice none 0 0, .slice none 0 0, .int .i64 0, .slice none 0 0, .slice none 0 0, .slice none 0 0, .int .i64 0, .slice none 0 0, .slice none 0 0, .slice none 0 0, .int .i64 0, .slice none 0 0, .slice none 0 0, .slice none 0 0, .int .i64 0, .slice none 0 0] 42)) from Qaa (Qaa (Below.refl _ _) _) _)
 clear P3
 go_wp2
 exact bodyPost_ret (v := .agg #[.int .i64 id, .int .i64 te, .int .i64 vo, .int .i64 base, .int .i64 bt, .slice A l.length cap, .slice x.rA x.rs.length x.rc, .slice x.mA x.ms.length x.mc, .slice x.gA x.gs.length x.gc, .int .i64 x.time, .slice x.dA x.ds.length x.dc, .slice x.lA x.ls.length x.lc, .int .i64 role, .slice vA vn vc, .slice nA nn nc, .slice pA pn pc, .int .i64 com, .slice y.rA y.rs.length y.rc, .slice y.mA y.ms.length y.mc, .slice y.gA y.gs.length y.gc, .int .i64 y.time, .slice y.dA y.ds.length y.dc, .slice y.lA y.ls.length y.lc, .slice dA db.length dc, .int .i64 su, .slice hA0 hs.length hc]) (Qe4 (by rfl) rfl HB.out Tryz.underlying42 (by kernel_rfl)) rfl ⟨rfl, Qcm B0.out (by omega) _⟩
end Go.Proofs.YtlcjaabnfdnfmaaGreatDoor.Gen
namespace Go.Proofs.YtlcjaabnfdnfmaaGreatDoor.Gen
open ChangeShapes WideShapes ChangeAt RowKit Joins Deep Base
def okQ (ro wi le ke size : Int) (p : PC) : Bool := peerB (fun z => rpcB size z.kind z.frm z.too z.term z.index z.iterm z.commit z.l z.snap) ro wi le ke p.id p.te p.vo p.base p.bt p.l p.x p.role p.vs.length p.ns.length p.ps.length p.ns p.ps p.com p.y p.su p.db.length p.hs size
end Go.Proofs.YtlcjaabnfdnfmaaGreatDoor.Gen
namespace Go.Proofs.YtlcjaabnfdnfmaaGreatDoor.Gen
open ChangeShapes WideShapes ChangeAt RowKit Joins Deep Base
theorem mul64_any (n : Nat) (hn : 1 <= n /\ n <= 5) (w : World) :
 Calls Tryz.prog 135 #[.int .u64 1, .int .u64 (n : Int)] w fun e w' => e = .returned (.tuple #[.int .u64 0, .int .u64 (n : Int)]) /\ w' = w := by
 obtain rfl | rfl | rfl | rfl | rfl : n = 1 ∨ n = 2 ∨ n = 3 ∨ n = 4 ∨ n = 5 := by omega
 all_goals
  go_enter Tryz.func135, Tryz.ntmps135
  go_wp2
  exact bodyPost_ret (by simp [results, Tryz.results135, go_sem]; rfl) rfl ⟨rfl, rfl⟩
theorem mul_any (n : Nat) (hn : 1 <= n /\ n <= 5) (w : World) :
 Calls Tryz.prog 87 #[.int .u64 1, .int .u64 (n : Int)] w fun e w' => e = .returned (.tuple #[.int .u64 0, .int .u64 (n : Int)]) /\ w' = w := by
 have H := hidP (mul64_any n hn w)
 clear hn
 go_enter Tryz.func87, Tryz.ntmps87
 go_wp2_with fail
 refine H.out.mono ?_
 rintro e w1 ⟨rfl, rfl⟩
 go_wp2
 exact bodyPost_ret (v := .tuple #[.int .u64 0, .int .u64 (n : Int)]) (by simp [results, Tryz.results87, go_sem]) rfl ⟨rfl, rfl⟩
theorem wp_copy_is {P : Program} {w w' : World} {o : Oper} {a : Act} {K : Act -> World -> Prop} {Q : Go.Exit -> Act -> World -> Prop} (s x : Operand) (t : TypeId)
 (ho : o.op = .call { callee := .builtin .copy, args := #[s, x], argTypes := #[t, t] }) (v xv r : Value) (hs : a.eval s = v) (hx : a.eval x = xv)
 (hr : (Builtin.copy_ #[t, t] o.type #[v, xv]).run P w = .ok r w') (h : K (a.put o.dst r) w') : Oper.wp P o a w K Q := by
 unfold Oper.wp execOp
 simp only [ho, resolve, invoke, builtin, Sem.run_bind, Sem.run_pure, Result.andThen_ok, List.map_toArray, List.map_cons, List.map_nil, hs, hx, hr]
 exact h
def Qco (k n : Nat) : Array Value := (List.replicate k (Value.int .i64 1) ++ List.replicate (n - k) (Value.int .i64 0)).toArray
theorem Qif {W : World} {g n k m o : Nat} {a : Addr} {sc : Nat} {sl dl dc : Nat} (p : Blk W g 3 (Qco k n)) (hk : k <= n) (ho : o <= n) (hm : m = Nat.min sl dl) (hok : o <= k /\ k <= o + m) (hf : o + m <= n) (hs : ∀ j, j < m -> W.cell? (a.add j) = some (.int .i64 1)) :
 (Builtin.copy_ #[30, 30] 3 #[.slice (some ⟨g, o, none⟩) dl dc, .slice (some a) sl sc]).run Tryz.prog W = .ok (.int .i64 (m : Int)) (W.setRow g (Qco (o + m) n)) := by
 have h := run_copy_row (P := Tryz.prog) W 30 30 3 3 g o dl dc a sl sc (Qco k n) 3 (List.replicate m (.int .i64 1)) Tryz.underlying30 (by kernel_rfl) p (by simp [hm]) (fun j v hv => by
  rw [List.getElem?_replicate] at hv
  by_cases hj : j < m
  . rw [if_pos hj] at hv; rw [hs j hj, hv]
  . rw [if_neg hj] at hv; cases hv) (by simp [Qco]; omega) (fun v hv => by rw [(List.mem_replicate.1 hv).2]; rfl)
 rw [h]
 have e : (Qco k n).toList.take o ++ List.replicate m (Value.int .i64 1) ++ (Qco k n).toList.drop (o + (List.replicate m (Value.int .i64 1)).length) = (Qco (o + m) n).toList := by
  have e1 : (List.replicate m (Value.int .i64 1)).length = m := by simp
  rw [e1]
  unfold Qco
  simp only [List.toList_toArray]
  rw [List.take_append_of_le_length (by simp; omega), List.take_replicate, Nat.min_eq_left hok.1, List.drop_append, List.drop_eq_nil_of_le (by simp; omega), List.length_replicate, List.drop_replicate, List.nil_append, List.replicate_append_replicate]
  rw [show n - k - (o + m - k) = n - (o + m) by omega]
 rw [e]
 simp [goInt]
theorem repeat_any (n : Nat) (hn : 1 <= n /\ n <= 5) (A : Option Addr) (w : World) (hA : At w A [(1 : Int)]) :
 Calls Tryz.prog 46 #[.slice A 1 1, .int .i64 (n : Int)] w fun e w' => e = .returned (.slice (some ⟨w.heap.size, 0, none⟩) n n) /\ Below w.heap.size w w' /\ Blk w' w.heap.size 3 (Qco n n) := by
 have HM := hidP (mul_any n hn)
 obtain ⟨b, o, rfl, hb, hi⟩ : ∃ b o, A = some ⟨b, o, none⟩ /\ b < w.heap.size /\ In w b o [(1 : Int)] := by
  rcases hA with h | h
  . simp at h
  . exact h
 have hc : w.cell? ⟨b, o, none⟩ = some (.int .i64 1) := by simpa using hi.cell (f := 0) 0 (by simp) rfl
 have hmk := Qbk (P := Tryz.prog) Tryz.underlying30 Qcp (by decide) n (by omega) w
 have HB := hidP (Qaa (Below.refl w.heap.size w) (.cells (madeCells #[Value.int .i64 0] n) 3))
 have e0 : madeCells #[Value.int .i64 0] n = Qco 0 n := by
  apply Array.ext
  . simp [madeCells, Qco]
  . intro i h1 h2
    simp [madeCells, Qco, Nat.mod_one]
 have hP0 := Blk.new w 3 (Qco 0 n)
 have hC := Qif (g := w.heap.size) (n := n) (k := 0) (m := 1) (o := 0) (a := ⟨b, o, none⟩) (sc := 1) (sl := 1) (dl := n) (dc := n) hP0 (by omega) (by omega) (Nat.min_eq_left hn.1).symm (by omega) (by omega) (fun j hj => by
  obtain rfl : j = 0 := by omega
  show World.cell? _ ⟨b, o + 0, none⟩ = _
  rw [Nat.add_zero, World.cell?_alloc_lt _ _ ⟨b, o, none⟩ hb]
  exact hc)
 rw [← e0] at hC hP0
 have HP1 := hidP (hP0.row (Qco 1 n))
 have HB1 := hidP (Qcm HB.out (Nat.le_refl _) (Qco 1 n))
 clear hi hc hA HB hP0 e0
 go_enter Tryz.func46, Tryz.ntmps46
 have hn1 : (1 : Int) <= (n : Int) := by omega
 have hn5 : (n : Int) <= 5 := by omega
 have hu : IntKind.u64.wrap (n : Int) = (n : Int) := by simp [IntKind.wrap, IntKind.bits, IntKind.signed]; omega
 go_wp2_with fail
 refine (HM.out _).mono ?_
 rintro e w1 ⟨rfl, rfl⟩
 go_wp2_with (at_builtin; refine Qfn rfl _ _ _ rfl _ _ _ rfl rfl hC ?_)
 clear hC hmk hu hb
 go_loopw [8] (fun v8 W => ∃ k : Nat, v8 = .int .i64 (k : Int) /\ 1 <= k /\ k <= n /\ Hid (Blk W w1.heap.size 3 (Qco k n)) /\ Hid (Below w1.heap.size w1 W)) (fun v8 _ => 5 - (intOf v8).toNat)
 case atStart => exact ⟨1, rfl, by decide, hn.1, HP1, HB1⟩
 case round =>
  obtain ⟨k, rfl, hk1, hk2, HP, HB⟩ := hrel
  by_cases hkn : k < n
  . have hkn' : (k : Int) < (n : Int) := by omega
    obtain ⟨m, hm⟩ : ∃ m : Nat, m = Nat.min k (n - k) := ⟨_, rfl⟩
    have hm1 : 1 <= m /\ m <= 5 /\ k + m <= n := by have := Nat.min_le_left k (n - k); have := Nat.min_le_right k (n - k); rcases Nat.le_total k (n - k) with h | h<;>simp [Nat.min_eq_left, Nat.min_eq_right, h] at hm<;>omega
    have hw : IntKind.i64.wrap ((k : Int) + (m : Int)) = ((k + m : Nat) : Int) := by simp [IntKind.wrap, IntKind.bits, IntKind.signed]; omega
    have Hm := hidP hm
    clear hm
    go_upto_region 9 with fail
    refine wp_region_noPanic ?_
    refine wp_region_held_drew (S := fun _ => True) (by kernel_rfl) trivial (fun hH => ?_)
    have p : Blk wr.drew w1.heap.size 3 (Qco k n) := HP.out.below ((Below.refl _ _).drew) (HP.out.lt)
    have b1 : Below w1.heap.size w1 wr.drew := HB.out.drew
    generalize wr.drew = u0 at *
    refine ztk [0, 1, 2, 3, 4, 5, 6] ?_; repeat (refine ztn (h := ?_); try simp only [zX,zY])
    refine zte ?_
    refine zR1 7 (fun K hK => ?_)
    simp only [zG]
    simp only [if_neg (show ¬ n = k by omega)]
    rw [if_pos (by rfl)]
    refine wp_copy_is _ _ _ (by rfl) _ _ _ (by rfl) (by rfl) (Qif (n := n) (k := k) (o := k) (m := m) p hk2 hk2 Hm.out (by omega) (by omega) (fun j hj => ?_)) ?_
    . rw [show (⟨w1.heap.size, 0, none⟩ : Addr).add j = ⟨w1.heap.size, j, none⟩ by unfold Addr.add; split<;>simp_all]
      refine p.cell ?_
      have hm := Hm.out
      have hjk : j < k := Nat.lt_of_lt_of_le hj (by rw [hm]; exact Nat.min_le_left _ _)
      simp only [Qco, List.getElem?_toArray]
      rw [List.getElem?_append_left (by simpa using hjk)]
      simp [hjk]
    have p2 := p.row (Qco (k + m) n)
    have b2 := Qcm b1 (Nat.le_refl _) (Qco (k + m) n)
    refine hK.out _ _ trivial (fun hH => ?_)
    clear hK K
    try simp only [zX,zY]
    refine ztk [8, 9] ?_; repeat (refine ztn (h := ?_); try simp only [zX,zY])
    refine zte ?_
    refine zdn ?_
    clear p b1 HP HB hH
    have HP := hidP p2
    have HB := hidP b2
    clear p2 b2 Hm
    go_wp2
    refine ⟨⟨k + m, by first | (rw [hw]; done) | (simp; done), by omega, by omega, HP, HB⟩, by simp [intOf]; omega⟩
  . obtain rfl : k = n := by omega
    go_wp2
    go_ret
    exact ⟨rfl, HB.out, HP.out⟩
end Go.Proofs.YtlcjaabnfdnfmaaGreatDoor.Gen
namespace Go.Proofs.YtlcjaabnfdnfmaaGreatDoor.Gen
open ChangeShapes WideShapes ChangeAt RowKit Joins Deep Base
theorem ofN_nil : ofN [] 0 = none := by
 have h : Qeb [] 0 = none := by
  unfold Qeb getT
  rw [Qja (by simp)]
 simp [ofN, h]
def Glo (w : World) : Prop := w.cell? ⟨0, 0, none⟩ = some (.iface 254 (.agg #[.pointer (some ⟨1, 168, none⟩)]))
theorem Glo.lt {w : World} (h : Glo w) : 0 < w.heap.size := by
 rcases Nat.eq_zero_or_pos w.heap.size with h0 | h1
 . unfold Glo at h; simp [World.cell?, h0] at h
 . exact h1
theorem Glo.below {w W : World} (h : Glo w) (g : Below w.heap.size w W) : Glo W := (World.cell?_of_block (a := ⟨0, 0, none⟩) (g.block 0 h.lt)).trans h
theorem Qef (w : World) (hgl : Glo w) :
 Calls Tryz.prog 85 #[.slice none 0 0] w fun e w' => e = .returned (.tuple #[.slice none 0 0, .int .i64 0]) /\ Below w.heap.size w w' := by
 have h0 := hgl.lt
 have HB0 : Hid (Below w.heap.size w (w.alloc (.cells #[.int .i64 0] 166))) := hidP (Qaa (Below.refl _ w) _)
 have HP0 := hidP (Blk.new w 166 #[.int .i64 0])
 have HG := hidP hgl
 clear hgl h0
 go_enter Tryz.func85, Tryz.ntmps85
 go_wp2
 generalize w.alloc (.cells #[.int .i64 0] 166) = W0 at *
 go_loopw [4, 6] (fun v i W => i = .int .i64 0 /\ v = .slice none 0 0 /\ W = W0) (fun _ _ _ => 0)
 case atStart => exact ⟨rfl, rfl, rfl⟩
 case round =>
  obtain ⟨rfl, rfl, rfl⟩ := hrel
  go_wp2_with fail
  refine (noteAt_any none 0 [] (by simp) (by simp) (by omega) 0 ⟨by omega, by omega⟩ _ (.inl rfl)).mono ?_
  rintro e w1 ⟨g1, h1⟩
  rcases h1 with ⟨x, d, aa, cc, hg, hown, rfl⟩ | ⟨hg, rfl⟩
  . rw [ofN_nil] at hg; cases hg
  . have K1 := Qaa g1 (.cells #[.int .i64 0, .int .i64 0, .int .i64 0, .int .i64 0, .slice none 0 0, .string ⟨#[]⟩] 127)
    have pb := HP0.out.below K1 HP0.out.lt
    have hc0 := pb.row1
    have hf0 := pb.thaw 0
    have KW := via0 K1 HB0.out
    have hgc : Glo _ := HG.out.below KW
    have HK1 := hidP KW
    have Hpb := hidP pb
    clear g1 K1 pb hg KW
    have HAs := hidP (as_hit 0 w.heap.size (.int .i64 0) _ hgc hc0 hf0)
    clear hc0 hf0 hgc
    go_wp2_with fail
    refine HAs.out.mono ?_
    rintro e w3 ⟨rfl, rfl⟩
    clear HAs
    generalize w1.alloc (.cells #[.int .i64 0, .int .i64 0, .int .i64 0, .int .i64 0, .slice none 0 0, .string ⟨#[]⟩] 127) = V at *
    have gs := Qaa (Qaa (Qaa (Qaa (Below.refl _ V) (.cells #[.pointer (some ⟨w.heap.size, 0, none⟩)] 172)) (.cells #[.pointer (some ⟨1, 172, none⟩), .pointer (some ⟨V.heap.size, 0, none⟩), .int .u64 150] 212)) (.cells #[.pointer (some ⟨1, 172, none⟩), .pointer (some ⟨V.heap.size, 0, none⟩), .int .u64 150] 212)) (.cells #[.int .i64 0] 166)
    have p4 := (Hpb.out.below gs Hpb.out.lt)
    have k4 := via0 gs HK1.out
    clear HK1 Hpb gs
    generalize (((V.alloc (.cells #[.pointer (some ⟨w.heap.size, 0, none⟩)] 172)).alloc (.cells #[.pointer (some ⟨1, 172, none⟩), .pointer (some ⟨V.heap.size, 0, none⟩), .int .u64 150] 212)).alloc (.cells #[.pointer (some ⟨1, 172, none⟩), .pointer (some ⟨V.heap.size, 0, none⟩), .int .u64 150] 212)).alloc (.cells #[.int .i64 0] 166) = W4 at *
    have d0 : (W4.setCell ⟨w.heap.size, 0, none⟩ (.int .i64 0)).cell? ⟨w.heap.size, 0, none⟩ = some (.int .i64 0) := (p4.setAt 0 (.int .i64 0)).cell (i := 0) rfl
    have q0 := (p4.setAt 0 (.int .i64 0)).lt
    have HBz := hidP (Qam k4 (Nat.le_refl _) (i := 0) (.int .i64 0))
    clear p4 k4
    generalize W4.setCell ⟨w.heap.size, 0, none⟩ (.int .i64 0) = W5 at *
    go_wp2_with fail
    go_quiet (fail)
    go_wp2
    refine bodyPost_ret (v := .tuple #[.slice none 0 0, .int .i64 0]) (by simp [results, Tryz.results85, go_sem]) rfl ?_
    exact ⟨rfl, below_drewN HBz.out _⟩
theorem Qhb (ro wi le ke : Int) (w : World) (hgl : Glo w) :
 Calls Tryz.prog 45 #[.agg #[.int .i64 ro, .int .i64 wi, .int .i64 le, .int .i64 ke], .slice none 0 0] w fun e w' => Qk2 w w' e (setB ro wi le ke) ro := by
 obtain ⟨B, hB⟩ : ∃ B, setB ro wi le ke = B := ⟨_, rfl⟩
 obtain ⟨vo, hvo⟩ : ∃ vo, Qc1 B = vo := ⟨_, rfl⟩
 have HN : Hid (∀ W : World, Calls Tryz.prog 84 #[.agg #[.int .i64 ro, .int .i64 wi, .int .i64 le, .int .i64 ke]] W fun e w' => ∃ y : KC, e = .returned (.agg #[.int .i64 0, .int .i64 vo, .int .i64 0, .int .i64 0, .slice none 0 0, .slice y.rA y.rs.length y.rc, .slice y.mA y.ms.length y.mc, .slice y.gA y.gs.length y.gc, .int .i64 y.time, .slice y.dA y.ds.length y.dc, .slice y.lA y.ls.length y.lc]) /\ y.p = newK B ro /\ KOwn w' y (fun b => W.heap.size <= b /\ b < w'.heap.size) /\ Below W.heap.size W w') := fun W => by have h := Qfg ro wi le ke W; rw [hB] at h; simp only [Qk2, hvo] at h; exact h
 have HNO : Hid (∀ W : World, Glo W -> Calls Tryz.prog 85 #[.slice none 0 0] W fun e w' => e = .returned (.tuple #[.slice none 0 0, .int .i64 0]) /\ Below W.heap.size W w') := fun W h => Qef W h
 rw [hB]
 simp only [Qk2, hvo]
 have HG := hidP hgl
 clear hB hvo hgl
 have pr := Blk.new (w.alloc (.cells #[.int .i64 ro, .int .i64 wi, .int .i64 le, .int .i64 ke] 45)) 35 #[.int .i64 0, .int .i64 0, .int .i64 0, .int .i64 0, .slice none 0 0, .slice none 0 0, .slice none 0 0, .slice none 0 0, .int .i64 0, .slice none 0 0, .slice none 0 0]
 rw [World.size_alloc] at pr
 have b0 := Qaa (Qaa (Below.refl _ w) (.cells #[.int .i64 ro, .int .i64 wi, .int .i64 le, .int .i64 ke] 45)) (.cells #[.int .i64 0, .int .i64 0, .int .i64 0, .int .i64 0, .slice none 0 0, .slice none 0 0, .slice none 0 0, .slice none 0 0, .int .i64 0, .slice none 0 0, .slice none 0 0] 35)
 go_enter Tryz.func45, Tryz.ntmps45
 go_wp2_with fail
 refine (HN.out _).mono ?_
 rintro e w1 ⟨y, rfl, hpy, hoy, g1⟩
 replace hoy := hoy.mono (T := fun b => w.heap.size + 2 <= b /\ b < w1.heap.size) (fun b hb => ⟨by have := hb.1; simp at this; omega, hb.2⟩)
 have n1 := Qaa (Below.refl w1.heap.size w1) (.cells #[.int .i64 0, .int .i64 vo, .int .i64 0, .int .i64 0, .slice none 0 0, .slice y.rA y.rs.length y.rc, .slice y.mA y.ms.length y.mc, .slice y.gA y.gs.length y.gc, .int .i64 y.time, .slice y.dA y.ds.length y.dc, .slice y.lA y.ls.length y.lc] 35)
 have pr1 := (pr.below g1 pr.lt).below n1 (pr.below g1 pr.lt).lt
 have b1 := via0 n1 (via0 g1 b0)
 have ho := hoy.below n1
 have p5 := Blk.new w1 35 #[.int .i64 0, .int .i64 vo, .int .i64 0, .int .i64 0, .slice none 0 0, .slice y.rA y.rs.length y.rc, .slice y.mA y.ms.length y.mc, .slice y.gA y.gs.length y.gc, .int .i64 y.time, .slice y.dA y.ds.length y.dc, .slice y.lA y.ls.length y.lc]
 have HGw := hidP (HG.out.below b1)
 have Ho := hidP ho
 have Hpr := hidP pr1
 have Hb1 := hidP b1
 have Hp5 := hidP p5
 have Hs := hidP g1.size
 clear pr b0 g1 n1 pr1 b1 ho hoy p5
 go_wp2_with fail
 generalize w1.alloc (.cells #[.int .i64 0, .int .i64 vo, .int .i64 0, .int .i64 0, .slice none 0 0, .slice y.rA y.rs.length y.rc, .slice y.mA y.ms.length y.mc, .slice y.gA y.gs.length y.gc, .int .i64 y.time, .slice y.dA y.ds.length y.dc, .slice y.lA y.ls.length y.lc] 35) = W2 at *
 refine (HNO.out _ HGw.out).mono ?_
 rintro e w2 ⟨rfl, g2⟩
 have Hpr := hidP (Hpr.out.below g2 Hpr.out.lt)
 have Hb1 := hidP (via0 g2 Hb1.out)
 have Ho := hidP (Ho.out.below g2)
 have p5 := Hp5.out.below g2 Hp5.out.lt
 have Hne := hidP (show w.heap.size + 1 + 1 <= w1.heap.size by have := Hs.out; simp at this; omega)
 clear Hs HGw HG HN HNO
 have Hp5 := hidP p5
 have Hg2 := hidP g2.size
 clear g2 p5
 go_wp2_with fail
 go_loopw [19] (fun v W => v = .int .i64 0 /\ W = w2) (fun _ _ => 0)
 case atStart => exact ⟨rfl, rfl⟩
 case round =>
  obtain ⟨rfl, rfl⟩ := hrel
  obtain ⟨r0, r1, r2, r3, r4, r5, r6, r7, r8, r9, r10⟩ := Hp5.out.row11
  have l5 := Hp5.out.lt
  have f0 := Hpr.out.thaw 0; have f1 := Hpr.out.thaw 1; have f2 := Hpr.out.thaw 2; have f3 := Hpr.out.thaw 3; have f4 := Hpr.out.thaw 4; have f5 := Hpr.out.thaw 5
  have f6 := Hpr.out.thaw 6; have f7 := Hpr.out.thaw 7; have f8 := Hpr.out.thaw 8; have f9 := Hpr.out.thaw 9; have f10 := Hpr.out.thaw 10
  obtain ⟨s0, s1, s2, s3, s4, s5, s6, s7, s8, s9, s10⟩ := Hpr.out.row11
  have lr := Hpr.out.lt
  go_wp2
  refine bodyPost_ret (v := .agg #[.int .i64 0, .int .i64 vo, .int .i64 0, .int .i64 0, .slice none 0 0, .slice y.rA y.rs.length y.rc, .slice y.mA y.ms.length y.mc, .slice y.gA y.gs.length y.gc, .int .i64 y.time, .slice y.dA y.ds.length y.dc, .slice y.lA y.ls.length y.lc]) (by simp [results, Tryz.results45, go_sem, s0, s1, s2, s3, s4, s5, s6, s7, s8, s9, s10]) rfl ?_
  have OO : ∀ W, Offp (fun b => b = w.heap.size + 1) wr W -> W.heap.size = wr.heap.size -> KOwn W y (fun b => w.heap.size <= b /\ b < W.heap.size) := fun W o hW => (KOwn.offp Ho.out o (fun b hb e => by have := hb.1; omega)).mono (fun b hb => ⟨by have := hb.1; omega, by rw [hW]; have := hb.2; omega⟩)
  refine ⟨y, rfl, hpy, OO _ ?_ (by simp), ?_⟩
  . exact Offp.put (Offp.put (Offp.put (Offp.put (Offp.put (Offp.put (Offp.put (Offp.put (Offp.put (Offp.put (Offp.put (Offp.refl _ wr) 0 _) 1 _) 2 _) 3 _) 4 _) 5 _) 6 _) 7 _) 8 _) 9 _) 10 _
  have hb2 := Hb1.out
  repeat (first | with_reducible exact hb2 | refine Qam ?_ (Nat.le_succ _) _)
theorem Qhs (w : World) (hgl : Glo w) :
 Calls Tryz.prog 48 #[.slice none 0 0] w fun e w' => ∃ (a : Option Addr) (c : Nat), e = .returned (.agg #[.slice a 0 c, .int .i64 0]) /\ Below w.heap.size w w' := by
 have HNO : Hid (∀ W : World, Glo W -> Calls Tryz.prog 85 #[.slice none 0 0] W fun e w' => e = .returned (.tuple #[.slice none 0 0, .int .i64 0]) /\ Below W.heap.size W w') := fun W h => Qef W h
 have HSY : Hid (∀ W : World, Calls Tryz.prog 92 #[.agg #[.slice none 0 0, .int .i64 0]] W fun e w' => ∃ (a : Option Addr) (c : Nat), e = .returned (.agg #[.slice a 0 c, .int .i64 0]) /\ Below W.heap.size W w') := fun W => (Qi3 0 none 0 [] (by simp) W (.inl rfl)).mono fun e w' ⟨v, he, hn, g⟩ => by
  obtain ⟨a, c, F, rfl, _⟩ := hn
  exact ⟨a, c, by simpa [syncS, Qd5] using he, g⟩
 have HG := hidP (hgl.below (Qaa (Below.refl _ w) (.cells #[.slice none 0 0, .int .i64 0] 39)))
 have pr := Blk.new w 39 #[.slice none 0 0, .int .i64 0]
 have b0 := Qaa (Below.refl _ w) (.cells #[.slice none 0 0, .int .i64 0] 39)
 clear hgl
 go_enter Tryz.func48, Tryz.ntmps48
 go_wp2_with fail
 refine (HNO.out _ HG.out).mono ?_
 rintro e w1 ⟨rfl, g1⟩
 have pr1 := hidP (pr.below g1 pr.lt)
 have b1 := hidP (via0 g1 b0)
 clear pr b0 g1 HG
 go_wp2_with fail
 refine (HSY.out _).mono ?_
 rintro e w2 ⟨a, c, rfl, g2⟩
 have p2 := pr1.out.below g2 pr1.out.lt
 have b2 := hidP (via0 g2 b1.out)
 have s0 := p2.cell (i := 0) rfl
 have s1 := p2.cell (i := 1) rfl
 have f0 := p2.thaw 0
 have f1 := p2.thaw 1
 have lt := p2.lt
 clear g2 pr1 b1 p2
 go_wp2
 refine bodyPost_ret (v := .agg #[.slice a 0 c, .int .i64 0]) (by simp [results, Tryz.results48, go_sem, s0, s1]) rfl ?_
 refine ⟨a, c, rfl, ?_⟩
 have hb2 := b2.out
 repeat (first | with_reducible exact hb2 | refine Qam ?_ (Nat.le_refl _) _)
end Go.Proofs.YtlcjaabnfdnfmaaGreatDoor.Gen
namespace Go.Proofs.YtlcjaabnfdnfmaaGreatDoor.Gen
open ChangeShapes WideShapes ChangeAt RowKit Joins Deep Base
theorem fmSub {α : Type} [Cel α] (a : Option Addr) (l : List α) : Fm (fun W S => Sub W a l S) := ⟨fun _ _ _ _ h k d => h.offp k d, fun _ _ _ h s => h.mono s⟩
theorem fmK (x : KC) : Fm (fun W S => KOwn W x S) := ⟨fun _ _ _ _ h k d => h.offp k d, fun _ _ _ h s => h.mono s⟩
def Tg (w W : World) (col : Nat -> Nat) (k z : Nat) : Prop := (w.heap.size + 2 <= z /\ z < W.heap.size) /\ col z = k
def updP (P : Nat -> World -> (Nat -> Prop) -> Prop) (k : Nat) (Q : World -> (Nat -> Prop) -> Prop) : Nat -> World -> (Nat -> Prop) -> Prop := fun j => if j = k then Q else P j
structure Cx (w W : World) (P : Nat -> World -> (Nat -> Prop) -> Prop) : Prop where
  fm : ∀ j, Fm (P j)
  hw : w.heap.size + 2 <= W.heap.size
  co : ∃ col, ∀ j, P j W (Tg w W col j)
section
variable {w W W' : World} {P : Nat -> World -> (Nat -> Prop) -> Prop}
theorem Cx.start (hw : w.heap.size + 2 <= W.heap.size) : Cx w W (fun _ _ _ => True) := ⟨fun _ => ⟨fun _ _ _ _ _ _ _ => trivial, fun _ _ _ _ _ => trivial⟩, hw, fun _ => 0, fun _ => trivial⟩
theorem Cx.fresh2 (C : Cx w W P) (g : Below W.heap.size W W') (cc : Nat -> Bool) (k k' : Nat) (hkk : k ≠ k') {Q Q' : World -> (Nat -> Prop) -> Prop} (hQ : Fm Q) (hQ' : Fm Q') (q : Q W' (fun z => (W.heap.size <= z /\ z < W'.heap.size) /\ cc z = true)) (q' : Q' W' (fun z => (W.heap.size <= z /\ z < W'.heap.size) /\ cc z = false)) : Cx w W' (updP (updP P k Q) k' Q') := by
 obtain ⟨fm, hw, col, co⟩ := C
 have hs := g.size
 refine ⟨fun j => ?_, by omega, fun z => if z < W.heap.size then col z else if cc z then k else k', fun j => ?_⟩
 . unfold updP; (repeat' split)<;>first | assumption | exact fm _
 . unfold updP
   split
   . rename_i e; subst e
     exact hQ'.mono _ _ _ q' (fun z hz => ⟨⟨by omega, hz.1.2⟩, by dsimp only; rw [if_neg (by omega), hz.2]; rfl⟩)
   . split
     . rename_i e; subst e
       exact hQ.mono _ _ _ q (fun z hz => ⟨⟨by omega, hz.1.2⟩, by dsimp only; rw [if_neg (by omega), hz.2]; rfl⟩)
     . exact (fm j).mono _ _ _ ((fm j).off _ _ _ (fun _ => False) (co j) (Offp.of_below g) (fun _ _ e => e)) (fun z hz => ⟨⟨hz.1.1, by have := hz.1.2; omega⟩, by dsimp only; rw [if_pos hz.1.2]; exact hz.2⟩)
theorem Cx.fresh (C : Cx w W P) (g : Below W.heap.size W W') (k : Nat) {Q : World -> (Nat -> Prop) -> Prop} (hQ : Fm Q) (q : Q W' (fun z => W.heap.size <= z /\ z < W'.heap.size)) : Cx w W' (updP P k Q) := by
 obtain ⟨fm, hw, col, co⟩ := C
 have hs := g.size
 refine ⟨fun j => ?_, by omega, fun z => if z < W.heap.size then col z else k, fun j => ?_⟩
 . unfold updP; split<;>first | assumption | exact fm _
 . unfold updP
   split
   . rename_i e; subst e
     exact hQ.mono _ _ _ q (fun z hz => ⟨⟨by omega, hz.2⟩, by dsimp only; rw [if_neg (by omega)]⟩)
   . exact (fm j).mono _ _ _ ((fm j).off _ _ _ (fun _ => False) (co j) (Offp.of_below g) (fun _ _ e => e)) (fun z hz => ⟨⟨hz.1.1, by have := hz.1.2; omega⟩, by dsimp only; rw [if_pos hz.1.2]; exact hz.2⟩)
theorem Cx.below (C : Cx w W P) (g : Below W.heap.size W W') : Cx w W' P := by
 obtain ⟨fm, hw, col, co⟩ := C
 have hs := g.size
 exact ⟨fm, by omega, col, fun j => (fm j).mono _ _ _ ((fm j).off _ _ _ (fun _ => False) (co j) (Offp.of_below g) (fun _ _ e => e)) (fun z hz => ⟨⟨hz.1.1, by have := hz.1.2; omega⟩, hz.2⟩)⟩
end
end Go.Proofs.YtlcjaabnfdnfmaaGreatDoor.Gen
