/-
  A row's list copied: the program's rowOf.copied, at this seat.
-/
import Derived.Test.YtmdaammalacifaaGreatTold
import Derived.Test.YtmdaammalacifaaGreatRowTo
import Derived.Test.YtmdaammalacifaaGreatByts
set_option linter.unusedVariables false
set_option linter.unusedSimpArgs false
set_option maxRecDepth 100000
set_option maxHeartbeats 8000000
namespace Go.Proofs.YtmdaammalacifaaGreat.Items
open ChangeShapes WideShapes ChangeAt RowKit Shelf Base
theorem infoI : (Tryz.prog.info? 185).map (fun i => (i.zero, i.size, i.bytes)) = some (some (.agg #[.int .i64 0, .string ⟨#[]⟩, .string ⟨#[]⟩, .int .i64 0, .int .i64 0]), 5, 56) := by kernel_rfl
theorem flat_one' (l : List It) : ∀ u ∈ flat l, u.oneCell' = true := by
 intro u hu
 obtain ⟨x, _, hx⟩ := List.mem_flatMap.1 hu
 simp [It.cs] at hx
 rcases hx with rfl | rfl | rfl | rfl | rfl<;>rfl
theorem Qdt {B : Nat} {W : World} {g cap : Nat} {cur : Array Value} {t : TypeId} {l : List It} (h : Blk W g t cur) (hB : B <= g) (hc : l.length <= cap) (hsz : cur.size = cap * 5) (ht : cur.toList.take (l.length * 5) = flat l) :
 Qhk B W (.slice (some ⟨g, 0, none⟩) l.length cap) l := by
 refine ⟨_, _, rfl, hc, .inr ⟨g, 0, rfl, hB, h.lt, ?_, ?_⟩⟩
 . intro j v hv
   rw [← ht, List.getElem?_take] at hv
   split at hv
   . exact (h.cell (i := 0 + j) (by simpa using hv))
   . cases hv
 . intro j hj
   refine ⟨?_, h.thaw _⟩
   have hlt : 0 + j < cur.size := by rw [hsz]; have := Nat.mul_le_mul_right 5 hc; omega
   rw [h.cell (Array.getElem?_eq_getElem hlt)]; rfl
theorem Qdp (A : Option Addr) (cap : Nat) (w : World) : Src Tryz.prog 5 165 (.slice A 0 cap) 0 [] w :=
 ⟨.inl ⟨_, Tryz.underlying165⟩, fun w' => by cases A<;>rfl, by cases A<;>simp [Builtin.firstCells, loadCells, loadCellsFrom], by cases A<;>simp [Builtin.firstCells, loadCells, loadCellsFrom], rfl, by simp⟩
theorem Qaa {P : Program} {w w' : World} {o : Oper} {a : Act} {K : Act -> World -> Prop} {Q : Exit -> Act -> World -> Prop} (s x : Operand) (t : TypeId)
 (ho : o.op = .call { callee := .builtin .append, args := #[s, x], argTypes := #[t, t] }) (v xv r : Value) (hs : a.eval s = v) (hx : a.eval x = xv)
 (hr : (Builtin.append_ #[t, t] o.type #[v, xv]).run P w = .ok r w') (h : K (a.put o.dst r) w') : o.wp P a w K Q := by
 unfold Oper.wp execOp
 simp only [ho, resolve, invoke, builtin, Sem.run_bind, Sem.run_pure, Result.andThen_ok, List.map_toArray, List.map_cons, List.map_nil, hs, hx, hr]
 exact h
theorem Qaj {P : Program} {w w' : World} {ops : Array Oper} {rest : List Oper} {o : Oper} {a : Act} {Q : Exit -> Act -> World -> Prop} (hgd : o.guard = none) (s x : Operand) (t : TypeId)
 (ho : o.op = .call { callee := .builtin .append, args := #[s, x], argTypes := #[t, t] }) (v xv r : Value) (hs : a.eval s = v) (hx : a.eval x = xv)
 (hr : (Builtin.append_ #[t, t] o.type #[v, xv]).run P w = .ok r w') (h : wpList P ops Q rest (a.put o.dst r) w') : wpList P ops Q (o :: rest) a w :=
 wpList_plain hgd fun _ hK => Qaa s x t ho v xv r hs hx hr (hK _ _ h)
theorem Qcc {P : Program} {w w' : World} {ops : Array Oper} {o : Oper} {a : Act} {K : Act -> World -> Prop} {Q : Exit -> Act -> World -> Prop} {E : Prop} (hgd : o.guard = none) (s x : Operand) (t : TypeId)
 (ho : o.op = .call { callee := .builtin .append, args := #[s, x], argTypes := #[t, t] }) (v xv r : Value) (hs : a.eval s = v) (hx : a.eval x = xv)
 (hr : (Builtin.append_ #[t, t] o.type #[v, xv]).run P w = .ok r w') (h : K (a.put o.dst r) w') : if Region.wanted o (yielded ops a.tmps) = true then Oper.wp P o a w K Q else E := by
 have hw : Region.wanted o (yielded ops a.tmps) = true := by simp [Region.wanted, hgd]
 rw [if_pos hw]
 exact Qaa s x t ho v xv r hs hx hr h
theorem Qdl (B : Nat) (v : Value) (l m : List It) (A : Option Addr) (cap : Nat) (w : World) (hB : B <= w.heap.size) (hv : w.ownsRow B 185 5 v l.length (flat l)) (hA : At w A m) (hlen : l.length + m.length <= 3000000) :
 ∃ v' w', (Builtin.append_ #[165, 165] 165 #[v, .slice A m.length cap]).run Tryz.prog w = .ok v' w' /\ w'.ownsRow B 185 5 v' (l.length + m.length) (flat (l ++ m)) /\ w.grownBy w' v.ownBlock /\ (v'.ownBlock = v.ownBlock ∨ v'.ownBlock = some w.heap.size) := by
 obtain ⟨i0, hi, hz0, hz1, hz2⟩ := info_parts infoI
 by_cases h0 : m = []
 . subst h0
   have e0 : ∃ a n c, v = .slice a n c /\ n <= c := by
    rcases hv.2 with ⟨rfl, _⟩ | ⟨g, c, cur, rfl, _, _, h, _⟩
    . exact ⟨_, _, _, rfl, Nat.le_refl _⟩
    . exact ⟨_, _, _, rfl, h⟩
   obtain ⟨a, n, c, rfl, hle⟩ := e0
   exact ⟨_, _, run_append_nothing w 165 165 165 185 i0 Tryz.underlying165 hi a n c hle _ (hz1 ▸ Qdp A cap w), by simpa using hv, World.grownBy.refl _ _, .inl rfl⟩
 . obtain ⟨b, o, rfl, hb, hin⟩ := hA.resolve_left h0
   have hm : 0 < m.length := List.length_pos_iff.2 h0
   obtain ⟨g, c, w', hr, h1, h2, h3, h4⟩ := run_append_lies (P := Tryz.prog) w 165 165 B 185 i0 _ 5 56 Tryz.underlying165 hi hz0 hz1 hz2 rfl (by omega) v l.length (flat l) hv ⟨b, o, none⟩ m.length cap (flat m) (Qaw m)
    (fun j u hu => by rw [Addr.add_mid]; exact hin j u hu) (flat_one' m) hm (by simp [maxLen]; omega) (by omega) hB _ rfl
   exact ⟨_, _, hr, by rw [Qa2]; exact h1, h2, h3.imp (fun e => by rw [e]; rfl) (fun e => by rw [← e]; rfl)⟩
theorem Qcx {B : Nat} {W : World} {v : Value} {t : TypeId} {l : List It} (h : W.ownsRow B t 5 v l.length (flat l)) : Qhk B W v l := by
 rcases h.2 with ⟨rfl, h0⟩ | ⟨g, c, cur, rfl, hB, hg, hc, _, hsz, ht⟩
 . have : l = [] := List.length_eq_zero_iff.1 h0
   subst this
   exact ⟨none, 0, rfl, Nat.le_refl _, .inl rfl⟩
 . exact Qdt (t := t) hg hB hc hsz ht
theorem Qar {B : Nat} {W : World} {v : Value} {t : TypeId} {k n : Nat} {xs : List Value} (h : W.ownsRow B t k v n xs) : ∃ a c, v = .slice a n c /\ n <= c := by
 rcases h.2 with ⟨rfl, rfl⟩ | ⟨g, c, cur, rfl, hB, hg, hc, _⟩
 . exact ⟨none, 0, rfl, Nat.le_refl _⟩
 . exact ⟨_, _, rfl, hc⟩
theorem Qev {B C : Nat} {W : World} {v : Value} {t : TypeId} {k n : Nat} {xs : List Value} (h : W.ownsRow B t k v n xs) (hC : C < B) : some C ≠ v.ownBlock := by
 rcases h.2 with ⟨rfl, rfl⟩ | ⟨g, c, cur, rfl, hB, _⟩
 . simp [Value.ownBlock]
 . simp [Value.ownBlock]; omega
theorem Qav {B C i : Nat} {W : World} {v u : Value} {t : TypeId} {k n : Nat} {xs : List Value} (h : W.ownsRow B t k v n xs) (hne : some C ≠ v.ownBlock) : (W.setCell ⟨C, i, none⟩ u).ownsRow B t k v n xs := by
 refine ⟨h.1, ?_⟩
 rcases h.2 with ⟨rfl, rfl⟩ | ⟨g, c, cur, rfl, hB, hg, hc, hm, hsz, ht⟩
 . exact .inl ⟨rfl, rfl⟩
 . have hCg : g ≠ C := fun e => hne (by simp [Value.ownBlock, e])
   exact .inr ⟨g, c, cur, rfl, hB, Blk.other (show Blk W g t cur from hg) hCg i u, hc, hm, hsz, ht⟩
theorem copied_any (start next : Int) (A : Option Addr) (cap : Nat) (l : List It) (hl : l.length <= 1048576) (w : World) (hA : At w A l) :
 Calls Tryz.prog 116 #[.agg #[.int .i64 start, .int .i64 next, .slice A l.length cap]] w fun e w' => ∃ v, e = .returned (.agg #[.int .i64 start, .int .i64 next, v]) /\ w'.ownsRow w.heap.size 185 5 v l.length (flat l) /\ Below w.heap.size w w' := by
 have B0 : Below w.heap.size w ((w.alloc (.cells #[.int .i64 start, .int .i64 next, .slice A l.length cap] 182)).alloc (.cells #[.int .i64 0, .int .i64 0, .slice none 0 0] 182)) := Qab (Qab (Below.refl _ _) _) _
 obtain ⟨v, w1, hr, hown, hgrow, hat⟩ := Qdl w.heap.size (.slice none 0 0) [] l A cap ((w.alloc (.cells #[.int .i64 start, .int .i64 next, .slice A l.length cap] 182)).alloc (.cells #[.int .i64 0, .int .i64 0, .slice none 0 0] 182)) B0.size (World.ownsRow_nil _ _ _ _) (hA.below B0) (by simp; omega)
 simp only [List.length_nil, Nat.zero_add, List.nil_append] at hown
 have p0 := ((Blk.new w 182 #[.int .i64 start, .int .i64 next, .slice A l.length cap]).alloc (.cells #[.int .i64 0, .int .i64 0, .slice none 0 0] 182)).kept hgrow (by simp [Value.ownBlock])
 have p1 := (Blk.new (w.alloc (.cells #[.int .i64 start, .int .i64 next, .slice A l.length cap] 182)) 182 #[.int .i64 0, .int .i64 0, .slice none 0 0]).kept hgrow (by simp [Value.ownBlock])
 rw [World.size_alloc] at p1
 have B1 : Below w.heap.size w w1 := B0.grown hgrow B0.size (by simp [Value.ownBlock])
 obtain ⟨c0, c1, c2⟩ := p0.row
 obtain ⟨d0, d1, d2⟩ := p1.row
 have f0 := p0.thaw 0
 have f1 := p0.thaw 1
 have f2 := p0.thaw 2
 have g0 := p1.thaw 0
 have g1 := p1.thaw 1
 have g2 := p1.thaw 2
 obtain ⟨a, c, rfl, hc⟩ := Qar hown
 have hn0 : some w.heap.size ≠ (Value.slice a l.length c).ownBlock := by
  rcases hat with e | e
  . rw [e]; simp [Value.ownBlock]
  . rw [e]; intro h; have := Option.some.inj h; simp only [World.size_alloc] at this; omega
 have hn1 : some (w.heap.size + 1) ≠ (Value.slice a l.length c).ownBlock := by
  rcases hat with e | e
  . rw [e]; simp [Value.ownBlock]
  . rw [e]; intro h; have := Option.some.inj h; simp only [World.size_alloc] at this; omega
 have Hn0 : Hid (some w.heap.size ≠ (Value.slice a l.length c).ownBlock) := hn0
 have Hn1 : Hid (some (w.heap.size + 1) ≠ (Value.slice a l.length c).ownBlock) := hn1
 have Hown : Hid (w1.ownsRow w.heap.size 185 5 (.slice a l.length c) l.length (flat l)) := hown
 clear hgrow hA hat hown hn0 hn1
 go_enter Tryz.func116, Tryz.ntmps116
 go_wp2_with (at_builtin; refine Qaj rfl _ _ _ rfl _ _ _ rfl rfl hr ?_)
 have p2 := (((p1.other (B' := w.heap.size) (by omega) 2 (.slice a l.length c)).setAt 0 (.int .i64 start)).setAt 1 (.int .i64 next)).setAt 2 (.slice a l.length c)
 obtain ⟨e0, e1, e2⟩ := Blk.row (show Blk _ (w.heap.size + 1) 182 #[.int .i64 start, .int .i64 next, .slice a l.length c] from p2)
 exact bodyPost_ret (v := .agg #[.int .i64 start, .int .i64 next, .slice a l.length c]) (by simp [results, Tryz.results116, go_sem, e0, e1, e2]) rfl
  ⟨_, rfl, Qav (Qav (Qav (Qav Hown.out Hn0.out) Hn1.out) Hn1.out) Hn1.out, Qal (Qal (Qal (Qal B1 (Nat.le_refl _) _) (by omega) _) (by omega) _) (by omega) _⟩
end Go.Proofs.YtmdaammalacifaaGreat.Items
namespace Go.Proofs.YtmdaammalacifaaGreat.Gen
open ChangeShapes WideShapes ChangeAt RowKit Joins Deep Base
theorem At.hidB {w : World} {A : Option Addr} {l : List UInt8} (hA : At w A l) : Hid (∀ W : World, Below w.heap.size w W -> At W A l) := fun W hW => hA.below hW
theorem Qgp (A : Option Addr) (cap : Nat) (l : List UInt8) (hl : l.length <= 9223372036854775807) (left : Int) (h0 : 0 <= left) (h1 : left <= 1048576) (w : World) :
 Calls Tryz.prog 60 #[.slice A l.length cap, .int .i64 left] w fun e w' => (∃ r : Int, e = .returned (.int .i64 r) /\ (r < 0 ∨ (0 <= r /\ r = left - (l.length : Int)))) /\ w' = w := by
 generalize l.length = n at hl ⊢
 by_cases hn : left - (n : Int) < 0
 . go_enter Tryz.func60, Tryz.ntmps60
   go_wp2
   go_ret
   exact ⟨⟨-1, rfl, .inl (by omega)⟩, rfl⟩
 . go_enter Tryz.func60, Tryz.ntmps60
   go_wp2
   go_ret
   exact ⟨⟨left - (n : Int), rfl, .inr ⟨by omega, rfl⟩⟩, rfl⟩
theorem szDisk_any (su : Int) (A : Option Addr) (cap : Nat) (l : List UInt8) (hl : l.length <= 9223372036854775807) (left : Int) (h0 : 0 <= left) (h1 : left <= 1048576) (w : World) :
 Calls Tryz.prog 19 #[.agg #[.slice A l.length cap, .int .i64 su], .int .i64 left] w fun e w' => (∃ r : Int, e = .returned (.int .i64 r) /\ (r < 0 ∨ (0 <= r /\ r = left - (l.length : Int)))) /\ Below w.heap.size w w' := by
 go_enter Tryz.func19, Tryz.ntmps19
 go_wp2_with fail
 refine (Qgp A cap l hl left h0 h1 _).mono ?_
 rintro e w1 ⟨⟨r, rfl, hr⟩, rfl⟩
 have HR := hidP hr
 clear hr
 by_cases hn : r < 0
 . go_wp2
   go_ret
   exact ⟨⟨-1, rfl, .inl (by omega)⟩, by repeat (first | exact Below.refl _ _ | assumption | refine via0 (by assumption) ?_ | refine Below.drew ?_ | refine Qab ?_ _)⟩
 . go_wp2
   go_ret
   exact ⟨⟨r, rfl, HR.out⟩, by repeat (first | exact Below.refl _ _ | assumption | refine via0 (by assumption) ?_ | refine Below.drew ?_ | refine Qab ?_ _)⟩
theorem toDisk_any (su : Int) (A : Option Addr) (cap : Nat) (l : List UInt8) (hl : l.length <= 1048576) (w : World) (hA : At w A l) :
 Calls Tryz.prog 28 #[.agg #[.slice A l.length cap, .int .i64 su]] w
  fun e w' => ∃ b, e = .returned (.agg #[.slice (some ⟨b, 0, none⟩) l.length l.length, .int .i64 su]) /\ Below w.heap.size w w' /\ w.heap.size <= b /\ b < w'.heap.size /\ In w' b 0 l /\ w'.there b 0 (l.length * 1) := by
 have HA := hA.hidB
 clear hA
 go_enter Tryz.func28, Tryz.ntmps28
 go_wp2_with (go_at_call 71; refine (toB_any A cap l hl _ (HA.out _ ?_)).mono ?_; (repeat (first | exact Below.refl _ _ | assumption | refine via0 (by assumption) ?_ | refine Below.drew ?_ | refine Qab ?_ _)); rintro e w1 ⟨rfl, g1, s1, i1, t1⟩; obtain ⟨k1, m1⟩ := Qbf g1)
 have i2 : In w1 (w.heap.size + 1 + 1 + 1) 0 l := by simpa using i1
 have t2 : w1.there (w.heap.size + 1 + 1 + 1) 0 (l.length * 1) := by simpa using t1
 have s2 : w.heap.size + 1 + 1 + 1 < w1.heap.size := by simpa using s1
 have g2 : Below w.heap.size w w1 := via0 g1 (by repeat (first | exact Below.refl _ _ | assumption | refine via0 (by assumption) ?_ | refine Below.drew ?_ | refine Qab ?_ _))
 refine bodyPost_ret (v := .agg #[.slice (some ⟨w.heap.size + 1 + 1 + 1, 0, none⟩) l.length l.length, .int .i64 su]) (by simp [results, Tryz.results28, go_sem, k1]) rfl ⟨w.heap.size + 1 + 1 + 1, rfl, ?_, by omega, by simp; omega, ?_, ?_⟩
 . exact Qal (Qal (Qal (Qal (g2) (by omega) _) (by omega) _) (by omega) _) (by omega) _
 . exact In.set (In.set (In.set (In.set (i2) _ _ (by simp)) _ _ (by simp)) _ _ (by simp)) _ _ (by simp)
 . exact Qah (Qah (Qah (Qah (t2) _ _ _) _ _ _) _ _ _) _ _ _
theorem Qhg (su : Int) (A A' : Option Addr) (cap cap' : Nat) (l : List UInt8) (hl : l.length <= 9223372036854775807) (w : World) (hA : At w A l) (hA' : At w A' l) :
 Calls Tryz.prog 39 #[.agg #[.slice A l.length cap, .int .i64 su], .agg #[.slice A' l.length cap', .int .i64 su]] w fun e w' => e = .returned (.bool true) /\ Below w.heap.size w w' := by
 have HA := hA.hidB
 have HA' := hA'.hidB
 clear hA hA'
 go_enter Tryz.func39, Tryz.ntmps39
 go_wp2_with (go_at_call 85; refine (eqB_same A A' cap cap' l hl _ (HA.out _ ?_) (HA'.out _ ?_)).mono ?_; (repeat (first | exact Below.refl _ _ | assumption | refine via0 (by assumption) ?_ | refine Below.drew ?_ | refine Qab ?_ _)); (repeat (first | exact Below.refl _ _ | assumption | refine via0 (by assumption) ?_ | refine Below.drew ?_ | refine Qab ?_ _)); rintro e w1 ⟨rfl, g1⟩; obtain ⟨k1, m1⟩ := Qbf g1)
 go_ret
 refine ⟨rfl, ?_⟩
 repeat (first | exact Below.refl _ _ | assumption | refine via0 (by assumption) ?_ | refine Below.drew ?_ | refine Qab ?_ _)
theorem Qgy (a : Option Addr) (c : Nat) (L : List UInt8) (F : List Nat) (hL : L.length <= 3000000) (k : Int) (hk : 1 <= k) (hk' : k <= 100000000) (w : World) (h : Sl w a L F) :
 Calls Tryz.prog 92 #[.slice a L.length c, .int .i64 k] w fun e w' => e = .returned (.int .i64 (k + (L.length : Int))) /\ Off F w w' /\ Sl w' a (Qbl L.length k) F := by
 rcases h with ⟨rfl, rfl⟩ | ⟨b, o, rfl, rfl, hb, hi, ht⟩
 . refine (markB_none a c k w).mono ?_
   rintro e w' ⟨rfl, rfl⟩
   exact ⟨by simp, Off.refl _ _, .inl ⟨rfl, rfl⟩⟩
 . refine (markB_any b o c L.length k hk hk' (by omega) w hb ht).mono ?_
   rintro e w' ⟨rfl, h1, h2, h3⟩
   refine ⟨rfl, Off.of_only h1, .inr ⟨b, o, rfl, rfl, Nat.lt_of_lt_of_le hb h1.size, h2, ?_⟩⟩
   rw [Qb5]
   exact h3
theorem Qf3 (su : Int) (a : Option Addr) (cap : Nat) (l : List UInt8) (hl : l.length <= 3000000) (k : Int) (hk : 1 <= k) (hk' : k <= 100000000) (F : List Nat) (w : World) (hs : Sl w a l F) :
 Calls Tryz.prog 46 #[.agg #[.slice a l.length cap, .int .i64 su], .int .i64 k] w fun e w' => e = .returned (.int .i64 (k + (l.length : Int))) /\ Off F w w' /\ Sl w' a (Qbl l.length k) F := by
 have HC : Hid (∀ ob : Obj, Calls Tryz.prog 92 #[.slice a l.length cap, .int .i64 k] (w.alloc ob) fun e w' => e = .returned (.int .i64 (k + (l.length : Int))) /\ Off F (w.alloc ob) w' /\ Sl w' a (Qbl l.length k) F) := fun ob => Qgy a cap l F hl k hk hk' _ (hs.below (Qab (Below.refl _ _) ob))
 clear hs
 generalize hz : k + (l.length : Int) = z at HC ⊢
 clear hz
 go_enter Tryz.func46, Tryz.ntmps46
 go_wp2_with fail
 refine (HC.out _).mono ?_
 rintro e w1 ⟨rfl, o1, s1⟩
 have O1 := hidP o1
 have S1 := hidP s1
 clear o1 s1
 go_wp2
 go_ret
 exact ⟨rfl, by simpa using (Off.of_below (Qab (Below.refl _ _) _)).trans O1.out, S1.out⟩
end Go.Proofs.YtmdaammalacifaaGreat.Gen
namespace Go.Proofs.YtmdaammalacifaaGreat.Gen
open ChangeShapes WideShapes ChangeAt RowKit Joins Deep Base
theorem keptB {W W' : World} {B : Nat} {o : Option Nat} {t : TypeId} {vs : Array Value} (h : Blk W B t vs) (hg : W.grownBy W' o) (hne : some B ≠ o) : Blk W' B t vs := (hg.block B h.lt hne).trans h
theorem heldD {W : World} {B C : Nat} {t t' : TypeId} {a b a' b' : Value} (h : Blk W B t #[a, b]) (h' : Blk W C t' #[a', b']) :
 W.cell? ⟨B, 0, none⟩ = some a /\ W.cell? ⟨B, 1, none⟩ = some b /\ (W.cell? ⟨C, 0, none⟩).isSome = true /\ (W.cell? ⟨C, 1, none⟩).isSome = true /\ W.frozen? ⟨C, 0, none⟩ = false /\ W.frozen? ⟨C, 1, none⟩ = false := by
 obtain ⟨h0, h1⟩ := h.row2
 obtain ⟨s0, s1⟩ := h'.row2
 exact ⟨h0, h1, by rw [s0]; rfl, by rw [s1]; rfl, h'.thaw 0, h'.thaw 1⟩
theorem Qg5 (su : Int) (A : Option Addr) (cap : Nat) (l : List UInt8) (hl : l.length <= 3000000) (w : World) (hA : At w A l) :
 Calls Tryz.prog 64 #[.agg #[.slice A l.length cap, .int .i64 su]] w fun e w' => ∃ a c, e = .returned (.agg #[.slice a l.length c, .int .i64 su]) /\ w'.ownsRow w.heap.size 5 1 (.slice a l.length c) l.length (flat l) /\ Below w.heap.size w w' := by
 have HA : Hid (At w A l) := hA
 clear hA
 have p0 := (Blk.new w 56 #[.slice A l.length cap, .int .i64 su]).alloc (.cells #[.slice none 0 0, .int .i64 0] 56)
 have p1 := Blk.new (w.alloc (.cells #[.slice A l.length cap, .int .i64 su] 56)) 56 #[.slice none 0 0, .int .i64 0]
 have B0 : Below w.heap.size w ((w.alloc (.cells #[.slice A l.length cap, .int .i64 su] 56)).alloc (.cells #[.slice none 0 0, .int .i64 0] 56)) := Qab (Qab (Below.refl _ _) _) _
 have hsz : ((w.alloc (.cells #[.slice A l.length cap, .int .i64 su] 56)).alloc (.cells #[.slice none 0 0, .int .i64 0] 56)).heap.size = w.heap.size + 2 := by simp
 rw [World.size_alloc] at p1
 go_enter Tryz.func64, Tryz.ntmps64
 go_wp2_with fail
 generalize (w.alloc (.cells #[.slice A l.length cap, .int .i64 su] 56)).alloc (.cells #[.slice none 0 0, .int .i64 0] 56) = W0 at p0 p1 B0 hsz ⊢
 have X0 := (p0.alloc (.cells #[] 5)).drew
 have X1 := (p1.alloc (.cells #[] 5)).drew
 have hBX : Below w.heap.size w (W0.alloc (.cells #[] 5)).drew := (Qab B0 _).drew
 obtain ⟨v, w1, hr, hown, hgrow, hat⟩ := Qd4 w.heap.size (.slice (some ⟨W0.heap.size, 0, none⟩) 0 0) [] l A cap (W0.alloc (.cells #[] 5)).drew hBX.size
  ⟨rfl, .inr ⟨W0.heap.size, 0, #[], rfl, by omega, (Blk.new W0 5 #[]).drew, Nat.le_refl _, by simp [maxLen], rfl, rfl⟩⟩ (HA.out.below hBX) (by simp; omega)
 simp only [List.length_nil, Nat.zero_add, List.nil_append] at hown
 have Y0 := keptB X0 hgrow (by intro h; have : w.heap.size = W0.heap.size := Option.some.inj h; omega)
 have Y1 := keptB X1 hgrow (by intro h; have : w.heap.size + 1 = W0.heap.size := Option.some.inj h; omega)
 have B1 : Below w.heap.size w w1 := hBX.grown hgrow hBX.size (fun k e => by have : W0.heap.size = k := Option.some.inj e; omega)
 obtain ⟨a, c, rfl, hc⟩ := Qar hown
 have hn1 : some (w.heap.size + 1) ≠ (Value.slice a l.length c).ownBlock := by
  rcases hat with e | e
  . rw [e]; intro h; have : w.heap.size + 1 = W0.heap.size := Option.some.inj h; omega
  . rw [e]; intro h; have := Option.some.inj h; have e2 : (W0.alloc (Obj.cells #[] 5)).drew.heap.size = W0.heap.size + 1 := World.size_alloc _ _; omega
 have Hn1 : Hid (some (w.heap.size + 1) ≠ (Value.slice a l.length c).ownBlock) := hn1
 have Hown : Hid (w1.ownsRow w.heap.size 5 1 (.slice a l.length c) l.length (flat l)) := hown
 have Z0 := (Y0.other (B' := w.heap.size + 1) (by omega) 0 (.slice a l.length c)).other (B' := w.heap.size + 1) (by omega) 1 (.int .i64 su)
 have Z1 : Blk _ (w.heap.size + 1) 56 #[.slice a l.length c, .int .i64 su] := (Y1.setAt 0 (.slice a l.length c)).setAt 1 (.int .i64 su)
 have SW := heldD p0 p1
 have SX := heldD X0 X1
 have SY := heldD Y0 Y1
 have SZ := heldD Z0 Z1
 have SD := heldD p0.drew p1.drew
 obtain ⟨c0, c1⟩ := p0.row2
 obtain ⟨e0, e1⟩ := Z1.row2
 obtain ⟨n0, n1⟩ := Y1.row2
 have k6 := Y1.thaw 0
 have k7 := Y1.thaw 1
 clear hgrow hat hown hn1 hBX p0 p1 X0 X1 Y0 Y1 Z0 Z1 hc hsz
 go_region_held3 (fun w' => w'.cell? ⟨w.heap.size, 0, none⟩ = some (.slice A l.length cap) /\ w'.cell? ⟨w.heap.size, 1, none⟩ = some (.int .i64 su) /\
  (w'.cell? ⟨w.heap.size + 1, 0, none⟩).isSome = true /\ (w'.cell? ⟨w.heap.size + 1, 1, none⟩).isSome = true /\ w'.frozen? ⟨w.heap.size + 1, 0, none⟩ = false /\ w'.frozen? ⟨w.heap.size + 1, 1, none⟩ = false)
  (first | with_reducible exact SD | with_reducible exact SX | with_reducible exact SY | with_reducible exact SZ | with_reducible exact SW)
  (first
   | (refine Qcc (by rfl) _ _ _ (by rfl) _ _ _ rfl rfl hr ?_))
 all_goals
  clear SW SX SY SZ SD n0 n1 k6 k7
  go_wp2
  exact bodyPost_ret (v := .agg #[.slice a l.length c, .int .i64 su]) (by simp [results, Tryz.results64, go_sem, e0, e1]) rfl
   ⟨_, _, rfl, Qav (Qav Hown.out Hn1.out) Hn1.out, Qal (Qal B1 (by omega) _) (by omega) _⟩
end Go.Proofs.YtmdaammalacifaaGreat.Gen
