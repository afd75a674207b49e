/-
  The laws' toItem, toItemS and toRow: a row in new memory that holds the same items. No condition but that the items are at most 1048576.
-/
import Derived.Test.YtlcjaabnfdnfmaaGreatDoorImplRowOk
import Derived.Conc.MuLone
set_option linter.unusedVariables false
set_option linter.unusedSimpArgs false
set_option maxRecDepth 100000
set_option maxHeartbeats 8000000
namespace Go.Proofs.YtlcjaabnfdnfmaaGreatDoor.Items
open ChangeShapes WideShapes ChangeAt RowKit Base
def zeroItem : Value := .agg #[.int .i64 0, .string ⟨#[]⟩, .string ⟨#[]⟩, .int .i64 0, .int .i64 0]
def zeros (n : Nat) : Array Value := madeCells zeroItem.cells (n * 5)
theorem zeros_size (n : Nat) : (zeros n).size = n * 5 := size_madeCells _ _
theorem Qcn {w : World} {b o : Nat} {xs ys : List Value} (h1 : w.rangeAt b o xs) (h2 : w.rangeAt b (o + xs.length) ys) : w.rangeAt b o (xs ++ ys) := fun j v hv => by
 by_cases hj : j < xs.length
 . exact h1 j v (by rwa [List.getElem?_append_left hj] at hv)
 . rw [List.getElem?_append_right (by omega)] at hv
   have := h2 (j - xs.length) v hv
   have e : o + xs.length + (j - xs.length) = o + j := by omega
   rwa [e] at this
theorem Qdq {w w' : World} {b o n : Nat} (h : w.there b o n) (hb : b < w.heap.size) (hw : Below w.heap.size w w') : w'.there b o n := fun j hj => by
 rw [hw.cell (p := ⟨b, o + j, none⟩) hb, hw.frozen (p := ⟨b, o + j, none⟩) hb]
 exact h j hj
theorem Qdg (w : World) (n : Nat) : (w.alloc (.cells (zeros n) 136)).there w.heap.size 0 (n * 5) := fun j hj => by
 have : j < (zeros n).size := by rw [zeros_size]; exact hj
 simp [this]
theorem In.set {w : World} {b o : Nat} {l : List It} (h : In w b o l) (p : Addr) (v : Value) (hp : p.block ≠ b) : In (w.setCell p v) b o l := fun j u hu => by
 rw [World.cell?_setCell_other (h := fun e => hp (by rw [e]))]; exact h j u hu
theorem Qhy {w : World} {b o n : Nat} (h : w.there b o n) (b' o' : Nat) (v : Value) : (w.setCell ⟨b', o', none⟩ v).there b o n := World.there_setCells h b' o' [v]
def Fresh (B : Nat) (w : World) (v : Value) (l : List It) : Prop :=
  ∃ (A : Option Addr) (c : Nat), v = .slice A l.length c /\ l.length <= c /\ (l = [] ∨ ∃ b o, A = some ⟨b, o, none⟩ /\ B <= b /\ b < w.heap.size /\ In w b o l /\ w.there b o (l.length * 5))
end Go.Proofs.YtlcjaabnfdnfmaaGreatDoor.Items
namespace Go.Proofs.YtlcjaabnfdnfmaaGreatDoor.Items
open ChangeShapes WideShapes ChangeAt RowKit Joins Deep Base
instance : Inhabited It := ⟨⟨0, ⟨#[]⟩, ⟨#[]⟩, 0, 0⟩⟩
abbrev At (w : World) (A : Option Addr) (l : List It) : Prop := l = [] ∨ ∃ b o, A = some ⟨b, o, none⟩ /\ b < w.heap.size /\ In w b o l
theorem At.below {w w' : World} {A : Option Addr} {l : List It} (h : At w A l) (hw : Below w.heap.size w w') : At w' A l :=
 h.imp id fun ⟨b, o, e, hb, hi⟩ => ⟨b, o, e, Nat.lt_of_lt_of_le hb hw.size, hi.below hb hw⟩
def I64 (x : Int) : Prop := -9223372036854775808 <= x /\ x <= 9223372036854775807
theorem Qgp {x : Int} (hx : (Lit.int .i64 x).wf = true) : I64 x := by simpa [I64, Lit.wf, IntKind.min, IntKind.max, IntKind.signed, IntKind.bits] using hx
def It.right (x : It) : Prop := I64 x.off /\ I64 x.who /\ I64 x.time /\ x.key.size <= 9223372036854775807 /\ x.text.size <= 9223372036854775807
end Go.Proofs.YtlcjaabnfdnfmaaGreatDoor.Items
namespace Go.Proofs.YtlcjaabnfdnfmaaGreatDoor.Items
open ChangeShapes WideShapes ChangeAt RowKit Shelf Base
theorem infoI : (Tryz.prog.info? 136).map (fun i => (i.zero, i.size, i.bytes)) = some (some (.agg #[.int .i64 0, .string ⟨#[]⟩, .string ⟨#[]⟩, .int .i64 0, .int .i64 0]), 5, 56) := by kernel_rfl
theorem flat_one' (l : List It) : ∀ u ∈ flat l, u.oneCell' = true := by
 intro u hu
 obtain ⟨x, _, hx⟩ := List.mem_flatMap.1 hu
 simp [It.cs] at hx
 rcases hx with rfl | rfl | rfl | rfl | rfl<;>rfl
theorem Qd1 {B : Nat} {W : World} {g cap : Nat} {cur : Array Value} {t : TypeId} {l : List It} (h : Blk W g t cur) (hB : B <= g) (hc : l.length <= cap) (hsz : cur.size = cap * 5) (ht : cur.toList.take (l.length * 5) = flat l) :
 Fresh B W (.slice (some ⟨g, 0, none⟩) l.length cap) l := by
 refine ⟨_, _, rfl, hc, .inr ⟨g, 0, rfl, hB, h.lt, ?_, ?_⟩⟩
 . intro j v hv
   rw [← ht, List.getElem?_take] at hv
   split at hv
   . exact (h.cell (i := 0 + j) (by simpa using hv))
   . cases hv
 . intro j hj
   refine ⟨?_, h.thaw _⟩
   have hlt : 0 + j < cur.size := by rw [hsz]; have := Nat.mul_le_mul_right 5 hc; omega
   rw [h.cell (Array.getElem?_eq_getElem hlt)]; rfl
theorem Qep (A : Option Addr) (cap : Nat) (w : World) : Src Tryz.prog 5 116 (.slice A 0 cap) 0 [] w :=
 ⟨.inl ⟨_, Tryz.underlying116⟩, fun w' => by cases A<;>rfl, by cases A<;>simp [Builtin.firstCells, loadCells, loadCellsFrom], by cases A<;>simp [Builtin.firstCells, loadCells, loadCellsFrom], rfl, by simp⟩
theorem Qav {P : Program} {w w' : World} {o : Oper} {a : Act} {K : Act -> World -> Prop} {Q : Exit -> Act -> World -> Prop} (s x : Operand) (t : TypeId)
 (ho : o.op = .call { callee := .builtin .append, args := #[s, x], argTypes := #[t, t] }) (v xv r : Value) (hs : a.eval s = v) (hx : a.eval x = xv)
 (hr : (Builtin.append_ #[t, t] o.type #[v, xv]).run P w = .ok r w') (h : K (a.put o.dst r) w') : o.wp P a w K Q := by
 unfold Oper.wp execOp
 simp only [ho, resolve, invoke, builtin, Sem.run_bind, Sem.run_pure, Result.andThen_ok, List.map_toArray, List.map_cons, List.map_nil, hs, hx, hr]
 exact h
theorem Qat {P : Program} {w w' : World} {ops : Array Oper} {rest : List Oper} {o : Oper} {a : Act} {Q : Exit -> Act -> World -> Prop} (hgd : o.guard = none) (s x : Operand) (t : TypeId)
 (ho : o.op = .call { callee := .builtin .append, args := #[s, x], argTypes := #[t, t] }) (v xv r : Value) (hs : a.eval s = v) (hx : a.eval x = xv)
 (hr : (Builtin.append_ #[t, t] o.type #[v, xv]).run P w = .ok r w') (h : wpList P ops Q rest (a.put o.dst r) w') : wpList P ops Q (o :: rest) a w :=
 wpList_plain hgd fun _ hK => Qav s x t ho v xv r hs hx hr (hK _ _ h)
theorem Qjo (B : Nat) (v : Value) (l m : List It) (A : Option Addr) (cap : Nat) (w : World) (hB : B <= w.heap.size) (hv : w.ownsRow B 136 5 v l.length (flat l)) (hA : At w A m) (hlen : l.length + m.length <= 3000000) :
 ∃ v' w', (Builtin.append_ #[116, 116] 116 #[v, .slice A m.length cap]).run Tryz.prog w = .ok v' w' /\ w'.ownsRow B 136 5 v' (l.length + m.length) (flat (l ++ m)) /\ w.grownBy w' v.ownBlock /\ (v'.ownBlock = v.ownBlock ∨ v'.ownBlock = some w.heap.size) := by
 obtain ⟨i0, hi, hz0, hz1, hz2⟩ := info_parts infoI
 by_cases h0 : m = []
 . subst h0
   have e0 : ∃ a n c, v = .slice a n c /\ n <= c := by
    rcases hv.2 with ⟨rfl, _⟩ | ⟨g, c, cur, rfl, _, _, h, _⟩
    . exact ⟨_, _, _, rfl, Nat.le_refl _⟩
    . exact ⟨_, _, _, rfl, h⟩
   obtain ⟨a, n, c, rfl, hle⟩ := e0
   exact ⟨_, _, run_append_nothing w 116 116 116 136 i0 Tryz.underlying116 hi a n c hle _ (hz1 ▸ Qep A cap w), by simpa using hv, World.grownBy.refl _ _, .inl rfl⟩
 . obtain ⟨b, o, rfl, hb, hin⟩ := hA.resolve_left h0
   have hm : 0 < m.length := List.length_pos_iff.2 h0
   obtain ⟨g, c, w', hr, h1, h2, h3, h4⟩ := run_append_lies (P := Tryz.prog) w 116 116 B 136 i0 _ 5 56 Tryz.underlying116 hi hz0 hz1 hz2 rfl (by omega) v l.length (flat l) hv ⟨b, o, none⟩ m.length cap (flat m) (Qap m)
    (fun j u hu => by rw [Addr.add_mid]; exact hin j u hu) (flat_one' m) hm (by simp [maxLen]; omega) (by omega) hB _ rfl
   exact ⟨_, _, hr, by rw [Qa1]; exact h1, h2, h3.imp (fun e => by rw [e]; rfl) (fun e => by rw [← e]; rfl)⟩
theorem Qdh {B : Nat} {W : World} {v : Value} {t : TypeId} {l : List It} (h : W.ownsRow B t 5 v l.length (flat l)) : Fresh B W v l := by
 rcases h.2 with ⟨rfl, h0⟩ | ⟨g, c, cur, rfl, hB, hg, hc, _, hsz, ht⟩
 . have : l = [] := List.length_eq_zero_iff.1 h0
   subst this
   exact ⟨none, 0, rfl, Nat.le_refl _, .inl rfl⟩
 . exact Qd1 (t := t) hg hB hc hsz ht
theorem Qa5 {B : Nat} {W : World} {v : Value} {t : TypeId} {k n : Nat} {xs : List Value} (h : W.ownsRow B t k v n xs) : ∃ a c, v = .slice a n c /\ n <= c := by
 rcases h.2 with ⟨rfl, rfl⟩ | ⟨g, c, cur, rfl, hB, hg, hc, _⟩
 . exact ⟨none, 0, rfl, Nat.le_refl _⟩
 . exact ⟨_, _, rfl, hc⟩
theorem owns_far {B C : Nat} {W : World} {v : Value} {t : TypeId} {k n : Nat} {xs : List Value} (h : W.ownsRow B t k v n xs) (hC : C < B) : some C ≠ v.ownBlock := by
 rcases h.2 with ⟨rfl, rfl⟩ | ⟨g, c, cur, rfl, hB, _⟩
 . simp [Value.ownBlock]
 . simp [Value.ownBlock]; omega
theorem Qbf {B C i : Nat} {W : World} {v u : Value} {t : TypeId} {k n : Nat} {xs : List Value} (h : W.ownsRow B t k v n xs) (hne : some C ≠ v.ownBlock) : (W.setCell ⟨C, i, none⟩ u).ownsRow B t k v n xs := by
 refine ⟨h.1, ?_⟩
 rcases h.2 with ⟨rfl, rfl⟩ | ⟨g, c, cur, rfl, hB, hg, hc, hm, hsz, ht⟩
 . exact .inl ⟨rfl, rfl⟩
 . have hCg : g ≠ C := fun e => hne (by simp [Value.ownBlock, e])
   exact .inr ⟨g, c, cur, rfl, hB, Blk.other (show Blk W g t cur from hg) hCg i u, hc, hm, hsz, ht⟩
theorem copied_any (start next : Int) (A : Option Addr) (cap : Nat) (l : List It) (hl : l.length <= 1048576) (w : World) (hA : At w A l) :
 Calls Tryz.prog 89 #[.agg #[.int .i64 start, .int .i64 next, .slice A l.length cap]] w fun e w' => ∃ v, e = .returned (.agg #[.int .i64 start, .int .i64 next, v]) /\ w'.ownsRow w.heap.size 136 5 v l.length (flat l) /\ Below w.heap.size w w' := by
 have B0 : Below w.heap.size w ((w.alloc (.cells #[.int .i64 start, .int .i64 next, .slice A l.length cap] 133)).alloc (.cells #[.int .i64 0, .int .i64 0, .slice none 0 0] 133)) := Qaa (Qaa (Below.refl _ _) _) _
 obtain ⟨v, w1, hr, hown, hgrow, hat⟩ := Qjo w.heap.size (.slice none 0 0) [] l A cap ((w.alloc (.cells #[.int .i64 start, .int .i64 next, .slice A l.length cap] 133)).alloc (.cells #[.int .i64 0, .int .i64 0, .slice none 0 0] 133)) B0.size (World.ownsRow_nil _ _ _ _) (hA.below B0) (by simp; omega)
 simp only [List.length_nil, Nat.zero_add, List.nil_append] at hown
 have p0 := ((Blk.new w 133 #[.int .i64 start, .int .i64 next, .slice A l.length cap]).alloc (.cells #[.int .i64 0, .int .i64 0, .slice none 0 0] 133)).kept hgrow (by simp [Value.ownBlock])
 have p1 := (Blk.new (w.alloc (.cells #[.int .i64 start, .int .i64 next, .slice A l.length cap] 133)) 133 #[.int .i64 0, .int .i64 0, .slice none 0 0]).kept hgrow (by simp [Value.ownBlock])
 rw [World.size_alloc] at p1
 have B1 : Below w.heap.size w w1 := B0.grown hgrow B0.size (by simp [Value.ownBlock])
 obtain ⟨c0, c1, c2⟩ := p0.row
 obtain ⟨d0, d1, d2⟩ := p1.row
 have f0 := p0.thaw 0
 have f1 := p0.thaw 1
 have f2 := p0.thaw 2
 have g0 := p1.thaw 0
 have g1 := p1.thaw 1
 have g2 := p1.thaw 2
 obtain ⟨a, c, rfl, hc⟩ := Qa5 hown
 have hn0 : some w.heap.size ≠ (Value.slice a l.length c).ownBlock := by
  rcases hat with e | e
  . rw [e]; simp [Value.ownBlock]
  . rw [e]; intro h; have := Option.some.inj h; simp only [World.size_alloc] at this; omega
 have hn1 : some (w.heap.size + 1) ≠ (Value.slice a l.length c).ownBlock := by
  rcases hat with e | e
  . rw [e]; simp [Value.ownBlock]
  . rw [e]; intro h; have := Option.some.inj h; simp only [World.size_alloc] at this; omega
 have Hn0 : Hid (some w.heap.size ≠ (Value.slice a l.length c).ownBlock) := hn0
 have Hn1 : Hid (some (w.heap.size + 1) ≠ (Value.slice a l.length c).ownBlock) := hn1
 have Hown : Hid (w1.ownsRow w.heap.size 136 5 (.slice a l.length c) l.length (flat l)) := hown
 clear hgrow hA hat hown hn0 hn1
 go_enter Tryz.func89, Tryz.ntmps89
 go_wp2_with (at_builtin; refine Qat rfl _ _ _ rfl _ _ _ rfl rfl hr ?_)
 have p2 := (((p1.other (B' := w.heap.size) (by omega) 2 (.slice a l.length c)).setAt 0 (.int .i64 start)).setAt 1 (.int .i64 next)).setAt 2 (.slice a l.length c)
 obtain ⟨e0, e1, e2⟩ := Blk.row (show Blk _ (w.heap.size + 1) 133 #[.int .i64 start, .int .i64 next, .slice a l.length c] from p2)
 exact bodyPost_ret (v := .agg #[.int .i64 start, .int .i64 next, .slice a l.length c]) (by simp [results, Tryz.results89, go_sem, e0, e1, e2]) rfl
  ⟨_, rfl, Qbf (Qbf (Qbf (Qbf Hown.out Hn0.out) Hn1.out) Hn1.out) Hn1.out, Qam (Qam (Qam (Qam B1 (Nat.le_refl _) _) (by omega) _) (by omega) _) (by omega) _⟩
end Go.Proofs.YtlcjaabnfdnfmaaGreatDoor.Items
namespace Go.Proofs.YtlcjaabnfdnfmaaGreatDoor.Gen
open ChangeShapes WideShapes ChangeAt RowKit Joins Deep Base
theorem At.hidB {w : World} {A : Option Addr} {l : List UInt8} (hA : At w A l) : Hid (∀ W : World, Below w.heap.size w W -> At W A l) := fun W hW => hA.below hW
theorem Qkt (su : Int) (A A' : Option Addr) (cap cap' : Nat) (l : List UInt8) (hl : l.length <= 9223372036854775807) (w : World) (hA : At w A l) (hA' : At w A' l) :
 Calls Tryz.prog 24 #[.agg #[.slice A l.length cap, .int .i64 su], .agg #[.slice A' l.length cap', .int .i64 su]] w fun e w' => e = .returned (.bool true) /\ Below w.heap.size w w' := by
 have HA := hA.hidB
 have HA' := hA'.hidB
 clear hA hA'
 go_enter Tryz.func24, Tryz.ntmps24
 go_wp2_with (go_at_call 61; refine (eqB_same A A' cap cap' l hl _ (HA.out _ ?_) (HA'.out _ ?_)).mono ?_; (repeat (first | exact Below.refl _ _ | assumption | refine via0 (by assumption) ?_ | refine Below.drew ?_ | refine Qaa ?_ _)); (repeat (first | exact Below.refl _ _ | assumption | refine via0 (by assumption) ?_ | refine Below.drew ?_ | refine Qaa ?_ _)); rintro e w1 ⟨rfl, g1⟩; obtain ⟨k1, m1⟩ := Qaj g1)
 go_ret
 refine ⟨rfl, ?_⟩
 repeat (first | exact Below.refl _ _ | assumption | refine via0 (by assumption) ?_ | refine Below.drew ?_ | refine Qaa ?_ _)
theorem Qj9 (a : Option Addr) (c : Nat) (L : List UInt8) (F : List Nat) (hL : L.length <= 3000000) (k : Int) (hk : 1 <= k) (hk' : k <= 100000000) (w : World) (h : Sl w a L F) :
 Calls Tryz.prog 68 #[.slice a L.length c, .int .i64 k] w fun e w' => e = .returned (.int .i64 (k + (L.length : Int))) /\ Off F w w' /\ Sl w' a (Qbg L.length k) F := by
 rcases h with ⟨rfl, rfl⟩ | ⟨b, o, rfl, rfl, hb, hi, ht⟩
 . refine (markB_none a c k w).mono ?_
   rintro e w' ⟨rfl, rfl⟩
   exact ⟨by simp, Off.refl _ _, .inl ⟨rfl, rfl⟩⟩
 . refine (markB_any b o c L.length k hk hk' (by omega) w hb ht).mono ?_
   rintro e w' ⟨rfl, h1, h2, h3⟩
   refine ⟨rfl, Off.of_only h1, .inr ⟨b, o, rfl, rfl, Nat.lt_of_lt_of_le hb h1.size, h2, ?_⟩⟩
   rw [Qb9]
   exact h3
theorem Qix (su : Int) (a : Option Addr) (cap : Nat) (l : List UInt8) (hl : l.length <= 3000000) (k : Int) (hk : 1 <= k) (hk' : k <= 100000000) (F : List Nat) (w : World) (hs : Sl w a l F) :
 Calls Tryz.prog 30 #[.agg #[.slice a l.length cap, .int .i64 su], .int .i64 k] w fun e w' => e = .returned (.int .i64 (k + (l.length : Int))) /\ Off F w w' /\ Sl w' a (Qbg l.length k) F := by
 have HC : Hid (∀ ob : Obj, Calls Tryz.prog 68 #[.slice a l.length cap, .int .i64 k] (w.alloc ob) fun e w' => e = .returned (.int .i64 (k + (l.length : Int))) /\ Off F (w.alloc ob) w' /\ Sl w' a (Qbg l.length k) F) := fun ob => Qj9 a cap l F hl k hk hk' _ (hs.below (Qaa (Below.refl _ _) ob))
 clear hs
 generalize hz : k + (l.length : Int) = z at HC ⊢
 clear hz
 go_enter Tryz.func30, Tryz.ntmps30
 go_wp2_with fail
 refine (HC.out _).mono ?_
 rintro e w1 ⟨rfl, o1, s1⟩
 have O1 := hidP o1
 have S1 := hidP s1
 clear o1 s1
 go_wp2
 go_ret
 exact ⟨rfl, by simpa using (Off.of_below (Qaa (Below.refl _ _) _)).trans O1.out, S1.out⟩
end Go.Proofs.YtlcjaabnfdnfmaaGreatDoor.Gen
namespace Go.Proofs.YtlcjaabnfdnfmaaGreatDoor.Gen
open ChangeShapes WideShapes ChangeAt RowKit Joins Deep Base
def inB (x lo hi : Int) : Bool := decide (lo <= x /\ x <= hi)
theorem within_any (x lo hi : Int) (w : World) :
 Calls Tryz.prog 44 #[.int .i64 x, .int .i64 lo, .int .i64 hi] w fun e w' => e = .returned (.bool (inB x lo hi)) /\ w' = w := by
 by_cases h1 : lo <= x
 . by_cases h2 : x <= hi
   . have e : Hid (inB x lo hi = true) := by show _ = _; simp [inB, h1, h2]
     go_enter Tryz.func44, Tryz.ntmps44
     go_wp2
     go_ret
     exact ⟨by rw [e.out]; rfl, rfl⟩
   . have e : Hid (inB x lo hi = false) := by show _ = _; simp [inB, h2]
     have h2' : decide (x <= hi) = false := decide_eq_false h2
     go_enter Tryz.func44, Tryz.ntmps44
     go_wp2
     go_ret
     exact ⟨by rw [e.out]; first | rfl | (rw [← h2']; rfl), rfl⟩
 . have e : Hid (inB x lo hi = false) := by show _ = _; simp [inB, h1]
   go_enter Tryz.func44, Tryz.ntmps44
   go_wp2
   go_ret
   exact ⟨by rw [e.out]; rfl, rfl⟩
theorem in_any (x lo hi : Int) (w : World) :
 Calls Tryz.prog 11 #[.int .i64 x, .int .i64 lo, .int .i64 hi] w fun e w' => e = .returned (.bool (inB x lo hi)) /\ w' = w := by
 by_cases h1 : lo <= x
 . by_cases h2 : x <= hi
   . have e : Hid (inB x lo hi = true) := by show _ = _; simp [inB, h1, h2]
     go_enter Tryz.func11, Tryz.ntmps11
     go_wp2
     go_ret
     exact ⟨by rw [e.out]; rfl, rfl⟩
   . have e : Hid (inB x lo hi = false) := by show _ = _; simp [inB, h2]
     have h2' : decide (x <= hi) = false := decide_eq_false h2
     go_enter Tryz.func11, Tryz.ntmps11
     go_wp2
     go_ret
     exact ⟨by rw [e.out]; first | rfl | (rw [← h2']; rfl), rfl⟩
 . have e : Hid (inB x lo hi = false) := by show _ = _; simp [inB, h1]
   go_enter Tryz.func11, Tryz.ntmps11
   go_wp2
   go_ret
   exact ⟨by rw [e.out]; rfl, rfl⟩
end Go.Proofs.YtlcjaabnfdnfmaaGreatDoor.Gen
namespace Go.Proofs.YtlcjaabnfdnfmaaGreatDoor.Gen
open ChangeShapes WideShapes ChangeAt RowKit Joins Deep Base
def Qd5 (su : Int) (n : Nat) : Bool := decide (n <= 80000) && inB su 0 (n : Int)
theorem Qfr (su : Int) (A : Option Addr) (n cap : Nat) (hn : n <= 9223372036854775807) (w : World) :
 Calls Tryz.prog 43 #[.agg #[.slice A n cap, .int .i64 su]] w fun e w' => e = .returned (.bool (Qd5 su n)) /\ Below w.heap.size w w' := by
 have e : Qd5 su n = (decide ((n : Int) <= 80000) && inB su 0 (n : Int)) := by
  unfold Qd5; congr 1; simp; omega
 rw [e]
 clear e
 by_cases h : (n : Int) <= 80000
 all_goals
  go_enter Tryz.func43, Tryz.ntmps43
  go_wp2_with (go_at_call 11; refine (in_any _ _ _ _).mono ?_; rintro e w' ⟨rfl, rfl⟩)
  go_ret
  exact ⟨by simp [h]<;>(intro h2; omega), by repeat (first | exact Below.refl _ _ | assumption | refine via0 (by assumption) ?_ | refine Below.drew ?_ | refine Qaa ?_ _)⟩
theorem Qdn (su : Int) (A : Option Addr) (n cap : Nat) (hn : n <= 9223372036854775807) (w : World) :
 Calls Tryz.prog 54 #[.agg #[.slice A n cap, .int .i64 su]] w fun e w' => e = .returned (.bool (Qd5 su n)) /\ Below w.heap.size w w' := by
 have e : Qd5 su n = (decide ((n : Int) <= 80000) && inB su 0 (n : Int)) := by
  unfold Qd5; congr 1; simp; omega
 rw [e]
 clear e
 by_cases h : (n : Int) <= 80000
 all_goals
  go_enter Tryz.func54, Tryz.ntmps54
  go_wp2_with (go_at_call 44; refine (within_any _ _ _ _).mono ?_; rintro e w' ⟨rfl, rfl⟩)
  go_ret
  exact ⟨by simp [h]<;>(intro h2; omega), by repeat (first | exact Below.refl _ _ | assumption | refine via0 (by assumption) ?_ | refine Below.drew ?_ | refine Qaa ?_ _)⟩
end Go.Proofs.YtlcjaabnfdnfmaaGreatDoor.Gen
namespace Go.Proofs.YtlcjaabnfdnfmaaGreatDoor.Gen
open ChangeShapes WideShapes ChangeAt RowKit Joins Deep Base
def syncS (su : Int) (n : Nat) : Int := if Qd5 su n then (n : Int) else su
def NewB (B : Nat) (w : World) (v : Value) (l : List UInt8) : Prop := ∃ a c F, v = .slice a l.length c /\ l.length <= c /\ c <= maxLen /\ Sl w a l F /\ (∀ x ∈ F, B <= x)
theorem Qih {B C : Nat} {W : World} {v : Value} {l : List UInt8} (h : NewB B W v l) (hC : C <= B) : NewB C W v l := by
 obtain ⟨a, c, F, e, h1, h2, hs, hF⟩ := h
 exact ⟨a, c, F, e, h1, h2, hs, fun x hx => Nat.le_trans hC (hF x hx)⟩
theorem Qer {B C i : Nat} {W : World} {v u : Value} {l : List UInt8} (h : NewB B W v l) (hC : C < B) : NewB B (W.setCell ⟨C, i, none⟩ u) v l := by
 obtain ⟨a, c, F, e, h1, h2, hs, hF⟩ := h
 exact ⟨a, c, F, e, h1, h2, hs.off (Off.of_only ((Only.refl C W).set i u)) (fun x hx hm => by have := hF x hx; simp at hm; omega), hF⟩
end Go.Proofs.YtlcjaabnfdnfmaaGreatDoor.Gen
namespace Go.Proofs.YtlcjaabnfdnfmaaGreatDoor.Gen
abbrev muLink : Go.Conc.Locks.MuLink := { lock := 172, unlock := 173, ilock := 199, iunlock := 200, lockSlow := 219, unlockSlow := 222, disable := 215, enable := 217, acquire := 218, relMerge := 220, cas32 := 216, add32 := 221, tMutex := 229, tIMutex := 227, tPMutex := 276, tPIMutex := 290, tPI32 := 292, tUP := 209, tNoCopy := 225, tU32 := 178 }
theorem muLib : Go.Conc.Locks.MuLib Tryz.prog muLink :=
 ⟨Tryz.func172, Tryz.func173, Tryz.func199, Tryz.func200, Tryz.func215, Tryz.func217, Tryz.func218, Tryz.func220, Tryz.func216, Tryz.func221,
  Tryz.underlying227, Tryz.runUnderlying227, Tryz.sizeOf227, Tryz.isAgg227, Tryz.zeroValue227, Tryz.underlying229, Tryz.runUnderlying229, Tryz.sizeOf229, Tryz.isAgg229, Tryz.zeroValue229, Tryz.underlying276, Tryz.runUnderlying276, Tryz.sizeOf276, Tryz.isAgg276, Tryz.zeroValue276, Tryz.underlying290, Tryz.runUnderlying290, Tryz.sizeOf290, Tryz.isAgg290, Tryz.zeroValue290, Tryz.underlying292, Tryz.runUnderlying292, Tryz.sizeOf292, Tryz.isAgg292, Tryz.zeroValue292, Tryz.underlying209, Tryz.runUnderlying209, Tryz.sizeOf209, Tryz.isAgg209, Tryz.zeroValue209, Tryz.underlying225, Tryz.runUnderlying225, Tryz.sizeOf225, Tryz.isAgg225, Tryz.zeroValue225, Tryz.underlying21, Tryz.runUnderlying21, Tryz.sizeOf21, Tryz.isAgg21, Tryz.zeroValue21, (by kernel_rfl)⟩
end Go.Proofs.YtlcjaabnfdnfmaaGreatDoor.Gen
namespace Go.Proofs.YtlcjaabnfdnfmaaGreatDoor.Gen
open ChangeShapes WideShapes ChangeAt RowKit Joins Deep Base MuLone
theorem Blk.row5d {W : World} {B : Nat} {t : TypeId} {a b c d e : Value} (h : Blk W B t #[a, b, c, d, e]) : W.cell? ⟨B, 0, none⟩ = some a /\ W.cell? ⟨B, 1, none⟩ = some b /\ W.cell? ⟨B, 2, none⟩ = some c /\ W.cell? ⟨B, 3, none⟩ = some d /\ W.cell? ⟨B, 4, none⟩ = some e := ⟨h.cell (by rfl), h.cell (by rfl), h.cell (by rfl), h.cell (by rfl), h.cell (by rfl)⟩
theorem load64_any (d : Nat) (n : Int) (w : World) (h : w.cell? ⟨d, 4, none⟩ = some (.int .i64 n)) :
 Calls Tryz.prog 174 #[.pointer (some ⟨d, 4, none⟩)] w fun e w' => e = .returned (.int .i64 n) /\ w' = w := by
 have hl := run_call_load (P := Tryz.prog) Tryz.func201 (by kernel_rfl) (by kernel_rfl) (by kernel_rfl) .i64 (by kernel_rfl) h
 go_enter Tryz.func174, Tryz.ntmps174
 go_wp2
 go_ret
 exact ⟨rfl, rfl⟩
theorem add64_any (d : Nat) (w : World) (h : w.cell? ⟨d, 4, none⟩ = some (.int .i64 0)) (hz : w.frozen? ⟨d, 4, none⟩ = false) :
 Calls Tryz.prog 171 #[.pointer (some ⟨d, 4, none⟩), .int .i64 1] w fun e w' => e = .returned (.int .i64 1) /\ w' = w.setCell ⟨d, 4, none⟩ (.int .i64 1) := by
 have hl := run_call_add (P := Tryz.prog) Tryz.func198 (by kernel_rfl) (by kernel_rfl) (by kernel_rfl) .i64 (by kernel_rfl) (y := 1) (s := 1) h hz (by simp [go_sem]; rfl)
 go_enter Tryz.func171, Tryz.ntmps171
 go_wp2
 go_ret
 exact ⟨rfl, rfl⟩
theorem copied_any (su : Int) (A : Option Addr) (cap : Nat) (l : List UInt8) (hl : l.length <= 3000000) (w : World) (hA : At w A l) :
 Calls Tryz.prog 170 #[.agg #[.slice A l.length cap, .int .i64 su]] w fun e w' => ∃ a c, e = .returned (.agg #[.slice a l.length c, .int .i64 su]) /\ w'.ownsRow w.heap.size 5 1 (.slice a l.length c) l.length (flat l) /\ Below w.heap.size w w' := by
 have HA := hidP hA
 clear hA
 have B0 : Below w.heap.size w ((w.alloc (.cells #[.slice A l.length cap, .int .i64 su] 39)).alloc (.cells #[.slice none 0 0, .int .i64 0] 39)) := Qaa (Qaa (Below.refl _ _) _) _
 have p := (Blk.new w 39 #[.slice A l.length cap, .int .i64 su]).alloc (.cells #[.slice none 0 0, .int .i64 0] 39)
 have r := Blk.new (w.alloc (.cells #[.slice A l.length cap, .int .i64 su] 39)) 39 #[.slice none 0 0, .int .i64 0]
 rw [World.size_alloc] at r
 have zr : w.heap.size + 1 < ((w.alloc (.cells #[.slice A l.length cap, .int .i64 su] 39)).alloc (.cells #[.slice none 0 0, .int .i64 0] 39)).heap.size := r.lt
 obtain ⟨v1, w1, hr1, own1, gr1, at1⟩ := Qkz ((w.alloc (.cells #[.slice A l.length cap, .int .i64 su] 39)).alloc (.cells #[.slice none 0 0, .int .i64 0] 39)).heap.size (.slice none 0 0) [] l A cap ((w.alloc (.cells #[.slice A l.length cap, .int .i64 su] 39)).alloc (.cells #[.slice none 0 0, .int .i64 0] 39)) (Nat.le_refl _) (World.ownsRow_nil _ _ _ _) (HA.out.below B0) (by simp; omega)
 simp only [List.length_nil, Nat.zero_add, List.nil_append] at own1
 obtain ⟨a1, c1, rfl, _⟩ := Qa5 own1
 have B1 : Below w.heap.size w w1 := B0.grown gr1 B0.size (fun k e => by cases e)
 have p1 := p.kept gr1 (by intro h; cases h)
 have r1 := r.kept gr1 (by intro h; cases h)
 have z0 := B0.size
 have far : ∀ C, C < ((w.alloc (.cells #[.slice A l.length cap, .int .i64 su] 39)).alloc (.cells #[.slice none 0 0, .int .i64 0] 39)).heap.size -> some C ≠ (Value.slice a1 l.length c1).ownBlock := fun C hC => owns_far own1 hC
 have R := (((r1.other (B' := w.heap.size) (by omega) 0 (.slice a1 l.length c1)).setAt 0 (.slice a1 l.length c1)).setAt 1 (.int .i64 su))
 have P1 : Blk _ w.heap.size 39 #[.slice a1 l.length c1, .int .i64 su] := p1.setAt 0 (.slice a1 l.length c1)
 obtain ⟨e0, e1⟩ := Blk.row2 R
 obtain ⟨u0, u1⟩ := p.row2
 obtain ⟨k0, k1⟩ := p1.row2
 obtain ⟨m0, m1⟩ := P1.row2
 obtain ⟨y0, y1⟩ := r1.row2
 have f0 := p1.thaw 0
 have f1 := r1.thaw 0
 have f2 := r1.thaw 1
 have O1 := hidP own1
 have Far := hidP far
 clear R P1 own1 gr1 at1 far
 go_enter Tryz.func170, Tryz.ntmps170
 go_wp2_with (at_builtin; refine Qat rfl _ _ _ rfl _ _ _ rfl rfl hr1 ?_)
 exact bodyPost_ret (v := .agg #[.slice a1 l.length c1, .int .i64 su]) (by simp [results, Tryz.results170, go_sem, e0, e1]) rfl
  ⟨_, _, rfl, Qch (Qbf (Qbf (Qbf O1.out (Far.out _ (by omega))) (Far.out _ zr)) (Far.out _ zr)) z0, Qam (Qam (Qam B1 (by omega) _) (by omega) _) (by omega) _⟩
theorem Qkw (su : Int) (A : Option Addr) (cap : Nat) (l : List UInt8) (hl : l.length <= 3000000) (w : World) (hA : At w A l) :
 Calls Tryz.prog 136 #[.agg #[.slice A l.length cap, .int .i64 su]] w fun e w' => ∃ d a c, e = .returned (.pointer (some ⟨d, 0, none⟩)) /\ Blk w' d 235 #[.int .i32 0, .int .u32 0, .slice a l.length c, .int .i64 su, .int .i64 0] /\ w'.ownsRow w.heap.size 5 1 (.slice a l.length c) l.length (flat l) /\ w.heap.size <= d /\ some d ≠ (Value.slice a l.length c).ownBlock /\ Below w.heap.size w w' := by
 have HA := hidP hA
 clear hA
 go_enter Tryz.func136, Tryz.ntmps136
 go_wp2_with fail
 refine (copied_any su A cap l hl _ (HA.out.below (Qaa (Below.refl _ _) _))).mono ?_
 rintro e w1 ⟨a, c, rfl, o1, g1⟩
 have B1 : Below w.heap.size w w1 := by repeat (first | exact Below.refl _ _ | assumption | refine via0 (by assumption) ?_ | refine Below.drew ?_ | refine Qaa ?_ _)
 have O1 := hidP o1
 have z := B1.size
 have n : some w1.heap.size ≠ (Value.slice a l.length c).ownBlock := fun e => Nat.lt_irrefl _ (owns_lt O1.out e.symm)
 clear o1 g1
 go_wp2
 go_ret
 exact ⟨_, _, _, rfl, Blk.new _ _ _, Qch (Qca O1.out _) (by simp), z, n, Qaa B1 _⟩
theorem Qiz (d : Nat) (w : World) (h : w.cell? ⟨d, 4, none⟩ = some (.int .i64 0)) (hz : w.frozen? ⟨d, 4, none⟩ = false) :
 Calls Tryz.prog 137 #[.pointer (some ⟨d, 0, none⟩)] w fun e w' => e = .returned (.tuple #[]) /\ w' = w.setCell ⟨d, 4, none⟩ (.int .i64 1) := by
 go_enter Tryz.func137, Tryz.ntmps137
 go_wp2_with fail
 refine (add64_any d w h hz).mono ?_
 rintro e w' ⟨rfl, rfl⟩
 go_wp2
 go_end0
 exact ⟨rfl, rfl⟩
end Go.Proofs.YtlcjaabnfdnfmaaGreatDoor.Gen
