/-
  The program's rowOf.hasOnly (at isRightItem) and RowOk at this seat.
-/
import Derived.Test.YtkmkldjipihceaaGreatImplRight
set_option linter.unusedVariables false
set_option linter.unusedSimpArgs false
set_option maxRecDepth 100000
set_option maxHeartbeats 8000000
set_option maxRecDepth 100000
set_option maxHeartbeats 8000000
namespace Go.Proofs.YtkmkldjipihceaaGreat.Items
open ChangeShapes WideShapes ChangeAt RowKit Shelf Base
attribute [local go_sem] Oper.semAt_some
theorem Qei {W W' : World} (h : Below W.heap.size W W') : KeepsOthers W W' :=
 ⟨h.size, fun k o hk _ => (h.block k (Array.getElem?_eq_some_iff.1 hk).1).trans hk⟩
theorem Qh7 (start next : Int) (A : Option Addr) (cap : Nat) (l : List It) (hl : l.length <= 2000000) (hs : ∀ x ∈ l, x.key.size <= 9223372036854775807 /\ x.text.size <= 9223372036854775807) (w : World) (hA : l = [] ∨ ∃ b o, A = some ⟨b, o, none⟩ /\ b < w.heap.size /\ In w b o l) :
 Calls Tryz.prog 181 #[.agg (Qap start next A l.length cap), .func (.func 182) #[] #[]] w fun e w' => e = .returned (.bool (l.all Qc0)) /\ Below w.heap.size w w' := by
 refine (callsIn_wide (n := 9)).1 ?_
 refine callsIn_of_wp_marks Tryz.func181 rfl trivial ?_ rfl
 simp only [Tryz.ntmps181]
 simp only [List.size_toArray, List.length_cons, List.length_nil, Nat.reduceAdd, Nat.reduceSub, Array.replicate_succ, Array.replicate_zero, List.push_toArray, List.append_toArray, List.nil_append, List.cons_append]
 gi_wp2_with (refine ⟨trivial, ?_⟩; gi_at_call 189; refine (told_in Fence.wide _ trivial rfl _ _ _ _ _ _).mono ?_; rintro e w' ⟨rfl, rfl⟩)
 have b1 := ((Blk.new (w.alloc (.cells (Qap start next A l.length cap) 254)) 223 #[.func (.func 182) #[] #[]]).alloc (.cells #[.bool false] 4)).alloc (.cells (Qap start next A l.length cap) 254)
 have b2 := (Blk.new ((w.alloc (.cells (Qap start next A l.length cap) 254)).alloc (.cells #[.func (.func 182) #[] #[]] 223)) 4 #[.bool false]).alloc (.cells (Qap start next A l.length cap) 254)
 have b3 := Blk.new (((w.alloc (.cells (Qap start next A l.length cap) 254)).alloc (.cells #[.func (.func 182) #[] #[]] 223)).alloc (.cells #[.bool false] 4)) 254 (Qap start next A l.length cap)
 have hB0 : Below w.heap.size w ((((w.alloc (.cells (Qap start next A l.length cap) 254)).alloc (.cells #[.func (.func 182) #[] #[]] 223)).alloc (.cells #[.bool false] 4)).alloc (.cells (Qap start next A l.length cap) 254)) := ((((Below.refl _ w).alloc (Nat.le_refl _) _).alloc (by simp) _).alloc (by simp; omega) _).alloc (by simp; omega) _
 have hsz : ((((w.alloc (.cells (Qap start next A l.length cap) 254)).alloc (.cells #[.func (.func 182) #[] #[]] 223)).alloc (.cells #[.bool false] 4)).alloc (.cells (Qap start next A l.length cap) 254)).heap.size = w.heap.size + 4 := by simp
 simp only [World.size_alloc] at b1 b2 b3
 generalize ((((w.alloc (.cells (Qap start next A l.length cap) 254)).alloc (.cells #[.func (.func 182) #[] #[]] 223)).alloc (.cells #[.bool false] 4)).alloc (.cells (Qap start next A l.length cap) 254)) = W0 at b1 b2 b3 hB0 hsz ⊢
 have hA' : l = [] ∨ ∃ b o, A = some ⟨b, o, none⟩ /\ b < w.heap.size /\ In W0 b o l := hA.imp id fun ⟨b, o, e, hb, hi⟩ => ⟨b, o, e, hb, hi.below hb hB0⟩
 refine wpIn_rangeFunc_ownH rfl (by omega) (gf := 190) (lb := #[.pointer (some ⟨w.heap.size + 1 + 1 + 1, 0, none⟩)]) rfl trivial (enters_of Tryz.func190 (by kernel_rfl) rfl)
  (Qe9 Fence.wide _ trivial rfl (by omega) (w.heap.size + 1 + 1 + 1) w.heap.size cap A l hl W0 (by omega) (by omega) (b3.cell rfl) hA') belowK_t (belowK_b (by omega)) (Below.refl _ _) (fun _ => rfl)
  (fun pre W => (vals pre).all Qc0 = true /\ Blk W (w.heap.size + 1 + 1) 4 #[.bool false] /\ Blk W (w.heap.size + 1) 223 #[.func (.func 182) #[] #[]] /\ Below w.heap.size w W)
  (fun c pre W => c = .ret /\ (vals pre).all Qc0 = false /\ Blk W (w.heap.size + 1 + 1) 4 #[.bool false] /\ Below w.heap.size w W)
  (fun s X Y row hs hg hr => by
   obtain ⟨em, bR, bF, hB⟩ := hs
   exact ⟨em, Qbh bR hg hr, Qbh bF hg hr, ownFrom_below (β := Unit) (Nat.le_refl _) (by omega) () X Y row hB hg hr⟩)
  (fun c s X Y row hs hg hr => by
   obtain ⟨hc, em, bR, hB⟩ := hs
   exact ⟨hc, em, Qbh bR hg hr, ownFrom_below (β := Unit) (Nat.le_refl _) (by omega) () X Y row hB hg hr⟩)
  ⟨rfl, b2, b1, hB0⟩
  (fun x a' W => ∃ Bx, w.heap.size + 1 + 1 < Bx /\ Blk W Bx 225 (Qbf x.1.off x.1.key x.1.text x.1.who x.1.time) /\ a' = { tmps := #[.agg (Qap start next A l.length cap), .func (.func 182) #[] #[], .pointer (some ⟨w.heap.size, 0, none⟩), .pointer (some ⟨w.heap.size + 1, 0, none⟩), .pointer (some ⟨w.heap.size + 1 + 1, 0, none⟩), .pointer (some ⟨Bx, 0, none⟩), .agg (Qap start next A l.length cap), .func (.func 190) #[] #[.pointer (some ⟨w.heap.size + 1 + 1 + 1, 0, none⟩)], x.1.v, undef, undef, undef, undef], defers := [] })
  (fun x a' _ X Y row hs hg hr => by obtain ⟨Bx, h1, h2, h3⟩ := hs; exact ⟨Bx, h1, Qbh h2 hg hr, h3⟩)
  ?assign ?body ?done ?stop
 case assign =>
  rintro l' pre x W K ⟨em, bR, bF, hB⟩ hK
  dsimp only [It.v] at hK ⊢
  gi_wp2
  exact hK _ _ ((KeepsOthers.alloc _ _).from _) ((Below.refl _ W).alloc hB.size _) ⟨em, bR.alloc _, bF.alloc _, hB.alloc hB.size _⟩ ⟨W.heap.size, bR.lt, Blk.new W _ _, rfl⟩
 case body =>
  rintro l' pre x a' W hl' hr' ⟨em, bR, bF, hB⟩ ⟨Bx, hBx, bX, rfl⟩ hlt
  obtain ⟨x0, x1, x2, x3, x4⟩ := bX.item
  obtain ⟨cF, fF⟩ := bF.one
  obtain ⟨cR, fR⟩ := bR.one
  have hsW := hB.size
  have q1 := bR.lt
  have q2 := bF.lt
  have qx := bX.lt
  obtain ⟨hk, ht⟩ := hs x.1 x.2
  dsimp only [It.v]
  have Hs : Hid ((vals (pre ++ [x])).all Qc0 = Qeu x.1.key x.1.text x.1.who x.1.time) := by show (vals (pre ++ [x])).all Qc0 = _; rw [Qgg, List.all_append, em]; simp [Qc0]
  cases h1 : Qeu x.1.key x.1.text x.1.who x.1.time
  . gi_wp2_with (refine ⟨trivial, ?_⟩; gi_at_call 182; refine (CallsIn.inRound l' (callsIn_wide.2 (Qd0 _ _ _ _ _ hk ht _))).mono ?_; rintro e w1 ⟨rfl, g1⟩; have bR1 := bR.below g1 q1; obtain ⟨cR1, fR1⟩ := bR1.one; rw [h1])
    exact ⟨((Qei g1).trans (KeepsOthers.setCell _ _ _)).from _, rfl, Hs.out.trans h1, bR1.set _, (hB.trans (g1.mono hsW)).setCell (p := ⟨w.heap.size + 1 + 1, 0, none⟩) (by simp; omega) _⟩
  . gi_wp2_with (refine ⟨trivial, ?_⟩; gi_at_call 182; refine (CallsIn.inRound l' (callsIn_wide.2 (Qd0 _ _ _ _ _ hk ht _))).mono ?_; rintro e w1 ⟨rfl, g1⟩; have bR1 := bR.below g1 q1; obtain ⟨cR1, fR1⟩ := bR1.one; rw [h1])
    exact ⟨(Qei g1).from _, g1.mono hsW, Hs.out.trans h1, bR1, bF.below g1 q2, hB.trans (g1.mono hsW)⟩
 case done =>
  rintro D ys W hD hys ⟨em, bR, bF, hB⟩ hK
  obtain ⟨cR, fR⟩ := bR.one
  gi_wp2
  have hK' := (KeepsOthers.setCell W ⟨w.heap.size + 1 + 1, 0, none⟩ (.bool true)).same D _ hK rfl
  refine ⟨by simp, .inl ⟨_, _, rfl, run_takeDeferred hK', ?_⟩⟩
  have hc5 := cell_kept (bR.set (.bool true)).one.1 (grownBy_putObj' _ D (.deferred none)) (fun r e => by cases e; exact ⟨_, hK', rfl⟩)
  refine ⟨.bool true, ?_, by rw [hys] at em; rw [em], (hB.setCell (p := ⟨w.heap.size + 1 + 1, 0, none⟩) (by simp; omega) _).trans (belowK_b (w := w) (Nat.le_refl _) _ D _ _ (by omega) hK' rfl rfl)⟩
  simp [results, Tryz.f181, go_sem, hc5]
 case stop =>
  rintro D c pre W hD hpre ⟨rfl, em, bR, hB⟩ hK
  gi_wp2
  refine ⟨by simp, .inl ⟨_, _, rfl, run_takeDeferred hK, ?_⟩⟩
  have hc5 := cell_kept bR.one.1 (grownBy_putObj' _ D (.deferred none)) (fun r e => by cases e; exact ⟨_, hK, rfl⟩)
  have hall : l.all Qc0 = false := by obtain ⟨r, hr⟩ := hpre; rw [← hr, List.all_append, em]; rfl
  refine ⟨.bool false, ?_, by rw [hall], hB.trans (belowK_b (w := w) (Nat.le_refl _) W D _ _ (by omega) hK rfl rfl)⟩
  simp [results, Tryz.f181, go_sem, hc5]
theorem five (p q r s t : Bool) : p = false ∨ (p = true /\ q = false) ∨ (p = true /\ q = true /\ r = false) ∨ (p = true /\ q = true /\ r = true /\ s = false) ∨ (p = true /\ q = true /\ r = true /\ s = true /\ t = false) ∨ (p = true /\ q = true /\ r = true /\ s = true /\ t = true) := by
 cases p<;>cases q<;>cases r<;>cases s<;>cases t<;>simp
def okB (start next : Int) (l : List It) : Bool := inB next 0 100000 && inB start 0 next && decide ((l.length : Int) <= 80) && (ascF next start l).isSome && l.all Qc0
theorem Qgz (start next : Int) (A : Option Addr) (cap : Nat) (l : List It) (hl : l.length <= 2000000) (hs : ∀ x ∈ l, x.key.size <= 9223372036854775807 /\ x.text.size <= 9223372036854775807) (w : World) (hA : l = [] ∨ ∃ b o, A = some ⟨b, o, none⟩ /\ b < w.heap.size /\ In w b o l) :
 Calls Tryz.prog 162 #[.agg (Qap start next A l.length cap)] w fun e w' => e = .returned (.bool (okB start next l)) /\ Below w.heap.size w w' := by
 have Hs : Hid (∀ x ∈ l, x.key.size <= 9223372036854775807 /\ x.text.size <= 9223372036854775807) := hs
 have HA : Hid (l = [] ∨ ∃ b o, A = some ⟨b, o, none⟩ /\ b < w.heap.size /\ In w b o l) := hA
 have hat : ∀ w1, Below w.heap.size w w1 -> (l = [] ∨ ∃ b o, A = some ⟨b, o, none⟩ /\ b < w1.heap.size /\ In w1 b o l) := fun w1 gB => hA.imp id fun ⟨b, o, e, hb, hi⟩ => ⟨b, o, e, Nat.lt_of_lt_of_le hb gB.size, hi.below hb gB⟩
 have Hat : Hid (∀ w1, Below w.heap.size w w1 -> (l = [] ∨ ∃ b o, A = some ⟨b, o, none⟩ /\ b < w1.heap.size /\ In w1 b o l)) := hat
 clear hA hs hat
 rcases five (inB next 0 100000) (inB start 0 next) (decide ((l.length : Int) <= 80)) (ascF next start l).isSome (l.all Qc0) with h1 | ⟨h1, h2⟩ | ⟨h1, h2, h3⟩ | ⟨h1, h2, h3, h4⟩ | ⟨h1, h2, h3, h4, h5⟩ | ⟨h1, h2, h3, h4, h5⟩
 all_goals
  have hv : Hid (okB start next l = (inB next 0 100000 && inB start 0 next && decide ((l.length : Int) <= 80) && (ascF next start l).isSome && l.all Qc0)) := rfl
  go_enter Tryz.func162, Tryz.ntmps162
  have q1 : w.heap.size < w.heap.size + 1 := Nat.lt_succ_self _
  go_wp2_with (first
   | (go_at_call 89; refine (within_any _ _ _ _).mono ?_; rintro e w' ⟨rfl, rfl⟩)
   | (go_at_call 180; refine (Qil start next A cap l hl _ (Hat.out _ ((Below.refl _ w).alloc (Nat.le_refl _) _))).mono ?_; rintro e w1 ⟨rfl, g1⟩; obtain ⟨c1, f1⟩ := Qax g1; have s1 := g1.size; have gB : Below w.heap.size w w1 := via0 g1 ((Below.refl _ w).alloc (Nat.le_refl _) _); have q1 : w.heap.size < w1.heap.size := Nat.lt_of_lt_of_le (by simp) s1)
   | (go_at_call 181; go_loud (refine (Qh7 start next A cap l hl Hs.out _ (Hat.out _ (by assumption))).mono ?_; rintro e w2 ⟨rfl, g2⟩)))
  go_ret
  refine ⟨by rw [hv.out]; simp [*], ?_⟩
  repeat (first | exact Below.refl _ _ | refine via0 (by assumption) ?_ | refine Below.drew ?_ | refine Qab ?_ _)
theorem wrap_small {a : Int} (h1 : 0 <= a) (h2 : a <= 1000000) : wrap64 a = a := by unfold wrap64; omega
def ahead (p : Option Int) (x : Int) : Bool := match p with | none => true | some o => decide (o < x)
theorem Qhe (start next : Int) (hn : next <= 100000) (hs : 0 <= start) : ∀ (l : List It) (p : Option Int) (m : Int), (p = none /\ m = start) ∨ (∃ o, p = some o /\ m = o + 1 /\ start <= o) ->
 ((l.foldl (Qb0 next) (some m)).isSome && l.all Qc0) = chain start (next - 1) p l
 | [], p, m, _ => rfl
 | x :: l, p, m, h => by
  have none_fold : ∀ r : List It, r.foldl (Qb0 next) none = none := fun r => by induction r with | nil => rfl | cons a r ih => exact ih
  have ec : chain start (next - 1) p (x :: l) = (Qc0 x && inB x.off start (next - 1) && ahead p x.off && chain start (next - 1) (some x.off) l) := by cases p<;>rfl
  rw [List.foldl_cons, List.all_cons, ec]
  by_cases hc : x.off < m ∨ next <= x.off
  . have e1 : Qb0 next (some m) x = none := by simp [Qb0, hc]
    rw [e1, none_fold]
    have e2 : (inB x.off start (next - 1) && ahead p x.off) = false := by
     rcases h with ⟨rfl, rfl⟩ | ⟨o, rfl, rfl, _⟩
     . simp [inB, ahead]; omega
     . simp [inB, ahead]; omega
    cases hi : Qc0 x<;>simp_all [Bool.and_assoc]
  . have e1 : Qb0 next (some m) x = some (x.off + 1) := by
     have hw : wrap64 (x.off + 1) = x.off + 1 := wrap_small (by rcases h with ⟨rfl, rfl⟩ | ⟨o, rfl, rfl, _⟩<;>omega) (by omega)
     simp [Qb0, hc, hw]
    have e2 : inB x.off start (next - 1) = true := by
     rcases h with ⟨rfl, rfl⟩ | ⟨o, rfl, rfl, _⟩<;>simp [inB]<;>omega
    have e3 : ahead p x.off = true := by
     rcases h with ⟨rfl, rfl⟩ | ⟨o, rfl, rfl, _⟩
     . rfl
     . simp [ahead]; omega
    rw [e1, e2, e3, ← Qhe start next hn hs l (some x.off) (x.off + 1) (.inr ⟨x.off, rfl, rfl, by rcases h with ⟨rfl, rfl⟩ | ⟨o, rfl, rfl, _⟩<;>omega⟩)]
    cases Qc0 x<;>simp
theorem okB_row (start next : Int) (l : List It) : okB start next l = rowB start next l := by
 unfold okB rowB
 by_cases h : (0 <= start /\ start <= next) /\ next <= 100000
 . have e := Qhe start next h.2 h.1.1 l none start (.inl ⟨rfl, rfl⟩)
   have e1 : inB next 0 100000 = true := by simp [inB]; omega
   have e2 : inB start 0 next = true := by simp [inB]; omega
   have e3 : decide (next <= 100000) = true := by simp; omega
   have e4 : Qar start (next - 1) l 0 = chain start (next - 1) none l := rfl
   have e5 : decide ((l.length : Int) <= 80) = decide (l.length <= 80) := decide_eq_decide.2 (by omega)
   rw [e1, e2, e3, e4, ← e, e5]
   unfold ascF
   cases decide (l.length <= 80)<;>simp
 . have e : (inB start 0 next && decide (next <= 100000)) = false := by
    simp only [inB, Bool.and_eq_false_iff, decide_eq_false_iff_not]; omega
   have e' : (inB next 0 100000 && inB start 0 next) = false := by
    simp only [inB, Bool.and_eq_false_iff, decide_eq_false_iff_not]; omega
   rw [e', Bool.and_assoc (Qar start (next - 1) l 0), e]
   simp
theorem implRowOk_any (start next : Int) (A : Option Addr) (cap : Nat) (l : List It) (hl : l.length <= 2000000) (hs : ∀ x ∈ l, x.key.size <= 9223372036854775807 /\ x.text.size <= 9223372036854775807) (w : World) (hA : l = [] ∨ ∃ b o, A = some ⟨b, o, none⟩ /\ b < w.heap.size /\ In w b o l) :
 Calls Tryz.prog 162 #[.agg (Qap start next A l.length cap)] w fun e w' => e = .returned (.bool (rowB start next l)) /\ Below w.heap.size w w' := by
 rw [← okB_row]
 exact Qgz start next A cap l hl hs w hA
end Go.Proofs.YtkmkldjipihceaaGreat.Items
