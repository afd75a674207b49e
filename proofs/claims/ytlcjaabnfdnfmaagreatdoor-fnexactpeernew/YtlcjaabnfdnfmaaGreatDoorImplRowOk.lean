/-
  The program's rowOf.hasOnly (at isRightItem) and RowOk at this seat.
-/
import Derived.Test.YtlcjaabnfdnfmaaGreatDoorImplRight
set_option linter.unusedVariables false
set_option linter.unusedSimpArgs false
set_option maxRecDepth 100000
set_option maxHeartbeats 8000000
namespace Go.Proofs.YtlcjaabnfdnfmaaGreatDoor.Items
open ChangeShapes WideShapes ChangeAt RowKit Shelf Base
attribute [local go_sem] Oper.semAt_some
theorem Qfd {W W' : World} (h : Below W.heap.size W W') : KeepsOthers W W' :=
 ⟨h.size, fun k o hk _ => (h.block k (Array.getElem?_eq_some_iff.1 hk).1).trans hk⟩
theorem Qkm (start next : Int) (A : Option Addr) (cap : Nat) (l : List It) (hl : l.length <= 2000000) (hs : ∀ x ∈ l, x.key.size <= 9223372036854775807 /\ x.text.size <= 9223372036854775807) (w : World) (hA : l = [] ∨ ∃ b o, A = some ⟨b, o, none⟩ /\ b < w.heap.size /\ In w b o l) :
 Calls Tryz.prog 144 #[.agg #[.int .i64 start, .int .i64 next, .slice A l.length cap], .func (.func 145) #[] #[]] w fun e w' => e = .returned (.bool (l.all Qdd)) /\ Below w.heap.size w w' := by
 refine (callsIn_wide (n := 9)).1 ?_
 refine callsIn_of_wp_marks Tryz.func144 rfl trivial ?_ rfl
 simp only [Tryz.ntmps144]
 simp only [List.size_toArray, List.length_cons, List.length_nil, Nat.reduceAdd, Nat.reduceSub, Array.replicate_succ, Array.replicate_zero, List.push_toArray, List.append_toArray, List.nil_append, List.cons_append]
 gi_wp2_with (refine ⟨trivial, ?_⟩; gi_at_call 176; refine (told_in Fence.wide _ trivial rfl _ _ _ _ _ _).mono ?_; rintro e w' ⟨rfl, rfl⟩)
 have b1 := ((Blk.new (w.alloc (.cells #[.int .i64 start, .int .i64 next, .slice A l.length cap] 133)) 163 #[.func (.func 145) #[] #[]]).alloc (.cells #[.bool false] 4)).alloc (.cells #[.int .i64 start, .int .i64 next, .slice A l.length cap] 133)
 have b2 := (Blk.new ((w.alloc (.cells #[.int .i64 start, .int .i64 next, .slice A l.length cap] 133)).alloc (.cells #[.func (.func 145) #[] #[]] 163)) 4 #[.bool false]).alloc (.cells #[.int .i64 start, .int .i64 next, .slice A l.length cap] 133)
 have b3 := Blk.new (((w.alloc (.cells #[.int .i64 start, .int .i64 next, .slice A l.length cap] 133)).alloc (.cells #[.func (.func 145) #[] #[]] 163)).alloc (.cells #[.bool false] 4)) 133 #[.int .i64 start, .int .i64 next, .slice A l.length cap]
 have hB0 : Below w.heap.size w ((((w.alloc (.cells #[.int .i64 start, .int .i64 next, .slice A l.length cap] 133)).alloc (.cells #[.func (.func 145) #[] #[]] 163)).alloc (.cells #[.bool false] 4)).alloc (.cells #[.int .i64 start, .int .i64 next, .slice A l.length cap] 133)) := ((((Below.refl _ w).alloc (Nat.le_refl _) _).alloc (by simp) _).alloc (by simp; omega) _).alloc (by simp; omega) _
 have hsz : ((((w.alloc (.cells #[.int .i64 start, .int .i64 next, .slice A l.length cap] 133)).alloc (.cells #[.func (.func 145) #[] #[]] 163)).alloc (.cells #[.bool false] 4)).alloc (.cells #[.int .i64 start, .int .i64 next, .slice A l.length cap] 133)).heap.size = w.heap.size + 4 := by simp
 simp only [World.size_alloc] at b1 b2 b3
 generalize ((((w.alloc (.cells #[.int .i64 start, .int .i64 next, .slice A l.length cap] 133)).alloc (.cells #[.func (.func 145) #[] #[]] 163)).alloc (.cells #[.bool false] 4)).alloc (.cells #[.int .i64 start, .int .i64 next, .slice A l.length cap] 133)) = W0 at b1 b2 b3 hB0 hsz ⊢
 have hA' : l = [] ∨ ∃ b o, A = some ⟨b, o, none⟩ /\ b < w.heap.size /\ In W0 b o l := hA.imp id fun ⟨b, o, e, hb, hi⟩ => ⟨b, o, e, hb, hi.below hb hB0⟩
 refine wpIn_rangeFunc_ownH rfl (by omega) (gf := 204) (lb := #[.pointer (some ⟨w.heap.size + 1 + 1 + 1, 0, none⟩)]) rfl trivial (enters_of Tryz.func204 (by kernel_rfl) rfl)
  (Qgj Fence.wide _ trivial rfl (by omega) (w.heap.size + 1 + 1 + 1) w.heap.size cap A l hl W0 (by omega) (by omega) (b3.cell rfl) hA') belowK_t (belowK_b (by omega)) (Below.refl _ _) (fun _ => rfl)
  (fun pre W => (vals pre).all Qdd = true /\ Blk W (w.heap.size + 1 + 1) 4 #[.bool false] /\ Blk W (w.heap.size + 1) 163 #[.func (.func 145) #[] #[]] /\ Below w.heap.size w W)
  (fun c pre W => c = .ret /\ (vals pre).all Qdd = false /\ Blk W (w.heap.size + 1 + 1) 4 #[.bool false] /\ Below w.heap.size w W)
  (fun s X Y row hs hg hr => by
   obtain ⟨em, bR, bF, hB⟩ := hs
   exact ⟨em, Qbl bR hg hr, Qbl bF hg hr, ownFrom_below (β := Unit) (Nat.le_refl _) (by omega) () X Y row hB hg hr⟩)
  (fun c s X Y row hs hg hr => by
   obtain ⟨hc, em, bR, hB⟩ := hs
   exact ⟨hc, em, Qbl bR hg hr, ownFrom_below (β := Unit) (Nat.le_refl _) (by omega) () X Y row hB hg hr⟩)
  ⟨rfl, b2, b1, hB0⟩
  (fun x a' W => ∃ Bx, w.heap.size + 1 + 1 < Bx /\ Blk W Bx 136 #[.int .i64 x.1.off, .string x.1.key, .string x.1.text, .int .i64 x.1.who, .int .i64 x.1.time] /\ a' = { tmps := #[.agg #[.int .i64 start, .int .i64 next, .slice A l.length cap], .func (.func 145) #[] #[], .pointer (some ⟨w.heap.size, 0, none⟩), .pointer (some ⟨w.heap.size + 1, 0, none⟩), .pointer (some ⟨w.heap.size + 1 + 1, 0, none⟩), .pointer (some ⟨Bx, 0, none⟩), .agg #[.int .i64 start, .int .i64 next, .slice A l.length cap], .func (.func 204) #[] #[.pointer (some ⟨w.heap.size + 1 + 1 + 1, 0, none⟩)], x.1.v, undef, undef, undef, undef], defers := [] })
  (fun x a' _ X Y row hs hg hr => by obtain ⟨Bx, h1, h2, h3⟩ := hs; exact ⟨Bx, h1, Qbl h2 hg hr, h3⟩)
  ?assign ?body ?done ?stop
 case assign =>
  rintro l' pre x W K ⟨em, bR, bF, hB⟩ hK
  dsimp only [It.v] at hK ⊢
  gi_wp2
  exact hK _ _ ((KeepsOthers.alloc _ _).from _) ((Below.refl _ W).alloc hB.size _) ⟨em, bR.alloc _, bF.alloc _, hB.alloc hB.size _⟩ ⟨W.heap.size, bR.lt, Blk.new W _ _, rfl⟩
 case body =>
  rintro l' pre x a' W hl' hr' ⟨em, bR, bF, hB⟩ ⟨Bx, hBx, bX, rfl⟩ hlt
  obtain ⟨x0, x1, x2, x3, x4⟩ := bX.item
  obtain ⟨cF, fF⟩ := bF.one
  obtain ⟨cR, fR⟩ := bR.one
  have hsW := hB.size
  have q1 := bR.lt
  have q2 := bF.lt
  have qx := bX.lt
  obtain ⟨hk, ht⟩ := hs x.1 x.2
  dsimp only [It.v]
  have Hs : Hid ((vals (pre ++ [x])).all Qdd = Qfx x.1.key x.1.text x.1.who x.1.time) := by show (vals (pre ++ [x])).all Qdd = _; rw [Qht, List.all_append, em]; simp [Qdd]
  cases h1 : Qfx x.1.key x.1.text x.1.who x.1.time
  . gi_wp2_with (refine ⟨trivial, ?_⟩; gi_at_call 145; refine (CallsIn.inRound l' (callsIn_wide.2 (Qek _ _ _ _ _ hk ht _))).mono ?_; rintro e w1 ⟨rfl, g1⟩; have bR1 := bR.below g1 q1; obtain ⟨cR1, fR1⟩ := bR1.one; rw [h1])
    exact ⟨((Qfd g1).trans (KeepsOthers.setCell _ _ _)).from _, rfl, Hs.out.trans h1, bR1.set _, (hB.trans (g1.mono hsW)).setCell (p := ⟨w.heap.size + 1 + 1, 0, none⟩) (by simp; omega) _⟩
  . gi_wp2_with (refine ⟨trivial, ?_⟩; gi_at_call 145; refine (CallsIn.inRound l' (callsIn_wide.2 (Qek _ _ _ _ _ hk ht _))).mono ?_; rintro e w1 ⟨rfl, g1⟩; have bR1 := bR.below g1 q1; obtain ⟨cR1, fR1⟩ := bR1.one; rw [h1])
    exact ⟨(Qfd g1).from _, g1.mono hsW, Hs.out.trans h1, bR1, bF.below g1 q2, hB.trans (g1.mono hsW)⟩
 case done =>
  rintro D ys W hD hys ⟨em, bR, bF, hB⟩ hK
  obtain ⟨cR, fR⟩ := bR.one
  gi_wp2
  have hK' := (KeepsOthers.setCell W ⟨w.heap.size + 1 + 1, 0, none⟩ (.bool true)).same D _ hK rfl
  refine ⟨by simp, .inl ⟨_, _, rfl, run_takeDeferred hK', ?_⟩⟩
  have hc5 := cell_kept (bR.set (.bool true)).one.1 (grownBy_putObj' _ D (.deferred none)) (fun r e => by cases e; exact ⟨_, hK', rfl⟩)
  refine ⟨.bool true, ?_, by rw [hys] at em; rw [em], (hB.setCell (p := ⟨w.heap.size + 1 + 1, 0, none⟩) (by simp; omega) _).trans (belowK_b (w := w) (Nat.le_refl _) _ D _ _ (by omega) hK' rfl rfl)⟩
  simp [results, Tryz.f144, go_sem, hc5]
 case stop =>
  rintro D c pre W hD hpre ⟨rfl, em, bR, hB⟩ hK
  gi_wp2
  refine ⟨by simp, .inl ⟨_, _, rfl, run_takeDeferred hK, ?_⟩⟩
  have hc5 := cell_kept bR.one.1 (grownBy_putObj' _ D (.deferred none)) (fun r e => by cases e; exact ⟨_, hK, rfl⟩)
  have hall : l.all Qdd = false := by obtain ⟨r, hr⟩ := hpre; rw [← hr, List.all_append, em]; rfl
  refine ⟨.bool false, ?_, by rw [hall], hB.trans (belowK_b (w := w) (Nat.le_refl _) W D _ _ (by omega) hK rfl rfl)⟩
  simp [results, Tryz.f144, go_sem, hc5]
theorem five (p q r s t : Bool) : p = false ∨ (p = true /\ q = false) ∨ (p = true /\ q = true /\ r = false) ∨ (p = true /\ q = true /\ r = true /\ s = false) ∨ (p = true /\ q = true /\ r = true /\ s = true /\ t = false) ∨ (p = true /\ q = true /\ r = true /\ s = true /\ t = true) := by
 cases p<;>cases q<;>cases r<;>cases s<;>cases t<;>simp
def okB (start next : Int) (l : List It) : Bool := inB next 0 100000 && inB start 0 next && decide ((l.length : Int) <= 80) && (ascF next start l).isSome && l.all Qdd
theorem Qi4 (start next : Int) (A : Option Addr) (cap : Nat) (l : List It) (hl : l.length <= 2000000) (hs : ∀ x ∈ l, x.key.size <= 9223372036854775807 /\ x.text.size <= 9223372036854775807) (w : World) (hA : l = [] ∨ ∃ b o, A = some ⟨b, o, none⟩ /\ b < w.heap.size /\ In w b o l) :
 Calls Tryz.prog 101 #[.agg #[.int .i64 start, .int .i64 next, .slice A l.length cap]] w fun e w' => e = .returned (.bool (okB start next l)) /\ Below w.heap.size w w' := by
 have Hs : Hid (∀ x ∈ l, x.key.size <= 9223372036854775807 /\ x.text.size <= 9223372036854775807) := hs
 have HA : Hid (l = [] ∨ ∃ b o, A = some ⟨b, o, none⟩ /\ b < w.heap.size /\ In w b o l) := hA
 have hat : ∀ w1, Below w.heap.size w w1 -> (l = [] ∨ ∃ b o, A = some ⟨b, o, none⟩ /\ b < w1.heap.size /\ In w1 b o l) := fun w1 gB => hA.imp id fun ⟨b, o, e, hb, hi⟩ => ⟨b, o, e, Nat.lt_of_lt_of_le hb gB.size, hi.below hb gB⟩
 have Hat : Hid (∀ w1, Below w.heap.size w w1 -> (l = [] ∨ ∃ b o, A = some ⟨b, o, none⟩ /\ b < w1.heap.size /\ In w1 b o l)) := hat
 clear hA hs hat
 rcases five (inB next 0 100000) (inB start 0 next) (decide ((l.length : Int) <= 80)) (ascF next start l).isSome (l.all Qdd) with h1 | ⟨h1, h2⟩ | ⟨h1, h2, h3⟩ | ⟨h1, h2, h3, h4⟩ | ⟨h1, h2, h3, h4, h5⟩ | ⟨h1, h2, h3, h4, h5⟩
 all_goals
  have hv : Hid (okB start next l = (inB next 0 100000 && inB start 0 next && decide ((l.length : Int) <= 80) && (ascF next start l).isSome && l.all Qdd)) := rfl
  go_enter Tryz.func101, Tryz.ntmps101
  have q1 : w.heap.size < w.heap.size + 1 := Nat.lt_succ_self _
  go_wp2_with (first
   | (go_at_call 44; refine (within_any _ _ _ _).mono ?_; rintro e w' ⟨rfl, rfl⟩)
   | (go_at_call 143; refine (Qky start next A cap l hl _ (Hat.out _ ((Below.refl _ w).alloc (Nat.le_refl _) _))).mono ?_; rintro e w1 ⟨rfl, g1⟩; obtain ⟨c1, f1⟩ := Qaj g1; have s1 := g1.size; have gB : Below w.heap.size w w1 := via0 g1 ((Below.refl _ w).alloc (Nat.le_refl _) _); have q1 : w.heap.size < w1.heap.size := Nat.lt_of_lt_of_le (by simp) s1)
   | (go_at_call 144; go_loud (refine (Qkm start next A cap l hl Hs.out _ (Hat.out _ (by assumption))).mono ?_; rintro e w2 ⟨rfl, g2⟩)))
  go_ret
  refine ⟨by rw [hv.out]; simp [*], ?_⟩
  repeat (first | exact Below.refl _ _ | refine via0 (by assumption) ?_ | refine Below.drew ?_ | refine Qaa ?_ _)
theorem wrap_small {a : Int} (h1 : 0 <= a) (h2 : a <= 1000000) : wrap64 a = a := by unfold wrap64; omega
def ahead (p : Option Int) (x : Int) : Bool := match p with | none => true | some o => decide (o < x)
theorem Qjn (start next : Int) (hn : next <= 100000) (hs : 0 <= start) : ∀ (l : List It) (p : Option Int) (m : Int), (p = none /\ m = start) ∨ (∃ o, p = some o /\ m = o + 1 /\ start <= o) ->
 ((l.foldl (Qb8 next) (some m)).isSome && l.all Qdd) = chain start (next - 1) p l
 | [], p, m, _ => rfl
 | x :: l, p, m, h => by
  have none_fold : ∀ r : List It, r.foldl (Qb8 next) none = none := fun r => by induction r with | nil => rfl | cons a r ih => exact ih
  have ec : chain start (next - 1) p (x :: l) = (Qdd x && inB x.off start (next - 1) && ahead p x.off && chain start (next - 1) (some x.off) l) := by cases p<;>rfl
  rw [List.foldl_cons, List.all_cons, ec]
  by_cases hc : x.off < m ∨ next <= x.off
  . have e1 : Qb8 next (some m) x = none := by simp [Qb8, hc]
    rw [e1, none_fold]
    have e2 : (inB x.off start (next - 1) && ahead p x.off) = false := by
     rcases h with ⟨rfl, rfl⟩ | ⟨o, rfl, rfl, _⟩
     . simp [inB, ahead]; omega
     . simp [inB, ahead]; omega
    cases hi : Qdd x<;>simp_all [Bool.and_assoc]
  . have e1 : Qb8 next (some m) x = some (x.off + 1) := by
     have hw : wrap64 (x.off + 1) = x.off + 1 := wrap_small (by rcases h with ⟨rfl, rfl⟩ | ⟨o, rfl, rfl, _⟩<;>omega) (by omega)
     simp [Qb8, hc, hw]
    have e2 : inB x.off start (next - 1) = true := by
     rcases h with ⟨rfl, rfl⟩ | ⟨o, rfl, rfl, _⟩<;>simp [inB]<;>omega
    have e3 : ahead p x.off = true := by
     rcases h with ⟨rfl, rfl⟩ | ⟨o, rfl, rfl, _⟩
     . rfl
     . simp [ahead]; omega
    rw [e1, e2, e3, ← Qjn start next hn hs l (some x.off) (x.off + 1) (.inr ⟨x.off, rfl, rfl, by rcases h with ⟨rfl, rfl⟩ | ⟨o, rfl, rfl, _⟩<;>omega⟩)]
    cases Qdd x<;>simp
theorem okB_row (start next : Int) (l : List It) : okB start next l = rowB start next l := by
 unfold okB rowB
 by_cases h : (0 <= start /\ start <= next) /\ next <= 100000
 . have e := Qjn start next h.2 h.1.1 l none start (.inl ⟨rfl, rfl⟩)
   have e1 : inB next 0 100000 = true := by simp [inB]; omega
   have e2 : inB start 0 next = true := by simp [inB]; omega
   have e3 : decide (next <= 100000) = true := by simp; omega
   have e4 : Qah start (next - 1) l 0 = chain start (next - 1) none l := rfl
   have e5 : decide ((l.length : Int) <= 80) = decide (l.length <= 80) := decide_eq_decide.2 (by omega)
   rw [e1, e2, e3, e4, ← e, e5]
   unfold ascF
   cases decide (l.length <= 80)<;>simp
 . have e : (inB start 0 next && decide (next <= 100000)) = false := by
    simp only [inB, Bool.and_eq_false_iff, decide_eq_false_iff_not]; omega
   have e' : (inB next 0 100000 && inB start 0 next) = false := by
    simp only [inB, Bool.and_eq_false_iff, decide_eq_false_iff_not]; omega
   rw [e', Bool.and_assoc (Qah start (next - 1) l 0), e]
   simp
theorem implRowOk_any (start next : Int) (A : Option Addr) (cap : Nat) (l : List It) (hl : l.length <= 2000000) (hs : ∀ x ∈ l, x.key.size <= 9223372036854775807 /\ x.text.size <= 9223372036854775807) (w : World) (hA : l = [] ∨ ∃ b o, A = some ⟨b, o, none⟩ /\ b < w.heap.size /\ In w b o l) :
 Calls Tryz.prog 101 #[.agg #[.int .i64 start, .int .i64 next, .slice A l.length cap]] w fun e w' => e = .returned (.bool (rowB start next l)) /\ Below w.heap.size w w' := by
 rw [← okB_row]
 exact Qi4 start next A cap l hl hs w hA
end Go.Proofs.YtlcjaabnfdnfmaaGreatDoor.Items
namespace Go.Proofs.YtlcjaabnfdnfmaaGreatDoor.Items
open ChangeShapes WideShapes ChangeAt RowKit Shelf Base
theorem Blk.thaw {W : World} {B : Nat} {t : TypeId} {vs : Array Value} (h : Blk W B t vs) (i : Nat) : W.frozen? ⟨B, i, none⟩ = false := by simp [World.frozen?, show W.heap[B]? = _ from h]
theorem Blk.setAt {W : World} {B : Nat} {t : TypeId} {vs : Array Value} (h : Blk W B t vs) (i : Nat) (v : Value) : Blk (W.setCell ⟨B, i, none⟩ v) B t (vs.setIfInBounds i v) := by
 obtain ⟨hlt, hk⟩ := Array.getElem?_eq_some_iff.1 h
 show (W.heap.modify B _)[B]? = _
 rw [Array.getElem?_eq_getElem (by rw [Array.size_modify]; exact hlt), Array.getElem_modify_self, hk]
 rfl
theorem Blk.drew {W : World} {B : Nat} {t : TypeId} {vs : Array Value} (h : Blk W B t vs) : Blk W.drew B t vs := h
theorem Qam {n : Nat} {a b : World} (h : Below n a b) {B i : Nat} (hn : n <= B) (v : Value) : Below n a (b.setCell ⟨B, i, none⟩ v) := h.setCell (p := ⟨B, i, none⟩) hn v
end Go.Proofs.YtlcjaabnfdnfmaaGreatDoor.Items
namespace Go.Proofs.YtlcjaabnfdnfmaaGreatDoor.Gen
open ChangeShapes WideShapes ChangeAt RowKit Joins Deep Base
instance : Cel Int where
  k := 1
  cs x := [.int .i64 x]
  len _ := rfl
  one x u hu := by simp at hu; subst hu; rfl
theorem In.getInt {w : World} {b o : Nat} {l : List Int} (h : In w b o l) (i : Nat) (hi : i < l.length) : w.cell? ⟨b, o + i, none⟩ = some (.int .i64 l[i]) := by
 have := h.cell i hi (f := 0) rfl
 have e : o + i * Cel.k Int + 0 = o + i := by show o + i * 1 + 0 = o + i; omega
 rwa [e] at this
theorem Qhz {w : World} {b o m n : Nat} (h : w.there b o (m * 1)) (hn : n < m) : (∃ v, w.cell? ⟨b, o + n, none⟩ = some v) /\ w.frozen? ⟨b, o + n, none⟩ = false := by
 have := Qaf (f := 0) h hn (by omega)
 rwa [Nat.mul_one, Nat.add_zero] at this
theorem Qcp : (Tryz.prog.info? 3).map (fun i => (i.zero, i.size, i.bytes)) = some (some (.int .i64 0), 1, 8) := by kernel_rfl
theorem Qcd (A A' : Option Addr) (cap cap' : Nat) (l : List Int) (hl : l.length <= 9223372036854775807) (w : World) (hA : At w A l) (hA' : At w A' l) :
 Calls Tryz.prog 22 #[.slice A l.length cap, .slice A' l.length cap'] w fun e w' => e = .returned (.bool true) /\ Below w.heap.size w w' := by
 have HA : Hid (At w A l) := hA
 have HA' : Hid (At w A' l) := hA'
 clear hA hA'
 go_enter Tryz.func22, Tryz.ntmps22
 go_wp2
 go_loopw [5] (fun i w' => ∃ (n : Nat), i = .int .i64 (n : Int) /\ n <= l.length /\ Below w.heap.size w w') (fun i _ => l.length - (intOf i).toNat)
 case atStart => exact ⟨0, rfl, by omega, Below.refl _ _⟩
 case round =>
  obtain ⟨n, rfl, hn, hbl⟩ := hrel
  by_cases hlt : n < l.length
  . obtain ⟨b, o, rfl, hbs, hin⟩ : ∃ b o, A = some ⟨b, o, none⟩ /\ b < w.heap.size /\ In w b o l := by
     rcases HA.out with h | h
     . subst h; simp at hlt
     . exact h
    obtain ⟨b', o', rfl, hbs', hin'⟩ : ∃ b o, A' = some ⟨b, o, none⟩ /\ b < w.heap.size /\ In w b o l := by
     rcases HA'.out with h | h
     . subst h; simp at hlt
     . exact h
    have c0 := (hin.below hbs hbl).getInt n hlt
    have d0 := (hin'.below hbs' hbl).getInt n hlt
    have hi0 : (0 : Int) <= (n : Int) := by omega
    have hi1 : (n : Int) < (l.length : Int) := by omega
    go_wp2
    go_region
    all_goals
     go_wp2
     exact ⟨⟨n + 1, by go_num, by omega, by repeat (first | exact hbl | refine Below.drew ?_)⟩, by simp [intOf]; omega⟩
  . go_wp2
    go_ret
    exact ⟨rfl, hbl⟩
def Qae (n : Nat) (z : Int) : List Int := (List.range n).map fun (i : Nat) => z + (i : Int)
theorem Qan (n : Nat) (z : Int) : (Qae n z).length = n := by simp [Qae]
theorem Qg2 (n : Nat) (z : Int) : Qae (n + 1) z = Qae n z ++ [z + (n : Int)] := by simp [Qae, List.range_succ]
theorem Qik (n : Nat) (z : Int) (i : Nat) (h : i < (Qae n z).length) : (Qae n z)[i] = z + (i : Int) := by simp [Qae]
theorem Qkc (b o cap m : Nat) (k : Int) (hk : 1 <= k) (hk' : k <= 100000000) (hm : m <= 2000000) (w : World) (hb : b < w.heap.size) (hth : w.there b o (m * 1)) :
 Calls Tryz.prog 28 #[.slice (some ⟨b, o, none⟩) m cap, .int .i64 k] w fun e w' => e = .returned (.int .i64 (k + (m : Int))) /\ Only b w w' /\ In w' b o (Qae m k) /\ w'.there b o (m * 1) := by
 have HT : Hid (w.there b o (m * 1)) := hth
 clear hth
 go_enter Tryz.func28, Tryz.ntmps28
 go_wp2
 go_loopw [1, 5] (fun kk i w' => ∃ (n : Nat) (z : Int), i = .int .i64 (n : Int) /\ kk = .int .i64 z /\ n <= m /\ 1 <= z /\ z <= 900000000 /\ Only b w w' /\ Hid (z = k + (n : Int)) /\ Hid (In w' b o (Qae n k)) /\ Hid (w'.there b o (m * 1))) (fun _ i _ => m - (intOf i).toNat)
 case atStart => exact ⟨0, k, rfl, rfl, by omega, hk, by omega, Only.refl _ _, by simp [Hid], fun j v hv => by simp [Qae, flat] at hv, HT.out⟩
 case round =>
  obtain ⟨n, z, rfl, rfl, hn, hz1, hz2, ho, hz, hin, hth⟩ := hrel
  by_cases hlt : n < m
  . obtain ⟨⟨v0, d0⟩, f0⟩ := Qhz hth.out hlt
    have q1 : b < wr.heap.size := Nat.lt_of_lt_of_le hb ho.size
    go_wp2
    have hlen : (flat (Qae n k)).length = n := by rw [Qap, Qan]; show n * 1 = n; omega
    have P0 := push (v := .int .i64 z) (q := o + n) ⟨hin.out, hth.out, q1⟩ (by simp [hlen]; omega) (by simp [hlen])
    have e : flat (Qae n k) ++ [Value.int .i64 z] = flat (Qae (n + 1) k) := by rw [Qg2, Qa1, Qbp, hz.out]; rfl
    rw [e] at P0
    have hz' := hz.out
    refine ⟨⟨n + 1, z + 1, by go_num, rfl, by omega, by omega, by omega, ?_, by show z + 1 = _; omega, P0.1, P0.2.1⟩, by simp [intOf]; omega⟩
    exact ho.set _ _
  . obtain rfl : n = m := by omega
    go_wp2
    go_ret
    have e := hz.out
    subst e
    exact ⟨rfl, ho, hin.out, hth.out⟩
theorem Qiv (A : Option Addr) (cap : Nat) (k : Int) (w : World) :
 Calls Tryz.prog 28 #[.slice A 0 cap, .int .i64 k] w fun e w' => e = .returned (.int .i64 k) /\ w' = w := by
 go_enter Tryz.func28, Tryz.ntmps28
 go_wp2
 go_loopw [1, 5] (fun kk i w' => kk = .int .i64 k /\ i = .int .i64 0 /\ w' = w) (fun _ _ _ => 0)
 case atStart => exact ⟨rfl, rfl, rfl⟩
 case round =>
  obtain ⟨rfl, rfl, rfl⟩ := hrel
  go_wp2
  go_ret
  exact ⟨rfl, rfl⟩
theorem Qb3 (A : Option Addr) (cap m : Nat) (k : Int) (hk : 1 <= k) (hk' : k <= 100000000) (hm : m <= 2000000) (w : World)
 (hA : m = 0 ∨ ∃ b o, A = some ⟨b, o, none⟩ /\ b < w.heap.size /\ In w b o (Qae m k)) :
 Calls Tryz.prog 34 #[.slice A m cap, .int .i64 k] w fun e w' => e = .returned (.int .i64 (k + (m : Int))) /\ Below w.heap.size w w' := by
 have HA : Hid (m = 0 ∨ ∃ b o, A = some ⟨b, o, none⟩ /\ b < w.heap.size /\ In w b o (Qae m k)) := hA
 clear hA
 go_enter Tryz.func34, Tryz.ntmps34
 go_wp2
 go_loopw [1, 5] (fun kk i w' => ∃ (n : Nat) (z : Int), i = .int .i64 (n : Int) /\ kk = .int .i64 z /\ n <= m /\ 1 <= z /\ z <= 900000000 /\ Hid (z = k + (n : Int)) /\ Below w.heap.size w w') (fun _ i _ => m - (intOf i).toNat)
 case atStart => exact ⟨0, k, rfl, rfl, by omega, hk, by omega, by simp [Hid], Below.refl _ _⟩
 case round =>
  obtain ⟨n, z, rfl, rfl, hn, hz1, hz2, hz, hbl⟩ := hrel
  by_cases hlt : n < m
  . obtain ⟨b, o, rfl, hbs, hin⟩ : ∃ b o, A = some ⟨b, o, none⟩ /\ b < w.heap.size /\ In w b o (Qae m k) := by
     rcases HA.out with h | h
     . omega
     . exact h
    have c0 : wr.cell? ⟨b, o + n, none⟩ = some (.int .i64 z) := by
     have h := (hin.below hbs hbl).getInt n (by rw [Qan]; exact hlt)
     rw [Qik] at h
     rw [hz.out]
     exact h
    have hi0 : (0 : Int) <= (n : Int) := by omega
    have hi1 : (n : Int) < (m : Int) := by omega
    go_wp2
    try go_region
    all_goals
     try go_wp2
     have hz' := hz.out
     exact ⟨⟨n + 1, z + 1, by go_num, rfl, by omega, by omega, by omega, by show z + 1 = _; omega, by repeat (first | exact hbl | refine Below.drew ?_)⟩, by simp [intOf]; omega⟩
  . obtain rfl : n = m := by omega
    go_wp2
    go_ret
    have e := hz.out
    subst e
    exact ⟨rfl, hbl⟩
end Go.Proofs.YtlcjaabnfdnfmaaGreatDoor.Gen
namespace Go.Proofs.YtlcjaabnfdnfmaaGreatDoor.Gen
open ChangeShapes WideShapes ChangeAt RowKit Joins Deep Base
instance : Cel Bool where
  k := 1
  cs x := [.bool x]
  len _ := rfl
  one x u hu := by simp at hu; subst hu; rfl
theorem In.getBool {w : World} {b o : Nat} {l : List Bool} (h : In w b o l) (i : Nat) (hi : i < l.length) : w.cell? ⟨b, o + i, none⟩ = some (.bool l[i]) := by
 have := h.cell i hi (f := 0) rfl
 have e : o + i * Cel.k Bool + 0 = o + i := by show o + i * 1 + 0 = o + i; omega
 rwa [e] at this
theorem infoBool : (Tryz.prog.info? 4).map (fun i => (i.zero, i.size, i.bytes)) = some (some (.bool false), 1, 1) := by kernel_rfl
theorem Qku (A A' : Option Addr) (cap cap' : Nat) (l : List Bool) (hl : l.length <= 9223372036854775807) (w : World) (hA : At w A l) (hA' : At w A' l) :
 Calls Tryz.prog 21 #[.slice A l.length cap, .slice A' l.length cap'] w fun e w' => e = .returned (.bool true) /\ Below w.heap.size w w' := by
 have HA : Hid (At w A l) := hA
 have HA' : Hid (At w A' l) := hA'
 clear hA hA'
 go_enter Tryz.func21, Tryz.ntmps21
 go_wp2
 go_loopw [5] (fun i w' => ∃ (n : Nat), i = .int .i64 (n : Int) /\ n <= l.length /\ Below w.heap.size w w') (fun i _ => l.length - (intOf i).toNat)
 case atStart => exact ⟨0, rfl, by omega, Below.refl _ _⟩
 case round =>
  obtain ⟨n, rfl, hn, hbl⟩ := hrel
  by_cases hlt : n < l.length
  . obtain ⟨b, o, rfl, hbs, hin⟩ : ∃ b o, A = some ⟨b, o, none⟩ /\ b < w.heap.size /\ In w b o l := by
     rcases HA.out with h | h
     . subst h; simp at hlt
     . exact h
    obtain ⟨b', o', rfl, hbs', hin'⟩ : ∃ b o, A' = some ⟨b, o, none⟩ /\ b < w.heap.size /\ In w b o l := by
     rcases HA'.out with h | h
     . subst h; simp at hlt
     . exact h
    have c0 := (hin.below hbs hbl).getBool n hlt
    have d0 := (hin'.below hbs' hbl).getBool n hlt
    have hi0 : (0 : Int) <= (n : Int) := by omega
    have hi1 : (n : Int) < (l.length : Int) := by omega
    go_wp2
    go_region
    all_goals
     go_wp2
     exact ⟨⟨n + 1, by go_num, by omega, by repeat (first | exact hbl | refine Below.drew ?_)⟩, by simp [intOf]; omega⟩
  . go_wp2
    go_ret
    exact ⟨rfl, hbl⟩
def Qao (n : Nat) (z : Int) : List Bool := (List.range n).map fun (i : Nat) => (z + (i : Int)) % 3 == 0
theorem Qbo (n : Nat) (z : Int) : (Qao n z).length = n := by simp [Qao]
theorem Qfz (n : Nat) (z : Int) : Qao (n + 1) z = Qao n z ++ [(z + (n : Int)) % 3 == 0] := by simp [Qao, List.range_succ]
theorem Qg3 (n : Nat) (z : Int) (i : Nat) (h : i < (Qao n z).length) : (Qao n z)[i] = ((z + (i : Int)) % 3 == 0) := by simp [Qao]
theorem Qiy (b o cap m : Nat) (k : Int) (hk : 1 <= k) (hk' : k <= 100000000) (hm : m <= 2000000) (w : World) (hb : b < w.heap.size) (hth : w.there b o (m * 1)) :
 Calls Tryz.prog 27 #[.slice (some ⟨b, o, none⟩) m cap, .int .i64 k] w fun e w' => e = .returned (.int .i64 (k + (m : Int))) /\ Only b w w' /\ In w' b o (Qao m k) /\ w'.there b o (m * 1) := by
 have HT : Hid (w.there b o (m * 1)) := hth
 clear hth
 go_enter Tryz.func27, Tryz.ntmps27
 go_wp2
 go_loopw [1, 5] (fun kk i w' => ∃ (n : Nat) (z : Int), i = .int .i64 (n : Int) /\ kk = .int .i64 z /\ n <= m /\ 1 <= z /\ z <= 900000000 /\ Only b w w' /\ Hid (z = k + (n : Int)) /\ Hid (In w' b o (Qao n k)) /\ Hid (w'.there b o (m * 1))) (fun _ i _ => m - (intOf i).toNat)
 case atStart => exact ⟨0, k, rfl, rfl, by omega, hk, by omega, Only.refl _ _, by simp [Hid], fun j v hv => by simp [Qao, flat] at hv, HT.out⟩
 case round =>
  obtain ⟨n, z, rfl, rfl, hn, hz1, hz2, ho, hz, hin, hth⟩ := hrel
  by_cases hlt : n < m
  . obtain ⟨⟨v0, d0⟩, f0⟩ := Qhz hth.out hlt
    have q1 : b < wr.heap.size := Nat.lt_of_lt_of_le hb ho.size
    go_wp2
    have hlen : (flat (Qao n k)).length = n := by rw [Qap, Qbo]; show n * 1 = n; omega
    have P0 := push (v := .bool (z % 3 == 0)) (q := o + n) ⟨hin.out, hth.out, q1⟩ (by simp [hlen]; omega) (by simp [hlen])
    have e : flat (Qao n k) ++ [Value.bool (z % 3 == 0)] = flat (Qao (n + 1) k) := by rw [Qfz, Qa1, Qbp, hz.out]; rfl
    rw [e] at P0
    have hz' := hz.out
    refine ⟨⟨n + 1, z + 1, by go_num, rfl, by omega, by omega, by omega, ?_, by show z + 1 = _; omega, P0.1, P0.2.1⟩, by simp [intOf]; omega⟩
    exact ho.set _ _
  . obtain rfl : n = m := by omega
    go_wp2
    go_ret
    have e := hz.out
    subst e
    exact ⟨rfl, ho, hin.out, hth.out⟩
theorem Qg5 (A : Option Addr) (cap : Nat) (k : Int) (w : World) :
 Calls Tryz.prog 27 #[.slice A 0 cap, .int .i64 k] w fun e w' => e = .returned (.int .i64 k) /\ w' = w := by
 go_enter Tryz.func27, Tryz.ntmps27
 go_wp2
 go_loopw [1, 5] (fun kk i w' => kk = .int .i64 k /\ i = .int .i64 0 /\ w' = w) (fun _ _ _ => 0)
 case atStart => exact ⟨rfl, rfl, rfl⟩
 case round =>
  obtain ⟨rfl, rfl, rfl⟩ := hrel
  go_wp2
  go_ret
  exact ⟨rfl, rfl⟩
theorem Qi9 (A : Option Addr) (cap m : Nat) (k : Int) (hk : 1 <= k) (hk' : k <= 100000000) (hm : m <= 2000000) (w : World)
 (hA : m = 0 ∨ ∃ b o, A = some ⟨b, o, none⟩ /\ b < w.heap.size /\ In w b o (Qao m k)) :
 Calls Tryz.prog 33 #[.slice A m cap, .int .i64 k] w fun e w' => e = .returned (.int .i64 (k + (m : Int))) /\ Below w.heap.size w w' := by
 have HA : Hid (m = 0 ∨ ∃ b o, A = some ⟨b, o, none⟩ /\ b < w.heap.size /\ In w b o (Qao m k)) := hA
 clear hA
 go_enter Tryz.func33, Tryz.ntmps33
 go_wp2
 go_loopw [1, 5] (fun kk i w' => ∃ (n : Nat) (z : Int), i = .int .i64 (n : Int) /\ kk = .int .i64 z /\ n <= m /\ 1 <= z /\ z <= 900000000 /\ Hid (z = k + (n : Int)) /\ Below w.heap.size w w') (fun _ i _ => m - (intOf i).toNat)
 case atStart => exact ⟨0, k, rfl, rfl, by omega, hk, by omega, by simp [Hid], Below.refl _ _⟩
 case round =>
  obtain ⟨n, z, rfl, rfl, hn, hz1, hz2, hz, hbl⟩ := hrel
  by_cases hlt : n < m
  . obtain ⟨b, o, rfl, hbs, hin⟩ : ∃ b o, A = some ⟨b, o, none⟩ /\ b < w.heap.size /\ In w b o (Qao m k) := by
     rcases HA.out with h | h
     . omega
     . exact h
    have c0 : wr.cell? ⟨b, o + n, none⟩ = some (.bool (z % 3 == 0)) := by
     have h := (hin.below hbs hbl).getBool n (by rw [Qbo]; exact hlt)
     rw [Qg3] at h
     rw [hz.out]
     exact h
    have hi0 : (0 : Int) <= (n : Int) := by omega
    have hi1 : (n : Int) < (m : Int) := by omega
    go_wp2
    try go_region
    all_goals
     try go_wp2
     have hz' := hz.out
     exact ⟨⟨n + 1, z + 1, by go_num, rfl, by omega, by omega, by omega, by show z + 1 = _; omega, by repeat (first | exact hbl | refine Below.drew ?_)⟩, by simp [intOf]; omega⟩
  . obtain rfl : n = m := by omega
    go_wp2
    go_ret
    have e := hz.out
    subst e
    exact ⟨rfl, hbl⟩
end Go.Proofs.YtlcjaabnfdnfmaaGreatDoor.Gen
namespace Go.Proofs.YtlcjaabnfdnfmaaGreatDoor.Gen
open ChangeShapes WideShapes ChangeAt RowKit Joins Deep Base
instance : Cel UInt8 where
  k := 1
  cs x := [.int .u8 (x.toNat : Int)]
  len _ := rfl
  one x u hu := by simp at hu; subst hu; rfl
theorem In.getB {w : World} {b o : Nat} {l : List UInt8} (h : In w b o l) (i : Nat) (hi : i < l.length) : w.cell? ⟨b, o + i, none⟩ = some (.int .u8 (l[i].toNat : Int)) := by
 have := h.cell i hi (f := 0) rfl
 have e : o + i * Cel.k UInt8 + 0 = o + i := by show o + i * 1 + 0 = o + i; omega
 rwa [e] at this
theorem there_one {w : World} {b o m n : Nat} (h : w.there b o (m * 1)) (hn : n < m) : (∃ v, w.cell? ⟨b, o + n, none⟩ = some v) /\ w.frozen? ⟨b, o + n, none⟩ = false := by
 have := Qaf (f := 0) h hn (by omega)
 rwa [Nat.mul_one, Nat.add_zero] at this
theorem infoB : (Tryz.prog.info? 5).map (fun i => (i.zero, i.size, i.bytes)) = some (some (.int .u8 0), 1, 1) := by kernel_rfl
theorem Qkz (B : Nat) (v : Value) (l m : List UInt8) (A : Option Addr) (cap : Nat) (w : World) (hB : B <= w.heap.size) (hv : w.ownsRow B 5 1 v l.length (flat l)) (hA : At w A m) (hlen : l.length + m.length <= 1000000000) :
 ∃ v' w', (Builtin.append_ #[37, 37] 37 #[v, .slice A m.length cap]).run Tryz.prog w = .ok v' w' /\ w'.ownsRow B 5 1 v' (l.length + m.length) (flat (l ++ m)) /\ w.grownBy w' v.ownBlock /\ (v'.ownBlock = v.ownBlock ∨ v'.ownBlock = some w.heap.size) := by
 obtain ⟨i0, hi, hz0, hz1, hz2⟩ := info_parts infoB
 by_cases h0 : m = []
 . subst h0
   have e0 : ∃ a n c, v = .slice a n c /\ n <= c := by
    rcases hv.2 with ⟨rfl, _⟩ | ⟨g, c, cur, rfl, _, _, h, _⟩
    . exact ⟨_, _, _, rfl, Nat.le_refl _⟩
    . exact ⟨_, _, _, rfl, h⟩
   obtain ⟨a, n, c, rfl, hle⟩ := e0
   exact ⟨_, _, run_append_nothing w 37 37 37 5 i0 Tryz.underlying37 hi a n c hle _ (hz1 ▸ Qep _ 37 5 Tryz.underlying37 A cap w), by simpa using hv, World.grownBy.refl _ _, .inl rfl⟩
 . obtain ⟨b, o, rfl, hb, hin⟩ := hA.resolve_left h0
   have hm : 0 < m.length := List.length_pos_iff.2 h0
   obtain ⟨g, c, w', hr, h1, h2, h3, h4⟩ := run_append_lies (P := Tryz.prog) w 37 37 B 5 i0 (.int .u8 0) 1 1 Tryz.underlying37 hi hz0 hz1 hz2 rfl (by decide) v l.length (flat l) hv ⟨b, o, none⟩ m.length cap (flat m) (Qap m)
    (fun j u hu => by rw [Addr.add_mid]; exact hin j u hu) (Qje m) hm (by simp [maxLen]; omega) (by omega) hB _ rfl
   exact ⟨_, _, hr, by rw [Qa1]; exact h1, h2, h3.imp (fun e => by rw [e]; rfl) (fun e => by rw [← e]; rfl)⟩
theorem eqB_same (A A' : Option Addr) (cap cap' : Nat) (l : List UInt8) (hl : l.length <= 9223372036854775807) (w : World) (hA : At w A l) (hA' : At w A' l) :
 Calls Tryz.prog 61 #[.slice A l.length cap, .slice A' l.length cap'] w fun e w' => e = .returned (.bool true) /\ Below w.heap.size w w' := by
 have HA : Hid (At w A l) := hA
 have HA' : Hid (At w A' l) := hA'
 clear hA hA'
 go_enter Tryz.func61, Tryz.ntmps61
 go_wp2
 go_loopw [5] (fun i w' => ∃ (n : Nat), i = .int .i64 (n : Int) /\ n <= l.length /\ Below w.heap.size w w') (fun i _ => l.length - (intOf i).toNat)
 case atStart => exact ⟨0, rfl, by omega, Below.refl _ _⟩
 case round =>
  obtain ⟨n, rfl, hn, hbl⟩ := hrel
  by_cases hlt : n < l.length
  . obtain ⟨b, o, rfl, hbs, hin⟩ : ∃ b o, A = some ⟨b, o, none⟩ /\ b < w.heap.size /\ In w b o l := by
     rcases HA.out with h | h
     . subst h; simp at hlt
     . exact h
    obtain ⟨b', o', rfl, hbs', hin'⟩ : ∃ b o, A' = some ⟨b, o, none⟩ /\ b < w.heap.size /\ In w b o l := by
     rcases HA'.out with h | h
     . subst h; simp at hlt
     . exact h
    have c0 := (hin.below hbs hbl).getB n hlt
    have d0 := (hin'.below hbs' hbl).getB n hlt
    have hi0 : (0 : Int) <= (n : Int) := by omega
    have hi1 : (n : Int) < (l.length : Int) := by omega
    go_wp2
    go_region
    all_goals
     go_wp2
     exact ⟨⟨n + 1, by go_num, by omega, by repeat (first | exact hbl | refine Below.drew ?_)⟩, by simp [intOf]; omega⟩
  . go_wp2
    go_ret
    exact ⟨rfl, hbl⟩
def u8 (z : Int) : UInt8 := UInt8.ofNat (z % 256).toNat
theorem u8_toNat (z : Int) : ((u8 z).toNat : Int) = z % 256 := by
 unfold u8
 rw [UInt8.toNat_ofNat']
 omega
def Qbg (n : Nat) (z : Int) : List UInt8 := (List.range n).map fun (i : Nat) => u8 (z + (i : Int))
theorem Qb9 (n : Nat) (z : Int) : (Qbg n z).length = n := by simp [Qbg]
theorem Qj5 (n : Nat) (z : Int) : Qbg (n + 1) z = Qbg n z ++ [u8 (z + (n : Int))] := by simp [Qbg, List.range_succ]
theorem marksB_get (n : Nat) (z : Int) (i : Nat) (h : i < (Qbg n z).length) : (Qbg n z)[i] = u8 (z + (i : Int)) := by simp [Qbg]
theorem markB_any (b o cap m : Nat) (k : Int) (hk : 1 <= k) (hk' : k <= 100000000) (hm : m <= 500000000) (w : World) (hb : b < w.heap.size) (hth : w.there b o (m * 1)) :
 Calls Tryz.prog 68 #[.slice (some ⟨b, o, none⟩) m cap, .int .i64 k] w fun e w' => e = .returned (.int .i64 (k + (m : Int))) /\ Only b w w' /\ In w' b o (Qbg m k) /\ w'.there b o (m * 1) := by
 have HT : Hid (w.there b o (m * 1)) := hth
 clear hth
 go_enter Tryz.func68, Tryz.ntmps68
 go_wp2
 go_loopw [1, 5] (fun kk i w' => ∃ (n : Nat) (z : Int), i = .int .i64 (n : Int) /\ kk = .int .i64 z /\ n <= m /\ 1 <= z /\ z <= 900000000 /\ Only b w w' /\ Hid (z = k + (n : Int)) /\ Hid (In w' b o (Qbg n k)) /\ Hid (w'.there b o (m * 1))) (fun _ i _ => m - (intOf i).toNat)
 case atStart => exact ⟨0, k, rfl, rfl, by omega, hk, by omega, Only.refl _ _, by simp [Hid], fun j v hv => by simp [Qbg, flat] at hv, HT.out⟩
 case round =>
  obtain ⟨n, z, rfl, rfl, hn, hz1, hz2, ho, hz, hin, hth⟩ := hrel
  by_cases hlt : n < m
  . obtain ⟨⟨v0, d0⟩, f0⟩ := there_one hth.out hlt
    have q1 : b < wr.heap.size := Nat.lt_of_lt_of_le hb ho.size
    go_wp2
    have hlen : (flat (Qbg n k)).length = n := by rw [Qap, Qb9]; show n * 1 = n; omega
    have P0 := push (v := .int .u8 (z % 256)) (q := o + n) ⟨hin.out, hth.out, q1⟩ (by simp [hlen]; omega) (by simp [hlen])
    have e : flat (Qbg n k) ++ [Value.int .u8 (z % 256)] = flat (Qbg (n + 1) k) := by rw [Qj5, Qa1, Qbp, hz.out, ← u8_toNat]; rfl
    rw [e] at P0
    have hz' := hz.out
    refine ⟨⟨n + 1, z + 1, by go_num, rfl, by omega, by omega, by omega, ?_, by show z + 1 = _; omega, P0.1, P0.2.1⟩, by simp [intOf]; omega⟩
    exact ho.set _ _
  . obtain rfl : n = m := by omega
    go_wp2
    go_ret
    have e := hz.out
    subst e
    exact ⟨rfl, ho, hin.out, hth.out⟩
theorem markB_none (A : Option Addr) (cap : Nat) (k : Int) (w : World) :
 Calls Tryz.prog 68 #[.slice A 0 cap, .int .i64 k] w fun e w' => e = .returned (.int .i64 k) /\ w' = w := by
 go_enter Tryz.func68, Tryz.ntmps68
 go_wp2
 go_loopw [1, 5] (fun kk i w' => kk = .int .i64 k /\ i = .int .i64 0 /\ w' = w) (fun _ _ _ => 0)
 case atStart => exact ⟨rfl, rfl, rfl⟩
 case round =>
  obtain ⟨rfl, rfl, rfl⟩ := hrel
  go_wp2
  go_ret
  exact ⟨rfl, rfl⟩
theorem heldB_any (A : Option Addr) (cap m : Nat) (k : Int) (hk : 1 <= k) (hk' : k <= 100000000) (hm : m <= 500000000) (w : World)
 (hA : m = 0 ∨ ∃ b o, A = some ⟨b, o, none⟩ /\ b < w.heap.size /\ In w b o (Qbg m k)) :
 Calls Tryz.prog 76 #[.slice A m cap, .int .i64 k] w fun e w' => e = .returned (.int .i64 (k + (m : Int))) /\ Below w.heap.size w w' := by
 have HA : Hid (m = 0 ∨ ∃ b o, A = some ⟨b, o, none⟩ /\ b < w.heap.size /\ In w b o (Qbg m k)) := hA
 clear hA
 go_enter Tryz.func76, Tryz.ntmps76
 go_wp2
 go_loopw [1, 5] (fun kk i w' => ∃ (n : Nat) (z : Int), i = .int .i64 (n : Int) /\ kk = .int .i64 z /\ n <= m /\ 1 <= z /\ z <= 900000000 /\ Hid (z = k + (n : Int)) /\ Below w.heap.size w w') (fun _ i _ => m - (intOf i).toNat)
 case atStart => exact ⟨0, k, rfl, rfl, by omega, hk, by omega, by simp [Hid], Below.refl _ _⟩
 case round =>
  obtain ⟨n, z, rfl, rfl, hn, hz1, hz2, hz, hbl⟩ := hrel
  by_cases hlt : n < m
  . obtain ⟨b, o, rfl, hbs, hin⟩ : ∃ b o, A = some ⟨b, o, none⟩ /\ b < w.heap.size /\ In w b o (Qbg m k) := by
     rcases HA.out with h | h
     . omega
     . exact h
    have c0 : wr.cell? ⟨b, o + n, none⟩ = some (.int .u8 (z % 256)) := by
     have h := (hin.below hbs hbl).getB n (by rw [Qb9]; exact hlt)
     rw [marksB_get, u8_toNat] at h
     rw [hz.out]
     exact h
    have hi0 : (0 : Int) <= (n : Int) := by omega
    have hi1 : (n : Int) < (m : Int) := by omega
    go_wp2
    try go_region
    all_goals
     try go_wp2
     have hz' := hz.out
     exact ⟨⟨n + 1, z + 1, by go_num, rfl, by omega, by omega, by omega, by show z + 1 = _; omega, by repeat (first | exact hbl | refine Below.drew ?_)⟩, by simp [intOf]; omega⟩
  . obtain rfl : n = m := by omega
    go_wp2
    go_ret
    have e := hz.out
    subst e
    exact ⟨rfl, hbl⟩
end Go.Proofs.YtlcjaabnfdnfmaaGreatDoor.Gen
namespace Go.Proofs.YtlcjaabnfdnfmaaGreatDoor.Gen
open ChangeShapes WideShapes ChangeAt RowKit Joins Deep Base
theorem flat_map1 (l : List UInt8) : flat l = l.map fun b => Value.int .u8 (b.toNat : Int) := by
 induction l with
 | nil => rfl
 | cons x l ih => rw [Qcx, ih]; rfl
theorem Qkx (w : World) (t : TypeId) (s : ByteArray) : Below w.heap.size w (Go.Lib.bytesWorld w t s) :=
 ⟨rfl, rfl, rfl, by rw [Go.Lib.bytesWorld_size]; omega, fun i hi => Go.Lib.bytesWorld_at_old w t s i hi⟩
theorem bytes_at (w : World) (t : TypeId) (s : ByteArray) : At (Go.Lib.bytesWorld w t s) (some ⟨w.heap.size, 0, none⟩) s.data.toList := by
 refine .inr ⟨_, _, rfl, by rw [Go.Lib.bytesWorld_size]; omega, ?_⟩
 intro j v hv
 rw [flat_map1] at hv
 have hj : j < s.size := by have := (List.getElem?_eq_some_iff.1 hv).1; rwa [List.length_map, Array.length_toList] at this
 rw [Nat.zero_add, Go.Lib.bytesWorld_cell w t s j hj]
 rw [← hv, List.getElem?_map, List.getD_eq_getElem?_getD]
 have : j < s.data.toList.length := by rw [Array.length_toList]; exact hj
 simp [List.getElem?_eq_getElem this]
end Go.Proofs.YtlcjaabnfdnfmaaGreatDoor.Gen
