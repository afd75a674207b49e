/-
  spec.RowTrim at this seat.
-/
import Derived.Test.YtnmbbkagjpmhdaaSpecCopy
import Derived.Test.YtnmbbkagjpmhdaaOwns
import Derived.Test.YtnmbbkagjpmhdaaSpecRowOk2
import Derived.Test.YtnmbbkagjpmhdaaTrimPure
namespace Go.Proofs.Ytnmbbkagjpmhdaa.Items
open Go.ChangeShapes Go.WideShapes Go.ChangeAt Go.RowKit Go.Shelf Base
set_option linter.unusedVariables false

set_option maxRecDepth 100000 in
set_option maxHeartbeats 1000000 in
theorem specRowTrim_no (start next length keep : Int) (A : Option Addr) (cap : Nat) (l : List It) (hl : l.length ≤ 1048576) (hs : ∀ x ∈ l, x.key.size ≤ 9223372036854775807 ∧ x.text.size ≤ 9223372036854775807) (hn : I64 next)
    (h1 : trimB start next length keep l = false) (w : World) (hA : At w A l) :
    Calls Try.prog 23 #[.agg #[.int .i64 start, .int .i64 next, .slice A l.length cap], .int .i64 length, .int .i64 keep] w fun e w' => ∃ v, e = .returned (.agg #[.int .i64 start, .int .i64 next, v]) ∧
      w'.ownsRow w.heap.size 34 5 v l.length (flat l) ∧ Below w.heap.size w w' := by
  have HA : Hid (At w A l) := hA
  have Hs : Hid (∀ x ∈ l, x.key.size ≤ 9223372036854775807 ∧ x.text.size ≤ 9223372036854775807) := hs
  have Hn : Hid (I64 next) := hn
  have H1 : Hid (trimB start next length keep l = false) := h1
  clear hA hs hn h1
  go_enter Try.func23, Try.ntmps23
  go_wp2_with fail
  refine (l3Copy_any start next A cap l (by omega) _ (HA.out.below (alloc0 (alloc0 (Below.refl _ w) _) _))).mono ?_
  rintro e w1 ⟨v, rfl, hown, g1⟩
  have B1 : Below w.heap.size w w1 := via0 g1 (alloc0 (alloc0 (Below.refl _ w) _) _)
  have p0 := ((Blk.new w 26 #[.int .i64 start, .int .i64 next, .slice A l.length cap]).alloc (.cells #[.int .i64 0, .int .i64 0, .slice none 0 0] 26)).below g1 (by simp; omega)
  have p1 := (Blk.new (w.alloc (.cells #[.int .i64 start, .int .i64 next, .slice A l.length cap] 26)) 26 #[.int .i64 0, .int .i64 0, .slice none 0 0]).below g1 (by simp)
  rw [World.size_alloc] at p1
  obtain ⟨a, c, rfl, hc⟩ := owns_form hown
  simp only [World.size_alloc] at hown
  have Hown : Hid (w1.ownsRow (w.heap.size + 1 + 1) 34 5 (.slice a l.length c) l.length (flat l)) := hown
  clear hown hc
  obtain ⟨u0, u1, u2⟩ := p0.row
  have q0 := p0.lt
  have q1 := p1.lt
  by_cases hx : length < 1
  · obtain ⟨n0, n1, n2⟩ := p1.row
    have k0 := p1.thaw 0
    have k1 := p1.thaw 1
    have k2 := p1.thaw 2
    go_wp2
    have z : Blk _ (w.heap.size + 1) 26 #[.int .i64 start, .int .i64 next, .slice a l.length c] := (((p1.setAt 0 (.int .i64 start)).setAt 1 (.int .i64 next)).setAt 2 (.slice a l.length c)).alloc (.cells #[.int .i64 start, .int .i64 next, .slice a l.length c] 26)
    obtain ⟨e0, e1, e2⟩ := z.row
    have far : some (w.heap.size + 1) ≠ (Value.slice a l.length c).ownBlock := owns_far Hown.out (by omega)
    exact bodyPost_ret (v := .agg #[.int .i64 start, .int .i64 next, .slice a l.length c]) (by simp [results, Try.results23, go_sem, e0, e1, e2]) rfl
      ⟨_, rfl, owns_mono (owns_alloc (owns_set (owns_set (owns_set Hown.out far) far) far) _) (by omega), alloc0 (bl_set (bl_set (bl_set B1 (by omega) _) (by omega) _) (by omega) _) _⟩
  by_cases hy : keep < 0
  · obtain ⟨n0, n1, n2⟩ := p1.row
    have k0 := p1.thaw 0
    have k1 := p1.thaw 1
    have k2 := p1.thaw 2
    go_wp2
    have z : Blk _ (w.heap.size + 1) 26 #[.int .i64 start, .int .i64 next, .slice a l.length c] := (((p1.setAt 0 (.int .i64 start)).setAt 1 (.int .i64 next)).setAt 2 (.slice a l.length c)).alloc (.cells #[.int .i64 start, .int .i64 next, .slice a l.length c] 26)
    obtain ⟨e0, e1, e2⟩ := z.row
    have far : some (w.heap.size + 1) ≠ (Value.slice a l.length c).ownBlock := owns_far Hown.out (by omega)
    exact bodyPost_ret (v := .agg #[.int .i64 start, .int .i64 next, .slice a l.length c]) (by simp [results, Try.results23, go_sem, e0, e1, e2]) rfl
      ⟨_, rfl, owns_mono (owns_alloc (owns_set (owns_set (owns_set Hown.out far) far) far) _) (by omega), alloc0 (bl_set (bl_set (bl_set B1 (by omega) _) (by omega) _) (by omega) _) _⟩
  have hr : rowB start next l = false := by
    have := H1.out
    simp only [trimB, Bool.and_eq_false_iff, decide_eq_false_iff_not] at this
    rcases this with (h | h) | h
    · omega
    · omega
    · exact h
  have HR := hidP hr
  clear hr
  go_wp2_with fail
  refine (specRowOk_any start next _ _ l (by omega) Hs.out Hn.out.1 Hn.out.2 _ (HA.out.below (alloc0 B1 _))).mono ?_
  rintro e w2 ⟨rfl, g2⟩
  rw [HR.out]
  have B2 : Below w.heap.size w w2 := via0 g2 (alloc0 B1 _)
  have r1 := (p1.alloc (.cells #[.int .i64 start, .int .i64 next, .slice a l.length c] 26)).below g2 (p1.alloc _).lt
  have r2 := (Blk.new w1 26 #[.int .i64 start, .int .i64 next, .slice a l.length c]).below g2 (by simp)
  have Hown2 : Hid (w2.ownsRow (w.heap.size + 1 + 1) 34 5 (.slice a l.length c) l.length (flat l)) := owns_below (owns_alloc Hown.out _) g2
  clear u0 u1 u2
  obtain ⟨u0, u1, u2⟩ := r2.row
  obtain ⟨n0, n1, n2⟩ := r1.row
  have k0 := r1.thaw 0
  have k1 := r1.thaw 1
  have k2 := r1.thaw 2
  go_wp2
  have z : Blk _ (w.heap.size + 1) 26 #[.int .i64 start, .int .i64 next, .slice a l.length c] := ((r1.setAt 0 (.int .i64 start)).setAt 1 (.int .i64 next)).setAt 2 (.slice a l.length c)
  obtain ⟨e0, e1, e2⟩ := z.row
  have far : some (w.heap.size + 1) ≠ (Value.slice a l.length c).ownBlock := owns_far Hown2.out (by omega)
  exact bodyPost_ret (v := .agg #[.int .i64 start, .int .i64 next, .slice a l.length c]) (by simp [results, Try.results23, go_sem, e0, e1, e2]) rfl
    ⟨_, rfl, owns_mono (owns_set (owns_set (owns_set Hown2.out far) far) far) (by omega), bl_set (bl_set (bl_set B2 (by omega) _) (by omega) _) (by omega) _⟩
end Go.Proofs.Ytnmbbkagjpmhdaa.Items
