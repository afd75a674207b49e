/-
  The program's RowPack at this seat.
-/
import Derived.Test.YtnmbbkagjpmhdaaImplPack
import Derived.Test.YtnmbbkagjpmhdaaPackPure
import Derived.Test.YtnmbbkagjpmhdaaTrimmed
import Derived.Test.YtnmbbkagjpmhdaaImplRowOk
namespace Go.Proofs.Ytnmbbkagjpmhdaa.Items
open Go.ChangeShapes Go.WideShapes Go.ChangeAt Go.RowKit Go.Shelf Base
set_option linter.unusedVariables false

set_option maxRecDepth 100000 in
set_option maxHeartbeats 1000000 in
theorem implRowPack_any (start next length : Int) (A : Option Addr) (cap : Nat) (l : List It) (hl : l.length ≤ 1048576) (hs : ∀ x ∈ l, x.key.size ≤ 9223372036854775807 ∧ x.text.size ≤ 9223372036854775807)
    (w : World) (hA : At w A l) :
    Calls Try.prog 25 #[.agg #[.int .i64 start, .int .i64 next, .slice A l.length cap], .int .i64 length] w fun e w' => ∃ v, e = .returned (.agg #[.int .i64 start, .int .i64 next, v]) ∧ Fresh w.heap.size w' v (packL start next length l) ∧ Below w.heap.size w w' := by
  have HA : Hid (At w A l) := hA
  have Hs : Hid (∀ x ∈ l, x.key.size ≤ 9223372036854775807 ∧ x.text.size ≤ 9223372036854775807) := hs
  clear hA hs
  have B0 : Below w.heap.size w ((w.alloc (.cells #[.int .i64 start, .int .i64 next, .slice A l.length cap] 26)).alloc (.cells #[.int .i64 0, .int .i64 0, .slice none 0 0] 26)) := alloc0 (alloc0 (Below.refl _ _) _) _
  have p0 := (Blk.new w 26 #[.int .i64 start, .int .i64 next, .slice A l.length cap]).alloc (.cells #[.int .i64 0, .int .i64 0, .slice none 0 0] 26)
  have p1 := Blk.new (w.alloc (.cells #[.int .i64 start, .int .i64 next, .slice A l.length cap] 26)) 26 #[.int .i64 0, .int .i64 0, .slice none 0 0]
  rw [World.size_alloc] at p1
  by_cases hb : packB start next length l = true
  · have EL : Hid (packL start next length l = packF (IntKind.i64.wrap (next - 1)) length l) := by show _ = _; simp [packL, hb]
    simp only [packB, Bool.and_eq_true, decide_eq_true_eq] at hb
    obtain ⟨h1, hr⟩ := hb
    have HR := hidP hr
    have Hk : Hid (∀ x ∈ l, x.key.size ≤ 9223372036854775807 ∧ (Lit.int .i64 x.off).wf = true) := fun x hx => ⟨(Hs.out x hx).1, by
      have := (((rowB_iff _ _ _).1 hr).1 x hx).2
      have h3 := ((rowB_iff _ _ _).1 hr).2.2
      simp [Lit.wf, IntKind.min, IntKind.max, IntKind.signed, IntKind.bits]; omega⟩
    have EP : Hid (l.filter (keepB (IntKind.i64.wrap (next - 1)) length l) = packF (IntKind.i64.wrap (next - 1)) length l) := keep_all hr
    clear hr
    have hx : ¬ length < 1 := by omega
    go_enter Try.func25, Try.ntmps25
    go_wp2_with fail
    refine (implRowOk_any start next A cap l (by omega) Hs.out _ (HA.out.below B0)).mono ?_
    rintro e w1 ⟨rfl, g1⟩
    rw [HR.out]
    have B1 : Below w.heap.size w w1 := via0 g1 B0
    have r0 := p0.below g1 p0.lt
    have r1 := p1.below g1 p1.lt
    obtain ⟨u0, u1, u2⟩ := r0.row
    go_wp2_with fail
    refine (packed_any start next length h1 A cap l hl Hk.out _ (HA.out.below B1)).mono ?_
    rw [EP.out]
    rintro e w2 ⟨v, rfl, hown, g2⟩
    obtain ⟨a, c, rfl, _⟩ := owns_form hown
    have z1 := r1.below g2 r1.lt
    obtain ⟨n0, n1, n2⟩ := z1.row
    have k0 := z1.thaw 0
    have k1 := z1.thaw 1
    have k2 := z1.thaw 2
    have q1 := r1.lt
    generalize hT : packF (IntKind.i64.wrap (next - 1)) length l = T at *
    have far : some (w.heap.size + 1) ≠ (Value.slice a T.length c).ownBlock := owns_far hown q1
    have Hown := hidP hown
    have Far := hidP far
    have B2 := hidP (via0 g2 B1)
    clear hown far u0 u1 u2
    go_wp2
    have z : Blk _ (w.heap.size + 1) 26 #[.int .i64 start, .int .i64 next, .slice a T.length c] := ((z1.setAt 0 (.int .i64 start)).setAt 1 (.int .i64 next)).setAt 2 (.slice a T.length c)
    obtain ⟨e0, e1, e2⟩ := z.row
    exact bodyPost_ret (v := .agg #[.int .i64 start, .int .i64 next, .slice a T.length c]) (by simp [results, Try.results25, go_sem, e0, e1, e2]) rfl
      ⟨_, rfl, by rw [EL.out]; exact fresh_owns (owns_mono (owns_set (owns_set (owns_set Hown.out Far.out) Far.out) Far.out) (by omega)), bl_set (bl_set (bl_set B2.out (by omega) _) (by omega) _) (by omega) _⟩
  · have hb' : packB start next length l = false := by simpa using hb
    have EL : Hid (packL start next length l = l) := by show _ = _; simp [packL, hb']
    simp only [packB, Bool.and_eq_false_iff, decide_eq_false_iff_not] at hb'
    have tail : ∀ w1 : World, Below w.heap.size w w1 → Blk w1 w.heap.size 26 #[.int .i64 start, .int .i64 next, .slice A l.length cap] → Blk w1 (w.heap.size + 1) 26 #[.int .i64 0, .int .i64 0, .slice none 0 0] → Calls Try.prog 38 #[.agg #[.int .i64 start, .int .i64 next, .slice A l.length cap]] w1 fun e w2 => ∃ a c, e = .returned (.agg #[.int .i64 start, .int .i64 next, .slice a l.length c]) ∧ Hid (w2.ownsRow w1.heap.size 34 5 (.slice a l.length c) l.length (flat l)) ∧ Hid (Below w.heap.size w w2) ∧ Hid (Blk w2 (w.heap.size + 1) 26 #[.int .i64 0, .int .i64 0, .slice none 0 0]) ∧ Hid (some (w.heap.size + 1) ≠ (Value.slice a l.length c).ownBlock) := by
      intro w1 hw b0 b1
      refine (copied_any start next A cap l hl _ (HA.out.below hw)).mono ?_
      rintro e w2 ⟨v, rfl, hown, g2⟩
      obtain ⟨a, c, rfl, _⟩ := owns_form hown
      exact ⟨a, c, rfl, hown, via0 g2 hw, b1.below g2 b1.lt, owns_far hown b1.lt⟩
    have Tail := hidP tail
    clear tail
    by_cases hx : length < 1
    · go_enter Try.func25, Try.ntmps25
      go_wp2_with fail
      refine (Tail.out _ B0 p0 p1).mono ?_
      rintro e w2 ⟨a, c, rfl, Hown, B2, z1, Far⟩
      obtain ⟨n0, n1, n2⟩ := z1.out.row
      have k0 := z1.out.thaw 0
      have k1 := z1.out.thaw 1
      have k2 := z1.out.thaw 2
      go_wp2
      have z : Blk _ (w.heap.size + 1) 26 #[.int .i64 start, .int .i64 next, .slice a l.length c] := ((z1.out.setAt 0 (.int .i64 start)).setAt 1 (.int .i64 next)).setAt 2 (.slice a l.length c)
      obtain ⟨e0, e1, e2⟩ := z.row
      exact bodyPost_ret (v := .agg #[.int .i64 start, .int .i64 next, .slice a l.length c]) (by simp [results, Try.results25, go_sem, e0, e1, e2]) rfl
        ⟨_, rfl, by rw [EL.out]; exact fresh_owns (owns_mono (owns_set (owns_set (owns_set Hown.out Far.out) Far.out) Far.out) B0.size), bl_set (bl_set (bl_set B2.out (by omega) _) (by omega) _) (by omega) _⟩
    have hr : rowB start next l = false := by
      rcases hb' with h | h
      · omega
      · exact h
    have HR := hidP hr
    clear hr hb' hb
    go_enter Try.func25, Try.ntmps25
    go_wp2_with fail
    refine (implRowOk_any start next A cap l (by omega) Hs.out _ (HA.out.below B0)).mono ?_
    rintro e w1 ⟨rfl, g1⟩
    rw [HR.out]
    have B1 : Below w.heap.size w w1 := via0 g1 B0
    have r0 := p0.below g1 p0.lt
    have r1 := p1.below g1 p1.lt
    obtain ⟨u0, u1, u2⟩ := r0.row
    go_wp2_with fail
    refine (Tail.out _ B1 r0 r1).mono ?_
    rintro e w2 ⟨a, c, rfl, Hown, B2, z1, Far⟩
    obtain ⟨n0, n1, n2⟩ := z1.out.row
    have k0 := z1.out.thaw 0
    have k1 := z1.out.thaw 1
    have k2 := z1.out.thaw 2
    clear u0 u1 u2
    go_wp2
    have z : Blk _ (w.heap.size + 1) 26 #[.int .i64 start, .int .i64 next, .slice a l.length c] := ((z1.out.setAt 0 (.int .i64 start)).setAt 1 (.int .i64 next)).setAt 2 (.slice a l.length c)
    obtain ⟨e0, e1, e2⟩ := z.row
    exact bodyPost_ret (v := .agg #[.int .i64 start, .int .i64 next, .slice a l.length c]) (by simp [results, Try.results25, go_sem, e0, e1, e2]) rfl
      ⟨_, rfl, by rw [EL.out]; exact fresh_owns (owns_mono (owns_set (owns_set (owns_set Hown.out Far.out) Far.out) Far.out) B1.size), bl_set (bl_set (bl_set B2.out (by omega) _) (by omega) _) (by omega) _⟩
end Go.Proofs.Ytnmbbkagjpmhdaa.Items
