/-
  The program's RowTrim at this seat.
-/
import Derived.Test.YtdkdhecmhlchkaaTrimmed
import Derived.Test.YtdkdhecmhlchkaaTrimPure
import Derived.Test.YtdkdhecmhlchkaaImplRowOk
namespace Go.Proofs.Ytdkdhecmhlchkaa.Items
open Go.ChangeShapes Go.WideShapes Go.ChangeAt Go.RowKit Go.Shelf Base
set_option linter.unusedVariables false

set_option maxRecDepth 100000 in
set_option maxHeartbeats 1000000 in
theorem implRowTrim_any (start next length keep : Int) (h2 : length ≤ 9223372036854775807) (A : Option Addr) (cap : Nat) (l : List It) (hl : l.length ≤ 1048576) (hc : l.length ≤ cap) (hc' : cap ≤ 9223372036854775807) (hs : ∀ x ∈ l, x.key.size ≤ 9223372036854775807 ∧ x.text.size ≤ 9223372036854775807)
    (w : World) (hA : At w A l) :
    Calls Try.prog 22 #[.agg #[.int .i64 start, .int .i64 next, .slice A l.length cap], .int .i64 length, .int .i64 keep] w fun e w' => ∃ v, e = .returned (.agg #[.int .i64 (trimS start next length keep l), .int .i64 next, v]) ∧ Fresh w.heap.size w' v (trimL start next length keep l) ∧ Below w.heap.size w w' := by
  have HA : Hid (At w A l) := hA
  have Hs : Hid (∀ x ∈ l, x.key.size ≤ 9223372036854775807 ∧ x.text.size ≤ 9223372036854775807) := hs
  clear hA hs
  have B0 : Below w.heap.size w ((w.alloc (.cells #[.int .i64 start, .int .i64 next, .slice A l.length cap] 26)).alloc (.cells #[.int .i64 0, .int .i64 0, .slice none 0 0] 26)) := alloc0 (alloc0 (Below.refl _ _) _) _
  have p0 := (Blk.new w 26 #[.int .i64 start, .int .i64 next, .slice A l.length cap]).alloc (.cells #[.int .i64 0, .int .i64 0, .slice none 0 0] 26)
  have p1 := Blk.new (w.alloc (.cells #[.int .i64 start, .int .i64 next, .slice A l.length cap] 26)) 26 #[.int .i64 0, .int .i64 0, .slice none 0 0]
  rw [World.size_alloc] at p1
  by_cases hb : trimB start next length keep l = true
  · have ES : Hid (trimS start next length keep l = (trimF next length keep l.length start l).1) := by show _ = _; simp [trimS, hb]
    have EL : Hid (trimL start next length keep l = (trimF next length keep l.length start l).2) := by show _ = _; simp [trimL, hb]
    simp only [trimB, Bool.and_eq_true, decide_eq_true_eq] at hb
    obtain ⟨⟨h1, hk⟩, hr⟩ := hb
    have HR := hidP hr
    have Hup := hidP (rowB_up hr)
    clear hr
    have hx : ¬ length < 1 := by omega
    have hy : ¬ keep < 0 := by omega
    go_enter Try.func22, Try.ntmps22
    go_wp2_with fail
    refine (implRowOk_any start next A cap l (by omega) Hs.out _ (HA.out.below B0)).mono ?_
    rintro e w1 ⟨rfl, g1⟩
    rw [HR.out]
    have B1 : Below w.heap.size w w1 := via0 g1 B0
    have r0 := p0.below g1 p0.lt
    have r1 := p1.below g1 p1.lt
    obtain ⟨u0, u1, u2⟩ := r0.row
    go_wp2_with fail
    refine (trimmed_any start next length keep h1 h2 hk A cap l hl hc hc' Hup.out.2.1 _ (HA.out.below B1)).mono ?_
    rintro e w2 ⟨v, rfl, hown, g2⟩
    obtain ⟨a, c, rfl, _⟩ := owns_form hown
    have z1 := r1.below g2 r1.lt
    obtain ⟨n0, n1, n2⟩ := z1.row
    have k0 := z1.thaw 0
    have k1 := z1.thaw 1
    have k2 := z1.thaw 2
    have q1 := r1.lt
    generalize hT : trimF next length keep l.length start l = T at *
    have far : some (w.heap.size + 1) ≠ (Value.slice a T.2.length c).ownBlock := owns_far hown q1
    have Hown := hidP hown
    have Far := hidP far
    have B2 := hidP (via0 g2 B1)
    clear hown far u0 u1 u2
    go_wp2
    have z : Blk _ (w.heap.size + 1) 26 #[.int .i64 T.1, .int .i64 next, .slice a T.2.length c] := ((z1.setAt 0 (.int .i64 T.1)).setAt 1 (.int .i64 next)).setAt 2 (.slice a T.2.length c)
    obtain ⟨e0, e1, e2⟩ := z.row
    exact bodyPost_ret (v := .agg #[.int .i64 T.1, .int .i64 next, .slice a T.2.length c]) (by simp [results, Try.results22, go_sem, e0, e1, e2]) rfl
      ⟨_, by rw [ES.out], by rw [EL.out]; exact fresh_owns (owns_mono (owns_set (owns_set (owns_set Hown.out Far.out) Far.out) Far.out) (by omega)), bl_set (bl_set (bl_set B2.out (by omega) _) (by omega) _) (by omega) _⟩
  · have hb' : trimB start next length keep l = false := by simpa using hb
    have ES : Hid (trimS start next length keep l = start) := by show _ = _; simp [trimS, hb']
    have EL : Hid (trimL start next length keep l = l) := by show _ = _; simp [trimL, hb']
    simp only [trimB, Bool.and_eq_false_iff, decide_eq_false_iff_not] at hb'
    have tail : ∀ w1 : World, Below w.heap.size w w1 → Blk w1 w.heap.size 26 #[.int .i64 start, .int .i64 next, .slice A l.length cap] → Blk w1 (w.heap.size + 1) 26 #[.int .i64 0, .int .i64 0, .slice none 0 0] → Calls Try.prog 38 #[.agg #[.int .i64 start, .int .i64 next, .slice A l.length cap]] w1 fun e w2 => ∃ a c, e = .returned (.agg #[.int .i64 start, .int .i64 next, .slice a l.length c]) ∧ Hid (w2.ownsRow w1.heap.size 34 5 (.slice a l.length c) l.length (flat l)) ∧ Hid (Below w.heap.size w w2) ∧ Hid (Blk w2 (w.heap.size + 1) 26 #[.int .i64 0, .int .i64 0, .slice none 0 0]) ∧ Hid (some (w.heap.size + 1) ≠ (Value.slice a l.length c).ownBlock) := by
      intro w1 hw b0 b1
      refine (copied_any start next A cap l hl _ (HA.out.below hw)).mono ?_
      rintro e w2 ⟨v, rfl, hown, g2⟩
      obtain ⟨a, c, rfl, _⟩ := owns_form hown
      exact ⟨a, c, rfl, hown, via0 g2 hw, b1.below g2 b1.lt, owns_far hown b1.lt⟩
    have Tail := hidP tail
    clear tail
    by_cases hx : length < 1
    · go_enter Try.func22, Try.ntmps22
      go_wp2_with fail
      refine (Tail.out _ B0 p0 p1).mono ?_
      rintro e w2 ⟨a, c, rfl, Hown, B2, z1, Far⟩
      obtain ⟨n0, n1, n2⟩ := z1.out.row
      have k0 := z1.out.thaw 0
      have k1 := z1.out.thaw 1
      have k2 := z1.out.thaw 2
      go_wp2
      have z : Blk _ (w.heap.size + 1) 26 #[.int .i64 start, .int .i64 next, .slice a l.length c] := ((z1.out.setAt 0 (.int .i64 start)).setAt 1 (.int .i64 next)).setAt 2 (.slice a l.length c)
      obtain ⟨e0, e1, e2⟩ := z.row
      exact bodyPost_ret (v := .agg #[.int .i64 start, .int .i64 next, .slice a l.length c]) (by simp [results, Try.results22, go_sem, e0, e1, e2]) rfl
        ⟨_, by rw [ES.out], by rw [EL.out]; exact fresh_owns (owns_mono (owns_set (owns_set (owns_set Hown.out Far.out) Far.out) Far.out) B0.size), bl_set (bl_set (bl_set B2.out (by omega) _) (by omega) _) (by omega) _⟩
    by_cases hy : keep < 0
    · go_enter Try.func22, Try.ntmps22
      go_wp2_with fail
      refine (Tail.out _ B0 p0 p1).mono ?_
      rintro e w2 ⟨a, c, rfl, Hown, B2, z1, Far⟩
      obtain ⟨n0, n1, n2⟩ := z1.out.row
      have k0 := z1.out.thaw 0
      have k1 := z1.out.thaw 1
      have k2 := z1.out.thaw 2
      go_wp2
      have z : Blk _ (w.heap.size + 1) 26 #[.int .i64 start, .int .i64 next, .slice a l.length c] := ((z1.out.setAt 0 (.int .i64 start)).setAt 1 (.int .i64 next)).setAt 2 (.slice a l.length c)
      obtain ⟨e0, e1, e2⟩ := z.row
      exact bodyPost_ret (v := .agg #[.int .i64 start, .int .i64 next, .slice a l.length c]) (by simp [results, Try.results22, go_sem, e0, e1, e2]) rfl
        ⟨_, by rw [ES.out], by rw [EL.out]; exact fresh_owns (owns_mono (owns_set (owns_set (owns_set Hown.out Far.out) Far.out) Far.out) B0.size), bl_set (bl_set (bl_set B2.out (by omega) _) (by omega) _) (by omega) _⟩
    have hr : rowB start next l = false := by
      rcases hb' with (h | h) | h
      · omega
      · omega
      · exact h
    have HR := hidP hr
    clear hr hb' hb
    go_enter Try.func22, Try.ntmps22
    go_wp2_with fail
    refine (implRowOk_any start next A cap l (by omega) Hs.out _ (HA.out.below B0)).mono ?_
    rintro e w1 ⟨rfl, g1⟩
    rw [HR.out]
    have B1 : Below w.heap.size w w1 := via0 g1 B0
    have r0 := p0.below g1 p0.lt
    have r1 := p1.below g1 p1.lt
    obtain ⟨u0, u1, u2⟩ := r0.row
    go_wp2_with fail
    refine (Tail.out _ B1 r0 r1).mono ?_
    rintro e w2 ⟨a, c, rfl, Hown, B2, z1, Far⟩
    obtain ⟨n0, n1, n2⟩ := z1.out.row
    have k0 := z1.out.thaw 0
    have k1 := z1.out.thaw 1
    have k2 := z1.out.thaw 2
    clear u0 u1 u2
    go_wp2
    have z : Blk _ (w.heap.size + 1) 26 #[.int .i64 start, .int .i64 next, .slice a l.length c] := ((z1.out.setAt 0 (.int .i64 start)).setAt 1 (.int .i64 next)).setAt 2 (.slice a l.length c)
    obtain ⟨e0, e1, e2⟩ := z.row
    exact bodyPost_ret (v := .agg #[.int .i64 start, .int .i64 next, .slice a l.length c]) (by simp [results, Try.results22, go_sem, e0, e1, e2]) rfl
      ⟨_, by rw [ES.out], by rw [EL.out]; exact fresh_owns (owns_mono (owns_set (owns_set (owns_set Hown.out Far.out) Far.out) Far.out) B1.size), bl_set (bl_set (bl_set B2.out (by omega) _) (by omega) _) (by omega) _⟩
end Go.Proofs.Ytdkdhecmhlchkaa.Items
