/-
  Numbers within limits, as the program and as the specification tell them. No condition.
-/
import Derived.Test.YteccgpakhbogpaaGen
namespace Go.Proofs.Yteccgpakhbogpaa.Gen
open Go.ChangeShapes Go.WideShapes Go.ChangeAt Go.RowKit Go.Joins Go.Deep Base
set_option linter.unusedVariables false
set_option linter.unusedSimpArgs false

def inB (x lo hi : Int) : Bool := decide (lo ≤ x ∧ x ≤ hi)
theorem within_any (x lo hi : Int) (w : World) :
    Calls Try.prog 43 #[.int .i64 x, .int .i64 lo, .int .i64 hi] w fun e w' => e = .returned (.bool (inB x lo hi)) ∧ w' = w := by
  by_cases h1 : lo ≤ x
  · by_cases h2 : x ≤ hi
    · have e : Hid (inB x lo hi = true) := by show _ = _; simp [inB, h1, h2]
      go_enter Try.func43, Try.ntmps43
      go_wp2
      go_ret
      exact ⟨by rw [e.out]; rfl, rfl⟩
    · have e : Hid (inB x lo hi = false) := by show _ = _; simp [inB, h2]
      have h2' : decide (x ≤ hi) = false := decide_eq_false h2
      go_enter Try.func43, Try.ntmps43
      go_wp2
      go_ret
      exact ⟨by rw [e.out]; first | rfl | (rw [← h2']; rfl), rfl⟩
  · have e : Hid (inB x lo hi = false) := by show _ = _; simp [inB, h1]
    go_enter Try.func43, Try.ntmps43
    go_wp2
    go_ret
    exact ⟨by rw [e.out]; rfl, rfl⟩

theorem in_any (x lo hi : Int) (w : World) :
    Calls Try.prog 28 #[.int .i64 x, .int .i64 lo, .int .i64 hi] w fun e w' => e = .returned (.bool (inB x lo hi)) ∧ w' = w := by
  by_cases h1 : lo ≤ x
  · by_cases h2 : x ≤ hi
    · have e : Hid (inB x lo hi = true) := by show _ = _; simp [inB, h1, h2]
      go_enter Try.func28, Try.ntmps28
      go_wp2
      go_ret
      exact ⟨by rw [e.out]; rfl, rfl⟩
    · have e : Hid (inB x lo hi = false) := by show _ = _; simp [inB, h2]
      have h2' : decide (x ≤ hi) = false := decide_eq_false h2
      go_enter Try.func28, Try.ntmps28
      go_wp2
      go_ret
      exact ⟨by rw [e.out]; first | rfl | (rw [← h2']; rfl), rfl⟩
  · have e : Hid (inB x lo hi = false) := by show _ = _; simp [inB, h1]
    go_enter Try.func28, Try.ntmps28
    go_wp2
    go_ret
    exact ⟨by rw [e.out]; rfl, rfl⟩

end Go.Proofs.Yteccgpakhbogpaa.Gen
