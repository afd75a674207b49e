/-
  Which disks are right, by the specification and by the program. No condition but that the length is one that a list can have.
-/
import Derived.Test.YtdcngbkcammjoaaDkV
import Derived.Test.YtdcngbkcammjoaaInB
namespace Go.Proofs.Ytdcngbkcammjoaa.Gen
open Go.ChangeShapes Go.WideShapes Go.ChangeAt Go.RowKit Go.Joins Go.Deep Base
set_option linter.unusedVariables false

/-- Which disks are right. -/
def diskB (su : Int) (n : Nat) : Bool := decide (n ≤ 80000) && inB su 0 (n : Int)
theorem diskB_out {su : Int} {n : Nat} (h : diskB su n = true) : n ≤ 80000 ∧ 0 ≤ su ∧ su ≤ (n : Int) := by
  simp only [diskB, inB, Bool.and_eq_true, decide_eq_true_eq] at h; exact h

theorem specDiskOk_any (su : Int) (A : Option Addr) (n cap : Nat) (hn : n ≤ 9223372036854775807) (w : World) :
    Calls Try.prog 8 #[.agg #[.slice A n cap, .int .i64 su]] w fun e w' => e = .returned (.bool (diskB su n)) ∧ Below w.heap.size w w' := by
  have e : diskB su n = (decide ((n : Int) ≤ 80000) && inB su 0 (n : Int)) := by
    unfold diskB; congr 1; simp; omega
  rw [e]
  clear e
  by_cases h : (n : Int) ≤ 80000
  all_goals
    go_enter Try.func8, Try.ntmps8
    go_wp2_with (go_at_call 24; refine (in_any _ _ _ _).mono ?_; rintro e w' ⟨rfl, rfl⟩)
    go_ret
    exact ⟨by simp [h] <;> (intro h2; omega), by repeat (first | exact Below.refl _ _ | assumption | refine via0 (by assumption) ?_ | refine Below.drew ?_ | refine alloc0 ?_ _)⟩

theorem implDiskOk_any (su : Int) (A : Option Addr) (n cap : Nat) (hn : n ≤ 9223372036854775807) (w : World) :
    Calls Try.prog 10 #[.agg #[.slice A n cap, .int .i64 su]] w fun e w' => e = .returned (.bool (diskB su n)) ∧ Below w.heap.size w w' := by
  have e : diskB su n = (decide ((n : Int) ≤ 80000) && inB su 0 (n : Int)) := by
    unfold diskB; congr 1; simp; omega
  rw [e]
  clear e
  by_cases h : (n : Int) ≤ 80000
  all_goals
    go_enter Try.func10, Try.ntmps10
    go_wp2_with (go_at_call 25; refine (within_any _ _ _ _).mono ?_; rintro e w' ⟨rfl, rfl⟩)
    go_ret
    exact ⟨by simp [h] <;> (intro h2; omega), by repeat (first | exact Below.refl _ _ | assumption | refine via0 (by assumption) ?_ | refine Below.drew ?_ | refine alloc0 ?_ _)⟩
end Go.Proofs.Ytdcngbkcammjoaa.Gen
