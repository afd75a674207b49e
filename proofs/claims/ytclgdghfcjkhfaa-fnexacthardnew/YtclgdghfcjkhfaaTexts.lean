/-
  Numbers within limits and plain texts, as the specification tells them. No condition but the length that every text has.
-/
import Derived.Test.YtclgdghfcjkhfaaRows
import Derived.Test.YtclgdghfcjkhfaaBase
namespace Go.Proofs.Ytclgdghfcjkhfaa.Items
open Go.ChangeShapes Go.WideShapes Go.ChangeAt Go.RowKit Base
set_option linter.unusedVariables false

def inB (x lo hi : Int) : Bool := decide (lo ≤ x ∧ x ≤ hi)

theorem in_any (x lo hi : Int) (w : World) :
    Calls Try.prog 20 #[.int .i64 x, .int .i64 lo, .int .i64 hi] w fun e w' => e = .returned (.bool (inB x lo hi)) ∧ w' = w := by
  by_cases h1 : lo ≤ x <;> by_cases h2 : x ≤ hi <;>
  · go_enter Try.func20, Try.ntmps20
    go_wp2
    go_ret
    exact ⟨by simp [inB, h1, h2], rfl⟩

def plainN (x : Nat) : Bool := decide ((97 ≤ x ∧ x ≤ 122) ∨ (48 ≤ x ∧ x ≤ 57) ∨ x = 32)

theorem plain_ways (x : Nat) :
    ((97 : Int) ≤ x ∧ (x : Int) ≤ 122 ∧ plainN x = true) ∨ ((97 : Int) ≤ x ∧ ¬ (x : Int) ≤ 122 ∧ (48 : Int) ≤ x ∧ ¬ (x : Int) ≤ 57 ∧ ((x : Int) == 32) = false ∧ plainN x = false) ∨
    (¬ (97 : Int) ≤ x ∧ (48 : Int) ≤ x ∧ (x : Int) ≤ 57 ∧ plainN x = true) ∨ (¬ (97 : Int) ≤ x ∧ (48 : Int) ≤ x ∧ ¬ (x : Int) ≤ 57 ∧ ((x : Int) == 32) = false ∧ plainN x = false) ∨
    (¬ (97 : Int) ≤ x ∧ ¬ (48 : Int) ≤ x ∧ ((x : Int) == 32) = true ∧ plainN x = true) ∨ (¬ (97 : Int) ≤ x ∧ ¬ (48 : Int) ≤ x ∧ ((x : Int) == 32) = false ∧ plainN x = false) := by
  simp only [beq_eq_false_iff_ne, beq_iff_eq, ne_eq, plainN, decide_eq_true_eq, decide_eq_false_iff_not]
  omega

/-- From byte i on all are plain. -/
def allFrom (s : ByteArray) (i : Nat) : Bool := (s.data.toList.drop i).all (fun x => plainN x.toNat)

def textB (s : ByteArray) : Bool := allFrom s 0 && decide (s.size ≤ 30)

theorem allFrom_end {s : ByteArray} {i : Nat} (h : s.size ≤ i) : allFrom s i = true := by
  have : s.data.toList.drop i = [] := List.drop_eq_nil_of_le (by simpa using h)
  simp [allFrom, this]
theorem allFrom_step {s : ByteArray} {i : Nat} (h : i < s.size) : allFrom s i = (plainN (s[i]'h).toNat && allFrom s (i + 1)) := by
  have h' : i < s.data.toList.length := by simpa using h
  unfold allFrom
  rw [List.drop_eq_getElem_cons h', List.all_cons]
  rfl

end Go.Proofs.Ytclgdghfcjkhfaa.Items
