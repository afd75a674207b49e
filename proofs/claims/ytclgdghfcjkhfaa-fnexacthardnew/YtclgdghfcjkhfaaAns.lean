/-
  Answers at this seat: which are right by the specification and by the program, what the laws' toAnswer, szAnswer do; an answer opened. No condition but the length that every text has.
-/
import Derived.Test.YtclgdghfcjkhfaaTextsImpl
import Derived.Test.YtclgdghfcjkhfaaOpen
import Derived.Test.YtclgdghfcjkhfaaGen
namespace Go.Proofs.Ytclgdghfcjkhfaa.Gen
open Go.ChangeShapes Go.WideShapes Go.ChangeAt Go.RowKit Go.Joins Go.Deep Base
set_option linter.unusedVariables false

/-- Which answers are right. -/
def ansB (code n : Int) (k t : ByteArray) : Bool := Items.inB code 0 9 && Items.inB n (-1) 100000 && Items.textB k && Items.textB t

theorem four (p q r s : Bool) : p = false ∨ (p = true ∧ q = false) ∨ (p = true ∧ q = true ∧ r = false) ∨ (p = true ∧ q = true ∧ r = true ∧ s = false) ∨ (p = true ∧ q = true ∧ r = true ∧ s = true) := by
  cases p <;> cases q <;> cases r <;> cases s <;> simp

end Go.Proofs.Ytclgdghfcjkhfaa.Gen
