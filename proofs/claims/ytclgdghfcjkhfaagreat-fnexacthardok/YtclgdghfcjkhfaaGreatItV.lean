/-
  An item as a value; the item of zeros.
-/
import Derived.Test.YtclgdghfcjkhfaaGreatGen
namespace Go.Proofs.YtclgdghfcjkhfaaGreat.Items
open Go.ChangeShapes Go.WideShapes Go.ChangeAt Go.RowKit Base
set_option linter.unusedVariables false

def It.zero : It := ⟨0, ⟨#[]⟩, ⟨#[]⟩, 0, 0⟩
def It.v (x : It) : Value := .agg #[.int .i64 x.off, .string x.key, .string x.text, .int .i64 x.who, .int .i64 x.time]

end Go.Proofs.YtclgdghfcjkhfaaGreat.Items
