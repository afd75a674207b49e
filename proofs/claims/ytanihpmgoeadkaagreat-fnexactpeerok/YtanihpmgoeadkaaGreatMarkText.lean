/-
  The laws' markText: a text of its own for each number. No condition.
-/
import Derived.Test.YtanihpmgoeadkaaGreatRows
import Derived.Test.YtanihpmgoeadkaaGreatBase
import Derived.Test.YtanihpmgoeadkaaGreatAns
import Derived.WalkSpells
import Derived.Lib.ItoaNum
namespace Go.Proofs.YtanihpmgoeadkaaGreat.Items
open Go.ChangeShapes Go.WideShapes Go.ChangeAt Go.RowKit Base
set_option linter.unusedVariables false
def markT (k : Nat) : ByteArray := ⟨(109 :: Lib.decDigits k).toArray⟩
def markZ (z : Int) : ByteArray := markT z.toNat
end Go.Proofs.YtanihpmgoeadkaaGreat.Items
