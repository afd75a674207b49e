/-
  The laws' markText: a text of its own for each number. No condition.
-/
import Derived.Test.YtddijnmdeabjbaaGreatAns
import Derived.WalkSpells
import Derived.Lib.ItoaNum
set_option linter.unusedVariables false
set_option linter.unusedSimpArgs false
set_option maxRecDepth 100000
set_option maxHeartbeats 8000000
namespace Go.Proofs.YtddijnmdeabjbaaGreat.Items
open ChangeShapes WideShapes ChangeAt RowKit Base
def markT (k : Nat) : ByteArray := ⟨(109 :: Lib.decDigits k).toArray⟩
def markZ (z : Int) : ByteArray := markT z.toNat
end Go.Proofs.YtddijnmdeabjbaaGreat.Items
