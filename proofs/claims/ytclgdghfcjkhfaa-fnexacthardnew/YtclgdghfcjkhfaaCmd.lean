/-
  Commands at this seat: what the laws' toCmd and szCmd answer. No condition but the length that every text has.
-/
import Derived.Test.YtclgdghfcjkhfaaRows
import Derived.Test.YtclgdghfcjkhfaaBase
import Derived.Test.YtclgdghfcjkhfaaOpen
namespace Go.Proofs.Ytclgdghfcjkhfaa.Cmd
open Go.ChangeShapes Go.WideShapes Go.ChangeAt Go.RowKit Base
set_option linter.unusedVariables false

end Go.Proofs.Ytclgdghfcjkhfaa.Cmd
