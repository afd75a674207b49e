/-
  Commands at this seat: what the laws' toCmd and szCmd answer. No condition but the length that every text has.
-/
import Derived.Test.YtjmaifmcoepfdaaRows
import Derived.Test.YtjmaifmcoepfdaaBase
import Derived.Test.YtjmaifmcoepfdaaOpen
namespace Go.Proofs.Ytjmaifmcoepfdaa.Cmd
open Go.ChangeShapes Go.WideShapes Go.ChangeAt Go.RowKit Base
set_option linter.unusedVariables false

end Go.Proofs.Ytjmaifmcoepfdaa.Cmd
