/-
  Commands at this seat: what the laws' toCmd and szCmd answer. No condition but the length that every text has.
-/
import Derived.Test.YtfbbifdfjjkknaaDoorRows
import Derived.Test.YtfbbifdfjjkknaaDoorBase
import Derived.Test.YtfbbifdfjjkknaaDoorOpen
namespace Go.Proofs.YtfbbifdfjjkknaaDoor.Cmd
open Go.ChangeShapes Go.WideShapes Go.ChangeAt Go.RowKit Base
set_option linter.unusedVariables false

end Go.Proofs.YtfbbifdfjjkknaaDoor.Cmd
