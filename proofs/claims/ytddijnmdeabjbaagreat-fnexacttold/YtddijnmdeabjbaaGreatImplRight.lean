/-
  The program's isRightItem and rowOf.ascends at this seat.
-/
import Derived.Test.YtddijnmdeabjbaaGreatTold
import Derived.Test.YtddijnmdeabjbaaGreatSpecRowOk
set_option linter.unusedVariables false
set_option linter.unusedSimpArgs false
set_option maxRecDepth 100000
set_option maxHeartbeats 8000000
namespace Go.Proofs.YtddijnmdeabjbaaGreat.Items
open ChangeShapes WideShapes ChangeAt RowKit Shelf Base
theorem Blk.row {W : World} {B : Nat} {t : TypeId} {a b c : Value} (h : Blk W B t #[a, b, c]) :
 W.cell? ⟨B, 0, none⟩ = some a /\ W.cell? ⟨B, 1, none⟩ = some b /\ W.cell? ⟨B, 2, none⟩ = some c :=
 ⟨h.cell rfl, h.cell rfl, h.cell rfl⟩
end Go.Proofs.YtddijnmdeabjbaaGreat.Items
