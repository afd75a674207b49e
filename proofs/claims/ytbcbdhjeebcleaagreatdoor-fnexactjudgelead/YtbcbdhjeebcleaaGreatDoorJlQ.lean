/-
  FnExactJudgeLead: what its row's cells say of the program, by the kernel, one by one. No condition.
-/
import Derived.Test.YtbcbdhjeebcleaaGreatDoorRows
import Derived.JoinedOf
import Derived.WalkKit
set_option linter.unusedVariables false
set_option linter.unusedSimpArgs false
set_option maxRecDepth 100000
set_option maxHeartbeats 8000000
namespace Go.Proofs.YtbcbdhjeebcleaaGreatDoor.JudgeLeadX
theorem c1 : Tryz.pinned.checked.prog.inPlace 3 = Rows.fnExactJudgeLeadRow.inPlace := by kernel_rfl
theorem c2 : Tryz.pinned.checked.prog.unfollowed 3 = Rows.fnExactJudgeLeadRow.unfollowed := by kernel_rfl
theorem c3 : Tryz.pinned.checked.prog.recurses 3 = Rows.fnExactJudgeLeadRow.recurses := by kernel_rfl
theorem c4 : Tryz.pinned.checked.prog.varsNamed 3 = Rows.fnExactJudgeLeadRow.named := by kernel_rfl
theorem c5 : Tryz.pinned.checked.prog.plainKeys = Rows.fnExactJudgeLeadRow.plainKeys := by kernel_rfl
theorem closed : joinedFacts Tryz.pinned.checked.prog 3 Tryz.f3 (OpenSpec.ofChange Rows.fnExactJudgeLeadSpec).bare Rows.fnExactJudgeLeadRow = true := by
 unfold joinedFacts
 rw [c1, c2, c3, c4, c5]
 kernel_rfl
end Go.Proofs.YtbcbdhjeebcleaaGreatDoor.JudgeLeadX
