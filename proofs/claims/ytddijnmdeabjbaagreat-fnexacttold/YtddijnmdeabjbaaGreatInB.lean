/-
  Numbers within limits, as the program and as the specification tell them. No condition.
-/
import Derived.Test.YtddijnmdeabjbaaGreatGen
set_option linter.unusedVariables false
set_option linter.unusedSimpArgs false
set_option maxRecDepth 100000
set_option maxHeartbeats 8000000
namespace Go.Proofs.YtddijnmdeabjbaaGreat.Gen
open ChangeShapes WideShapes ChangeAt RowKit Joins Deep Base
def inB (x lo hi : Int) : Bool := decide (lo <= x /\ x <= hi)
theorem in_any (x lo hi : Int) (w : World) :
 Calls Tryz.prog 18 #[.int .i64 x, .int .i64 lo, .int .i64 hi] w fun e w' => e = .returned (.bool (inB x lo hi)) /\ w' = w := by
 by_cases h1 : lo <= x
 . by_cases h2 : x <= hi
   . have e : Hid (inB x lo hi = true) := by show _ = _; simp [inB, h1, h2]
     go_enter Tryz.func18, Tryz.ntmps18
     go_wp2
     go_ret
     exact ⟨by rw [e.out]; rfl, rfl⟩
   . have e : Hid (inB x lo hi = false) := by show _ = _; simp [inB, h2]
     have h2' : decide (x <= hi) = false := decide_eq_false h2
     go_enter Tryz.func18, Tryz.ntmps18
     go_wp2
     go_ret
     exact ⟨by rw [e.out]; first | rfl | (rw [← h2']; rfl), rfl⟩
 . have e : Hid (inB x lo hi = false) := by show _ = _; simp [inB, h1]
   go_enter Tryz.func18, Tryz.ntmps18
   go_wp2
   go_ret
   exact ⟨by rw [e.out]; rfl, rfl⟩
end Go.Proofs.YtddijnmdeabjbaaGreat.Gen
