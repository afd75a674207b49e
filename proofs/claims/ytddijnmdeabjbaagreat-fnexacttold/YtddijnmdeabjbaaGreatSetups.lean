/-
  Setups at this seat: which are right by the specification and by the program; the laws' toSetup. No condition.
-/
import Derived.Test.YtddijnmdeabjbaaGreatInB
set_option linter.unusedVariables false
set_option linter.unusedSimpArgs false
set_option maxRecDepth 100000
set_option maxHeartbeats 8000000
namespace Go.Proofs.YtddijnmdeabjbaaGreat.Gen
open ChangeShapes WideShapes ChangeAt RowKit Joins Deep Base
theorem Qc9 (ro wi le ke : Int) (w : World) :
 Calls Tryz.prog 23 #[.agg #[.int .i64 ro, .int .i64 wi, .int .i64 le, .int .i64 ke]] w fun e w' => e = .returned (.agg #[.int .i64 ro, .int .i64 wi, .int .i64 le, .int .i64 ke]) /\ Below w.heap.size w w' := by
 go_enter Tryz.func23, Tryz.ntmps23
 go_wp2
 exact bodyPost_ret (v := .agg #[.int .i64 ro, .int .i64 wi, .int .i64 le, .int .i64 ke]) (by simp [results, Tryz.results23, go_sem]) rfl
  ⟨rfl, by repeat (first | exact Below.refl _ _ | refine Below.drew ?_ | refine Below.alloc ?_ (by simp<;>omega) _)⟩
end Go.Proofs.YtddijnmdeabjbaaGreat.Gen
