/-
  Commands at this seat: what the laws' toCmd and szCmd answer. No condition but the length that every text has.
-/
import Derived.Test.YtddijnmdeabjbaaGreatRows
import Derived.Test.YtddijnmdeabjbaaGreatBase
import Derived.Lib.SmallJoins
set_option linter.unusedVariables false
set_option linter.unusedSimpArgs false
set_option maxRecDepth 100000
set_option maxHeartbeats 8000000
namespace Go.Proofs.YtddijnmdeabjbaaGreat.Cmd
open ChangeShapes WideShapes ChangeAt RowKit Base
theorem to_any (who seq op a b c : Int) (k t : ByteArray) (w : World) :
 Calls Tryz.prog 63 #[.agg #[.int .i64 who, .int .i64 seq, .int .i64 op, .int .i64 a, .int .i64 b, .int .i64 c, .string k, .string t]] w fun e w' => e = .returned (.agg #[.int .i64 who, .int .i64 seq, .int .i64 op, .int .i64 a, .int .i64 b, .int .i64 c, .string k, .string t]) /\ Below w.heap.size w w' := by
 go_enter Tryz.func63, Tryz.ntmps63
 go_wp2
 exact bodyPost_ret (v := .agg #[.int .i64 who, .int .i64 seq, .int .i64 op, .int .i64 a, .int .i64 b, .int .i64 c, .string k, .string t]) (by simp [results, Tryz.results63, go_sem]) rfl
  ⟨rfl, by repeat (first | exact Below.refl _ _ | refine Below.drew ?_ | refine Below.alloc ?_ (by simp<;>omega) _)⟩
end Go.Proofs.YtddijnmdeabjbaaGreat.Cmd
