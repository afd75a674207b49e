/-
  Maker: what the laws' to, sz, eq, mark and held functions of it do; the argument opened. No condition but that its list has at most 1048576 records.
-/
import Derived.Test.YtclgdghfcjkhfaaMarks
namespace Go.Proofs.Ytclgdghfcjkhfaa.Gen
open Go.ChangeShapes Go.WideShapes Go.ChangeAt Go.RowKit Go.Joins Go.Deep Base
set_option linter.unusedVariables false

theorem eqMaker_same (row who epoch last : Int) (A A' : Option Addr) (cap cap' : Nat) (l : List Mk) (hl : l.length ≤ 9223372036854775807) (w : World) (hA : At w A l) (hA' : At w A' l) :
    Calls Try.prog 44 #[.agg #[.int .i64 row, .int .i64 who, .int .i64 epoch, .int .i64 last, .slice A l.length cap], .agg #[.int .i64 row, .int .i64 who, .int .i64 epoch, .int .i64 last, .slice A' l.length cap']] w fun e w' => e = .returned (.bool true) ∧ Below w.heap.size w w' := by
  have HA : Hid (∀ W : World, Below w.heap.size w W → At W A l) := fun W hW => hA.below hW
  have HA' : Hid (∀ W : World, Below w.heap.size w W → At W A' l) := fun W hW => hA'.below hW
  clear hA hA'
  go_enter Try.func44, Try.ntmps44
  go_wp2_with (go_at_call 54; refine (eqMkS_same A A' cap cap' l hl _ (HA.out _ ?_) (HA'.out _ ?_)).mono ?_; (repeat (first | exact Below.refl _ _ | assumption | refine via0 (by assumption) ?_ | refine Below.drew ?_ | refine alloc0 ?_ _)); (repeat (first | exact Below.refl _ _ | assumption | refine via0 (by assumption) ?_ | refine Below.drew ?_ | refine alloc0 ?_ _)); rintro e w1 ⟨rfl, g1⟩)
  go_ret
  refine ⟨rfl, ?_⟩
  repeat (first | exact Below.refl _ _ | assumption | refine via0 (by assumption) ?_ | refine Below.drew ?_ | refine alloc0 ?_ _)

end Go.Proofs.Ytclgdghfcjkhfaa.Gen
