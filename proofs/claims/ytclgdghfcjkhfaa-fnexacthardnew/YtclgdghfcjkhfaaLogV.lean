/-
  Logs: what the laws' sz, to and eq functions of them do; a log opened. No condition but that there are at most 1048576 entries, and the length that every text has.
-/
import Derived.Test.YtclgdghfcjkhfaaEnt
namespace Go.Proofs.Ytclgdghfcjkhfaa.Gen
open Go.ChangeShapes Go.WideShapes Go.ChangeAt Go.RowKit Go.Joins Go.Deep Base
set_option linter.unusedVariables false

theorem At.hid {α : Type} [Cel α] {w : World} {A : Option Addr} {l : List α} (hA : At w A l) : Hid (∀ W : World, Below w.heap.size w W → At W A l) := fun W hW => hA.below hW

theorem eqLog_same (base bt : Int) (A A' : Option Addr) (cap cap' : Nat) (l : List En) (hl : l.length ≤ 9223372036854775807) (w : World) (hA : At w A l) (hA' : At w A' l) :
    Calls Try.prog 14 #[.agg #[.int .i64 base, .int .i64 bt, .slice A l.length cap], .agg #[.int .i64 base, .int .i64 bt, .slice A' l.length cap']] w fun e w' => e = .returned (.bool true) ∧ Below w.heap.size w w' := by
  have HA := hA.hid
  have HA' := hA'.hid
  clear hA hA'
  go_enter Try.func14, Try.ntmps14
  go_wp2_with (go_at_call 24; refine (eqEntryS_same A A' cap cap' l hl _ (HA.out _ ?_) (HA'.out _ ?_)).mono ?_; (repeat (first | exact Below.refl _ _ | assumption | refine via0 (by assumption) ?_ | refine Below.drew ?_ | refine alloc0 ?_ _)); (repeat (first | exact Below.refl _ _ | assumption | refine via0 (by assumption) ?_ | refine Below.drew ?_ | refine alloc0 ?_ _)); rintro e w1 ⟨rfl, g1⟩)
  go_ret
  refine ⟨rfl, ?_⟩
  repeat (first | exact Below.refl _ _ | assumption | refine via0 (by assumption) ?_ | refine Below.drew ?_ | refine alloc0 ?_ _)

end Go.Proofs.Ytclgdghfcjkhfaa.Gen
