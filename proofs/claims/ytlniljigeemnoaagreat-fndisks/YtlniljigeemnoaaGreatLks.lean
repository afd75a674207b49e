/-
  The numbers under which this seat's program holds sync.Mutex's functions and types, and that it holds them. No condition.
-/
import Derived.Test.YtlniljigeemnoaaGreatRows
import Derived.Conc.MuLone
set_option linter.unusedVariables false
set_option linter.unusedSimpArgs false
set_option maxRecDepth 100000
set_option maxHeartbeats 8000000
namespace Go.Proofs.YtlniljigeemnoaaGreat.Gen
abbrev muLink : Go.Conc.Locks.MuLink := { lock := 33, unlock := 34, ilock := 42, iunlock := 43, lockSlow := 57, unlockSlow := 60, disable := 53, enable := 55, acquire := 56, relMerge := 58, cas32 := 54, add32 := 59, tMutex := 59, tIMutex := 57, tPMutex := 75, tPIMutex := 96, tPI32 := 98, tUP := 100, tNoCopy := 54, tU32 := 55 }
theorem Qhh : Go.Conc.Locks.MuLib Tryz.prog muLink :=
 ⟨Tryz.func33, Tryz.func34, Tryz.func42, Tryz.func43, Tryz.func53, Tryz.func55, Tryz.func56, Tryz.func58, Tryz.func54, Tryz.func59,
  Tryz.underlying57, Tryz.runUnderlying57, Tryz.sizeOf57, Tryz.isAgg57, Tryz.zeroValue57, Tryz.underlying59, Tryz.runUnderlying59, Tryz.sizeOf59, Tryz.isAgg59, Tryz.zeroValue59, Tryz.underlying75, Tryz.runUnderlying75, Tryz.sizeOf75, Tryz.isAgg75, Tryz.zeroValue75, Tryz.underlying96, Tryz.runUnderlying96, Tryz.sizeOf96, Tryz.isAgg96, Tryz.zeroValue96, Tryz.underlying98, Tryz.runUnderlying98, Tryz.sizeOf98, Tryz.isAgg98, Tryz.zeroValue98, Tryz.underlying100, Tryz.runUnderlying100, Tryz.sizeOf100, Tryz.isAgg100, Tryz.zeroValue100, Tryz.underlying54, Tryz.runUnderlying54, Tryz.sizeOf54, Tryz.isAgg54, Tryz.zeroValue54, Tryz.underlying21, Tryz.runUnderlying21, Tryz.sizeOf21, Tryz.isAgg21, Tryz.zeroValue21, (by kernel_rfl)⟩
end Go.Proofs.YtlniljigeemnoaaGreat.Gen
