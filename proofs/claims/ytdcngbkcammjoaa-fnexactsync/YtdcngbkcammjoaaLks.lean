/-
  The numbers under which this seat's program holds sync.Mutex's functions and types, and that it holds them. No condition.
-/
import Derived.Test.YtdcngbkcammjoaaRows
import Derived.Conc.MuLone
import Derived.KernelRfl
namespace Go.Proofs.Ytdcngbkcammjoaa.Gen
abbrev muLink : Go.Conc.Locks.MuLink := { lock := 36, unlock := 37, ilock := 42, iunlock := 43, lockSlow := 50, unlockSlow := 53, disable := 46, enable := 48, acquire := 49, relMerge := 51, cas32 := 47, add32 := 52, tMutex := 56, tIMutex := 54, tPMutex := 66, tPIMutex := 71, tPI32 := 73, tUP := 75, tNoCopy := 51, tU32 := 52 }
theorem muLib : Go.Conc.Locks.MuLib Try.prog muLink :=
  ⟨Try.func36, Try.func37, Try.func42, Try.func43, Try.func46, Try.func48, Try.func49, Try.func51, Try.func47, Try.func52,
   Try.underlying54, Try.runUnderlying54, Try.sizeOf54, Try.isAgg54, Try.zeroValue54, Try.underlying56, Try.runUnderlying56, Try.sizeOf56, Try.isAgg56, Try.zeroValue56, Try.underlying66, Try.runUnderlying66, Try.sizeOf66, Try.isAgg66, Try.zeroValue66, Try.underlying71, Try.runUnderlying71, Try.sizeOf71, Try.isAgg71, Try.zeroValue71, Try.underlying73, Try.runUnderlying73, Try.sizeOf73, Try.isAgg73, Try.zeroValue73, Try.underlying75, Try.runUnderlying75, Try.sizeOf75, Try.isAgg75, Try.zeroValue75, Try.underlying51, Try.runUnderlying51, Try.sizeOf51, Try.isAgg51, Try.zeroValue51, Try.underlying21, Try.runUnderlying21, Try.sizeOf21, Try.isAgg21, Try.zeroValue21, (by kernel_rfl)⟩
end Go.Proofs.Ytdcngbkcammjoaa.Gen
