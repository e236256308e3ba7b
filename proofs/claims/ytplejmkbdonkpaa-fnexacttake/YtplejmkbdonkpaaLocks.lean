/-
  The numbers under which this dump holds the lock's functions and types, and that it holds them; no condition.
-/
import Derived.Test.YtplejmkbdonkpaaProg
import Derived.Conc.MuLone
import Derived.KernelRfl
namespace Go.Proofs
abbrev Try.muLink : Go.Conc.Locks.MuLink := { lock := 74, unlock := 75, ilock := 89, iunlock := 90, lockSlow := 99, unlockSlow := 102, disable := 95, enable := 97, acquire := 98, relMerge := 100, cas32 := 96, add32 := 101, tMutex := 114, tIMutex := 112, tPMutex := 140, tPIMutex := 153, tPI32 := 155, tUP := 157, tNoCopy := 109, tU32 := 110 }
theorem Try.muLib : Go.Conc.Locks.MuLib Try.prog Try.muLink :=
  ⟨Try.func74, Try.func75, Try.func89, Try.func90, Try.func95, Try.func97, Try.func98, Try.func100, Try.func96, Try.func101, Try.underlying112, Try.runUnderlying112, Try.sizeOf112, Try.isAgg112, Try.zeroValue112, Try.underlying114, Try.runUnderlying114, Try.sizeOf114, Try.isAgg114, Try.zeroValue114, Try.underlying140, Try.runUnderlying140, Try.sizeOf140, Try.isAgg140, Try.zeroValue140, Try.underlying153, Try.runUnderlying153, Try.sizeOf153, Try.isAgg153, Try.zeroValue153, Try.underlying155, Try.runUnderlying155, Try.sizeOf155, Try.isAgg155, Try.zeroValue155, Try.underlying157, Try.runUnderlying157, Try.sizeOf157, Try.isAgg157, Try.zeroValue157, Try.underlying109, Try.runUnderlying109, Try.sizeOf109, Try.isAgg109, Try.zeroValue109, Try.underlying21, Try.runUnderlying21, Try.sizeOf21, Try.isAgg21, Try.zeroValue21, (by kernel_rfl)⟩
end Go.Proofs
