/- What toHeardS made, as a list. -/
import Derived.Test.YtifndemkkaelaaaRows
import Derived.WalkKit
import Derived.ProofKit
import Derived.OpenShut
import Derived.ShutString
import Derived.ChangeOld
import Derived.Below
import Derived.Deep.QuietTactic
import Derived.BigQuiet
import Derived.WalkSmall
import Derived.Laws.OwnMore
import Derived.WalkSpells
import Derived.Test.YtifndemkkaelaaaHeard5
namespace Go.Proofs.Ytifndemkkaelaaa
open Go.ChangeShapes Go.WideShapes Go.ChangeAt Go.RowKit
open Go.ChangeMaps (open_string shut_string)
set_option linter.unusedVariables false

theorem HFilled.view {B : Nat} {L : List Hd} {w wr : World} (h : HFilled B L L.length w wr) : HView wr (some ⟨B, 0, none⟩) L :=
  fun _ => ⟨B, 0, rfl, fun i hi => by rw [Nat.zero_add]; exact h.2.2.2.2 i hi⟩
theorem HFilled.room {B : Nat} {L : List Hd} {w wr : World} (h : HFilled B L L.length w wr) : HRoom wr (some ⟨B, 0, none⟩) L.length :=
  fun _ => ⟨B, 0, rfl, fun i hi => by rw [Nat.zero_add]; exact ⟨h.2.2.1 i hi, h.2.2.2.1 i hi⟩⟩
theorem his_some {B n : Nat} {L : List Hd} (h : B < n) : HIs (some ⟨B, 0, none⟩) L (· < n) := fun a e _ => by
  obtain rfl : (⟨B, 0, none⟩ : Addr) = a := by simpa using e
  exact h
theorem HIs.le {ad : Option Addr} {L : List Hd} {n m : Nat} (h : HIs ad L (· < n)) (k : n ≤ m) : HIs ad L (· < m) := fun a e p => Nat.lt_of_lt_of_le (h a e p) k

end Go.Proofs.Ytifndemkkaelaaa
