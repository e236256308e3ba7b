import Derived.Test.YtjmnaeeknomiaaaGreatDoorRows
import Derived.WalkKit
import Derived.ProofKit
import Derived.OpenShut
import Derived.ShutString
import Derived.ChangeOld
import Derived.Below
import Derived.Deep.QuietTactic
import Derived.BigQuiet
import Derived.WalkSmall
import Derived.Laws.OwnMore
import Derived.WalkSpells
namespace Go.Proofs.YtjmnaeeknomiaaaGreatDoor
open Go.ChangeShapes Go.WideShapes Go.ChangeAt Go.RowKit
open Go.ChangeMaps (open_string shut_string)
set_option linter.unusedVariables false
abbrev ji (n : Int) : Value := .int .i64 n
abbrev ja (q i : Nat) : Addr := ⟨q, i, none⟩
theorem AG {w u v : World} (h : Below w.heap.size w u) (k : Below u.heap.size u v) : Below w.heap.size w v := h.trans (k.mono h.size)
theorem AM (w : World) (o : Obj) : ∃ y, y = w.alloc o ∧ Below w.heap.size w y := ⟨_, rfl, (Below.refl _ _).alloc (Nat.le_refl _) _⟩
abbrev Bw (w w' : World) : Prop := Below w.heap.size w w'
theorem AE {w : World} {a : Addr} {u : Value} {k : Nat} (h : k ≠ a.block) : (w.setCell a u).heap[k]? = w.heap[k]? := Below.heap_setCell w a u k h
set_option maxRecDepth 100000
set_option maxHeartbeats 32000000
set_option linter.unusedSimpArgs false
open Go.Proofs.Tryz
attribute [local go_sem] ji ja
theorem CN (n a b : Int) (w : World) (h : a ≤ n ∧ n ≤ b) : Calls prog 66 #[ji n, ji a, ji b] w fun e w' => e = .returned (.bool true) ∧ w' = w := by
 obtain ⟨h1, h2⟩ := h;go_enter func66, ntmps66
 go_wp2
 go_ret
 exact ⟨rfl, rfl⟩
theorem Dz (n a b : Int) (w : World) (h : n < a ∨ b < n) : Calls prog 66 #[ji n, ji a, ji b] w fun e w' => e = .returned (.bool false) ∧ w' = w := by
 by_cases h1 : n < a
 ·
  clear h;go_enter func66, ntmps66
  go_wp2
  go_ret
  exact ⟨rfl, rfl⟩
 have h2 : b < n := by omega
 have h3 : a ≤ n := by omega
 have hd : decide (n ≤ b) = false := by simp; omega
 clear h h1;go_enter func66, ntmps66
 go_wp2
 go_ret
 exact ⟨rfl, rfl⟩
end Go.Proofs.YtjmnaeeknomiaaaGreatDoor
