/- Both BridgeOk, portIsOf, canFollow, walked. -/
import Derived.Test.YtemibefbkjpnaabRows
import Derived.WalkKit
import Derived.ProofKit
import Derived.OpenShut
import Derived.ShutString
import Derived.ChangeOld
import Derived.Below
import Derived.Deep.QuietTactic
import Derived.BigQuiet
import Derived.WalkSmall
import Derived.Laws.OwnMore
import Derived.WalkSpells
import Derived.WalkLawsBesides
import Derived.Test.YtemibefbkjpnaabBr1
namespace Go.Proofs.Ytemibefbkjpnaab
open Go.ChangeShapes Go.WideShapes Go.ChangeAt Go.RowKit
open Go.ChangeMaps (open_string shut_string)
set_option linter.unusedVariables false
set_option maxRecDepth 100000

theorem pall_no {L : List Pt} {k : Nat} (h : k < L.length) (hq : pOk (L.getD k Pt.nil) = false) : L.all pOk = false := by
  rw [List.all_eq_false]
  exact ⟨L[k], List.getElem_mem h, by rw [show L.getD k Pt.nil = L[k] by simp [List.getD, h]] at hq; simp [hq]⟩
theorem pall_yes {L : List Pt} (h : ∀ j, j < L.length → pOk (L.getD j Pt.nil) = true) : L.all pOk = true := by
  rw [List.all_eq_true]
  intro x hx
  obtain ⟨i, hi, rfl⟩ := List.getElem_of_mem hx
  have := h i hi
  rwa [show L.getD i Pt.nil = L[i] by simp [List.getD, hi]] at this
theorem cand_up {id : Int} {x : Pt} (h : pOk x = true) : (x.up && cand id x) = cand id x := by
  cases hh : x.has
  · simp [cand, hh]
  · rw [(pOk_has h hh).1]; rfl
end Go.Proofs.Ytemibefbkjpnaab
