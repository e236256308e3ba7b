/- Both Fade, walked. -/
import Derived.Test.YtjholgpjicliaaaDoorRows
import Derived.WalkKit
import Derived.ProofKit
import Derived.OpenShut
import Derived.ShutString
import Derived.ChangeOld
import Derived.Below
import Derived.Deep.QuietTactic
import Derived.BigQuiet
import Derived.WalkSmall
import Derived.Laws.OwnMore
import Derived.WalkSpells
import Derived.WalkLawsBesides
import Derived.Test.YtjholgpjicliaaaDoorPort4
namespace Go.Proofs.YtjholgpjicliaaaDoor
open Go.ChangeShapes Go.WideShapes Go.ChangeAt Go.RowKit
open Go.ChangeMaps (open_string shut_string)
set_option linter.unusedVariables false
set_option maxRecDepth 100000

/-- What Fade answers. -/
def fadeR (x : Pt) : Pt := if pOk x && x.has then (if x.l = 1 then x.bare else ⟨x.up, x.has, x.r, x.c, x.b, x.p, x.h, x.l - 1, x.ro, x.wa, x.op⟩) else x
theorem pOk_has {x : Pt} (h : pOk x = true) (hh : x.has = true) : x.up = true ∧ vOk x.r x.c x.b x.p = true ∧ 0 ≤ x.h ∧ x.h ≤ 8 ∧ 1 ≤ x.l ∧ x.l ≤ 3 := by
  rw [pOk_spec _ _ rfl] at h
  simp only [Bool.and_eq_true] at h
  have hf := h.1
  simp only [fitsB, hh, if_true, Bool.and_eq_true, decide_eq_true_eq] at hf
  exact ⟨hf.1, hf.2.1, hf.2.2.1.1, hf.2.2.1.2, hf.2.2.2.1, hf.2.2.2.2⟩
end Go.Proofs.YtjholgpjicliaaaDoor
