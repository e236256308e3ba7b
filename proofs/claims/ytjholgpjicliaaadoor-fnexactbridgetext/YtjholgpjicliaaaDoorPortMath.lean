/- What Claim, Fade and Turn keep. -/
import Derived.Test.YtjholgpjicliaaaDoorRows
import Derived.WalkKit
import Derived.ProofKit
import Derived.OpenShut
import Derived.ShutString
import Derived.ChangeOld
import Derived.Below
import Derived.Deep.QuietTactic
import Derived.BigQuiet
import Derived.WalkSmall
import Derived.Laws.OwnMore
import Derived.WalkSpells
import Derived.WalkLawsBesides
import Derived.Test.YtjholgpjicliaaaDoorPort4
import Derived.Test.YtjholgpjicliaaaDoorPort5
import Derived.Test.YtjholgpjicliaaaDoorPort6
namespace Go.Proofs.YtjholgpjicliaaaDoor
open Go.ChangeShapes Go.WideShapes Go.ChangeAt Go.RowKit
open Go.ChangeMaps (open_string shut_string)
set_option linter.unusedVariables false
set_option maxRecDepth 100000

theorem claim_ok {x : Pt} {r c b p k : Int} (h : pOk x = true) : pOk (claimR x r c b p k) = true := by
  cases ht : takes x r c b p k
  · rw [claimR_no ht]; exact h
  · rw [claimR_yes ht]
    unfold takes at ht
    simp only [Bool.and_eq_true] at ht
    obtain ⟨_, hu, hv, hk, _⟩ := ht
    unfold pOk at h ⊢
    simp only [Bool.and_eq_true] at h ⊢
    refine ⟨h.1, h.2.1, h.2.2.1, h.2.2.2.1, ?_⟩
    simp only [fitsB, if_true, hu, hv, hk, Bool.true_and]
    rfl
theorem claim_has {x : Pt} {r c b p k : Int} (h : x.has = true) : (claimR x r c b p k).has = true := by
  cases ht : takes x r c b p k
  · rw [claimR_no ht]; exact h
  · rw [claimR_yes ht]
theorem turn_ok {x : Pt} {role : Int} (h : pOk x = true) : pOk (turnR x role) = true := by
  unfold turnR
  rw [h]
  cases hu : x.up
  · exact h
  cases hr : raUp role
  · exact h
  simp only [Bool.true_and, if_true]
  unfold pOk at h ⊢
  simp only [Bool.and_eq_true, decide_eq_true_eq] at h ⊢
  obtain ⟨_, _, _, hw, hf⟩ := h
  have hr' : 1 ≤ role ∧ role ≤ 3 := by simpa [raUp] using hr
  refine ⟨by simp [raIs]; omega, by rw [hr]; rfl, by simp, ?_, ?_⟩
  · unfold waitR; split
    · omega
    · split <;> omega
  · unfold fitsB at hf ⊢
    rw [hu] at hf
    exact hf
theorem fade_less {x : Pt} (h : ¬ (fadeR x).l < x.l) : fadeR x = x := by
  by_cases hc : (pOk x && x.has) = true
  · exfalso
    simp only [Bool.and_eq_true] at hc
    have hl := pOk_has hc.1 hc.2
    apply h
    unfold fadeR
    rw [hc.1, hc.2]
    simp only [Bool.and_self, if_true]
    split
    · simp only [Pt.bare]; omega
    · simp only []; omega
  · unfold fadeR
    rw [if_neg hc]

end Go.Proofs.YtjholgpjicliaaaDoor
