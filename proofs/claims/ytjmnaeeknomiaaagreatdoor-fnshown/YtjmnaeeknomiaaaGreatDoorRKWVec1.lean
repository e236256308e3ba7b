import Derived.Test.YtjmnaeeknomiaaaGreatDoorRM1
import Derived.WalkLawsBesides
namespace Go.Proofs.YtjmnaeeknomiaaaGreatDoor
open Go.ChangeShapes Go.WideShapes Go.ChangeAt Go.RowKit
open Go.ChangeMaps (open_string shut_string)
set_option linter.unusedVariables false
set_option maxRecDepth 100000
set_option maxHeartbeats 32000000
set_option linter.unusedSimpArgs false
open Go.Proofs.Tryz
attribute [local go_sem] ji ja
def Bc (r c b p : Int) : Bool := decide (1 ≤ r ∧ r ≤ b ∧ b ≤ 9 ∧ 0 ≤ c ∧ c ≤ 20 ∧ (c = 0 ↔ r = b) ∧ 0 ≤ p ∧ p < 4)
theorem G5 (r c b p : Int) (w : World) :
  Calls prog 67 #[.agg #[ji r, ji c, ji b, ji p]] w fun e w' => e = .returned (.bool (Bc r c b p)) ∧ Bw w w' := by
 by_cases h0 : 1 ≤ r ∧ r ≤ 9
 rotate_left
 ·
  skip
  have e : Bc r c b p = false := by unfold Bc; simp; omega
  rw [e];clear e;go_enter func67, ntmps67
  go_wp2_with (first | (go_at_call 66; refine (CN _ _ _ _ (by omega)).mono ?_; rintro e w' ⟨rfl, rfl⟩) | (go_at_call 66; refine (Dz _ _ _ _ (by omega)).mono ?_; rintro e w' ⟨rfl, rfl⟩) | go_in)
  go_ret
  exact ⟨rfl, (Below.refl _ _).alloc (Nat.le_refl _) _⟩
 by_cases h1 : 1 ≤ b ∧ b ≤ 9
 rotate_left
 ·
  skip
  have e : Bc r c b p = false := by unfold Bc; simp; omega
  rw [e];clear e;go_enter func67, ntmps67
  go_wp2_with (first | (go_at_call 66; refine (CN _ _ _ _ (by omega)).mono ?_; rintro e w' ⟨rfl, rfl⟩) | (go_at_call 66; refine (Dz _ _ _ _ (by omega)).mono ?_; rintro e w' ⟨rfl, rfl⟩) | go_in)
  go_ret
  exact ⟨rfl, (Below.refl _ _).alloc (Nat.le_refl _) _⟩
 by_cases h2 : r ≤ b
 rotate_left
 ·
  have d2 : decide (r ≤ b) = false := decide_eq_false h2;have e : Bc r c b p = false := by unfold Bc; simp; omega
  rw [e];clear e;go_enter func67, ntmps67
  go_wp2_with (first | (go_at_call 66; refine (CN _ _ _ _ (by omega)).mono ?_; rintro e w' ⟨rfl, rfl⟩) | (go_at_call 66; refine (Dz _ _ _ _ (by omega)).mono ?_; rintro e w' ⟨rfl, rfl⟩) | go_in)
  go_ret
  exact ⟨rfl, (Below.refl _ _).alloc (Nat.le_refl _) _⟩
 by_cases h3 : 0 ≤ c ∧ c ≤ 20
 rotate_left
 ·
  skip
  have e : Bc r c b p = false := by unfold Bc; simp; omega
  rw [e];clear e;go_enter func67, ntmps67
  go_wp2_with (first | (go_at_call 66; refine (CN _ _ _ _ (by omega)).mono ?_; rintro e w' ⟨rfl, rfl⟩) | (go_at_call 66; refine (Dz _ _ _ _ (by omega)).mono ?_; rintro e w' ⟨rfl, rfl⟩) | go_in)
  go_ret
  exact ⟨rfl, (Below.refl _ _).alloc (Nat.le_refl _) _⟩
 by_cases hc0 : c = 0
 ·
  have hcb : (c == 0) = true := by simp; omega
  have hcd : decide (c = 0) = true := by simp; omega
  by_cases hrb : r = b
  focus
   have hbb : (r == b) = true := by simp; omega
   have hbd : decide (r = b) = true := by simp; omega
   skip
   by_cases h5 : 0 ≤ p ∧ p ≤ 3
   rotate_left
   ·
    skip
    have e : Bc r c b p = false := by unfold Bc; simp; omega
    rw [e];clear e;go_enter func67, ntmps67
    go_wp2_with (first | (go_at_call 66; refine (CN _ _ _ _ (by omega)).mono ?_; rintro e w' ⟨rfl, rfl⟩) | (go_at_call 66; refine (Dz _ _ _ _ (by omega)).mono ?_; rintro e w' ⟨rfl, rfl⟩) | go_in)
    go_ret
    exact ⟨rfl, (Below.refl _ _).alloc (Nat.le_refl _) _⟩
   have e : Bc r c b p = true := by unfold Bc; simp; omega
  rotate_left;focus
   have hbb : (r == b) = false := by simp; omega
   have hbd : decide (r = b) = false := by simp; omega
   skip
   have e : Bc r c b p = false := by unfold Bc; simp; omega
  rotate_left;all_goals
   rw [e];clear e;go_enter func67, ntmps67
   go_wp2_with (first | (go_at_call 66; refine (CN _ _ _ _ (by omega)).mono ?_; rintro e w' ⟨rfl, rfl⟩) | (go_at_call 66; refine (Dz _ _ _ _ (by omega)).mono ?_; rintro e w' ⟨rfl, rfl⟩) | go_in)
   go_ret
   exact ⟨rfl, (Below.refl _ _).alloc (Nat.le_refl _) _⟩
 have hcb : (c == 0) = false := by simp; omega
 have hcd : decide (c = 0) = false := by simp; omega
 by_cases hrb : r = b
 focus
  have hbb : (r == b) = true := by simp; omega
  have hbd : decide (r = b) = true := by simp; omega
  skip
  have e : Bc r c b p = false := by unfold Bc; simp; omega
 rotate_left;focus
  have hbb : (r == b) = false := by simp; omega
  have hbd : decide (r = b) = false := by simp; omega
  skip
  by_cases h5 : 0 ≤ p ∧ p ≤ 3
  rotate_left
  ·
   skip
   have e : Bc r c b p = false := by unfold Bc; simp; omega
   rw [e];clear e;go_enter func67, ntmps67
   go_wp2_with (first | (go_at_call 66; refine (CN _ _ _ _ (by omega)).mono ?_; rintro e w' ⟨rfl, rfl⟩) | (go_at_call 66; refine (Dz _ _ _ _ (by omega)).mono ?_; rintro e w' ⟨rfl, rfl⟩) | go_in)
   go_ret
   exact ⟨rfl, (Below.refl _ _).alloc (Nat.le_refl _) _⟩
  have e : Bc r c b p = true := by unfold Bc; simp; omega
 rotate_left;all_goals
  rw [e];clear e;go_enter func67, ntmps67
  go_wp2_with (first | (go_at_call 66; refine (CN _ _ _ _ (by omega)).mono ?_; rintro e w' ⟨rfl, rfl⟩) | (go_at_call 66; refine (Dz _ _ _ _ (by omega)).mono ?_; rintro e w' ⟨rfl, rfl⟩) | go_in)
  go_ret
  exact ⟨rfl, (Below.refl _ _).alloc (Nat.le_refl _) _⟩
end Go.Proofs.YtjmnaeeknomiaaaGreatDoor
