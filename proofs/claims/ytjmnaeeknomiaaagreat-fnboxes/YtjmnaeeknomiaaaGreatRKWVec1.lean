import Derived.Test.YtjmnaeeknomiaaaGreatRM1
import Derived.WalkLawsBesides
namespace Go.Proofs.YtjmnaeeknomiaaaGreat
open Go.ChangeShapes Go.WideShapes Go.ChangeAt Go.RowKit
open Go.ChangeMaps (open_string shut_string)
set_option linter.unusedVariables false
set_option maxRecDepth 100000
set_option maxHeartbeats 32000000
set_option linter.unusedSimpArgs false
open Go.Proofs.Tryz
attribute [local go_sem] ji ja
def Ad (r c b p : Int) : Bool := decide (1 ≤ r ∧ r ≤ b ∧ b ≤ 9 ∧ 0 ≤ c ∧ c ≤ 20 ∧ (c = 0 ↔ r = b) ∧ 0 ≤ p ∧ p < 4)
theorem Gd (r c b p : Int) (w : World) :
  Calls prog 123 #[.agg #[ji r, ji c, ji b, ji p]] w fun e w' => e = .returned (.bool (Ad r c b p)) ∧ Bw w w' := by
 by_cases h0 : 1 ≤ r ∧ r ≤ 9
 rotate_left
 ·
  skip
  have e : Ad r c b p = false := by unfold Ad; simp; omega
  rw [e];clear e;go_enter func123, ntmps123
  go_wp2_with (first | (go_at_call 65; refine (EL _ _ _ _ (by omega)).mono ?_; rintro e w' ⟨rfl, rfl⟩) | (go_at_call 65; refine (EO _ _ _ _ (by omega)).mono ?_; rintro e w' ⟨rfl, rfl⟩) | go_in)
  go_ret
  exact ⟨rfl, (Below.refl _ _).alloc (Nat.le_refl _) _⟩
 by_cases h1 : 1 ≤ b ∧ b ≤ 9
 rotate_left
 ·
  skip
  have e : Ad r c b p = false := by unfold Ad; simp; omega
  rw [e];clear e;go_enter func123, ntmps123
  go_wp2_with (first | (go_at_call 65; refine (EL _ _ _ _ (by omega)).mono ?_; rintro e w' ⟨rfl, rfl⟩) | (go_at_call 65; refine (EO _ _ _ _ (by omega)).mono ?_; rintro e w' ⟨rfl, rfl⟩) | go_in)
  go_ret
  exact ⟨rfl, (Below.refl _ _).alloc (Nat.le_refl _) _⟩
 by_cases h2 : r ≤ b
 rotate_left
 ·
  have d2 : decide (r ≤ b) = false := decide_eq_false h2;have e : Ad r c b p = false := by unfold Ad; simp; omega
  rw [e];clear e;go_enter func123, ntmps123
  go_wp2_with (first | (go_at_call 65; refine (EL _ _ _ _ (by omega)).mono ?_; rintro e w' ⟨rfl, rfl⟩) | (go_at_call 65; refine (EO _ _ _ _ (by omega)).mono ?_; rintro e w' ⟨rfl, rfl⟩) | go_in)
  go_ret
  exact ⟨rfl, (Below.refl _ _).alloc (Nat.le_refl _) _⟩
 by_cases h3 : 0 ≤ c ∧ c ≤ 20
 rotate_left
 ·
  skip
  have e : Ad r c b p = false := by unfold Ad; simp; omega
  rw [e];clear e;go_enter func123, ntmps123
  go_wp2_with (first | (go_at_call 65; refine (EL _ _ _ _ (by omega)).mono ?_; rintro e w' ⟨rfl, rfl⟩) | (go_at_call 65; refine (EO _ _ _ _ (by omega)).mono ?_; rintro e w' ⟨rfl, rfl⟩) | go_in)
  go_ret
  exact ⟨rfl, (Below.refl _ _).alloc (Nat.le_refl _) _⟩
 by_cases hc0 : c = 0
 ·
  have hcb : (c == 0) = true := by simp; omega
  have hcd : decide (c = 0) = true := by simp; omega
  by_cases hrb : r = b
  focus
   have hbb : (r == b) = true := by simp; omega
   have hbd : decide (r = b) = true := by simp; omega
   skip
   by_cases h5 : 0 ≤ p ∧ p ≤ 3
   rotate_left
   ·
    skip
    have e : Ad r c b p = false := by unfold Ad; simp; omega
    rw [e];clear e;go_enter func123, ntmps123
    go_wp2_with (first | (go_at_call 65; refine (EL _ _ _ _ (by omega)).mono ?_; rintro e w' ⟨rfl, rfl⟩) | (go_at_call 65; refine (EO _ _ _ _ (by omega)).mono ?_; rintro e w' ⟨rfl, rfl⟩) | go_in)
    go_ret
    exact ⟨rfl, (Below.refl _ _).alloc (Nat.le_refl _) _⟩
   have e : Ad r c b p = true := by unfold Ad; simp; omega
  rotate_left;focus
   have hbb : (r == b) = false := by simp; omega
   have hbd : decide (r = b) = false := by simp; omega
   skip
   have e : Ad r c b p = false := by unfold Ad; simp; omega
  rotate_left;all_goals
   rw [e];clear e;go_enter func123, ntmps123
   go_wp2_with (first | (go_at_call 65; refine (EL _ _ _ _ (by omega)).mono ?_; rintro e w' ⟨rfl, rfl⟩) | (go_at_call 65; refine (EO _ _ _ _ (by omega)).mono ?_; rintro e w' ⟨rfl, rfl⟩) | go_in)
   go_ret
   exact ⟨rfl, (Below.refl _ _).alloc (Nat.le_refl _) _⟩
 have hcb : (c == 0) = false := by simp; omega
 have hcd : decide (c = 0) = false := by simp; omega
 by_cases hrb : r = b
 focus
  have hbb : (r == b) = true := by simp; omega
  have hbd : decide (r = b) = true := by simp; omega
  skip
  have e : Ad r c b p = false := by unfold Ad; simp; omega
 rotate_left;focus
  have hbb : (r == b) = false := by simp; omega
  have hbd : decide (r = b) = false := by simp; omega
  skip
  by_cases h5 : 0 ≤ p ∧ p ≤ 3
  rotate_left
  ·
   skip
   have e : Ad r c b p = false := by unfold Ad; simp; omega
   rw [e];clear e;go_enter func123, ntmps123
   go_wp2_with (first | (go_at_call 65; refine (EL _ _ _ _ (by omega)).mono ?_; rintro e w' ⟨rfl, rfl⟩) | (go_at_call 65; refine (EO _ _ _ _ (by omega)).mono ?_; rintro e w' ⟨rfl, rfl⟩) | go_in)
   go_ret
   exact ⟨rfl, (Below.refl _ _).alloc (Nat.le_refl _) _⟩
  have e : Ad r c b p = true := by unfold Ad; simp; omega
 rotate_left;all_goals
  rw [e];clear e;go_enter func123, ntmps123
  go_wp2_with (first | (go_at_call 65; refine (EL _ _ _ _ (by omega)).mono ?_; rintro e w' ⟨rfl, rfl⟩) | (go_at_call 65; refine (EO _ _ _ _ (by omega)).mono ?_; rintro e w' ⟨rfl, rfl⟩) | go_in)
  go_ret
  exact ⟨rfl, (Below.refl _ _).alloc (Nat.le_refl _) _⟩
theorem Hu (r c b p : Int) (w : World) :
  Calls prog 181 #[.agg #[ji r, ji c, ji b, ji p]] w fun e w' => e = .returned (.bool (Ad r c b p)) ∧ Bw w w' := by
 by_cases h0 : 1 ≤ r
 rotate_left
 ·
  have d0 : decide (1 ≤ r) = false := decide_eq_false h0;have e : Ad r c b p = false := by unfold Ad; simp; omega
  rw [e];clear e;go_enter func181, ntmps181
  go_wp2
  go_ret
  exact ⟨rfl, (Below.refl _ _).alloc (Nat.le_refl _) _⟩
 by_cases h1 : r ≤ b
 rotate_left
 ·
  have d1 : decide (r ≤ b) = false := decide_eq_false h1;have e : Ad r c b p = false := by unfold Ad; simp; omega
  rw [e];clear e;go_enter func181, ntmps181
  go_wp2
  go_ret
  exact ⟨rfl, (Below.refl _ _).alloc (Nat.le_refl _) _⟩
 by_cases h2 : b ≤ 9
 rotate_left
 ·
  have d2 : decide (b ≤ 9) = false := decide_eq_false h2;have e : Ad r c b p = false := by unfold Ad; simp; omega
  rw [e];clear e;go_enter func181, ntmps181
  go_wp2
  go_ret
  exact ⟨rfl, (Below.refl _ _).alloc (Nat.le_refl _) _⟩
 by_cases h3 : 0 ≤ c
 rotate_left
 ·
  have d3 : decide (0 ≤ c) = false := decide_eq_false h3;have e : Ad r c b p = false := by unfold Ad; simp; omega
  rw [e];clear e;go_enter func181, ntmps181
  go_wp2
  go_ret
  exact ⟨rfl, (Below.refl _ _).alloc (Nat.le_refl _) _⟩
 by_cases h4 : c ≤ 20
 rotate_left
 ·
  have d4 : decide (c ≤ 20) = false := decide_eq_false h4;have e : Ad r c b p = false := by unfold Ad; simp; omega
  rw [e];clear e;go_enter func181, ntmps181
  go_wp2
  go_ret
  exact ⟨rfl, (Below.refl _ _).alloc (Nat.le_refl _) _⟩
 by_cases hc0 : c = 0
 ·
  have hcb : (c == 0) = true := by simp; omega
  have hcd : decide (c = 0) = true := by simp; omega
  by_cases hrb : r = b
  ·
   have hbb : (r == b) = true := by simp; omega
   have hbd : decide (r = b) = true := by simp; omega
   skip
   by_cases h6 : 0 ≤ p
   rotate_left
   ·
    have d6 : decide (0 ≤ p) = false := decide_eq_false h6;have e : Ad r c b p = false := by unfold Ad; simp; omega
    rw [e];clear e;go_enter func181, ntmps181
    go_wp2
    go_ret
    exact ⟨rfl, (Below.refl _ _).alloc (Nat.le_refl _) _⟩
   by_cases h7 : p < 4
   rotate_left
   ·
    have d7 : decide (p < 4) = false := decide_eq_false h7;have e : Ad r c b p = false := by unfold Ad; simp; omega
    rw [e];clear e;go_enter func181, ntmps181
    go_wp2
    go_ret
    exact ⟨rfl, (Below.refl _ _).alloc (Nat.le_refl _) _⟩
   have e : Ad r c b p = true := by unfold Ad; simp; omega
   rw [e];clear e;go_enter func181, ntmps181
   go_wp2
   go_ret
   exact ⟨rfl, (Below.refl _ _).alloc (Nat.le_refl _) _⟩
  have hbb : (r == b) = false := by simp; omega
  have hbd : decide (r = b) = false := by simp; omega
  skip
  have e : Ad r c b p = false := by unfold Ad; simp; omega
  rw [e];clear e;go_enter func181, ntmps181
  go_wp2
  go_ret
  exact ⟨rfl, (Below.refl _ _).alloc (Nat.le_refl _) _⟩
 have hcb : (c == 0) = false := by simp; omega
 have hcd : decide (c = 0) = false := by simp; omega
 by_cases hrb : r = b
 ·
  have hbb : (r == b) = true := by simp; omega
  have hbd : decide (r = b) = true := by simp; omega
  skip
  have e : Ad r c b p = false := by unfold Ad; simp; omega
  rw [e];clear e;go_enter func181, ntmps181
  go_wp2
  go_ret
  exact ⟨rfl, (Below.refl _ _).alloc (Nat.le_refl _) _⟩
 have hbb : (r == b) = false := by simp; omega
 have hbd : decide (r = b) = false := by simp; omega
 skip
 by_cases h6 : 0 ≤ p
 rotate_left
 ·
  have d6 : decide (0 ≤ p) = false := decide_eq_false h6;have e : Ad r c b p = false := by unfold Ad; simp; omega
  rw [e];clear e;go_enter func181, ntmps181
  go_wp2
  go_ret
  exact ⟨rfl, (Below.refl _ _).alloc (Nat.le_refl _) _⟩
 by_cases h7 : p < 4
 rotate_left
 ·
  have d7 : decide (p < 4) = false := decide_eq_false h7;have e : Ad r c b p = false := by unfold Ad; simp; omega
  rw [e];clear e;go_enter func181, ntmps181
  go_wp2
  go_ret
  exact ⟨rfl, (Below.refl _ _).alloc (Nat.le_refl _) _⟩
 have e : Ad r c b p = true := by unfold Ad; simp; omega
 rw [e];clear e;go_enter func181, ntmps181
 go_wp2
 go_ret
 exact ⟨rfl, (Below.refl _ _).alloc (Nat.le_refl _) _⟩
end Go.Proofs.YtjmnaeeknomiaaaGreat
