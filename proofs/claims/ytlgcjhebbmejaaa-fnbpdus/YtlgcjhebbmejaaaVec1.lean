/- Claims: copied; both VecOk, walked. -/
import Derived.Test.YtlgcjhebbmejaaaRows
import Derived.WalkKit
import Derived.ProofKit
import Derived.OpenShut
import Derived.ShutString
import Derived.ChangeOld
import Derived.Below
import Derived.Deep.QuietTactic
import Derived.BigQuiet
import Derived.WalkSmall
import Derived.Laws.OwnMore
import Derived.WalkSpells
import Derived.WalkLawsBesides
import Derived.Test.YtlgcjhebbmejaaaIn
namespace Go.Proofs.Ytlgcjhebbmejaaa
open Go.ChangeShapes Go.WideShapes Go.ChangeAt Go.RowKit
open Go.ChangeMaps (open_string shut_string)
set_option linter.unusedVariables false
set_option maxRecDepth 100000

theorem toV (r c b p : Int) (w : World) :
    Calls Try.prog 53 #[.agg #[.int .i64 r, .int .i64 c, .int .i64 b, .int .i64 p]] w fun e w' => e = .returned (.agg #[.int .i64 r, .int .i64 c, .int .i64 b, .int .i64 p]) ∧ Below w.heap.size w w' := by
  go_enter Try.func53, Try.ntmps53
  go_wp2
  refine bodyPost_ret (v := .agg #[.int .i64 r, .int .i64 c, .int .i64 b, .int .i64 p]) (by simp [results, Try.results53, go_sem]) rfl ⟨rfl, ?_⟩
  exact (((Below.refl _ _).alloc (Nat.le_refl _) _).alloc (by simp) _).alloc (by simp; omega) _

def vOk (r c b p : Int) : Bool := decide (1 ≤ r ∧ r ≤ b ∧ b ≤ 9 ∧ 0 ≤ c ∧ c ≤ 20 ∧ (c = 0 ↔ r = b) ∧ 0 ≤ p ∧ p < 4)

set_option maxHeartbeats 4000000 in
theorem vOkS (r c b p : Int) (w : World) :
    Calls Try.prog 47 #[.agg #[.int .i64 r, .int .i64 c, .int .i64 b, .int .i64 p]] w fun e w' => e = .returned (.bool (vOk r c b p)) ∧ Below w.heap.size w w' := by
  by_cases h0 : 1 ≤ r ∧ r ≤ 9
  rotate_left
  · skip
    have e : vOk r c b p = false := by unfold vOk; simp; omega
    rw [e]
    clear e
    go_enter Try.func47, Try.ntmps47
    go_wp2_with (first | (go_at_call 46; refine (inYes _ _ _ _ (by omega)).mono ?_; rintro e w' ⟨rfl, rfl⟩) | (go_at_call 46; refine (inNo _ _ _ _ (by omega)).mono ?_; rintro e w' ⟨rfl, rfl⟩) | go_in)
    go_ret
    exact ⟨rfl, (Below.refl _ _).alloc (Nat.le_refl _) _⟩
  by_cases h1 : 1 ≤ b ∧ b ≤ 9
  rotate_left
  · skip
    have e : vOk r c b p = false := by unfold vOk; simp; omega
    rw [e]
    clear e
    go_enter Try.func47, Try.ntmps47
    go_wp2_with (first | (go_at_call 46; refine (inYes _ _ _ _ (by omega)).mono ?_; rintro e w' ⟨rfl, rfl⟩) | (go_at_call 46; refine (inNo _ _ _ _ (by omega)).mono ?_; rintro e w' ⟨rfl, rfl⟩) | go_in)
    go_ret
    exact ⟨rfl, (Below.refl _ _).alloc (Nat.le_refl _) _⟩
  by_cases h2 : r ≤ b
  rotate_left
  · have d2 : decide (r ≤ b) = false := decide_eq_false h2
    have e : vOk r c b p = false := by unfold vOk; simp; omega
    rw [e]
    clear e
    go_enter Try.func47, Try.ntmps47
    go_wp2_with (first | (go_at_call 46; refine (inYes _ _ _ _ (by omega)).mono ?_; rintro e w' ⟨rfl, rfl⟩) | (go_at_call 46; refine (inNo _ _ _ _ (by omega)).mono ?_; rintro e w' ⟨rfl, rfl⟩) | go_in)
    go_ret
    exact ⟨rfl, (Below.refl _ _).alloc (Nat.le_refl _) _⟩
  by_cases h3 : 0 ≤ c ∧ c ≤ 20
  rotate_left
  · skip
    have e : vOk r c b p = false := by unfold vOk; simp; omega
    rw [e]
    clear e
    go_enter Try.func47, Try.ntmps47
    go_wp2_with (first | (go_at_call 46; refine (inYes _ _ _ _ (by omega)).mono ?_; rintro e w' ⟨rfl, rfl⟩) | (go_at_call 46; refine (inNo _ _ _ _ (by omega)).mono ?_; rintro e w' ⟨rfl, rfl⟩) | go_in)
    go_ret
    exact ⟨rfl, (Below.refl _ _).alloc (Nat.le_refl _) _⟩
  by_cases hc0 : c = 0
  · have hcb : (c == 0) = true := by simp; omega
    have hcd : decide (c = 0) = true := by simp; omega
    by_cases hrb : r = b
    · have hbb : (r == b) = true := by simp; omega
      have hbd : decide (r = b) = true := by simp; omega
      skip
      by_cases h5 : 0 ≤ p ∧ p ≤ 3
      rotate_left
      · skip
        have e : vOk r c b p = false := by unfold vOk; simp; omega
        rw [e]
        clear e
        go_enter Try.func47, Try.ntmps47
        go_wp2_with (first | (go_at_call 46; refine (inYes _ _ _ _ (by omega)).mono ?_; rintro e w' ⟨rfl, rfl⟩) | (go_at_call 46; refine (inNo _ _ _ _ (by omega)).mono ?_; rintro e w' ⟨rfl, rfl⟩) | go_in)
        go_ret
        exact ⟨rfl, (Below.refl _ _).alloc (Nat.le_refl _) _⟩
      have e : vOk r c b p = true := by unfold vOk; simp; omega
      rw [e]
      clear e
      go_enter Try.func47, Try.ntmps47
      go_wp2_with (first | (go_at_call 46; refine (inYes _ _ _ _ (by omega)).mono ?_; rintro e w' ⟨rfl, rfl⟩) | (go_at_call 46; refine (inNo _ _ _ _ (by omega)).mono ?_; rintro e w' ⟨rfl, rfl⟩) | go_in)
      go_ret
      exact ⟨rfl, (Below.refl _ _).alloc (Nat.le_refl _) _⟩
    · have hbb : (r == b) = false := by simp; omega
      have hbd : decide (r = b) = false := by simp; omega
      skip
      have e : vOk r c b p = false := by unfold vOk; simp; omega
      rw [e]
      clear e
      go_enter Try.func47, Try.ntmps47
      go_wp2_with (first | (go_at_call 46; refine (inYes _ _ _ _ (by omega)).mono ?_; rintro e w' ⟨rfl, rfl⟩) | (go_at_call 46; refine (inNo _ _ _ _ (by omega)).mono ?_; rintro e w' ⟨rfl, rfl⟩) | go_in)
      go_ret
      exact ⟨rfl, (Below.refl _ _).alloc (Nat.le_refl _) _⟩
  · have hcb : (c == 0) = false := by simp; omega
    have hcd : decide (c = 0) = false := by simp; omega
    by_cases hrb : r = b
    · have hbb : (r == b) = true := by simp; omega
      have hbd : decide (r = b) = true := by simp; omega
      skip
      have e : vOk r c b p = false := by unfold vOk; simp; omega
      rw [e]
      clear e
      go_enter Try.func47, Try.ntmps47
      go_wp2_with (first | (go_at_call 46; refine (inYes _ _ _ _ (by omega)).mono ?_; rintro e w' ⟨rfl, rfl⟩) | (go_at_call 46; refine (inNo _ _ _ _ (by omega)).mono ?_; rintro e w' ⟨rfl, rfl⟩) | go_in)
      go_ret
      exact ⟨rfl, (Below.refl _ _).alloc (Nat.le_refl _) _⟩
    · have hbb : (r == b) = false := by simp; omega
      have hbd : decide (r = b) = false := by simp; omega
      skip
      by_cases h5 : 0 ≤ p ∧ p ≤ 3
      rotate_left
      · skip
        have e : vOk r c b p = false := by unfold vOk; simp; omega
        rw [e]
        clear e
        go_enter Try.func47, Try.ntmps47
        go_wp2_with (first | (go_at_call 46; refine (inYes _ _ _ _ (by omega)).mono ?_; rintro e w' ⟨rfl, rfl⟩) | (go_at_call 46; refine (inNo _ _ _ _ (by omega)).mono ?_; rintro e w' ⟨rfl, rfl⟩) | go_in)
        go_ret
        exact ⟨rfl, (Below.refl _ _).alloc (Nat.le_refl _) _⟩
      have e : vOk r c b p = true := by unfold vOk; simp; omega
      rw [e]
      clear e
      go_enter Try.func47, Try.ntmps47
      go_wp2_with (first | (go_at_call 46; refine (inYes _ _ _ _ (by omega)).mono ?_; rintro e w' ⟨rfl, rfl⟩) | (go_at_call 46; refine (inNo _ _ _ _ (by omega)).mono ?_; rintro e w' ⟨rfl, rfl⟩) | go_in)
      go_ret
      exact ⟨rfl, (Below.refl _ _).alloc (Nat.le_refl _) _⟩

set_option maxHeartbeats 4000000 in
theorem vOkI (r c b p : Int) (w : World) :
    Calls Try.prog 44 #[.agg #[.int .i64 r, .int .i64 c, .int .i64 b, .int .i64 p]] w fun e w' => e = .returned (.bool (vOk r c b p)) ∧ Below w.heap.size w w' := by
  by_cases h0 : 1 ≤ r
  rotate_left
  · have d0 : decide (1 ≤ r) = false := decide_eq_false h0
    have e : vOk r c b p = false := by unfold vOk; simp; omega
    rw [e]
    clear e
    go_enter Try.func44, Try.ntmps44
    go_wp2
    go_ret
    exact ⟨rfl, (Below.refl _ _).alloc (Nat.le_refl _) _⟩
  by_cases h1 : r ≤ b
  rotate_left
  · have d1 : decide (r ≤ b) = false := decide_eq_false h1
    have e : vOk r c b p = false := by unfold vOk; simp; omega
    rw [e]
    clear e
    go_enter Try.func44, Try.ntmps44
    go_wp2
    go_ret
    exact ⟨rfl, (Below.refl _ _).alloc (Nat.le_refl _) _⟩
  by_cases h2 : b ≤ 9
  rotate_left
  · have d2 : decide (b ≤ 9) = false := decide_eq_false h2
    have e : vOk r c b p = false := by unfold vOk; simp; omega
    rw [e]
    clear e
    go_enter Try.func44, Try.ntmps44
    go_wp2
    go_ret
    exact ⟨rfl, (Below.refl _ _).alloc (Nat.le_refl _) _⟩
  by_cases h3 : 0 ≤ c
  rotate_left
  · have d3 : decide (0 ≤ c) = false := decide_eq_false h3
    have e : vOk r c b p = false := by unfold vOk; simp; omega
    rw [e]
    clear e
    go_enter Try.func44, Try.ntmps44
    go_wp2
    go_ret
    exact ⟨rfl, (Below.refl _ _).alloc (Nat.le_refl _) _⟩
  by_cases h4 : c ≤ 20
  rotate_left
  · have d4 : decide (c ≤ 20) = false := decide_eq_false h4
    have e : vOk r c b p = false := by unfold vOk; simp; omega
    rw [e]
    clear e
    go_enter Try.func44, Try.ntmps44
    go_wp2
    go_ret
    exact ⟨rfl, (Below.refl _ _).alloc (Nat.le_refl _) _⟩
  by_cases hc0 : c = 0
  · have hcb : (c == 0) = true := by simp; omega
    have hcd : decide (c = 0) = true := by simp; omega
    by_cases hrb : r = b
    · have hbb : (r == b) = true := by simp; omega
      have hbd : decide (r = b) = true := by simp; omega
      skip
      by_cases h6 : 0 ≤ p
      rotate_left
      · have d6 : decide (0 ≤ p) = false := decide_eq_false h6
        have e : vOk r c b p = false := by unfold vOk; simp; omega
        rw [e]
        clear e
        go_enter Try.func44, Try.ntmps44
        go_wp2
        go_ret
        exact ⟨rfl, (Below.refl _ _).alloc (Nat.le_refl _) _⟩
      by_cases h7 : p < 4
      rotate_left
      · have d7 : decide (p < 4) = false := decide_eq_false h7
        have e : vOk r c b p = false := by unfold vOk; simp; omega
        rw [e]
        clear e
        go_enter Try.func44, Try.ntmps44
        go_wp2
        go_ret
        exact ⟨rfl, (Below.refl _ _).alloc (Nat.le_refl _) _⟩
      have e : vOk r c b p = true := by unfold vOk; simp; omega
      rw [e]
      clear e
      go_enter Try.func44, Try.ntmps44
      go_wp2
      go_ret
      exact ⟨rfl, (Below.refl _ _).alloc (Nat.le_refl _) _⟩
    · have hbb : (r == b) = false := by simp; omega
      have hbd : decide (r = b) = false := by simp; omega
      skip
      have e : vOk r c b p = false := by unfold vOk; simp; omega
      rw [e]
      clear e
      go_enter Try.func44, Try.ntmps44
      go_wp2
      go_ret
      exact ⟨rfl, (Below.refl _ _).alloc (Nat.le_refl _) _⟩
  · have hcb : (c == 0) = false := by simp; omega
    have hcd : decide (c = 0) = false := by simp; omega
    by_cases hrb : r = b
    · have hbb : (r == b) = true := by simp; omega
      have hbd : decide (r = b) = true := by simp; omega
      skip
      have e : vOk r c b p = false := by unfold vOk; simp; omega
      rw [e]
      clear e
      go_enter Try.func44, Try.ntmps44
      go_wp2
      go_ret
      exact ⟨rfl, (Below.refl _ _).alloc (Nat.le_refl _) _⟩
    · have hbb : (r == b) = false := by simp; omega
      have hbd : decide (r = b) = false := by simp; omega
      skip
      by_cases h6 : 0 ≤ p
      rotate_left
      · have d6 : decide (0 ≤ p) = false := decide_eq_false h6
        have e : vOk r c b p = false := by unfold vOk; simp; omega
        rw [e]
        clear e
        go_enter Try.func44, Try.ntmps44
        go_wp2
        go_ret
        exact ⟨rfl, (Below.refl _ _).alloc (Nat.le_refl _) _⟩
      by_cases h7 : p < 4
      rotate_left
      · have d7 : decide (p < 4) = false := decide_eq_false h7
        have e : vOk r c b p = false := by unfold vOk; simp; omega
        rw [e]
        clear e
        go_enter Try.func44, Try.ntmps44
        go_wp2
        go_ret
        exact ⟨rfl, (Below.refl _ _).alloc (Nat.le_refl _) _⟩
      have e : vOk r c b p = true := by unfold vOk; simp; omega
      rw [e]
      clear e
      go_enter Try.func44, Try.ntmps44
      go_wp2
      go_ret
      exact ⟨rfl, (Below.refl _ _).alloc (Nat.le_refl _) _⟩


end Go.Proofs.Ytlgcjhebbmejaaa
