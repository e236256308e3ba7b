/- A number is read as it was written, and written as it was read. -/
import Derived.Test.YtpddgladbodkbaaDoorRows
import Derived.WalkKit
import Derived.ProofKit
import Derived.OpenShut
import Derived.ShutString
import Derived.ChangeOld
import Derived.Below
import Derived.Deep.QuietTactic
import Derived.BigQuiet
import Derived.WalkSmall
import Derived.Laws.OwnMore
import Derived.Test.YtpddgladbodkbaaDoorGetMath
namespace Go.Proofs.YtpddgladbodkbaaDoor
open Go.ChangeShapes Go.WideShapes Go.ChangeAt Go.RowKit
open Go.ChangeMaps (open_string shut_string)
set_option linter.unusedVariables false

theorem val_next (g : Nat → Int) (k : Nat) : val g (k + 1) = val g k + g k % 128 * 128 ^ k := rfl
theorem split_pow (m k : Nat) : ((m : Int) % 128) * 128 ^ k + ((m / 128 : Nat) : Int) * 128 ^ (k + 1) = (m : Int) * 128 ^ k := by
  have e : (m : Int) = (m : Int) % 128 + ((m / 128 : Nat) : Int) * 128 := by omega
  have p : (128 : Int) ^ (k + 1) = 128 * 128 ^ k := by rw [Int.pow_succ, Int.mul_comm]
  rw [p, ← Int.mul_assoc, ← Int.add_mul, ← e]
/-- GetNum finds what PutNum wrote. -/
theorem getFrom_put (len at_ : Int) (g : Nat → Int) : ∀ (m fuel k : Nat), (∀ j, j < (put m).length → g (k + j) = (put m).getD j 0) → (put m).length ≤ fuel → 0 ≤ at_ → at_ + k + (put m).length ≤ len → (k = 0 ∨ 1 ≤ m) → val g k + m * 128 ^ k ≤ 2147483647 →
    getFrom len at_ g fuel k = some (val g k + m * 128 ^ k, at_ + k + (put m).length) := by
  intro m
  induction m using Nat.strongRecOn with
  | ind m ih =>
    intro fuel k hg hf ha hl hk hs
    by_cases hm : m ≤ 127
    · rw [put_lo hm] at hg hf hl ⊢
      have g0 : g k = m := by simpa using hg 0 (by simp)
      obtain ⟨f, rfl⟩ : ∃ f, fuel = f + 1 := ⟨fuel - 1, by simp at hf; omega⟩
      have hv : val g (k + 1) = val g k + m * 128 ^ k := by rw [val_next, g0, show (m : Int) % 128 = m by omega]
      have hl' : at_ + k + 1 ≤ len := by simpa using hl
      rw [getFrom_ok (by omega) (by rw [g0]; omega) (by rw [hv, g0]; omega), hv]
      simp
    · rw [put_hi hm] at hg hf hl ⊢
      have g0 : g k = (m : Int) % 128 + 128 := by simpa using hg 0 (by simp)
      obtain ⟨f, rfl⟩ : ∃ f, fuel = f + 1 := ⟨fuel - 1, by simp at hf; omega⟩
      have hv : val g (k + 1) = val g k + (m : Int) % 128 * 128 ^ k := by rw [val_next, g0, show ((m : Int) % 128 + 128) % 128 = (m : Int) % 128 by omega]
      have hsp := split_pow m k
      have hl' : at_ + (k + 1 : Nat) + ((put (m / 128)).length : Nat) ≤ len := by simp at hl ⊢; omega
      have hp1 := (put_len (m / 128)).1
      rw [getFrom_next (by omega) (by rw [g0]; omega), ih (m / 128) (by omega) f (k + 1) (fun j hj => by
        have := hg (j + 1) (by simp; omega)
        rw [show k + 1 + j = k + (j + 1) by omega, this]
        simp) (by simp at hf; omega) ha hl' (.inr (by omega)) (by rw [hv]; omega)]
      rw [hv]
      congr 2
      · omega
      · simp; omega
/-- What GetNum found: where it stopped, and why. -/
theorem getFrom_some {len at_ : Int} {g : Nat → Int} {z s : Int} : ∀ (fuel k : Nat), getFrom len at_ g fuel k = some (z, s) →
    ∃ q, k ≤ q ∧ q < k + fuel ∧ (∀ j, k ≤ j → j < q → 128 ≤ g j) ∧ g q < 128 ∧ ¬ ((0 < q ∧ g q = 0) ∨ 2147483647 < val g (q + 1)) ∧ 0 ≤ at_ ∧ at_ + q < len ∧ z = val g (q + 1) ∧ s = at_ + q + 1
  | 0, k, h => by cases h
  | fuel + 1, k, h => by
    rw [getFrom] at h
    split at h
    · cases h
    · split at h
      · split at h
        · cases h
        · next h1 h2 h3 =>
          have h4 := Option.some.inj h
          rw [Prod.mk.injEq] at h4
          exact ⟨k, Nat.le_refl _, by omega, fun j a b => by omega, h2, h3, by omega, by omega, h4.1.symm, h4.2.symm⟩
      · next h1 h2 =>
        obtain ⟨q, a1, a2, a3, a4, a5, a6, a7, a8, a9⟩ := getFrom_some fuel (k + 1) h
        refine ⟨q, by omega, by omega, fun j b1 b2 => ?_, a4, a5, a6, a7, a8, a9⟩
        by_cases e : j = k
        · subst e; omega
        · exact a3 j (by omega) b2
theorem val_shift (g : Nat → Int) (k : Nat) : val g (k + 1) = g 0 % 128 + 128 * val (fun i => g (i + 1)) k := by
  induction k with
  | zero => simp [val]
  | succ k ih =>
    have p : (128 : Int) ^ (k + 1) = 128 * 128 ^ k := by rw [Int.pow_succ, Int.mul_comm]
    rw [val_next g (k + 1), ih, val_next (fun i => g (i + 1)) k, p, Int.mul_add, ← Int.mul_assoc 128, Int.mul_comm 128 (g (k + 1) % 128), Int.mul_assoc, Int.add_assoc]
/-- PutNum writes what GetNum read. -/
theorem put_val : ∀ (k : Nat) (g : Nat → Int), (∀ j, 0 ≤ g j ∧ g j ≤ 255) → (∀ j, j < k → 128 ≤ g j) → g k < 128 → (0 < k → g k ≠ 0) → put (val g (k + 1)).toNat = (List.range (k + 1)).map g
  | 0, g, hb, _, h1, _ => by
    have e : val g (0 + 1) = g 0 := by simp [val]; have := hb 0; omega
    have := hb 0
    rw [e, put_lo (by omega)]
    simp
    omega
  | k + 1, g, hb, h0, h1, h2 => by
    have ih := put_val k (fun i => g (i + 1)) (fun j => hb (j + 1)) (fun j hj => h0 (j + 1) (by omega)) h1 (fun _ => h2 (by omega))
    have hv := val_shift g (k + 1)
    have g0 := h0 0 (by omega)
    have g1 := hb 0
    have hbd := val_bd (fun i => g (i + 1)) (k + 1)
    have hlen : 1 ≤ val (fun i => g (i + 1)) (k + 1) := by
      have hz : (val (fun i => g (i + 1)) (k + 1)).toNat ≠ 0 := by
        intro e
        rw [e, put_lo (by omega), List.range_succ, List.map_append] at ih
        have hk : k = 0 := by have := congrArg List.length ih; simp at this; omega
        subst hk
        simp at ih
        exact h2 (by omega) ih.symm
      omega
    have hm : ¬ (val g (k + 1 + 1)).toNat ≤ 127 := by omega
    rw [put_hi hm, List.range_succ_eq_map, List.map_cons, List.map_map]
    congr 1
    · omega
    · have e : (val g (k + 1 + 1)).toNat / 128 = (val (fun i => g (i + 1)) (k + 1)).toNat := by omega
      rw [e, ih]
      rfl

end Go.Proofs.YtpddgladbodkbaaDoor
