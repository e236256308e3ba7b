/- Numbers read, in plain lists. -/
import Derived.Test.YtlnogijlfompoaaDoorRows
import Derived.WalkKit
import Derived.ProofKit
import Derived.OpenShut
import Derived.ShutString
import Derived.ChangeOld
import Derived.Below
import Derived.Deep.QuietTactic
import Derived.BigQuiet
import Derived.WalkSmall
import Derived.Laws.OwnMore
import Derived.WalkSpells
import Derived.WalkLawsBesides
import Derived.Test.YtlnogijlfompoaaDoorPut9
namespace Go.Proofs.YtlnogijlfompoaaDoor
open Go.ChangeShapes Go.WideShapes Go.ChangeAt Go.RowKit
open Go.ChangeMaps (open_string shut_string)
set_option linter.unusedVariables false
set_option maxRecDepth 100000

/-- The number of the first k bytes: seven bits a byte, the low ones first. -/
def val (g : Nat → Int) : Nat → Int
  | 0 => 0
  | k + 1 => val g k + g k % 128 * 128 ^ k
theorem val_bd (g : Nat → Int) (k : Nat) : 0 ≤ val g k ∧ val g k < 128 ^ k := by
  induction k with
  | zero => simp [val]
  | succ k ih =>
    simp only [val]
    have hp : (128 : Int) ^ (k + 1) = 128 * 128 ^ k := by rw [Int.pow_succ]; omega
    have h1 : 0 ≤ g k % 128 := by omega
    have h2 : g k % 128 ≤ 127 := by omega
    have h3 : g k % 128 * 128 ^ k ≤ 127 * 128 ^ k := Int.mul_le_mul_of_nonneg_right h2 (by omega)
    have h4 : 0 ≤ g k % 128 * 128 ^ k := Int.mul_nonneg h1 (by omega)
    rw [hp]
    omega
/-- What GetNum finds from the k-th byte on, with so many bytes more to look at. -/
def getFrom (len at_ : Int) (g : Nat → Int) : Nat → Nat → Option (Int × Int)
  | 0, _ => none
  | fuel + 1, k => if at_ < 0 ∨ len - k ≤ at_ then none else if g k < 128 then (if (0 < k ∧ g k = 0) ∨ 2147483647 < val g (k + 1) then none else some (val g (k + 1), at_ + k + 1)) else getFrom len at_ g fuel (k + 1)
theorem put_many {m : Nat} : ∀ k, m < 128 ^ (k + 1) → (put m).length ≤ k + 1
  | 0, h => by rw [put_lo (by omega)]; simp
  | k + 1, h => by
    by_cases hm : m ≤ 127
    · rw [put_lo hm]; simp
    · rw [put_hi hm, List.length_cons]
      have := put_many (m := m / 128) k (Nat.div_lt_of_lt_mul (by rw [Nat.pow_succ] at h; omega))
      omega
theorem put_few {m : Nat} : ∀ k, 128 ^ k ≤ m → k + 1 ≤ (put m).length
  | 0, _ => (put_len m).1
  | k + 1, h => by
    have h1 : 128 ^ (k + 1) = 128 * 128 ^ k := by rw [Nat.pow_succ]; omega
    have h2 : 0 < 128 ^ k := Nat.pow_pos (by omega)
    have hm : ¬ m ≤ 127 := by omega
    rw [put_hi hm, List.length_cons]
    have := put_few (m := m / 128) k ((Nat.le_div_iff_mul_le (by omega)).2 (by omega))
    omega
/-- A number is in the shortest form just where PutNum takes as many bytes for it. -/
theorem short_iff (g : Nat → Int) (k : Nat) (hg : 0 ≤ g k) (hlt : g k < 128) :
    ((putZ (val g (k + 1))).length : Int) = k + 1 ↔ ¬ ((0 < k ∧ g k = 0) ∨ 2147483647 < val g (k + 1)) := by
  have hb := val_bd g (k + 1)
  have hb0 := val_bd g k
  have hv : val g (k + 1) = val g k + g k * 128 ^ k := by simp only [val]; rw [show g k % 128 = g k by omega]
  by_cases hbig : 2147483647 < val g (k + 1)
  · have e : putZ (val g (k + 1)) = [] := by unfold putZ; rw [if_neg (by omega)]
    rw [e]
    simp [hbig]
    omega
  · have e : putZ (val g (k + 1)) = put (val g (k + 1)).toNat := by unfold putZ; rw [if_pos (by omega)]
    rw [e]
    have hpow : ∀ j : Nat, ((128 ^ j : Nat) : Int) = (128 : Int) ^ j := fun j => by simp
    by_cases hz : g k = 0
    · rw [hz] at hv
      by_cases hk : 0 < k
      · have h1 : (put (val g (k + 1)).toNat).length ≤ k := by
          obtain ⟨j, rfl⟩ : ∃ j, k = j + 1 := ⟨k - 1, by omega⟩
          refine put_many j ?_
          have := hpow (j + 1)
          omega
        simp [hk, hz]
        omega
      · obtain rfl : k = 0 := by omega
        have h0 : (val g (0 + 1)).toNat = 0 := by simp [val, hz]
        rw [h0, put_lo (by omega)]
        simp [hbig]
    · have h1 : (put (val g (k + 1)).toNat).length ≤ k + 1 := by
        refine put_many k ?_
        have := hpow (k + 1)
        omega
      have h2 : k + 1 ≤ (put (val g (k + 1)).toNat).length := by
        refine put_few k ?_
        have := hpow k
        have h3 : 1 * 128 ^ k ≤ g k * 128 ^ k := Int.mul_le_mul_of_nonneg_right (by omega) (by omega)
        omega
      simp [hz, hbig]
      omega

theorem or_i64_nat (a b : Nat) (ha : a < 9223372036854775808) (hb : b < 9223372036854775808) : bits .or .i64 (a : Int) (b : Int) = ((a ||| b : Nat) : Int) := by
  have hx : a ||| b < 2 ^ 63 := Nat.or_lt_two_pow (by omega) (by omega)
  have h1 : (BitVec.ofInt 64 (a : Int)).toNat = a := by
    rw [BitVec.ofInt_natCast, BitVec.toNat_ofNat]; exact Nat.mod_eq_of_lt (by omega)
  have h2 : (BitVec.ofInt 64 (b : Int)).toNat = b := by
    rw [BitVec.ofInt_natCast, BitVec.toNat_ofNat]; exact Nat.mod_eq_of_lt (by omega)
  show IntKind.i64.wrap ((BitVec.ofInt 64 (a : Int) ||| BitVec.ofInt 64 (b : Int)).toNat : Int) = _
  rw [BitVec.toNat_or, h1, h2, IntKind.wrap_i64]
  omega
/-- Two numbers whose bits do not meet: 'or' is the sum. -/
theorem or_sum (x d : Int) (i : Nat) (hx0 : 0 ≤ x) (hx : x < ((2 ^ i : Nat) : Int)) (hd0 : 0 ≤ d) (hd : d ≤ 127) (hi : i ≤ 28) : bits .or .i64 x (d * ((2 ^ i : Nat) : Int)) = x + d * ((2 ^ i : Nat) : Int) := by
  obtain ⟨a, rfl⟩ : ∃ a : Nat, x = a := ⟨x.toNat, by omega⟩
  obtain ⟨c, rfl⟩ : ∃ c : Nat, d = c := ⟨d.toNat, by omega⟩
  have hp : 2 ^ i ≤ 268435456 := Nat.pow_le_pow_right (by omega : 0 < 2) hi
  have hm : c * 2 ^ i ≤ 127 * 268435456 := Nat.mul_le_mul (by omega) hp
  have e : ((c : Int) * ((2 ^ i : Nat) : Int)) = ((c * 2 ^ i : Nat) : Int) := by simp
  rw [e, or_i64_nat a (c * 2 ^ i) (by omega) (by omega), Nat.or_comm, Nat.mul_comm c, ← Nat.two_pow_add_eq_or_of_lt (by omega)]
  omega
theorem getFrom_out {len at_ : Int} {g : Nat → Int} {fuel k : Nat} (h : at_ < 0 ∨ len - k ≤ at_) : getFrom len at_ g fuel k = none := by
  cases fuel with
  | zero => rfl
  | succ n => rw [getFrom, if_pos h]
theorem getFrom_next {len at_ : Int} {g : Nat → Int} {fuel k : Nat} (h : ¬ (at_ < 0 ∨ len - k ≤ at_)) (h2 : ¬ g k < 128) : getFrom len at_ g (fuel + 1) k = getFrom len at_ g fuel (k + 1) := by
  rw [getFrom, if_neg h, if_neg h2]
theorem getFrom_bad {len at_ : Int} {g : Nat → Int} {fuel k : Nat} (h : ¬ (at_ < 0 ∨ len - k ≤ at_)) (h2 : g k < 128) (h3 : (0 < k ∧ g k = 0) ∨ 2147483647 < val g (k + 1)) : getFrom len at_ g (fuel + 1) k = none := by
  rw [getFrom, if_neg h, if_pos h2, if_pos h3]
theorem getFrom_ok {len at_ : Int} {g : Nat → Int} {fuel k : Nat} (h : ¬ (at_ < 0 ∨ len - k ≤ at_)) (h2 : g k < 128) (h3 : ¬ ((0 < k ∧ g k = 0) ∨ 2147483647 < val g (k + 1))) : getFrom len at_ g (fuel + 1) k = some (val g (k + 1), at_ + k + 1) := by
  rw [getFrom, if_neg h, if_pos h2, if_neg h3]

theorem val_next (g : Nat → Int) (k : Nat) : val g (k + 1) = val g k + g k % 128 * 128 ^ k := rfl
theorem split_pow (m k : Nat) : ((m : Int) % 128) * 128 ^ k + ((m / 128 : Nat) : Int) * 128 ^ (k + 1) = (m : Int) * 128 ^ k := by
  have e : (m : Int) = (m : Int) % 128 + ((m / 128 : Nat) : Int) * 128 := by omega
  have p : (128 : Int) ^ (k + 1) = 128 * 128 ^ k := by rw [Int.pow_succ, Int.mul_comm]
  rw [p, ← Int.mul_assoc, ← Int.add_mul, ← e]
/-- GetNum finds what PutNum wrote. -/
theorem getFrom_put (len at_ : Int) (g : Nat → Int) : ∀ (m fuel k : Nat), (∀ j, j < (put m).length → g (k + j) = (put m).getD j 0) → (put m).length ≤ fuel → 0 ≤ at_ → at_ + k + (put m).length ≤ len → (k = 0 ∨ 1 ≤ m) → val g k + m * 128 ^ k ≤ 2147483647 →
    getFrom len at_ g fuel k = some (val g k + m * 128 ^ k, at_ + k + (put m).length) := by
  intro m
  induction m using Nat.strongRecOn with
  | ind m ih =>
    intro fuel k hg hf ha hl hk hs
    by_cases hm : m ≤ 127
    · rw [put_lo hm] at hg hf hl ⊢
      have g0 : g k = m := by simpa using hg 0 (by simp)
      obtain ⟨f, rfl⟩ : ∃ f, fuel = f + 1 := ⟨fuel - 1, by simp at hf; omega⟩
      have hv : val g (k + 1) = val g k + m * 128 ^ k := by rw [val_next, g0, show (m : Int) % 128 = m by omega]
      have hl' : at_ + k + 1 ≤ len := by simpa using hl
      rw [getFrom_ok (by omega) (by rw [g0]; omega) (by rw [hv, g0]; omega), hv]
      simp
    · rw [put_hi hm] at hg hf hl ⊢
      have g0 : g k = (m : Int) % 128 + 128 := by simpa using hg 0 (by simp)
      obtain ⟨f, rfl⟩ : ∃ f, fuel = f + 1 := ⟨fuel - 1, by simp at hf; omega⟩
      have hv : val g (k + 1) = val g k + (m : Int) % 128 * 128 ^ k := by rw [val_next, g0, show ((m : Int) % 128 + 128) % 128 = (m : Int) % 128 by omega]
      have hsp := split_pow m k
      have hl' : at_ + (k + 1 : Nat) + ((put (m / 128)).length : Nat) ≤ len := by simp at hl ⊢; omega
      have hp1 := (put_len (m / 128)).1
      rw [getFrom_next (by omega) (by rw [g0]; omega), ih (m / 128) (by omega) f (k + 1) (fun j hj => by
        have := hg (j + 1) (by simp; omega)
        rw [show k + 1 + j = k + (j + 1) by omega, this]
        simp) (by simp at hf; omega) ha hl' (.inr (by omega)) (by rw [hv]; omega)]
      rw [hv]
      congr 2
      · omega
      · simp; omega
/-- What GetNum found: where it stopped, and why. -/
theorem getFrom_some {len at_ : Int} {g : Nat → Int} {z s : Int} : ∀ (fuel k : Nat), getFrom len at_ g fuel k = some (z, s) →
    ∃ q, k ≤ q ∧ q < k + fuel ∧ (∀ j, k ≤ j → j < q → 128 ≤ g j) ∧ g q < 128 ∧ ¬ ((0 < q ∧ g q = 0) ∨ 2147483647 < val g (q + 1)) ∧ 0 ≤ at_ ∧ at_ + q < len ∧ z = val g (q + 1) ∧ s = at_ + q + 1
  | 0, k, h => by cases h
  | fuel + 1, k, h => by
    rw [getFrom] at h
    split at h
    · cases h
    · split at h
      · split at h
        · cases h
        · next h1 h2 h3 =>
          have h4 := Option.some.inj h
          rw [Prod.mk.injEq] at h4
          exact ⟨k, Nat.le_refl _, by omega, fun j a b => by omega, h2, h3, by omega, by omega, h4.1.symm, h4.2.symm⟩
      · next h1 h2 =>
        obtain ⟨q, a1, a2, a3, a4, a5, a6, a7, a8, a9⟩ := getFrom_some fuel (k + 1) h
        refine ⟨q, by omega, by omega, fun j b1 b2 => ?_, a4, a5, a6, a7, a8, a9⟩
        by_cases e : j = k
        · subst e; omega
        · exact a3 j (by omega) b2
theorem val_shift (g : Nat → Int) (k : Nat) : val g (k + 1) = g 0 % 128 + 128 * val (fun i => g (i + 1)) k := by
  induction k with
  | zero => simp [val]
  | succ k ih =>
    have p : (128 : Int) ^ (k + 1) = 128 * 128 ^ k := by rw [Int.pow_succ, Int.mul_comm]
    rw [val_next g (k + 1), ih, val_next (fun i => g (i + 1)) k, p, Int.mul_add, ← Int.mul_assoc 128, Int.mul_comm 128 (g (k + 1) % 128), Int.mul_assoc, Int.add_assoc]
/-- PutNum writes what GetNum read. -/
theorem put_val : ∀ (k : Nat) (g : Nat → Int), (∀ j, 0 ≤ g j ∧ g j ≤ 255) → (∀ j, j < k → 128 ≤ g j) → g k < 128 → (0 < k → g k ≠ 0) → put (val g (k + 1)).toNat = (List.range (k + 1)).map g
  | 0, g, hb, _, h1, _ => by
    have e : val g (0 + 1) = g 0 := by simp [val]; have := hb 0; omega
    have := hb 0
    rw [e, put_lo (by omega)]
    simp
    omega
  | k + 1, g, hb, h0, h1, h2 => by
    have ih := put_val k (fun i => g (i + 1)) (fun j => hb (j + 1)) (fun j hj => h0 (j + 1) (by omega)) h1 (fun _ => h2 (by omega))
    have hv := val_shift g (k + 1)
    have g0 := h0 0 (by omega)
    have g1 := hb 0
    have hbd := val_bd (fun i => g (i + 1)) (k + 1)
    have hlen : 1 ≤ val (fun i => g (i + 1)) (k + 1) := by
      have hz : (val (fun i => g (i + 1)) (k + 1)).toNat ≠ 0 := by
        intro e
        rw [e, put_lo (by omega), List.range_succ, List.map_append] at ih
        have hk : k = 0 := by have := congrArg List.length ih; simp at this; omega
        subst hk
        simp at ih
        exact h2 (by omega) ih.symm
      omega
    have hm : ¬ (val g (k + 1 + 1)).toNat ≤ 127 := by omega
    rw [put_hi hm, List.range_succ_eq_map, List.map_cons, List.map_map]
    congr 1
    · omega
    · have e : (val g (k + 1 + 1)).toNat / 128 = (val (fun i => g (i + 1)) (k + 1)).toNat := by omega
      rw [e, ih]
      rfl

end Go.Proofs.YtlnogijlfompoaaDoor
