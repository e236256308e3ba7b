/- What both GetNum reckon, in plain numbers. -/
import Derived.Test.YtpddgladbodkbaaDoorRows
import Derived.WalkKit
import Derived.ProofKit
import Derived.OpenShut
import Derived.ShutString
import Derived.ChangeOld
import Derived.Below
import Derived.Deep.QuietTactic
import Derived.BigQuiet
import Derived.WalkSmall
import Derived.Laws.OwnMore
import Derived.Test.YtpddgladbodkbaaDoorPut
namespace Go.Proofs.YtpddgladbodkbaaDoor
open Go.ChangeShapes Go.WideShapes Go.ChangeAt Go.RowKit
open Go.ChangeMaps (open_string shut_string)
set_option linter.unusedVariables false

/-- The number of the first k bytes: seven bits a byte, the low ones first. -/
def val (g : Nat → Int) : Nat → Int
  | 0 => 0
  | k + 1 => val g k + g k % 128 * 128 ^ k
theorem val_bd (g : Nat → Int) (k : Nat) : 0 ≤ val g k ∧ val g k < 128 ^ k := by
  induction k with
  | zero => simp [val]
  | succ k ih =>
    simp only [val]
    have hp : (128 : Int) ^ (k + 1) = 128 * 128 ^ k := by rw [Int.pow_succ]; omega
    have h1 : 0 ≤ g k % 128 := by omega
    have h2 : g k % 128 ≤ 127 := by omega
    have h3 : g k % 128 * 128 ^ k ≤ 127 * 128 ^ k := Int.mul_le_mul_of_nonneg_right h2 (by omega)
    have h4 : 0 ≤ g k % 128 * 128 ^ k := Int.mul_nonneg h1 (by omega)
    rw [hp]
    omega
/-- What GetNum finds from the k-th byte on, with so many bytes more to look at. -/
def getFrom (len at_ : Int) (g : Nat → Int) : Nat → Nat → Option (Int × Int)
  | 0, _ => none
  | fuel + 1, k => if at_ < 0 ∨ len - k ≤ at_ then none else if g k < 128 then (if (0 < k ∧ g k = 0) ∨ 2147483647 < val g (k + 1) then none else some (val g (k + 1), at_ + k + 1)) else getFrom len at_ g fuel (k + 1)
theorem put_many {m : Nat} : ∀ k, m < 128 ^ (k + 1) → (put m).length ≤ k + 1
  | 0, h => by rw [put_lo (by omega)]; simp
  | k + 1, h => by
    by_cases hm : m ≤ 127
    · rw [put_lo hm]; simp
    · rw [put_hi hm, List.length_cons]
      have := put_many (m := m / 128) k (Nat.div_lt_of_lt_mul (by rw [Nat.pow_succ] at h; omega))
      omega
theorem put_few {m : Nat} : ∀ k, 128 ^ k ≤ m → k + 1 ≤ (put m).length
  | 0, _ => (put_len m).1
  | k + 1, h => by
    have h1 : 128 ^ (k + 1) = 128 * 128 ^ k := by rw [Nat.pow_succ]; omega
    have h2 : 0 < 128 ^ k := Nat.pow_pos (by omega)
    have hm : ¬ m ≤ 127 := by omega
    rw [put_hi hm, List.length_cons]
    have := put_few (m := m / 128) k ((Nat.le_div_iff_mul_le (by omega)).2 (by omega))
    omega
/-- A number is in the shortest form just where PutNum takes as many bytes for it. -/
theorem short_iff (g : Nat → Int) (k : Nat) (hg : 0 ≤ g k) (hlt : g k < 128) :
    ((putZ (val g (k + 1))).length : Int) = k + 1 ↔ ¬ ((0 < k ∧ g k = 0) ∨ 2147483647 < val g (k + 1)) := by
  have hb := val_bd g (k + 1)
  have hb0 := val_bd g k
  have hv : val g (k + 1) = val g k + g k * 128 ^ k := by simp only [val]; rw [show g k % 128 = g k by omega]
  by_cases hbig : 2147483647 < val g (k + 1)
  · have e : putZ (val g (k + 1)) = [] := by unfold putZ; rw [if_neg (by omega)]
    rw [e]
    simp [hbig]
    omega
  · have e : putZ (val g (k + 1)) = put (val g (k + 1)).toNat := by unfold putZ; rw [if_pos (by omega)]
    rw [e]
    have hpow : ∀ j : Nat, ((128 ^ j : Nat) : Int) = (128 : Int) ^ j := fun j => by simp
    by_cases hz : g k = 0
    · rw [hz] at hv
      by_cases hk : 0 < k
      · have h1 : (put (val g (k + 1)).toNat).length ≤ k := by
          obtain ⟨j, rfl⟩ : ∃ j, k = j + 1 := ⟨k - 1, by omega⟩
          refine put_many j ?_
          have := hpow (j + 1)
          omega
        simp [hk, hz]
        omega
      · obtain rfl : k = 0 := by omega
        have h0 : (val g (0 + 1)).toNat = 0 := by simp [val, hz]
        rw [h0, put_lo (by omega)]
        simp [hbig]
    · have h1 : (put (val g (k + 1)).toNat).length ≤ k + 1 := by
        refine put_many k ?_
        have := hpow (k + 1)
        omega
      have h2 : k + 1 ≤ (put (val g (k + 1)).toNat).length := by
        refine put_few k ?_
        have := hpow k
        have h3 : 1 * 128 ^ k ≤ g k * 128 ^ k := Int.mul_le_mul_of_nonneg_right (by omega) (by omega)
        omega
      simp [hz, hbig]
      omega

theorem or_i64_nat (a b : Nat) (ha : a < 9223372036854775808) (hb : b < 9223372036854775808) : bits .or .i64 (a : Int) (b : Int) = ((a ||| b : Nat) : Int) := by
  have hx : a ||| b < 2 ^ 63 := Nat.or_lt_two_pow (by omega) (by omega)
  have h1 : (BitVec.ofInt 64 (a : Int)).toNat = a := by
    rw [BitVec.ofInt_natCast, BitVec.toNat_ofNat]; exact Nat.mod_eq_of_lt (by omega)
  have h2 : (BitVec.ofInt 64 (b : Int)).toNat = b := by
    rw [BitVec.ofInt_natCast, BitVec.toNat_ofNat]; exact Nat.mod_eq_of_lt (by omega)
  show IntKind.i64.wrap ((BitVec.ofInt 64 (a : Int) ||| BitVec.ofInt 64 (b : Int)).toNat : Int) = _
  rw [BitVec.toNat_or, h1, h2, IntKind.wrap_i64]
  omega
/-- Two numbers whose bits do not meet: 'or' is the sum. -/
theorem or_sum (x d : Int) (i : Nat) (hx0 : 0 ≤ x) (hx : x < ((2 ^ i : Nat) : Int)) (hd0 : 0 ≤ d) (hd : d ≤ 127) (hi : i ≤ 28) : bits .or .i64 x (d * ((2 ^ i : Nat) : Int)) = x + d * ((2 ^ i : Nat) : Int) := by
  obtain ⟨a, rfl⟩ : ∃ a : Nat, x = a := ⟨x.toNat, by omega⟩
  obtain ⟨c, rfl⟩ : ∃ c : Nat, d = c := ⟨d.toNat, by omega⟩
  have hp : 2 ^ i ≤ 268435456 := Nat.pow_le_pow_right (by omega : 0 < 2) hi
  have hm : c * 2 ^ i ≤ 127 * 268435456 := Nat.mul_le_mul (by omega) hp
  have e : ((c : Int) * ((2 ^ i : Nat) : Int)) = ((c * 2 ^ i : Nat) : Int) := by simp
  rw [e, or_i64_nat a (c * 2 ^ i) (by omega) (by omega), Nat.or_comm, Nat.mul_comm c, ← Nat.two_pow_add_eq_or_of_lt (by omega)]
  omega
theorem getFrom_out {len at_ : Int} {g : Nat → Int} {fuel k : Nat} (h : at_ < 0 ∨ len - k ≤ at_) : getFrom len at_ g fuel k = none := by
  cases fuel with
  | zero => rfl
  | succ n => rw [getFrom, if_pos h]
theorem getFrom_next {len at_ : Int} {g : Nat → Int} {fuel k : Nat} (h : ¬ (at_ < 0 ∨ len - k ≤ at_)) (h2 : ¬ g k < 128) : getFrom len at_ g (fuel + 1) k = getFrom len at_ g fuel (k + 1) := by
  rw [getFrom, if_neg h, if_neg h2]
theorem getFrom_bad {len at_ : Int} {g : Nat → Int} {fuel k : Nat} (h : ¬ (at_ < 0 ∨ len - k ≤ at_)) (h2 : g k < 128) (h3 : (0 < k ∧ g k = 0) ∨ 2147483647 < val g (k + 1)) : getFrom len at_ g (fuel + 1) k = none := by
  rw [getFrom, if_neg h, if_pos h2, if_pos h3]
theorem getFrom_ok {len at_ : Int} {g : Nat → Int} {fuel k : Nat} (h : ¬ (at_ < 0 ∨ len - k ≤ at_)) (h2 : g k < 128) (h3 : ¬ ((0 < k ∧ g k = 0) ∨ 2147483647 < val g (k + 1))) : getFrom len at_ g (fuel + 1) k = some (val g (k + 1), at_ + k + 1) := by
  rw [getFrom, if_neg h, if_pos h2, if_neg h3]

end Go.Proofs.YtpddgladbodkbaaDoor
