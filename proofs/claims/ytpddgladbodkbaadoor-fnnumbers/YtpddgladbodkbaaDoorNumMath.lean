/- What both Number reckon, in plain numbers. -/
import Derived.Test.YtpddgladbodkbaaDoorRows
import Derived.WalkKit
import Derived.ProofKit
import Derived.OpenShut
import Derived.ShutString
import Derived.ChangeOld
import Derived.Below
import Derived.Deep.QuietTactic
import Derived.BigQuiet
import Derived.WalkSmall
import Derived.Laws.OwnMore
import Derived.Lib.ItoaMem
import Derived.Lib.AtoiTie
namespace Go.Proofs.YtpddgladbodkbaaDoor
open Go.ChangeShapes Go.WideShapes Go.ChangeAt Go.RowKit
open Go.ChangeMaps (open_string shut_string)
set_option linter.unusedVariables false

open Go.Lib in
theorem decFrom_append : ∀ (l m : List UInt8) (acc : Nat), decFrom acc (l ++ m) = (decFrom acc l).bind fun a => decFrom a m
  | [], m, acc => rfl
  | b :: r, m, acc => by
    simp only [List.cons_append, decFrom]
    cases digitVal b with
    | none => rfl
    | some d => exact decFrom_append r m _
open Go.Lib in
theorem digitVal_of {u : Nat} (h : u < 10) : digitVal (UInt8.ofNat (48 + u)) = some u := by
  unfold digitVal
  have e : (UInt8.ofNat (48 + u)).toNat = 48 + u := by simp; omega
  rw [e, if_pos (by omega)]
  simp
open Go.Lib in
theorem decFrom_decDigits (u : Nat) : decFrom 0 (decDigits u) = some u := by
  induction u using Nat.strongRecOn with
  | ind u ih =>
    rw [decDigits]
    split
    · next h => simp only [decFrom, digitVal_of h]; simp
    · next h =>
      rw [decFrom_append, ih (u / 10) (by omega)]
      show decFrom (u / 10) [UInt8.ofNat (48 + u % 10)] = some u
      simp only [decFrom, digitVal_of (by omega : u % 10 < 10)]
      congr 1
      omega
open Go.Lib in
theorem decDigits_ne (u : Nat) : decDigits u ≠ [] := by
  rw [decDigits]
  split <;> simp
open Go.Lib in
theorem decNat_decDigits (u : Nat) : decNat (decDigits u) = some u := by
  unfold decNat
  have := decDigits_ne u
  rw [if_neg (by simpa using this), decFrom_decDigits]
open Go.Lib in
theorem decDigits_len6 {u : Nat} (h : u ≤ 999999) : (decDigits u).length ≤ 6 := by
  have s : ∀ (k u : Nat), u < 10 ^ (k + 1) → (decDigits u).length ≤ k + 1 := by
    intro k
    induction k with
    | zero => intro u h; rw [decDigits, dif_pos (by omega)]; simp
    | succ k ih =>
      intro u h
      rw [decDigits]
      split
      · simp
      · have := ih (u / 10) (Nat.div_lt_of_lt_mul (by rw [Nat.pow_succ] at h; omega))
        simp
        omega
  exact s 5 u (by omega)
open Go.Lib in
/-- The number from 0 to 999999 of which l is the digits. -/
def numR (l : List UInt8) : Option Nat := match decNat l with
  | some n => if l.length ≤ 6 ∧ decDigits n = l then some n else none
  | none => none
open Go.Lib in
theorem numR_some {l : List UInt8} {n : Nat} (h : numR l = some n) : decNat l = some n ∧ l.length ≤ 6 ∧ decDigits n = l := by
  unfold numR at h
  cases hd : decNat l with
  | none => rw [hd] at h; cases h
  | some m =>
    rw [hd] at h
    simp only at h
    split at h
    · next h2 => obtain rfl := Option.some.inj h; exact ⟨rfl, h2⟩
    · cases h
open Go.Lib in
theorem decNat_lt6 {l : List UInt8} {n : Nat} (h : decNat l = some n) (hl : l.length ≤ 6) : n ≤ 999999 := by
  unfold decNat at h
  split at h
  · cases h
  · have h1 := decFrom_lt l 0 n h
    have h2 : 10 ^ l.length ≤ 10 ^ 6 := Nat.pow_le_pow_right (by omega) hl
    omega
open Go.Lib in
/-- What strconv.Atoi finds, where the number is one. -/
theorem atoiAll_of {l : List UInt8} {n : Nat} (h : numR l = some n) : atoiAll l = .ok (n : Int) ∧ n ≤ 999999 ∧ itoa (n : Int) = l := by
  obtain ⟨h1, h2, h3⟩ := numR_some h
  refine ⟨?_, decNat_lt6 h1 h2, by rw [itoa_nonneg]; exact h3⟩
  rw [atoiAll_short l (by omega)]
  cases l with
  | nil => exact absurd h3 (decDigits_ne n)
  | cons b r =>
    have hdv : ∃ d, digitVal b = some d := by
      have hd : decFrom 0 (b :: r) = some n := by simpa [decNat] using h1
      exact digit_of_decFrom (b :: r) 0 n hd 0 b rfl
    obtain ⟨d, hd⟩ := hdv
    have hb : 48 ≤ b.toNat := by
      unfold digitVal at hd
      split at hd
      · next hq => exact hq.1
      · cases hd
    have h45 : (b == 45) = false := by
      rw [beq_eq_false_iff_ne]; intro e; subst e; exact absurd hb (by decide)
    have h43 : (b == 43) = false := by
      rw [beq_eq_false_iff_ne]; intro e; subst e; exact absurd hb (by decide)
    simp only [atoi, h45, h43, Bool.false_eq_true, if_false, h1]
    rfl
open Go.Lib in
theorem numR_of_atoi {l : List UInt8} {v : Int} (h0 : 0 ≤ v) (h1 : v ≤ 999999) (h : itoa v = l) : numR l = some v.toNat := by
  have e : itoa v = decDigits v.toNat := by unfold itoa; rw [if_neg (by omega)]
  rw [e] at h
  unfold numR
  rw [← h, decNat_decDigits]
  simp [decDigits_len6 (by omega : v.toNat ≤ 999999)]

end Go.Proofs.YtpddgladbodkbaaDoor
