/- spec.Number, walked. -/
import Derived.Test.YtpddgladbodkbaaDoorRows
import Derived.WalkKit
import Derived.ProofKit
import Derived.OpenShut
import Derived.ShutString
import Derived.ChangeOld
import Derived.Below
import Derived.Deep.QuietTactic
import Derived.BigQuiet
import Derived.WalkSmall
import Derived.Laws.OwnMore
import Derived.WalkSpells
import Derived.WalkLawsBesides
import Derived.Test.YtpddgladbodkbaaDoorNumMath
import Derived.Test.YtpddgladbodkbaaDoorDigits
namespace Go.Proofs.YtpddgladbodkbaaDoor
open Go.ChangeShapes Go.WideShapes Go.ChangeAt Go.RowKit
open Go.ChangeMaps (open_string shut_string)
set_option linter.unusedVariables false

/-- What Number hands back. -/
def numRes : Option Nat → Value
  | none => .tuple #[.int .i64 0, .bool false]
  | some n => .tuple #[.int .i64 (n : Int), .bool true]
open Go.Lib in
theorem numR_long {l : List UInt8} (h : 6 < l.length) : numR l = none := by
  unfold numR
  split
  · rw [if_neg (by omega)]
  · rfl
open Go.Lib in
theorem numR_bad {l : List UInt8} {k : Nat} {b : UInt8} (hb : l[k]? = some b) (h : digitVal b = none) : numR l = none := by
  unfold numR
  cases hd : decNat l with
  | none => rfl
  | some n =>
    have hd' : decFrom 0 l = some n := by
      unfold decNat at hd
      split at hd
      · cases hd
      · exact hd
    obtain ⟨d, h2⟩ := digit_of_decFrom l 0 n hd' k b hb
    rw [h] at h2; cases h2
open Go.Lib in
theorem numR_end {l : List UInt8} {n : Nat} (h0 : l ≠ []) (hl : l.length ≤ 6) (h : decFrom 0 l = some n) : numR l = if decDigits n = l then some n else none := by
  have hd : decNat l = some n := by unfold decNat; rw [if_neg (by simpa using h0)]; exact h
  unfold numR
  rw [hd]
  simp [hl]

set_option maxHeartbeats 4000000 in
theorem numSpec (s : ByteArray) (w : World) (hs : s.size ≤ 1048576) :
    Calls Tryd.prog 14 #[.string s] w fun e w' => e = .returned (numRes (numR s.data.toList)) ∧ Below w.heap.size w w' := by
  have hsl : s.data.toList.length = s.size := Array.length_toList
  by_cases h0 : s.size < 1
  · have e : numR s.data.toList = none := by
      have : s.data.toList = [] := List.eq_nil_of_length_eq_zero (by omega)
      rw [this]; rfl
    rw [e]
    have hd0 : decide ((s.size : Int) < 1) = true := by simp; omega
    clear e
    go_enter Tryd.func14, Tryd.ntmps14
    go_wp2
    exact bodyPost_ret (v := numRes none) (by simp [numRes, results, Tryd.results14, go_sem]) rfl ⟨rfl, Below.refl _ _⟩
  by_cases h6 : 6 < s.size
  · have e : numR s.data.toList = none := numR_long (by omega)
    rw [e]
    have hd0 : decide ((s.size : Int) < 1) = false := by simp; omega
    have hd1 : decide ((6 : Int) < (s.size : Int)) = true := by simp; omega
    clear e
    go_enter Tryd.func14, Tryd.ntmps14
    go_wp2
    exact bodyPost_ret (v := numRes none) (by simp [numRes, results, Tryd.results14, go_sem]) rfl ⟨rfl, Below.refl _ _⟩
  obtain ⟨R, hR⟩ : ∃ R, R = numR s.data.toList := ⟨_, rfl⟩
  rw [← hR]
  have HR : Hid (R = numR s.data.toList) := hR
  clear hR
  have hd0 : decide ((s.size : Int) < 1) = false := by simp; omega
  have hd1 : decide ((6 : Int) < (s.size : Int)) = false := by simp; omega
  go_enter Tryd.func14, Tryd.ntmps14
  go_wp2
  go_loop [4, 5] (fun x i => ∃ (k m : Nat), k ≤ s.size ∧ i = .int .i64 k ∧ x = .int .i64 m ∧ m ≤ 999999 ∧ Hid (Lib.decFrom 0 (s.data.toList.take k) = some m)) (fun _ i => s.size - (intOf i).toNat)
  case atStart => exact ⟨0, 0, Nat.zero_le _, rfl, rfl, by omega, rfl⟩
  case round =>
    obtain ⟨k, m, hk, rfl, rfl, hm, hD⟩ := hrel
    by_cases hlt : k < s.size
    · have hkl : s.data.toList[k]? = some s[k] := by
        rw [List.getElem?_eq_getElem (by omega)]
        rfl
      by_cases hlo : s[k].toNat < 48
      · have hn : numR s.data.toList = none := numR_bad hkl (by unfold Lib.digitVal; rw [if_neg (by omega)])
        have hd2 : decide ((s[k].toNat : Int) < 48) = true := by simp; omega
        obtain rfl : R = none := HR.out.trans hn
        clear hkl hn
        go_wp2
        exact bodyPost_ret (v := numRes none) (by simp [numRes, results, Tryd.results14, go_sem]) rfl ⟨rfl, Below.refl _ _⟩
      have hd2 : decide ((s[k].toNat : Int) < 48) = false := by simp; omega
      by_cases hhi : 57 < s[k].toNat
      · have hn : numR s.data.toList = none := numR_bad hkl (by unfold Lib.digitVal; rw [if_neg (by omega)])
        have hd3 : decide ((57 : Int) < (s[k].toNat : Int)) = true := by simp; omega
        obtain rfl : R = none := HR.out.trans hn
        clear hkl hn hlo
        go_wp2
        exact bodyPost_ret (v := numRes none) (by simp [numRes, results, Tryd.results14, go_sem]) rfl ⟨rfl, Below.refl _ _⟩
      have hd3 : decide ((57 : Int) < (s[k].toNat : Int)) = false := by simp; omega
      have hD1 := Lib.decFrom_take s.data.toList k 0 m s[k] (s[k].toNat - 48) hD.out hkl (by unfold Lib.digitVal; rw [if_pos (by omega)])
      have hm1 : m * 10 + (s[k].toNat - 48) ≤ 999999 := by
        have h1 := Lib.decFrom_lt _ 0 _ hD1
        have h2 : (s.data.toList.take (k + 1)).length ≤ 6 := by rw [List.length_take]; omega
        have h3 : 10 ^ (s.data.toList.take (k + 1)).length ≤ 10 ^ 6 := Nat.pow_le_pow_right (by omega) h2
        omega
      have HD1 : Hid (Lib.decFrom 0 (s.data.toList.take (k + 1)) = some (m * 10 + (s[k].toNat - 48))) := hD1
      have h48 : (48 : Int) ≤ (s[k].toNat : Int) := by omega
      have h57 : (s[k].toNat : Int) ≤ 57 := by omega
      clear hkl hD1 hD hlo hhi
      go_wp2
      go_round
      case rel => exact ⟨k + 1, m * 10 + (s[k].toNat - 48), by omega, by go_num, by go_num, hm1, HD1⟩
      case measure => simp [intOf]; omega
    · obtain rfl : k = s.size := by omega
      have hall : s.data.toList.take s.size = s.data.toList := List.take_of_length_le (by omega)
      have hne : s.data.toList ≠ [] := fun e => by rw [e] at hsl; simp at hsl; omega
      have hE : numR s.data.toList = if Lib.decDigits m = s.data.toList then some m else none := numR_end hne (by omega) (by rw [← hall]; exact hD.out)
      have hit : Lib.itoa (m : Int) = Lib.decDigits m := Lib.itoa_nonneg m
      have hm64 : (m : Int) ≤ 9223372036854775807 := by omega
      clear hD hall hne
      by_cases heq : Lib.decDigits m = s.data.toList
      · rw [if_pos heq] at hE
        obtain rfl : R = some m := HR.out.trans hE
        clear hE
        go_wp2_with (go_at_call 18; refine (digitsSpec (m : Int) w (by omega) hm64).mono ?_; rintro e w1 ⟨rfl, hb⟩)
        exact bodyPost_ret (v := numRes (some m)) (by simp [numRes, results, Tryd.results14, go_sem]) rfl ⟨rfl, hb⟩
      · rw [if_neg heq] at hE
        obtain rfl : R = none := HR.out.trans hE
        have hq : (Lib.decDigits m == s.toList) = false := by rw [beq_eq_false_iff_ne, ByteArray.toList_eq]; exact heq
        clear hE heq
        go_wp2_with (go_at_call 18; refine (digitsSpec (m : Int) w (by omega) hm64).mono ?_; rintro e w1 ⟨rfl, hb⟩)
        exact bodyPost_ret (v := numRes none) (by simp [numRes, results, Tryd.results14, go_sem]) rfl ⟨rfl, hb⟩

end Go.Proofs.YtpddgladbodkbaaDoor
