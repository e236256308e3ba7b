/- spec.GetNum, walked. -/
import Derived.Test.YthgcbihhdbpbdaaGreatDoorRows
import Derived.WalkKit
import Derived.ProofKit
import Derived.OpenShut
import Derived.ShutString
import Derived.ChangeOld
import Derived.Below
import Derived.Deep.QuietTactic
import Derived.BigQuiet
import Derived.WalkSmall
import Derived.Laws.OwnMore
import Derived.WalkSpells
import Derived.WalkLawsBesides
import Derived.Test.YthgcbihhdbpbdaaGreatDoorM6
import Derived.Test.YthgcbihhdbpbdaaGreatDoorM2
namespace Go.Proofs.YthgcbihhdbpbdaaGreatDoor
open Go.ChangeShapes Go.WideShapes Go.ChangeAt Go.RowKit
open Go.ChangeMaps (open_string shut_string)
set_option linter.unusedVariables false
set_option maxRecDepth 100000

/-- What GetNum hands back. -/
def getRes : Option (Int × Int) → Value
  | none => .tuple #[.int .i64 0, .int .i64 0, .bool false]
  | some (n, s) => .tuple #[.int .i64 n, .int .i64 s, .bool true]

set_option maxHeartbeats 4000000 in
theorem getSpec (ad : Option Addr) (len cap : Nat) (f : Nat → Int) (at_ : Int) (w : World) (hv : View w ad len f) (hl : len ≤ 1048576) (hf : ∀ i, 0 ≤ f i ∧ f i ≤ 255) (ha0 : -9223372036854775808 ≤ at_) (ha1 : at_ ≤ 9223372036854775807) :
    Calls Tryz.prog 90 #[.slice ad len cap, .int .i64 at_] w fun e w' => e = .returned (getRes (getFrom len at_ (fun i => f (at_.toNat + i)) 5 0)) ∧ w' = w := by
  obtain ⟨R, hR⟩ : ∃ R, R = getFrom len at_ (fun i => f (at_.toNat + i)) 5 0 := ⟨_, rfl⟩
  have HR : Hid (getFrom len at_ (fun i => f (at_.toNat + i)) 5 0 = R) := hR.symm
  rw [← hR]
  clear hR
  go_enter Tryz.func90, Tryz.ntmps90
  go_wp2
  go_loop [7, 8, 9] (fun x i _ => ∃ k : Nat, k ≤ 5 ∧ i = .int .i64 k ∧ x = .int .i64 (val (fun i => f (at_.toNat + i)) k) ∧ Hid (getFrom len at_ (fun i => f (at_.toNat + i)) (5 - k) k = R)) (fun _ i _ => 5 - (intOf i).toNat)
  case atStart => exact ⟨0, by omega, rfl, rfl, HR⟩
  case round =>
    obtain ⟨k, hk, rfl, rfl, hG⟩ := hrel
    clear HR
    by_cases h5 : k = 5
    · subst h5
      obtain rfl : R = none := hG.out.symm
      clear hG hv
      go_wp2
      exact bodyPost_ret (v := getRes none) (by simp [getRes, results, Tryz.results90, go_sem]) rfl ⟨rfl, rfl⟩
    by_cases h0 : at_ < 0
    · obtain rfl : R = none := hG.out.symm.trans (getFrom_out (.inl h0))
      have hk4 : (k : Int) < 5 := by omega
      clear hG hv
      go_wp2
      exact bodyPost_ret (v := getRes none) (by simp [getRes, results, Tryz.results90, go_sem]) rfl ⟨rfl, rfl⟩
    by_cases h1 : (len : Int) - k ≤ at_
    · obtain rfl : R = none := hG.out.symm.trans (getFrom_out (.inr h1))
      have hk4 : (k : Int) < 5 := by omega
      have hd0 : decide (at_ < 0) = false := by simp; omega
      have hd1 : decide ((len : Int) - k ≤ at_) = true := by simp; omega
      clear hG hv h0 h1
      go_wp2
      exact bodyPost_ret (v := getRes none) (by simp [getRes, results, Tryz.results90, go_sem]) rfl ⟨rfl, rfl⟩
    obtain ⟨a, rfl⟩ : ∃ a : Nat, at_ = a := ⟨at_.toNat, by omega⟩
    simp only [Int.toNat_natCast] at hG ⊢
    have hk4 : k = 0 ∨ k = 1 ∨ k = 2 ∨ k = 3 ∨ k = 4 := by omega
    obtain ⟨b, off, rfl, hc⟩ := hv (by omega)
    have hck := hc (a + k) (by omega)
    have hfk := hf (a + k)
    obtain ⟨d, hd⟩ : ∃ d, d = f (a + k) := ⟨_, rfl⟩
    rw [← hd] at hck hfk
    obtain ⟨hfk0, hfk1⟩ := hfk
    have hal : (a : Int) + k < len := by omega
    clear ha0 ha1
    rcases hk4 with rfl | rfl | rfl | rfl | rfl
    · obtain ⟨x, hxe⟩ : ∃ x, x = val (fun i => f (a + i)) 0 := ⟨_, rfl⟩
      have hx := val_bd (fun i => f (a + i)) 0
      rw [← hxe] at hx ⊢
      have HX : Hid (x = val (fun i => f (a + i)) 0) := hxe
      have HD : Hid (d = f (a + 0)) := hd
      have hx0 : 0 ≤ x := hx.1
      have hx1 : x < 1 := hx.2
      have hor : bits BinOp.or IntKind.i64 x (d % 128 * 1) = x + d % 128 * 1 := by
        have := or_sum x (d % 128) 0 hx0 (by simpa using hx1) (by omega) (by omega) (by omega)
        simpa using this
      have hv1 : Hid (val (fun i => f (a + i)) (0 + 1) = x + d % 128 * 1) := by
        show val (fun i => f (a + i)) 0 + f (a + 0) % 128 * 128 ^ 0 = _
        rw [← hxe, ← hd]; rfl
      have hin : Hid (¬ ((a : Int) < 0 ∨ (len : Int) - (0 : Nat) ≤ a)) := by show ¬ _; omega
      obtain rfl : x = 0 := by omega
      have hor0 : bits BinOp.or IntKind.i64 0 (d % 128) = d % 128 := by simpa using hor
      have hal0 : (a : Int) < len := by omega
      simp only [Nat.add_zero] at hck
      clear hor hal hx0 hx1
      clear hxe hd hx hc hv hf h5 hk h0
      have hd1 : decide ((len : Int) ≤ (a : Int)) = false := by simp; omega
      clear h1
      by_cases h128 : d < 128
      · have hd2 : decide (d < 128) = true := by simp; omega
        have HL : Hid (f (a + 0) < 128) := by show _ < _; rw [← HD.out]; exact h128
        have hmod : Hid (d % 128 = d) := by show _ = _; omega
        by_cases hbig : 2147483647 < d % 128
        · exact absurd hbig (by omega)
        · have hb : Hid (getFrom len a (fun i => f (a + i)) 5 0 = some (val (fun i => f (a + i)) (0 + 1), (a : Int) + (0 : Nat) + 1)) := getFrom_ok hin.out HL.out (by rw [hv1.out]; show ¬ (_ ∧ f (a + 0) = 0 ∨ _); rw [← HD.out]; omega)
          have hd4 : decide (2147483647 < d % 128) = false := by simp; omega
          have hR : R = some (d % 128, (a : Int) + 1) := by
            rw [← hG.out, hb.out, hv1.out]
            first | rfl | (congr 2; omega)
          subst hR
          clear hbig
          go_wp2
          exact bodyPost_ret (v := getRes (some (d % 128, (a : Int) + 1))) (by simp [getRes, results, Tryz.results90, go_sem]; try omega) rfl ⟨rfl, rfl⟩
      · have hd2 : decide (d < 128) = false := by simp; omega
        have hnx : Hid (getFrom len a (fun i => f (a + i)) 4 (0 + 1) = R) := by
          show _ = _
          rw [← hG.out]
          exact (getFrom_next hin.out (by show ¬ f (a + 0) < 128; rw [← HD.out]; exact h128)).symm
        go_wp2
        go_round
        case rel => exact ⟨0 + 1, by omega, by go_num, by rw [hv1.out]; go_num, hnx⟩
        case measure => simp [intOf]
    · obtain ⟨x, hxe⟩ : ∃ x, x = val (fun i => f (a + i)) 1 := ⟨_, rfl⟩
      have hx := val_bd (fun i => f (a + i)) 1
      rw [← hxe] at hx ⊢
      have HX : Hid (x = val (fun i => f (a + i)) 1) := hxe
      have HD : Hid (d = f (a + 1)) := hd
      have hx0 : 0 ≤ x := hx.1
      have hx1 : x < 128 := hx.2
      have hor : bits BinOp.or IntKind.i64 x (d % 128 * 128) = x + d % 128 * 128 := by
        have := or_sum x (d % 128) 7 hx0 (by simpa using hx1) (by omega) (by omega) (by omega)
        simpa using this
      have hv1 : Hid (val (fun i => f (a + i)) (1 + 1) = x + d % 128 * 128) := by
        show val (fun i => f (a + i)) 1 + f (a + 1) % 128 * 128 ^ 1 = _
        rw [← hxe, ← hd]; rfl
      have hin : Hid (¬ ((a : Int) < 0 ∨ (len : Int) - (1 : Nat) ≤ a)) := by show ¬ _; omega
      clear hxe hd hx hc hv hf h5 hk h0
      have hd1 : decide ((len : Int) - 1 ≤ (a : Int)) = false := by simp; omega
      clear h1
      by_cases h128 : d < 128
      · have hd2 : decide (d < 128) = true := by simp; omega
        have HL : Hid (f (a + 1) < 128) := by show _ < _; rw [← HD.out]; exact h128
        by_cases hz : d = 0
        · have hb : Hid (getFrom len a (fun i => f (a + i)) 4 1 = none) := getFrom_bad hin.out HL.out (.inl ⟨by omega, by show f (a + 1) = 0; rw [← HD.out]; exact hz⟩)
          have hd3 : (d == 0) = true := by simp; omega
          obtain rfl : R = none := hG.out.symm.trans hb.out
          clear hz
          go_wp2
          exact bodyPost_ret (v := getRes none) (by simp [getRes, results, Tryz.results90, go_sem]) rfl ⟨rfl, rfl⟩
        have hd3 : (d == 0) = false := by simp; omega
        have hmod : Hid (d % 128 = d) := by show _ = _; omega
        by_cases hbig : 2147483647 < x + d % 128 * 128
        · have hb : Hid (getFrom len a (fun i => f (a + i)) 4 1 = none) := getFrom_bad hin.out HL.out (.inr (by rw [hv1.out]; omega))
          have hd4 : decide (2147483647 < x + d % 128 * 128) = true := by simp; omega
          obtain rfl : R = none := hG.out.symm.trans hb.out
          clear hbig
          go_wp2
          exact bodyPost_ret (v := getRes none) (by simp [getRes, results, Tryz.results90, go_sem]) rfl ⟨rfl, rfl⟩
        · have hb : Hid (getFrom len a (fun i => f (a + i)) 4 1 = some (val (fun i => f (a + i)) (1 + 1), (a : Int) + (1 : Nat) + 1)) := getFrom_ok hin.out HL.out (by rw [hv1.out]; show ¬ (_ ∧ f (a + 1) = 0 ∨ _); rw [← HD.out]; omega)
          have hd4 : decide (2147483647 < x + d % 128 * 128) = false := by simp; omega
          have hR : R = some (x + d % 128 * 128, (a : Int) + 2) := by
            rw [← hG.out, hb.out, hv1.out]
            first | rfl | (congr 2; omega)
          subst hR
          clear hbig
          go_wp2
          exact bodyPost_ret (v := getRes (some (x + d % 128 * 128, (a : Int) + 2))) (by simp [getRes, results, Tryz.results90, go_sem]; try omega) rfl ⟨rfl, rfl⟩
      · have hd2 : decide (d < 128) = false := by simp; omega
        have hnx : Hid (getFrom len a (fun i => f (a + i)) 3 (1 + 1) = R) := by
          show _ = _
          rw [← hG.out]
          exact (getFrom_next hin.out (by show ¬ f (a + 1) < 128; rw [← HD.out]; exact h128)).symm
        go_wp2
        go_round
        case rel => exact ⟨1 + 1, by omega, by go_num, by rw [hv1.out], hnx⟩
        case measure => simp [intOf]
    · obtain ⟨x, hxe⟩ : ∃ x, x = val (fun i => f (a + i)) 2 := ⟨_, rfl⟩
      have hx := val_bd (fun i => f (a + i)) 2
      rw [← hxe] at hx ⊢
      have HX : Hid (x = val (fun i => f (a + i)) 2) := hxe
      have HD : Hid (d = f (a + 2)) := hd
      have hx0 : 0 ≤ x := hx.1
      have hx1 : x < 16384 := hx.2
      have hor : bits BinOp.or IntKind.i64 x (d % 128 * 16384) = x + d % 128 * 16384 := by
        have := or_sum x (d % 128) 14 hx0 (by simpa using hx1) (by omega) (by omega) (by omega)
        simpa using this
      have hv1 : Hid (val (fun i => f (a + i)) (2 + 1) = x + d % 128 * 16384) := by
        show val (fun i => f (a + i)) 2 + f (a + 2) % 128 * 128 ^ 2 = _
        rw [← hxe, ← hd]; rfl
      have hin : Hid (¬ ((a : Int) < 0 ∨ (len : Int) - (2 : Nat) ≤ a)) := by show ¬ _; omega
      clear hxe hd hx hc hv hf h5 hk h0
      have hd1 : decide ((len : Int) - 2 ≤ (a : Int)) = false := by simp; omega
      clear h1
      by_cases h128 : d < 128
      · have hd2 : decide (d < 128) = true := by simp; omega
        have HL : Hid (f (a + 2) < 128) := by show _ < _; rw [← HD.out]; exact h128
        by_cases hz : d = 0
        · have hb : Hid (getFrom len a (fun i => f (a + i)) 3 2 = none) := getFrom_bad hin.out HL.out (.inl ⟨by omega, by show f (a + 2) = 0; rw [← HD.out]; exact hz⟩)
          have hd3 : (d == 0) = true := by simp; omega
          obtain rfl : R = none := hG.out.symm.trans hb.out
          clear hz
          go_wp2
          exact bodyPost_ret (v := getRes none) (by simp [getRes, results, Tryz.results90, go_sem]) rfl ⟨rfl, rfl⟩
        have hd3 : (d == 0) = false := by simp; omega
        have hmod : Hid (d % 128 = d) := by show _ = _; omega
        by_cases hbig : 2147483647 < x + d % 128 * 16384
        · have hb : Hid (getFrom len a (fun i => f (a + i)) 3 2 = none) := getFrom_bad hin.out HL.out (.inr (by rw [hv1.out]; omega))
          have hd4 : decide (2147483647 < x + d % 128 * 16384) = true := by simp; omega
          obtain rfl : R = none := hG.out.symm.trans hb.out
          clear hbig
          go_wp2
          exact bodyPost_ret (v := getRes none) (by simp [getRes, results, Tryz.results90, go_sem]) rfl ⟨rfl, rfl⟩
        · have hb : Hid (getFrom len a (fun i => f (a + i)) 3 2 = some (val (fun i => f (a + i)) (2 + 1), (a : Int) + (2 : Nat) + 1)) := getFrom_ok hin.out HL.out (by rw [hv1.out]; show ¬ (_ ∧ f (a + 2) = 0 ∨ _); rw [← HD.out]; omega)
          have hd4 : decide (2147483647 < x + d % 128 * 16384) = false := by simp; omega
          have hR : R = some (x + d % 128 * 16384, (a : Int) + 3) := by
            rw [← hG.out, hb.out, hv1.out]
            first | rfl | (congr 2; omega)
          subst hR
          clear hbig
          go_wp2
          exact bodyPost_ret (v := getRes (some (x + d % 128 * 16384, (a : Int) + 3))) (by simp [getRes, results, Tryz.results90, go_sem]; try omega) rfl ⟨rfl, rfl⟩
      · have hd2 : decide (d < 128) = false := by simp; omega
        have hnx : Hid (getFrom len a (fun i => f (a + i)) 2 (2 + 1) = R) := by
          show _ = _
          rw [← hG.out]
          exact (getFrom_next hin.out (by show ¬ f (a + 2) < 128; rw [← HD.out]; exact h128)).symm
        go_wp2
        go_round
        case rel => exact ⟨2 + 1, by omega, by go_num, by rw [hv1.out], hnx⟩
        case measure => simp [intOf]
    · obtain ⟨x, hxe⟩ : ∃ x, x = val (fun i => f (a + i)) 3 := ⟨_, rfl⟩
      have hx := val_bd (fun i => f (a + i)) 3
      rw [← hxe] at hx ⊢
      have HX : Hid (x = val (fun i => f (a + i)) 3) := hxe
      have HD : Hid (d = f (a + 3)) := hd
      have hx0 : 0 ≤ x := hx.1
      have hx1 : x < 2097152 := hx.2
      have hor : bits BinOp.or IntKind.i64 x (d % 128 * 2097152) = x + d % 128 * 2097152 := by
        have := or_sum x (d % 128) 21 hx0 (by simpa using hx1) (by omega) (by omega) (by omega)
        simpa using this
      have hv1 : Hid (val (fun i => f (a + i)) (3 + 1) = x + d % 128 * 2097152) := by
        show val (fun i => f (a + i)) 3 + f (a + 3) % 128 * 128 ^ 3 = _
        rw [← hxe, ← hd]; rfl
      have hin : Hid (¬ ((a : Int) < 0 ∨ (len : Int) - (3 : Nat) ≤ a)) := by show ¬ _; omega
      clear hxe hd hx hc hv hf h5 hk h0
      have hd1 : decide ((len : Int) - 3 ≤ (a : Int)) = false := by simp; omega
      clear h1
      by_cases h128 : d < 128
      · have hd2 : decide (d < 128) = true := by simp; omega
        have HL : Hid (f (a + 3) < 128) := by show _ < _; rw [← HD.out]; exact h128
        by_cases hz : d = 0
        · have hb : Hid (getFrom len a (fun i => f (a + i)) 2 3 = none) := getFrom_bad hin.out HL.out (.inl ⟨by omega, by show f (a + 3) = 0; rw [← HD.out]; exact hz⟩)
          have hd3 : (d == 0) = true := by simp; omega
          obtain rfl : R = none := hG.out.symm.trans hb.out
          clear hz
          go_wp2
          exact bodyPost_ret (v := getRes none) (by simp [getRes, results, Tryz.results90, go_sem]) rfl ⟨rfl, rfl⟩
        have hd3 : (d == 0) = false := by simp; omega
        have hmod : Hid (d % 128 = d) := by show _ = _; omega
        by_cases hbig : 2147483647 < x + d % 128 * 2097152
        · have hb : Hid (getFrom len a (fun i => f (a + i)) 2 3 = none) := getFrom_bad hin.out HL.out (.inr (by rw [hv1.out]; omega))
          have hd4 : decide (2147483647 < x + d % 128 * 2097152) = true := by simp; omega
          obtain rfl : R = none := hG.out.symm.trans hb.out
          clear hbig
          go_wp2
          exact bodyPost_ret (v := getRes none) (by simp [getRes, results, Tryz.results90, go_sem]) rfl ⟨rfl, rfl⟩
        · have hb : Hid (getFrom len a (fun i => f (a + i)) 2 3 = some (val (fun i => f (a + i)) (3 + 1), (a : Int) + (3 : Nat) + 1)) := getFrom_ok hin.out HL.out (by rw [hv1.out]; show ¬ (_ ∧ f (a + 3) = 0 ∨ _); rw [← HD.out]; omega)
          have hd4 : decide (2147483647 < x + d % 128 * 2097152) = false := by simp; omega
          have hR : R = some (x + d % 128 * 2097152, (a : Int) + 4) := by
            rw [← hG.out, hb.out, hv1.out]
            first | rfl | (congr 2; omega)
          subst hR
          clear hbig
          go_wp2
          exact bodyPost_ret (v := getRes (some (x + d % 128 * 2097152, (a : Int) + 4))) (by simp [getRes, results, Tryz.results90, go_sem]; try omega) rfl ⟨rfl, rfl⟩
      · have hd2 : decide (d < 128) = false := by simp; omega
        have hnx : Hid (getFrom len a (fun i => f (a + i)) 1 (3 + 1) = R) := by
          show _ = _
          rw [← hG.out]
          exact (getFrom_next hin.out (by show ¬ f (a + 3) < 128; rw [← HD.out]; exact h128)).symm
        go_wp2
        go_round
        case rel => exact ⟨3 + 1, by omega, by go_num, by rw [hv1.out], hnx⟩
        case measure => simp [intOf]
    · obtain ⟨x, hxe⟩ : ∃ x, x = val (fun i => f (a + i)) 4 := ⟨_, rfl⟩
      have hx := val_bd (fun i => f (a + i)) 4
      rw [← hxe] at hx ⊢
      have HX : Hid (x = val (fun i => f (a + i)) 4) := hxe
      have HD : Hid (d = f (a + 4)) := hd
      have hx0 : 0 ≤ x := hx.1
      have hx1 : x < 268435456 := hx.2
      have hor : bits BinOp.or IntKind.i64 x (d % 128 * 268435456) = x + d % 128 * 268435456 := by
        have := or_sum x (d % 128) 28 hx0 (by simpa using hx1) (by omega) (by omega) (by omega)
        simpa using this
      have hv1 : Hid (val (fun i => f (a + i)) (4 + 1) = x + d % 128 * 268435456) := by
        show val (fun i => f (a + i)) 4 + f (a + 4) % 128 * 128 ^ 4 = _
        rw [← hxe, ← hd]; rfl
      have hin : Hid (¬ ((a : Int) < 0 ∨ (len : Int) - (4 : Nat) ≤ a)) := by show ¬ _; omega
      clear hxe hd hx hc hv hf h5 hk h0
      have hd1 : decide ((len : Int) - 4 ≤ (a : Int)) = false := by simp; omega
      clear h1
      by_cases h128 : d < 128
      · have hd2 : decide (d < 128) = true := by simp; omega
        have HL : Hid (f (a + 4) < 128) := by show _ < _; rw [← HD.out]; exact h128
        by_cases hz : d = 0
        · have hb : Hid (getFrom len a (fun i => f (a + i)) 1 4 = none) := getFrom_bad hin.out HL.out (.inl ⟨by omega, by show f (a + 4) = 0; rw [← HD.out]; exact hz⟩)
          have hd3 : (d == 0) = true := by simp; omega
          obtain rfl : R = none := hG.out.symm.trans hb.out
          clear hz
          go_wp2
          exact bodyPost_ret (v := getRes none) (by simp [getRes, results, Tryz.results90, go_sem]) rfl ⟨rfl, rfl⟩
        have hd3 : (d == 0) = false := by simp; omega
        have hmod : Hid (d % 128 = d) := by show _ = _; omega
        by_cases hbig : 2147483647 < x + d % 128 * 268435456
        · have hb : Hid (getFrom len a (fun i => f (a + i)) 1 4 = none) := getFrom_bad hin.out HL.out (.inr (by rw [hv1.out]; omega))
          have hd4 : decide (2147483647 < x + d % 128 * 268435456) = true := by simp; omega
          obtain rfl : R = none := hG.out.symm.trans hb.out
          clear hbig
          go_wp2
          exact bodyPost_ret (v := getRes none) (by simp [getRes, results, Tryz.results90, go_sem]) rfl ⟨rfl, rfl⟩
        · have hb : Hid (getFrom len a (fun i => f (a + i)) 1 4 = some (val (fun i => f (a + i)) (4 + 1), (a : Int) + (4 : Nat) + 1)) := getFrom_ok hin.out HL.out (by rw [hv1.out]; show ¬ (_ ∧ f (a + 4) = 0 ∨ _); rw [← HD.out]; omega)
          have hd4 : decide (2147483647 < x + d % 128 * 268435456) = false := by simp; omega
          have hR : R = some (x + d % 128 * 268435456, (a : Int) + 5) := by
            rw [← hG.out, hb.out, hv1.out]
            first | rfl | (congr 2; omega)
          subst hR
          clear hbig
          go_wp2
          exact bodyPost_ret (v := getRes (some (x + d % 128 * 268435456, (a : Int) + 5))) (by simp [getRes, results, Tryz.results90, go_sem]; try omega) rfl ⟨rfl, rfl⟩
      · have hd2 : decide (d < 128) = false := by simp; omega
        have hnx : Hid (getFrom len a (fun i => f (a + i)) 0 (4 + 1) = R) := by
          show _ = _
          rw [← hG.out]
          exact (getFrom_next hin.out (by show ¬ f (a + 4) < 128; rw [← HD.out]; exact h128)).symm
        go_wp2
        go_round
        case rel => exact ⟨4 + 1, by omega, by go_num, by rw [hv1.out], hnx⟩
        case measure => simp [intOf]

end Go.Proofs.YthgcbihhdbpbdaaGreatDoor
