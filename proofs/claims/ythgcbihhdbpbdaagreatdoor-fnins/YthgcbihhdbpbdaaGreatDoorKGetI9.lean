/- impl.GetNum, walked. -/
import Derived.Test.YthgcbihhdbpbdaaGreatDoorRows
import Derived.WalkKit
import Derived.ProofKit
import Derived.OpenShut
import Derived.ShutString
import Derived.ChangeOld
import Derived.Below
import Derived.Deep.QuietTactic
import Derived.BigQuiet
import Derived.WalkSmall
import Derived.Laws.OwnMore
import Derived.WalkSpells
import Derived.WalkLawsBesides
import Derived.Defers
import Derived.Recover
import Derived.Test.YthgcbihhdbpbdaaGreatDoorKGetS9
namespace Go.Proofs.YthgcbihhdbpbdaaGreatDoor
open Go.ChangeShapes Go.WideShapes Go.ChangeAt Go.RowKit
open Go.ChangeMaps (open_string shut_string)
set_option linter.unusedVariables false
set_option maxRecDepth 100000

/-- What numberAt does: it hands back the number and the place behind it, or panics. -/
def AtEnd (R : Option (Int × Int)) (tp : TypeId) (p : Value) (e : Ending) : Prop :=
  (∃ n s, R = some (n, s) ∧ e = .returned (.tuple #[.int .i64 n, .int .i64 s])) ∨ (R = none ∧ e = .panicked [{ v := .iface tp p, recovered := false }])
theorem wf64 {n : Int} (h : -9223372036854775808 ≤ n ∧ n ≤ 9223372036854775807) : (Lit.int .i64 n).wf = true := by
  simp [Lit.wf, IntKind.min, IntKind.max, IntKind.signed, IntKind.bits]
  omega
theorem put_most : (putZ 2147483647).length = 5 := by
  have e : putZ 2147483647 = put 2147483647 := by unfold putZ; rw [if_pos (by omega)]; rfl
  have h1 := put_many (m := 2147483647) 4 (by decide)
  have h2 := put_few (m := 2147483647) 4 (by decide)
  rw [e]
  omega

set_option maxHeartbeats 4000000 in
theorem numAt (ad : Option Addr) (len cap : Nat) (f : Nat → Int) (at_ : Int) (w : World) (hv : View w ad len f) (hB : ∀ a, ad = some a → 0 < len → a.block < w.heap.size) (hl : len ≤ 1048576) (hf : ∀ i, 0 ≤ f i ∧ f i ≤ 255) (ha0 : -9223372036854775808 ≤ at_) (ha1 : at_ ≤ 9223372036854775807)
    (tp : TypeId) (p : Value) (hs : w.cell? ⟨1, 0, none⟩ = some (.iface tp p)) :
    Calls Tryz.prog 108 #[.slice ad len cap, .int .i64 at_] w fun e w' => AtEnd (getFrom len at_ (fun i => f (at_.toNat + i)) 5 0) tp p e ∧ Below w.heap.size w w' := by
  obtain ⟨R, hR⟩ : ∃ R, R = getFrom len at_ (fun i => f (at_.toNat + i)) 5 0 := ⟨_, rfl⟩
  have HR : Hid (getFrom len at_ (fun i => f (at_.toNat + i)) 5 0 = R) := hR.symm
  rw [← hR]
  clear hR
  have hsb : 1 < w.heap.size := World.block_lt_of_cell? w _ hs
  by_cases h0 : at_ < 0
  · obtain rfl : R = none := HR.out.symm.trans (getFrom_out (.inl h0))
    clear HR hv
    go_enter Tryz.func108, Tryz.ntmps108
    go_wp2
    exact ⟨rfl, .inr ⟨rfl, rfl⟩, Below.refl _ _⟩
  by_cases h1 : (len : Int) ≤ at_
  · obtain rfl : R = none := HR.out.symm.trans (getFrom_out (.inr (by omega)))
    have hd0 : decide (at_ < 0) = false := by simp; omega
    have hd1 : decide ((len : Int) ≤ at_) = true := by simp; omega
    clear HR hv h0 h1
    go_enter Tryz.func108, Tryz.ntmps108
    go_wp2
    exact ⟨rfl, .inr ⟨rfl, rfl⟩, Below.refl _ _⟩
  obtain ⟨a, rfl⟩ : ∃ a : Nat, at_ = a := ⟨at_.toNat, by omega⟩
  simp only [Int.toNat_natCast] at HR
  obtain ⟨b, off, rfl, hc⟩ := hv (by omega)
  have hbl := hB _ rfl (by omega)
  have hal : (a : Int) < len := by omega
  have hd1 : decide ((len : Int) ≤ a) = false := by simp; omega
  have hwf0 : (Lit.int .i64 2147483647).wf = true := by decide
  clear ha0 ha1 hv hB h0 h1
  by_cases hmin : (len : Int) - a ≤ 5
  · go_enter Tryz.func108, Tryz.ntmps108
    go_wp2_with (first | (go_at_call 41; refine (putImpl 2147483647 w hwf0).mono ?_; rintro e w1 ⟨v, rfl, ho, hb1⟩; obtain ⟨_, ad1, cap1, rfl, _, _, _⟩ := own_view ho; clear ho; rw [put_most]) | go_in)
    go_loopw [6, 7, 8, 25] (fun x _ _ i wr => ∃ k : Nat, k ≤ 5 ∧ (k : Int) ≤ (len : Int) - a ∧ i = .int .i64 k ∧ x = .int .i64 (val (fun i => f (a + i)) k) ∧ Hid (getFrom len a (fun i => f (a + i)) (5 - k) k = R) ∧ Below w.heap.size w wr) (fun _ _ _ i _ => 5 - (intOf i).toNat)
    case atStart => exact ⟨0, by omega, by omega, rfl, rfl, HR, hb1⟩
    case round =>
      obtain ⟨k, hk, hkM, rfl, rfl, hG, hb⟩ := hrel
      clear HR hb1
      have hsr := (hb.cell (p := ⟨1, 0, none⟩) hsb).trans hs
      by_cases hend : (len : Int) - a ≤ k
      · have hn : getFrom len a (fun i => f (a + i)) (5 - k) k = none := by
          by_cases h5 : k = 5
          · subst h5; rfl
          · exact getFrom_out (.inr (by omega))
        obtain rfl : R = none := hG.out.symm.trans hn
        clear hG hn
        go_wp2
        exact ⟨rfl, .inr ⟨rfl, rfl⟩, hb⟩
      have hk4 : k = 0 ∨ k = 1 ∨ k = 2 ∨ k = 3 ∨ k = 4 := by omega
      have hck := (hb.cell (p := ⟨b, off + (a + k), none⟩) hbl).trans (hc (a + k) (by omega))
      have hfk := hf (a + k)
      obtain ⟨d, hd⟩ : ∃ d, d = f (a + k) := ⟨_, rfl⟩
      rw [← hd] at hck hfk
      obtain ⟨hfk0, hfk1⟩ := hfk
      rcases hk4 with rfl | rfl | rfl | rfl | rfl
      · obtain ⟨x, hxe⟩ : ∃ x, x = val (fun i => f (a + i)) 0 := ⟨_, rfl⟩
        have hx := val_bd (fun i => f (a + i)) 0
        rw [← hxe] at hx ⊢
        have HD : Hid (d = f (a + 0)) := hd
        have hx0 : 0 ≤ x := hx.1
        have hx1 : x < 1 := hx.2
        have hv1 : Hid (val (fun i => f (a + i)) (0 + 1) = x + d % 128 * 1) := by
          show val (fun i => f (a + i)) 0 + f (a + 0) % 128 * 128 ^ 0 = _
          rw [← hxe, ← hd]; rfl
        have hin : Hid (¬ ((a : Int) < 0 ∨ (len : Int) - (0 : Nat) ≤ a)) := by show ¬ _; omega
        obtain rfl : x = 0 := by omega
        simp only [Nat.add_zero] at hck
        clear hxe hd hx hc hf hk
        by_cases h128 : d < 128
        · have hd2 : decide (127 < d) = false := by simp; omega
          have HL : Hid (f (a + 0) < 128) := by show _ < _; rw [← HD.out]; exact h128
          have hwf : (Lit.int .i64 (d % 128)).wf = true := wf64 (by omega)
          have hsh := short_iff (fun i => f (a + i)) 0 (by show 0 ≤ f (a + 0); rw [← HD.out]; exact hfk0) HL.out
          have HS : Hid ((((putZ (d % 128)).length : Int) = 1) ↔ ¬ ((0 < 0 ∧ f (a + 0) = 0) ∨ 2147483647 < val (fun i => f (a + i)) (0 + 1))) := by
            have e : val (fun i => f (a + i)) (0 + 1) = d % 128 := by rw [hv1.out]; omega
            rw [e] at hsh ⊢
            exact hsh
          have hlen := putZ_len (d % 128)
          obtain ⟨L, hLe⟩ : ∃ L, L = putZ (d % 128) := ⟨_, rfl⟩
          rw [← hLe] at HS hlen
          have HLe : Hid (putZ (d % 128) = L) := hLe.symm
          clear hsh hLe
          by_cases hok : ((L.length : Int) = 1)
          · have hbo : Hid (getFrom len a (fun i => f (a + i)) 5 0 = some (val (fun i => f (a + i)) (0 + 1), (a : Int) + (0 : Nat) + 1)) := getFrom_ok hin.out HL.out (HS.out.1 hok)
            have hR : R = some (d % 128, (a : Int) + 1) := by
              rw [← hG.out, hbo.out, hv1.out]
              first | rfl | (congr 2; omega) | (congr 2 <;> omega)
            subst hR
            have hne : ((L.length : Int) != 1) = false := by simp; omega
            clear hok
            go_wp2_with (first | (go_at_call 41; refine (putImpl (d % 128) wr hwf).mono ?_; rintro e w2 ⟨v, rfl, ho, hb2⟩; rw [HLe.out] at ho; obtain ⟨_, ad2, cap2, rfl, _, _, _⟩ := own_view ho; clear ho) | go_in)
            exact bodyPost_ret (v := .tuple #[.int .i64 (d % 128), .int .i64 ((a : Int) + 1)]) (by simp [results, Tryz.results108, go_sem]; try omega) rfl ⟨.inl ⟨_, _, rfl, rfl⟩, hb.trans (hb2.mono hb.size)⟩
          · have hbd : Hid (getFrom len a (fun i => f (a + i)) 5 0 = none) := getFrom_bad hin.out HL.out (by by_cases hq : (0 < 0 ∧ f (a + 0) = 0) ∨ 2147483647 < val (fun i => f (a + i)) (0 + 1); exact hq; exact absurd (HS.out.2 hq) hok)
            obtain rfl : R = none := hG.out.symm.trans hbd.out
            have hne : ((L.length : Int) != 1) = true := by simp; omega
            clear hok
            go_wp2_with (first | (go_at_call 41; refine (putImpl (d % 128) wr hwf).mono ?_; rintro e w2 ⟨v, rfl, ho, hb2⟩; rw [HLe.out] at ho; obtain ⟨_, ad2, cap2, rfl, _, _, _⟩ := own_view ho; clear ho; have hs2 := (hb2.cell (p := ⟨1, 0, none⟩) (Nat.lt_of_lt_of_le hsb hb.size)).trans hsr) | go_in)
            exact ⟨rfl, .inr ⟨rfl, rfl⟩, hb.trans (hb2.mono hb.size)⟩
        · have hd2 : decide (127 < d) = true := by simp; omega
          have hnx : Hid (getFrom len a (fun i => f (a + i)) 4 (0 + 1) = R) := by
            show _ = _
            rw [← hG.out]
            exact (getFrom_next hin.out (by show ¬ f (a + 0) < 128; rw [← HD.out]; exact h128)).symm
          go_wp2
          go_roundw
          case rel => exact ⟨0 + 1, by omega, by omega, by go_num, by rw [hv1.out]; go_num, hnx, hb⟩
          case measure => simp [intOf]
      · obtain ⟨x, hxe⟩ : ∃ x, x = val (fun i => f (a + i)) 1 := ⟨_, rfl⟩
        have hx := val_bd (fun i => f (a + i)) 1
        rw [← hxe] at hx ⊢
        have HD : Hid (d = f (a + 1)) := hd
        have hx0 : 0 ≤ x := hx.1
        have hx1 : x < 128 := hx.2
        have hv1 : Hid (val (fun i => f (a + i)) (1 + 1) = x + d % 128 * 128) := by
          show val (fun i => f (a + i)) 1 + f (a + 1) % 128 * 128 ^ 1 = _
          rw [← hxe, ← hd]; rfl
        have hin : Hid (¬ ((a : Int) < 0 ∨ (len : Int) - (1 : Nat) ≤ a)) := by show ¬ _; omega
        clear hxe hd hx hc hf hk
        by_cases h128 : d < 128
        · have hd2 : decide (127 < d) = false := by simp; omega
          have HL : Hid (f (a + 1) < 128) := by show _ < _; rw [← HD.out]; exact h128
          have hwf : (Lit.int .i64 (x + d % 128 * 128)).wf = true := wf64 (by omega)
          have hsh := short_iff (fun i => f (a + i)) 1 (by show 0 ≤ f (a + 1); rw [← HD.out]; exact hfk0) HL.out
          have HS : Hid ((((putZ (x + d % 128 * 128)).length : Int) = 2) ↔ ¬ ((0 < 1 ∧ f (a + 1) = 0) ∨ 2147483647 < val (fun i => f (a + i)) (1 + 1))) := by
            have e : val (fun i => f (a + i)) (1 + 1) = x + d % 128 * 128 := by rw [hv1.out]
            rw [e] at hsh ⊢
            exact hsh
          have hlen := putZ_len (x + d % 128 * 128)
          obtain ⟨L, hLe⟩ : ∃ L, L = putZ (x + d % 128 * 128) := ⟨_, rfl⟩
          rw [← hLe] at HS hlen
          have HLe : Hid (putZ (x + d % 128 * 128) = L) := hLe.symm
          clear hsh hLe
          by_cases hok : ((L.length : Int) = 2)
          · have hbo : Hid (getFrom len a (fun i => f (a + i)) 4 1 = some (val (fun i => f (a + i)) (1 + 1), (a : Int) + (1 : Nat) + 1)) := getFrom_ok hin.out HL.out (HS.out.1 hok)
            have hR : R = some (x + d % 128 * 128, (a : Int) + 2) := by
              rw [← hG.out, hbo.out, hv1.out]
              first | rfl | (congr 2; omega) | (congr 2 <;> omega)
            subst hR
            have hne : ((L.length : Int) != 2) = false := by simp; omega
            clear hok
            go_wp2_with (first | (go_at_call 41; refine (putImpl (x + d % 128 * 128) wr hwf).mono ?_; rintro e w2 ⟨v, rfl, ho, hb2⟩; rw [HLe.out] at ho; obtain ⟨_, ad2, cap2, rfl, _, _, _⟩ := own_view ho; clear ho) | go_in)
            exact bodyPost_ret (v := .tuple #[.int .i64 (x + d % 128 * 128), .int .i64 ((a : Int) + 2)]) (by simp [results, Tryz.results108, go_sem]; try omega) rfl ⟨.inl ⟨_, _, rfl, rfl⟩, hb.trans (hb2.mono hb.size)⟩
          · have hbd : Hid (getFrom len a (fun i => f (a + i)) 4 1 = none) := getFrom_bad hin.out HL.out (by by_cases hq : (0 < 1 ∧ f (a + 1) = 0) ∨ 2147483647 < val (fun i => f (a + i)) (1 + 1); exact hq; exact absurd (HS.out.2 hq) hok)
            obtain rfl : R = none := hG.out.symm.trans hbd.out
            have hne : ((L.length : Int) != 2) = true := by simp; omega
            clear hok
            go_wp2_with (first | (go_at_call 41; refine (putImpl (x + d % 128 * 128) wr hwf).mono ?_; rintro e w2 ⟨v, rfl, ho, hb2⟩; rw [HLe.out] at ho; obtain ⟨_, ad2, cap2, rfl, _, _, _⟩ := own_view ho; clear ho; have hs2 := (hb2.cell (p := ⟨1, 0, none⟩) (Nat.lt_of_lt_of_le hsb hb.size)).trans hsr) | go_in)
            exact ⟨rfl, .inr ⟨rfl, rfl⟩, hb.trans (hb2.mono hb.size)⟩
        · have hd2 : decide (127 < d) = true := by simp; omega
          have hnx : Hid (getFrom len a (fun i => f (a + i)) 3 (1 + 1) = R) := by
            show _ = _
            rw [← hG.out]
            exact (getFrom_next hin.out (by show ¬ f (a + 1) < 128; rw [← HD.out]; exact h128)).symm
          go_wp2
          go_roundw
          case rel => exact ⟨1 + 1, by omega, by omega, by go_num, by rw [hv1.out], hnx, hb⟩
          case measure => simp [intOf]
      · obtain ⟨x, hxe⟩ : ∃ x, x = val (fun i => f (a + i)) 2 := ⟨_, rfl⟩
        have hx := val_bd (fun i => f (a + i)) 2
        rw [← hxe] at hx ⊢
        have HD : Hid (d = f (a + 2)) := hd
        have hx0 : 0 ≤ x := hx.1
        have hx1 : x < 16384 := hx.2
        have hv1 : Hid (val (fun i => f (a + i)) (2 + 1) = x + d % 128 * 16384) := by
          show val (fun i => f (a + i)) 2 + f (a + 2) % 128 * 128 ^ 2 = _
          rw [← hxe, ← hd]; rfl
        have hin : Hid (¬ ((a : Int) < 0 ∨ (len : Int) - (2 : Nat) ≤ a)) := by show ¬ _; omega
        clear hxe hd hx hc hf hk
        by_cases h128 : d < 128
        · have hd2 : decide (127 < d) = false := by simp; omega
          have HL : Hid (f (a + 2) < 128) := by show _ < _; rw [← HD.out]; exact h128
          have hwf : (Lit.int .i64 (x + d % 128 * 16384)).wf = true := wf64 (by omega)
          have hsh := short_iff (fun i => f (a + i)) 2 (by show 0 ≤ f (a + 2); rw [← HD.out]; exact hfk0) HL.out
          have HS : Hid ((((putZ (x + d % 128 * 16384)).length : Int) = 3) ↔ ¬ ((0 < 2 ∧ f (a + 2) = 0) ∨ 2147483647 < val (fun i => f (a + i)) (2 + 1))) := by
            have e : val (fun i => f (a + i)) (2 + 1) = x + d % 128 * 16384 := by rw [hv1.out]
            rw [e] at hsh ⊢
            exact hsh
          have hlen := putZ_len (x + d % 128 * 16384)
          obtain ⟨L, hLe⟩ : ∃ L, L = putZ (x + d % 128 * 16384) := ⟨_, rfl⟩
          rw [← hLe] at HS hlen
          have HLe : Hid (putZ (x + d % 128 * 16384) = L) := hLe.symm
          clear hsh hLe
          by_cases hok : ((L.length : Int) = 3)
          · have hbo : Hid (getFrom len a (fun i => f (a + i)) 3 2 = some (val (fun i => f (a + i)) (2 + 1), (a : Int) + (2 : Nat) + 1)) := getFrom_ok hin.out HL.out (HS.out.1 hok)
            have hR : R = some (x + d % 128 * 16384, (a : Int) + 3) := by
              rw [← hG.out, hbo.out, hv1.out]
              first | rfl | (congr 2; omega) | (congr 2 <;> omega)
            subst hR
            have hne : ((L.length : Int) != 3) = false := by simp; omega
            clear hok
            go_wp2_with (first | (go_at_call 41; refine (putImpl (x + d % 128 * 16384) wr hwf).mono ?_; rintro e w2 ⟨v, rfl, ho, hb2⟩; rw [HLe.out] at ho; obtain ⟨_, ad2, cap2, rfl, _, _, _⟩ := own_view ho; clear ho) | go_in)
            exact bodyPost_ret (v := .tuple #[.int .i64 (x + d % 128 * 16384), .int .i64 ((a : Int) + 3)]) (by simp [results, Tryz.results108, go_sem]; try omega) rfl ⟨.inl ⟨_, _, rfl, rfl⟩, hb.trans (hb2.mono hb.size)⟩
          · have hbd : Hid (getFrom len a (fun i => f (a + i)) 3 2 = none) := getFrom_bad hin.out HL.out (by by_cases hq : (0 < 2 ∧ f (a + 2) = 0) ∨ 2147483647 < val (fun i => f (a + i)) (2 + 1); exact hq; exact absurd (HS.out.2 hq) hok)
            obtain rfl : R = none := hG.out.symm.trans hbd.out
            have hne : ((L.length : Int) != 3) = true := by simp; omega
            clear hok
            go_wp2_with (first | (go_at_call 41; refine (putImpl (x + d % 128 * 16384) wr hwf).mono ?_; rintro e w2 ⟨v, rfl, ho, hb2⟩; rw [HLe.out] at ho; obtain ⟨_, ad2, cap2, rfl, _, _, _⟩ := own_view ho; clear ho; have hs2 := (hb2.cell (p := ⟨1, 0, none⟩) (Nat.lt_of_lt_of_le hsb hb.size)).trans hsr) | go_in)
            exact ⟨rfl, .inr ⟨rfl, rfl⟩, hb.trans (hb2.mono hb.size)⟩
        · have hd2 : decide (127 < d) = true := by simp; omega
          have hnx : Hid (getFrom len a (fun i => f (a + i)) 2 (2 + 1) = R) := by
            show _ = _
            rw [← hG.out]
            exact (getFrom_next hin.out (by show ¬ f (a + 2) < 128; rw [← HD.out]; exact h128)).symm
          go_wp2
          go_roundw
          case rel => exact ⟨2 + 1, by omega, by omega, by go_num, by rw [hv1.out], hnx, hb⟩
          case measure => simp [intOf]
      · obtain ⟨x, hxe⟩ : ∃ x, x = val (fun i => f (a + i)) 3 := ⟨_, rfl⟩
        have hx := val_bd (fun i => f (a + i)) 3
        rw [← hxe] at hx ⊢
        have HD : Hid (d = f (a + 3)) := hd
        have hx0 : 0 ≤ x := hx.1
        have hx1 : x < 2097152 := hx.2
        have hv1 : Hid (val (fun i => f (a + i)) (3 + 1) = x + d % 128 * 2097152) := by
          show val (fun i => f (a + i)) 3 + f (a + 3) % 128 * 128 ^ 3 = _
          rw [← hxe, ← hd]; rfl
        have hin : Hid (¬ ((a : Int) < 0 ∨ (len : Int) - (3 : Nat) ≤ a)) := by show ¬ _; omega
        clear hxe hd hx hc hf hk
        by_cases h128 : d < 128
        · have hd2 : decide (127 < d) = false := by simp; omega
          have HL : Hid (f (a + 3) < 128) := by show _ < _; rw [← HD.out]; exact h128
          have hwf : (Lit.int .i64 (x + d % 128 * 2097152)).wf = true := wf64 (by omega)
          have hsh := short_iff (fun i => f (a + i)) 3 (by show 0 ≤ f (a + 3); rw [← HD.out]; exact hfk0) HL.out
          have HS : Hid ((((putZ (x + d % 128 * 2097152)).length : Int) = 4) ↔ ¬ ((0 < 3 ∧ f (a + 3) = 0) ∨ 2147483647 < val (fun i => f (a + i)) (3 + 1))) := by
            have e : val (fun i => f (a + i)) (3 + 1) = x + d % 128 * 2097152 := by rw [hv1.out]
            rw [e] at hsh ⊢
            exact hsh
          have hlen := putZ_len (x + d % 128 * 2097152)
          obtain ⟨L, hLe⟩ : ∃ L, L = putZ (x + d % 128 * 2097152) := ⟨_, rfl⟩
          rw [← hLe] at HS hlen
          have HLe : Hid (putZ (x + d % 128 * 2097152) = L) := hLe.symm
          clear hsh hLe
          by_cases hok : ((L.length : Int) = 4)
          · have hbo : Hid (getFrom len a (fun i => f (a + i)) 2 3 = some (val (fun i => f (a + i)) (3 + 1), (a : Int) + (3 : Nat) + 1)) := getFrom_ok hin.out HL.out (HS.out.1 hok)
            have hR : R = some (x + d % 128 * 2097152, (a : Int) + 4) := by
              rw [← hG.out, hbo.out, hv1.out]
              first | rfl | (congr 2; omega) | (congr 2 <;> omega)
            subst hR
            have hne : ((L.length : Int) != 4) = false := by simp; omega
            clear hok
            go_wp2_with (first | (go_at_call 41; refine (putImpl (x + d % 128 * 2097152) wr hwf).mono ?_; rintro e w2 ⟨v, rfl, ho, hb2⟩; rw [HLe.out] at ho; obtain ⟨_, ad2, cap2, rfl, _, _, _⟩ := own_view ho; clear ho) | go_in)
            exact bodyPost_ret (v := .tuple #[.int .i64 (x + d % 128 * 2097152), .int .i64 ((a : Int) + 4)]) (by simp [results, Tryz.results108, go_sem]; try omega) rfl ⟨.inl ⟨_, _, rfl, rfl⟩, hb.trans (hb2.mono hb.size)⟩
          · have hbd : Hid (getFrom len a (fun i => f (a + i)) 2 3 = none) := getFrom_bad hin.out HL.out (by by_cases hq : (0 < 3 ∧ f (a + 3) = 0) ∨ 2147483647 < val (fun i => f (a + i)) (3 + 1); exact hq; exact absurd (HS.out.2 hq) hok)
            obtain rfl : R = none := hG.out.symm.trans hbd.out
            have hne : ((L.length : Int) != 4) = true := by simp; omega
            clear hok
            go_wp2_with (first | (go_at_call 41; refine (putImpl (x + d % 128 * 2097152) wr hwf).mono ?_; rintro e w2 ⟨v, rfl, ho, hb2⟩; rw [HLe.out] at ho; obtain ⟨_, ad2, cap2, rfl, _, _, _⟩ := own_view ho; clear ho; have hs2 := (hb2.cell (p := ⟨1, 0, none⟩) (Nat.lt_of_lt_of_le hsb hb.size)).trans hsr) | go_in)
            exact ⟨rfl, .inr ⟨rfl, rfl⟩, hb.trans (hb2.mono hb.size)⟩
        · have hd2 : decide (127 < d) = true := by simp; omega
          have hnx : Hid (getFrom len a (fun i => f (a + i)) 1 (3 + 1) = R) := by
            show _ = _
            rw [← hG.out]
            exact (getFrom_next hin.out (by show ¬ f (a + 3) < 128; rw [← HD.out]; exact h128)).symm
          go_wp2
          go_roundw
          case rel => exact ⟨3 + 1, by omega, by omega, by go_num, by rw [hv1.out], hnx, hb⟩
          case measure => simp [intOf]
      · obtain ⟨x, hxe⟩ : ∃ x, x = val (fun i => f (a + i)) 4 := ⟨_, rfl⟩
        have hx := val_bd (fun i => f (a + i)) 4
        rw [← hxe] at hx ⊢
        have HD : Hid (d = f (a + 4)) := hd
        have hx0 : 0 ≤ x := hx.1
        have hx1 : x < 268435456 := hx.2
        have hv1 : Hid (val (fun i => f (a + i)) (4 + 1) = x + d % 128 * 268435456) := by
          show val (fun i => f (a + i)) 4 + f (a + 4) % 128 * 128 ^ 4 = _
          rw [← hxe, ← hd]; rfl
        have hin : Hid (¬ ((a : Int) < 0 ∨ (len : Int) - (4 : Nat) ≤ a)) := by show ¬ _; omega
        clear hxe hd hx hc hf hk
        by_cases h128 : d < 128
        · have hd2 : decide (127 < d) = false := by simp; omega
          have HL : Hid (f (a + 4) < 128) := by show _ < _; rw [← HD.out]; exact h128
          have hwf : (Lit.int .i64 (x + d % 128 * 268435456)).wf = true := wf64 (by omega)
          have hsh := short_iff (fun i => f (a + i)) 4 (by show 0 ≤ f (a + 4); rw [← HD.out]; exact hfk0) HL.out
          have HS : Hid ((((putZ (x + d % 128 * 268435456)).length : Int) = 5) ↔ ¬ ((0 < 4 ∧ f (a + 4) = 0) ∨ 2147483647 < val (fun i => f (a + i)) (4 + 1))) := by
            have e : val (fun i => f (a + i)) (4 + 1) = x + d % 128 * 268435456 := by rw [hv1.out]
            rw [e] at hsh ⊢
            exact hsh
          have hlen := putZ_len (x + d % 128 * 268435456)
          obtain ⟨L, hLe⟩ : ∃ L, L = putZ (x + d % 128 * 268435456) := ⟨_, rfl⟩
          rw [← hLe] at HS hlen
          have HLe : Hid (putZ (x + d % 128 * 268435456) = L) := hLe.symm
          clear hsh hLe
          by_cases hok : ((L.length : Int) = 5)
          · have hbo : Hid (getFrom len a (fun i => f (a + i)) 1 4 = some (val (fun i => f (a + i)) (4 + 1), (a : Int) + (4 : Nat) + 1)) := getFrom_ok hin.out HL.out (HS.out.1 hok)
            have hR : R = some (x + d % 128 * 268435456, (a : Int) + 5) := by
              rw [← hG.out, hbo.out, hv1.out]
              first | rfl | (congr 2; omega) | (congr 2 <;> omega)
            subst hR
            have hne : ((L.length : Int) != 5) = false := by simp; omega
            clear hok
            go_wp2_with (first | (go_at_call 41; refine (putImpl (x + d % 128 * 268435456) wr hwf).mono ?_; rintro e w2 ⟨v, rfl, ho, hb2⟩; rw [HLe.out] at ho; obtain ⟨_, ad2, cap2, rfl, _, _, _⟩ := own_view ho; clear ho) | go_in)
            exact bodyPost_ret (v := .tuple #[.int .i64 (x + d % 128 * 268435456), .int .i64 ((a : Int) + 5)]) (by simp [results, Tryz.results108, go_sem]; try omega) rfl ⟨.inl ⟨_, _, rfl, rfl⟩, hb.trans (hb2.mono hb.size)⟩
          · have hbd : Hid (getFrom len a (fun i => f (a + i)) 1 4 = none) := getFrom_bad hin.out HL.out (by by_cases hq : (0 < 4 ∧ f (a + 4) = 0) ∨ 2147483647 < val (fun i => f (a + i)) (4 + 1); exact hq; exact absurd (HS.out.2 hq) hok)
            obtain rfl : R = none := hG.out.symm.trans hbd.out
            have hne : ((L.length : Int) != 5) = true := by simp; omega
            clear hok
            go_wp2_with (first | (go_at_call 41; refine (putImpl (x + d % 128 * 268435456) wr hwf).mono ?_; rintro e w2 ⟨v, rfl, ho, hb2⟩; rw [HLe.out] at ho; obtain ⟨_, ad2, cap2, rfl, _, _, _⟩ := own_view ho; clear ho; have hs2 := (hb2.cell (p := ⟨1, 0, none⟩) (Nat.lt_of_lt_of_le hsb hb.size)).trans hsr) | go_in)
            exact ⟨rfl, .inr ⟨rfl, rfl⟩, hb.trans (hb2.mono hb.size)⟩
        · have hd2 : decide (127 < d) = true := by simp; omega
          have hnx : Hid (getFrom len a (fun i => f (a + i)) 0 (4 + 1) = R) := by
            show _ = _
            rw [← hG.out]
            exact (getFrom_next hin.out (by show ¬ f (a + 4) < 128; rw [← HD.out]; exact h128)).symm
          go_wp2
          go_roundw
          case rel => exact ⟨4 + 1, by omega, by omega, by go_num, by rw [hv1.out], hnx, hb⟩
          case measure => simp [intOf]
  · have hmin2 : (5 : Int) < (len : Int) - a := by omega
    clear hmin
    go_enter Tryz.func108, Tryz.ntmps108
    go_wp2_with (first | (go_at_call 41; refine (putImpl 2147483647 w hwf0).mono ?_; rintro e w1 ⟨v, rfl, ho, hb1⟩; obtain ⟨_, ad1, cap1, rfl, _, _, _⟩ := own_view ho; clear ho; rw [put_most]) | go_in)
    go_loopw [6, 7, 8, 25] (fun x _ _ i wr => ∃ k : Nat, k ≤ 5 ∧ (k : Int) ≤ (5 : Int) ∧ i = .int .i64 k ∧ x = .int .i64 (val (fun i => f (a + i)) k) ∧ Hid (getFrom len a (fun i => f (a + i)) (5 - k) k = R) ∧ Below w.heap.size w wr) (fun _ _ _ i _ => 5 - (intOf i).toNat)
    case atStart => exact ⟨0, by omega, by omega, rfl, rfl, HR, hb1⟩
    case round =>
      obtain ⟨k, hk, hkM, rfl, rfl, hG, hb⟩ := hrel
      clear HR hb1
      have hsr := (hb.cell (p := ⟨1, 0, none⟩) hsb).trans hs
      by_cases hend : (5 : Int) ≤ k
      · have hn : getFrom len a (fun i => f (a + i)) (5 - k) k = none := by
          by_cases h5 : k = 5
          · subst h5; rfl
          · exact getFrom_out (.inr (by omega))
        obtain rfl : R = none := hG.out.symm.trans hn
        clear hG hn
        go_wp2
        exact ⟨rfl, .inr ⟨rfl, rfl⟩, hb⟩
      have hk4 : k = 0 ∨ k = 1 ∨ k = 2 ∨ k = 3 ∨ k = 4 := by omega
      have hck := (hb.cell (p := ⟨b, off + (a + k), none⟩) hbl).trans (hc (a + k) (by omega))
      have hfk := hf (a + k)
      obtain ⟨d, hd⟩ : ∃ d, d = f (a + k) := ⟨_, rfl⟩
      rw [← hd] at hck hfk
      obtain ⟨hfk0, hfk1⟩ := hfk
      rcases hk4 with rfl | rfl | rfl | rfl | rfl
      · obtain ⟨x, hxe⟩ : ∃ x, x = val (fun i => f (a + i)) 0 := ⟨_, rfl⟩
        have hx := val_bd (fun i => f (a + i)) 0
        rw [← hxe] at hx ⊢
        have HD : Hid (d = f (a + 0)) := hd
        have hx0 : 0 ≤ x := hx.1
        have hx1 : x < 1 := hx.2
        have hv1 : Hid (val (fun i => f (a + i)) (0 + 1) = x + d % 128 * 1) := by
          show val (fun i => f (a + i)) 0 + f (a + 0) % 128 * 128 ^ 0 = _
          rw [← hxe, ← hd]; rfl
        have hin : Hid (¬ ((a : Int) < 0 ∨ (len : Int) - (0 : Nat) ≤ a)) := by show ¬ _; omega
        obtain rfl : x = 0 := by omega
        simp only [Nat.add_zero] at hck
        clear hxe hd hx hc hf hk
        by_cases h128 : d < 128
        · have hd2 : decide (127 < d) = false := by simp; omega
          have HL : Hid (f (a + 0) < 128) := by show _ < _; rw [← HD.out]; exact h128
          have hwf : (Lit.int .i64 (d % 128)).wf = true := wf64 (by omega)
          have hsh := short_iff (fun i => f (a + i)) 0 (by show 0 ≤ f (a + 0); rw [← HD.out]; exact hfk0) HL.out
          have HS : Hid ((((putZ (d % 128)).length : Int) = 1) ↔ ¬ ((0 < 0 ∧ f (a + 0) = 0) ∨ 2147483647 < val (fun i => f (a + i)) (0 + 1))) := by
            have e : val (fun i => f (a + i)) (0 + 1) = d % 128 := by rw [hv1.out]; omega
            rw [e] at hsh ⊢
            exact hsh
          have hlen := putZ_len (d % 128)
          obtain ⟨L, hLe⟩ : ∃ L, L = putZ (d % 128) := ⟨_, rfl⟩
          rw [← hLe] at HS hlen
          have HLe : Hid (putZ (d % 128) = L) := hLe.symm
          clear hsh hLe
          by_cases hok : ((L.length : Int) = 1)
          · have hbo : Hid (getFrom len a (fun i => f (a + i)) 5 0 = some (val (fun i => f (a + i)) (0 + 1), (a : Int) + (0 : Nat) + 1)) := getFrom_ok hin.out HL.out (HS.out.1 hok)
            have hR : R = some (d % 128, (a : Int) + 1) := by
              rw [← hG.out, hbo.out, hv1.out]
              first | rfl | (congr 2; omega) | (congr 2 <;> omega)
            subst hR
            have hne : ((L.length : Int) != 1) = false := by simp; omega
            clear hok
            go_wp2_with (first | (go_at_call 41; refine (putImpl (d % 128) wr hwf).mono ?_; rintro e w2 ⟨v, rfl, ho, hb2⟩; rw [HLe.out] at ho; obtain ⟨_, ad2, cap2, rfl, _, _, _⟩ := own_view ho; clear ho) | go_in)
            exact bodyPost_ret (v := .tuple #[.int .i64 (d % 128), .int .i64 ((a : Int) + 1)]) (by simp [results, Tryz.results108, go_sem]; try omega) rfl ⟨.inl ⟨_, _, rfl, rfl⟩, hb.trans (hb2.mono hb.size)⟩
          · have hbd : Hid (getFrom len a (fun i => f (a + i)) 5 0 = none) := getFrom_bad hin.out HL.out (by by_cases hq : (0 < 0 ∧ f (a + 0) = 0) ∨ 2147483647 < val (fun i => f (a + i)) (0 + 1); exact hq; exact absurd (HS.out.2 hq) hok)
            obtain rfl : R = none := hG.out.symm.trans hbd.out
            have hne : ((L.length : Int) != 1) = true := by simp; omega
            clear hok
            go_wp2_with (first | (go_at_call 41; refine (putImpl (d % 128) wr hwf).mono ?_; rintro e w2 ⟨v, rfl, ho, hb2⟩; rw [HLe.out] at ho; obtain ⟨_, ad2, cap2, rfl, _, _, _⟩ := own_view ho; clear ho; have hs2 := (hb2.cell (p := ⟨1, 0, none⟩) (Nat.lt_of_lt_of_le hsb hb.size)).trans hsr) | go_in)
            exact ⟨rfl, .inr ⟨rfl, rfl⟩, hb.trans (hb2.mono hb.size)⟩
        · have hd2 : decide (127 < d) = true := by simp; omega
          have hnx : Hid (getFrom len a (fun i => f (a + i)) 4 (0 + 1) = R) := by
            show _ = _
            rw [← hG.out]
            exact (getFrom_next hin.out (by show ¬ f (a + 0) < 128; rw [← HD.out]; exact h128)).symm
          go_wp2
          go_roundw
          case rel => exact ⟨0 + 1, by omega, by omega, by go_num, by rw [hv1.out]; go_num, hnx, hb⟩
          case measure => simp [intOf]
      · obtain ⟨x, hxe⟩ : ∃ x, x = val (fun i => f (a + i)) 1 := ⟨_, rfl⟩
        have hx := val_bd (fun i => f (a + i)) 1
        rw [← hxe] at hx ⊢
        have HD : Hid (d = f (a + 1)) := hd
        have hx0 : 0 ≤ x := hx.1
        have hx1 : x < 128 := hx.2
        have hv1 : Hid (val (fun i => f (a + i)) (1 + 1) = x + d % 128 * 128) := by
          show val (fun i => f (a + i)) 1 + f (a + 1) % 128 * 128 ^ 1 = _
          rw [← hxe, ← hd]; rfl
        have hin : Hid (¬ ((a : Int) < 0 ∨ (len : Int) - (1 : Nat) ≤ a)) := by show ¬ _; omega
        clear hxe hd hx hc hf hk
        by_cases h128 : d < 128
        · have hd2 : decide (127 < d) = false := by simp; omega
          have HL : Hid (f (a + 1) < 128) := by show _ < _; rw [← HD.out]; exact h128
          have hwf : (Lit.int .i64 (x + d % 128 * 128)).wf = true := wf64 (by omega)
          have hsh := short_iff (fun i => f (a + i)) 1 (by show 0 ≤ f (a + 1); rw [← HD.out]; exact hfk0) HL.out
          have HS : Hid ((((putZ (x + d % 128 * 128)).length : Int) = 2) ↔ ¬ ((0 < 1 ∧ f (a + 1) = 0) ∨ 2147483647 < val (fun i => f (a + i)) (1 + 1))) := by
            have e : val (fun i => f (a + i)) (1 + 1) = x + d % 128 * 128 := by rw [hv1.out]
            rw [e] at hsh ⊢
            exact hsh
          have hlen := putZ_len (x + d % 128 * 128)
          obtain ⟨L, hLe⟩ : ∃ L, L = putZ (x + d % 128 * 128) := ⟨_, rfl⟩
          rw [← hLe] at HS hlen
          have HLe : Hid (putZ (x + d % 128 * 128) = L) := hLe.symm
          clear hsh hLe
          by_cases hok : ((L.length : Int) = 2)
          · have hbo : Hid (getFrom len a (fun i => f (a + i)) 4 1 = some (val (fun i => f (a + i)) (1 + 1), (a : Int) + (1 : Nat) + 1)) := getFrom_ok hin.out HL.out (HS.out.1 hok)
            have hR : R = some (x + d % 128 * 128, (a : Int) + 2) := by
              rw [← hG.out, hbo.out, hv1.out]
              first | rfl | (congr 2; omega) | (congr 2 <;> omega)
            subst hR
            have hne : ((L.length : Int) != 2) = false := by simp; omega
            clear hok
            go_wp2_with (first | (go_at_call 41; refine (putImpl (x + d % 128 * 128) wr hwf).mono ?_; rintro e w2 ⟨v, rfl, ho, hb2⟩; rw [HLe.out] at ho; obtain ⟨_, ad2, cap2, rfl, _, _, _⟩ := own_view ho; clear ho) | go_in)
            exact bodyPost_ret (v := .tuple #[.int .i64 (x + d % 128 * 128), .int .i64 ((a : Int) + 2)]) (by simp [results, Tryz.results108, go_sem]; try omega) rfl ⟨.inl ⟨_, _, rfl, rfl⟩, hb.trans (hb2.mono hb.size)⟩
          · have hbd : Hid (getFrom len a (fun i => f (a + i)) 4 1 = none) := getFrom_bad hin.out HL.out (by by_cases hq : (0 < 1 ∧ f (a + 1) = 0) ∨ 2147483647 < val (fun i => f (a + i)) (1 + 1); exact hq; exact absurd (HS.out.2 hq) hok)
            obtain rfl : R = none := hG.out.symm.trans hbd.out
            have hne : ((L.length : Int) != 2) = true := by simp; omega
            clear hok
            go_wp2_with (first | (go_at_call 41; refine (putImpl (x + d % 128 * 128) wr hwf).mono ?_; rintro e w2 ⟨v, rfl, ho, hb2⟩; rw [HLe.out] at ho; obtain ⟨_, ad2, cap2, rfl, _, _, _⟩ := own_view ho; clear ho; have hs2 := (hb2.cell (p := ⟨1, 0, none⟩) (Nat.lt_of_lt_of_le hsb hb.size)).trans hsr) | go_in)
            exact ⟨rfl, .inr ⟨rfl, rfl⟩, hb.trans (hb2.mono hb.size)⟩
        · have hd2 : decide (127 < d) = true := by simp; omega
          have hnx : Hid (getFrom len a (fun i => f (a + i)) 3 (1 + 1) = R) := by
            show _ = _
            rw [← hG.out]
            exact (getFrom_next hin.out (by show ¬ f (a + 1) < 128; rw [← HD.out]; exact h128)).symm
          go_wp2
          go_roundw
          case rel => exact ⟨1 + 1, by omega, by omega, by go_num, by rw [hv1.out], hnx, hb⟩
          case measure => simp [intOf]
      · obtain ⟨x, hxe⟩ : ∃ x, x = val (fun i => f (a + i)) 2 := ⟨_, rfl⟩
        have hx := val_bd (fun i => f (a + i)) 2
        rw [← hxe] at hx ⊢
        have HD : Hid (d = f (a + 2)) := hd
        have hx0 : 0 ≤ x := hx.1
        have hx1 : x < 16384 := hx.2
        have hv1 : Hid (val (fun i => f (a + i)) (2 + 1) = x + d % 128 * 16384) := by
          show val (fun i => f (a + i)) 2 + f (a + 2) % 128 * 128 ^ 2 = _
          rw [← hxe, ← hd]; rfl
        have hin : Hid (¬ ((a : Int) < 0 ∨ (len : Int) - (2 : Nat) ≤ a)) := by show ¬ _; omega
        clear hxe hd hx hc hf hk
        by_cases h128 : d < 128
        · have hd2 : decide (127 < d) = false := by simp; omega
          have HL : Hid (f (a + 2) < 128) := by show _ < _; rw [← HD.out]; exact h128
          have hwf : (Lit.int .i64 (x + d % 128 * 16384)).wf = true := wf64 (by omega)
          have hsh := short_iff (fun i => f (a + i)) 2 (by show 0 ≤ f (a + 2); rw [← HD.out]; exact hfk0) HL.out
          have HS : Hid ((((putZ (x + d % 128 * 16384)).length : Int) = 3) ↔ ¬ ((0 < 2 ∧ f (a + 2) = 0) ∨ 2147483647 < val (fun i => f (a + i)) (2 + 1))) := by
            have e : val (fun i => f (a + i)) (2 + 1) = x + d % 128 * 16384 := by rw [hv1.out]
            rw [e] at hsh ⊢
            exact hsh
          have hlen := putZ_len (x + d % 128 * 16384)
          obtain ⟨L, hLe⟩ : ∃ L, L = putZ (x + d % 128 * 16384) := ⟨_, rfl⟩
          rw [← hLe] at HS hlen
          have HLe : Hid (putZ (x + d % 128 * 16384) = L) := hLe.symm
          clear hsh hLe
          by_cases hok : ((L.length : Int) = 3)
          · have hbo : Hid (getFrom len a (fun i => f (a + i)) 3 2 = some (val (fun i => f (a + i)) (2 + 1), (a : Int) + (2 : Nat) + 1)) := getFrom_ok hin.out HL.out (HS.out.1 hok)
            have hR : R = some (x + d % 128 * 16384, (a : Int) + 3) := by
              rw [← hG.out, hbo.out, hv1.out]
              first | rfl | (congr 2; omega) | (congr 2 <;> omega)
            subst hR
            have hne : ((L.length : Int) != 3) = false := by simp; omega
            clear hok
            go_wp2_with (first | (go_at_call 41; refine (putImpl (x + d % 128 * 16384) wr hwf).mono ?_; rintro e w2 ⟨v, rfl, ho, hb2⟩; rw [HLe.out] at ho; obtain ⟨_, ad2, cap2, rfl, _, _, _⟩ := own_view ho; clear ho) | go_in)
            exact bodyPost_ret (v := .tuple #[.int .i64 (x + d % 128 * 16384), .int .i64 ((a : Int) + 3)]) (by simp [results, Tryz.results108, go_sem]; try omega) rfl ⟨.inl ⟨_, _, rfl, rfl⟩, hb.trans (hb2.mono hb.size)⟩
          · have hbd : Hid (getFrom len a (fun i => f (a + i)) 3 2 = none) := getFrom_bad hin.out HL.out (by by_cases hq : (0 < 2 ∧ f (a + 2) = 0) ∨ 2147483647 < val (fun i => f (a + i)) (2 + 1); exact hq; exact absurd (HS.out.2 hq) hok)
            obtain rfl : R = none := hG.out.symm.trans hbd.out
            have hne : ((L.length : Int) != 3) = true := by simp; omega
            clear hok
            go_wp2_with (first | (go_at_call 41; refine (putImpl (x + d % 128 * 16384) wr hwf).mono ?_; rintro e w2 ⟨v, rfl, ho, hb2⟩; rw [HLe.out] at ho; obtain ⟨_, ad2, cap2, rfl, _, _, _⟩ := own_view ho; clear ho; have hs2 := (hb2.cell (p := ⟨1, 0, none⟩) (Nat.lt_of_lt_of_le hsb hb.size)).trans hsr) | go_in)
            exact ⟨rfl, .inr ⟨rfl, rfl⟩, hb.trans (hb2.mono hb.size)⟩
        · have hd2 : decide (127 < d) = true := by simp; omega
          have hnx : Hid (getFrom len a (fun i => f (a + i)) 2 (2 + 1) = R) := by
            show _ = _
            rw [← hG.out]
            exact (getFrom_next hin.out (by show ¬ f (a + 2) < 128; rw [← HD.out]; exact h128)).symm
          go_wp2
          go_roundw
          case rel => exact ⟨2 + 1, by omega, by omega, by go_num, by rw [hv1.out], hnx, hb⟩
          case measure => simp [intOf]
      · obtain ⟨x, hxe⟩ : ∃ x, x = val (fun i => f (a + i)) 3 := ⟨_, rfl⟩
        have hx := val_bd (fun i => f (a + i)) 3
        rw [← hxe] at hx ⊢
        have HD : Hid (d = f (a + 3)) := hd
        have hx0 : 0 ≤ x := hx.1
        have hx1 : x < 2097152 := hx.2
        have hv1 : Hid (val (fun i => f (a + i)) (3 + 1) = x + d % 128 * 2097152) := by
          show val (fun i => f (a + i)) 3 + f (a + 3) % 128 * 128 ^ 3 = _
          rw [← hxe, ← hd]; rfl
        have hin : Hid (¬ ((a : Int) < 0 ∨ (len : Int) - (3 : Nat) ≤ a)) := by show ¬ _; omega
        clear hxe hd hx hc hf hk
        by_cases h128 : d < 128
        · have hd2 : decide (127 < d) = false := by simp; omega
          have HL : Hid (f (a + 3) < 128) := by show _ < _; rw [← HD.out]; exact h128
          have hwf : (Lit.int .i64 (x + d % 128 * 2097152)).wf = true := wf64 (by omega)
          have hsh := short_iff (fun i => f (a + i)) 3 (by show 0 ≤ f (a + 3); rw [← HD.out]; exact hfk0) HL.out
          have HS : Hid ((((putZ (x + d % 128 * 2097152)).length : Int) = 4) ↔ ¬ ((0 < 3 ∧ f (a + 3) = 0) ∨ 2147483647 < val (fun i => f (a + i)) (3 + 1))) := by
            have e : val (fun i => f (a + i)) (3 + 1) = x + d % 128 * 2097152 := by rw [hv1.out]
            rw [e] at hsh ⊢
            exact hsh
          have hlen := putZ_len (x + d % 128 * 2097152)
          obtain ⟨L, hLe⟩ : ∃ L, L = putZ (x + d % 128 * 2097152) := ⟨_, rfl⟩
          rw [← hLe] at HS hlen
          have HLe : Hid (putZ (x + d % 128 * 2097152) = L) := hLe.symm
          clear hsh hLe
          by_cases hok : ((L.length : Int) = 4)
          · have hbo : Hid (getFrom len a (fun i => f (a + i)) 2 3 = some (val (fun i => f (a + i)) (3 + 1), (a : Int) + (3 : Nat) + 1)) := getFrom_ok hin.out HL.out (HS.out.1 hok)
            have hR : R = some (x + d % 128 * 2097152, (a : Int) + 4) := by
              rw [← hG.out, hbo.out, hv1.out]
              first | rfl | (congr 2; omega) | (congr 2 <;> omega)
            subst hR
            have hne : ((L.length : Int) != 4) = false := by simp; omega
            clear hok
            go_wp2_with (first | (go_at_call 41; refine (putImpl (x + d % 128 * 2097152) wr hwf).mono ?_; rintro e w2 ⟨v, rfl, ho, hb2⟩; rw [HLe.out] at ho; obtain ⟨_, ad2, cap2, rfl, _, _, _⟩ := own_view ho; clear ho) | go_in)
            exact bodyPost_ret (v := .tuple #[.int .i64 (x + d % 128 * 2097152), .int .i64 ((a : Int) + 4)]) (by simp [results, Tryz.results108, go_sem]; try omega) rfl ⟨.inl ⟨_, _, rfl, rfl⟩, hb.trans (hb2.mono hb.size)⟩
          · have hbd : Hid (getFrom len a (fun i => f (a + i)) 2 3 = none) := getFrom_bad hin.out HL.out (by by_cases hq : (0 < 3 ∧ f (a + 3) = 0) ∨ 2147483647 < val (fun i => f (a + i)) (3 + 1); exact hq; exact absurd (HS.out.2 hq) hok)
            obtain rfl : R = none := hG.out.symm.trans hbd.out
            have hne : ((L.length : Int) != 4) = true := by simp; omega
            clear hok
            go_wp2_with (first | (go_at_call 41; refine (putImpl (x + d % 128 * 2097152) wr hwf).mono ?_; rintro e w2 ⟨v, rfl, ho, hb2⟩; rw [HLe.out] at ho; obtain ⟨_, ad2, cap2, rfl, _, _, _⟩ := own_view ho; clear ho; have hs2 := (hb2.cell (p := ⟨1, 0, none⟩) (Nat.lt_of_lt_of_le hsb hb.size)).trans hsr) | go_in)
            exact ⟨rfl, .inr ⟨rfl, rfl⟩, hb.trans (hb2.mono hb.size)⟩
        · have hd2 : decide (127 < d) = true := by simp; omega
          have hnx : Hid (getFrom len a (fun i => f (a + i)) 1 (3 + 1) = R) := by
            show _ = _
            rw [← hG.out]
            exact (getFrom_next hin.out (by show ¬ f (a + 3) < 128; rw [← HD.out]; exact h128)).symm
          go_wp2
          go_roundw
          case rel => exact ⟨3 + 1, by omega, by omega, by go_num, by rw [hv1.out], hnx, hb⟩
          case measure => simp [intOf]
      · obtain ⟨x, hxe⟩ : ∃ x, x = val (fun i => f (a + i)) 4 := ⟨_, rfl⟩
        have hx := val_bd (fun i => f (a + i)) 4
        rw [← hxe] at hx ⊢
        have HD : Hid (d = f (a + 4)) := hd
        have hx0 : 0 ≤ x := hx.1
        have hx1 : x < 268435456 := hx.2
        have hv1 : Hid (val (fun i => f (a + i)) (4 + 1) = x + d % 128 * 268435456) := by
          show val (fun i => f (a + i)) 4 + f (a + 4) % 128 * 128 ^ 4 = _
          rw [← hxe, ← hd]; rfl
        have hin : Hid (¬ ((a : Int) < 0 ∨ (len : Int) - (4 : Nat) ≤ a)) := by show ¬ _; omega
        clear hxe hd hx hc hf hk
        by_cases h128 : d < 128
        · have hd2 : decide (127 < d) = false := by simp; omega
          have HL : Hid (f (a + 4) < 128) := by show _ < _; rw [← HD.out]; exact h128
          have hwf : (Lit.int .i64 (x + d % 128 * 268435456)).wf = true := wf64 (by omega)
          have hsh := short_iff (fun i => f (a + i)) 4 (by show 0 ≤ f (a + 4); rw [← HD.out]; exact hfk0) HL.out
          have HS : Hid ((((putZ (x + d % 128 * 268435456)).length : Int) = 5) ↔ ¬ ((0 < 4 ∧ f (a + 4) = 0) ∨ 2147483647 < val (fun i => f (a + i)) (4 + 1))) := by
            have e : val (fun i => f (a + i)) (4 + 1) = x + d % 128 * 268435456 := by rw [hv1.out]
            rw [e] at hsh ⊢
            exact hsh
          have hlen := putZ_len (x + d % 128 * 268435456)
          obtain ⟨L, hLe⟩ : ∃ L, L = putZ (x + d % 128 * 268435456) := ⟨_, rfl⟩
          rw [← hLe] at HS hlen
          have HLe : Hid (putZ (x + d % 128 * 268435456) = L) := hLe.symm
          clear hsh hLe
          by_cases hok : ((L.length : Int) = 5)
          · have hbo : Hid (getFrom len a (fun i => f (a + i)) 1 4 = some (val (fun i => f (a + i)) (4 + 1), (a : Int) + (4 : Nat) + 1)) := getFrom_ok hin.out HL.out (HS.out.1 hok)
            have hR : R = some (x + d % 128 * 268435456, (a : Int) + 5) := by
              rw [← hG.out, hbo.out, hv1.out]
              first | rfl | (congr 2; omega) | (congr 2 <;> omega)
            subst hR
            have hne : ((L.length : Int) != 5) = false := by simp; omega
            clear hok
            go_wp2_with (first | (go_at_call 41; refine (putImpl (x + d % 128 * 268435456) wr hwf).mono ?_; rintro e w2 ⟨v, rfl, ho, hb2⟩; rw [HLe.out] at ho; obtain ⟨_, ad2, cap2, rfl, _, _, _⟩ := own_view ho; clear ho) | go_in)
            exact bodyPost_ret (v := .tuple #[.int .i64 (x + d % 128 * 268435456), .int .i64 ((a : Int) + 5)]) (by simp [results, Tryz.results108, go_sem]; try omega) rfl ⟨.inl ⟨_, _, rfl, rfl⟩, hb.trans (hb2.mono hb.size)⟩
          · have hbd : Hid (getFrom len a (fun i => f (a + i)) 1 4 = none) := getFrom_bad hin.out HL.out (by by_cases hq : (0 < 4 ∧ f (a + 4) = 0) ∨ 2147483647 < val (fun i => f (a + i)) (4 + 1); exact hq; exact absurd (HS.out.2 hq) hok)
            obtain rfl : R = none := hG.out.symm.trans hbd.out
            have hne : ((L.length : Int) != 5) = true := by simp; omega
            clear hok
            go_wp2_with (first | (go_at_call 41; refine (putImpl (x + d % 128 * 268435456) wr hwf).mono ?_; rintro e w2 ⟨v, rfl, ho, hb2⟩; rw [HLe.out] at ho; obtain ⟨_, ad2, cap2, rfl, _, _, _⟩ := own_view ho; clear ho; have hs2 := (hb2.cell (p := ⟨1, 0, none⟩) (Nat.lt_of_lt_of_le hsb hb.size)).trans hsr) | go_in)
            exact ⟨rfl, .inr ⟨rfl, rfl⟩, hb.trans (hb2.mono hb.size)⟩
        · have hd2 : decide (127 < d) = true := by simp; omega
          have hnx : Hid (getFrom len a (fun i => f (a + i)) 0 (4 + 1) = R) := by
            show _ = _
            rw [← hG.out]
            exact (getFrom_next hin.out (by show ¬ f (a + 4) < 128; rw [← HD.out]; exact h128)).symm
          go_wp2
          go_roundw
          case rel => exact ⟨4 + 1, by omega, by omega, by go_num, by rw [hv1.out], hnx, hb⟩
          case measure => simp [intOf]

theorem recPanic (u : TypeId) (pv : Value) (older : List PanicEntry) (w : World) :
    CallsD Tryz.prog 107 #[] (.panicking ({ v := .iface u pv, recovered := false } :: older)) w fun e u' w' =>
      e = .returned (.tuple #[]) ∧ u' = .panicking ({ v := .iface u pv, recovered := true } :: older) ∧ w' = w := by
  refine callsD_of_wpS Tryz.func107 rfl fun c₀ cs hu => ?_
  apply wpS_region
  simp [wpOpsS, go_sem, recoverD, hu, Tryz.ntmps107, bodyPostS, results, Tryz.results107]
theorem recIdle (w : World) :
    CallsD Tryz.prog 107 #[] .returning w fun e u' w' => e = .returned (.tuple #[]) ∧ u' = .returning ∧ w' = w := by
  refine callsD_of_wpS Tryz.func107 rfl fun c₀ cs hu => ?_
  apply wpS_region
  simp [wpOpsS, go_sem, recoverD, hu, Tryz.ntmps107, bodyPostS, results, Tryz.results107]
  cases c₀
  simp_all

theorem getImpl (ad : Option Addr) (len cap : Nat) (f : Nat → Int) (at_ : Int) (w : World) (hv : View w ad len f) (hB : ∀ a, ad = some a → 0 < len → a.block < w.heap.size) (hl : len ≤ 1048576) (hf : ∀ i, 0 ≤ f i ∧ f i ≤ 255) (ha0 : -9223372036854775808 ≤ at_) (ha1 : at_ ≤ 9223372036854775807)
    (tp : TypeId) (p : Value) (hs : w.cell? ⟨1, 0, none⟩ = some (.iface tp p)) :
    Calls Tryz.prog 82 #[.slice ad len cap, .int .i64 at_] w fun e w' => e = .returned (getRes (getFrom len at_ (fun i => f (at_.toNat + i)) 5 0)) ∧ Below w.heap.size w w' := by
  have hN := numAt ad len cap f at_ w hv hB hl hf ha0 ha1 tp p hs
  generalize getFrom len at_ (fun i => f (at_.toNat + i)) 5 0 = R at hN ⊢
  clear hv hB hf
  go_enter_defers Tryz.func82, Tryz.ntmps82
  go_wp2_with fail
  go_at_call 108
  refine hN.mono ?_
  rintro e w1 ⟨hE, hb⟩
  rcases hE with ⟨n, s, rfl, rfl⟩ | ⟨rfl, rfl⟩
  · go_wp2
    refine leaves_cons (f := 107) (args := #[]) (by simp) (by simp [go_sem]) ?_
    refine (recIdle _).mono ?_
    rintro e u' w'' ⟨rfl, rfl, rfl⟩
    simp [Leaves, settle, results, Tryz.results82, go_sem, getRes, hb]
  · go_wp2
    refine leaves_cons (f := 107) (args := #[]) (by simp) (by simp [go_sem]) ?_
    refine (recPanic _ _ _ _).mono ?_
    rintro e u' w'' ⟨rfl, rfl, rfl⟩
    simp [Leaves, settle, results, Tryz.results82, go_sem, getRes, hb]

end Go.Proofs.YthgcbihhdbpbdaaGreatDoor
