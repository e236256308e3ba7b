/- Contracts of both Digits. -/
import Derived.Test.YtjholgpjicliaaaDoorRows
import Derived.WalkKit
import Derived.ProofKit
import Derived.OpenShut
import Derived.ShutString
import Derived.ChangeOld
import Derived.Below
import Derived.Deep.QuietTactic
import Derived.BigQuiet
import Derived.WalkSmall
import Derived.Laws.OwnMore
import Derived.WalkSpells
import Derived.WalkLawsBesides
import Derived.Lib.ItoaNum
import Derived.Laws.IdiomStrings
import Derived.Test.YtjholgpjicliaaaDoorShelf
namespace Go.Proofs.YtjholgpjicliaaaDoor
open Go.ChangeShapes Go.WideShapes Go.ChangeAt Go.RowKit
open Go.ChangeMaps (open_string shut_string)
set_option linter.unusedVariables false
set_option maxRecDepth 100000

/-- string([]byte{x}). -/
theorem byte_str (w : World) (x : Int) (h0 : 0 ≤ x) (h1 : x ≤ 255) :
    (convert 73 9 (.slice (some ⟨w.heap.size, 0, none⟩) 1 1)).run Tryd.prog (w.alloc (.cells #[.int .u8 x] 5)) = .ok (.string ⟨#[UInt8.ofNat x.toNat]⟩) (w.alloc (.cells #[.int .u8 x] 5)) := by
  have h := run_convert_bytes_back (P := Tryd.prog) (w.alloc (.cells #[.int .u8 x] 5)) 73 9 5 ⟨w.heap.size, 0, none⟩ 1 [UInt8.ofNat x.toNat] Tryd.underlying73 Tryd.underlying5 Tryd.underlying9 (fun j hj => by
    obtain rfl : j = 0 := by simpa using hj
    have e : ((UInt8.ofNat x.toNat).toNat : Int) = x := by simp; omega
    simp [Addr.add]
    omega)
  simpa using h

theorem dec_step {m : Nat} (h : 0 < m) (suf : List UInt8) : (if m / 10 = 0 then [] else Lib.decDigits (m / 10)) ++ (UInt8.ofNat (48 + m % 10) :: suf) = Lib.decDigits m ++ suf := by
  by_cases hm : m < 10
  · rw [if_pos (by omega), Lib.decDigits, dif_pos hm]
    simp
    congr 1
    omega
  · rw [if_neg (by omega)]
    conv => rhs; rw [Lib.decDigits, dif_neg hm]
    simp

/-- What the loop of spec.Digits keeps: the digits still to come, and those that it has, are all. -/
def DecRel (N m : Nat) (suf : ByteArray) : Prop := (if m = 0 then [] else Lib.decDigits m) ++ suf.data.toList = Lib.decDigits N
theorem DecRel.start {N : Nat} (h : 0 < N) : DecRel N N ⟨#[]⟩ := by unfold DecRel; rw [if_neg (by omega)]; simp
theorem DecRel.step {N m : Nat} {suf : ByteArray} (h : DecRel N m suf) (hm : 0 < m) : DecRel N (m / 10) (⟨#[UInt8.ofNat (48 + m % 10)]⟩ ++ suf) := by
  unfold DecRel at h ⊢
  rw [if_neg (by omega)] at h
  have e : (⟨#[UInt8.ofNat (48 + m % 10)]⟩ ++ suf : ByteArray).data.toList = UInt8.ofNat (48 + m % 10) :: suf.data.toList := by simp [ByteArray.data_append]
  rw [e, dec_step hm, h]
theorem DecRel.done {N : Nat} {suf : ByteArray} (h : DecRel N 0 suf) : suf = ⟨(Lib.decDigits N).toArray⟩ := by
  unfold DecRel at h
  simp at h
  rw [← h]
theorem decDigits_len (u : Nat) : (Lib.decDigits u).length ≤ u / 10 + 1 := by
  induction u using Nat.strongRecOn with
  | ind u ih =>
    rw [Lib.decDigits]
    split
    · simp
    · have := ih (u / 10) (by omega); simp; omega
theorem DecRel.len {N m : Nat} {suf : ByteArray} (h : DecRel N m suf) : suf.size ≤ N / 10 + 1 := by
  have := congrArg List.length h
  have h2 := decDigits_len N
  rw [List.length_append] at this
  have e : suf.data.toList.length = suf.size := Array.length_toList
  omega

theorem neg_text (l : List UInt8) : (⟨#[45]⟩ ++ ⟨l.toArray⟩ : ByteArray) = ⟨(45 :: l).toArray⟩ := by
  apply ByteArray.ext
  rw [ByteArray.data_append]
  simp
set_option maxHeartbeats 1000000 in
theorem digitsPos (n : Int) (w : World) (h0 : 0 < n) (h1 : n ≤ 9223372036854775807) :
    Calls Tryd.prog 22 #[.int .i64 n] w fun e w' => e = .returned (.string ⟨(Lib.decDigits n.toNat).toArray⟩) ∧ Below w.heap.size w w' := by
  have hne : (n == 0) = false := by simp; omega
  have hn0 : decide (n < 0) = false := by simp; omega
  go_enter Tryd.func22, Tryd.ntmps22
  go_wp2
  go_loopw [0, 4, 5] (fun x s _ wr => ∃ (m : Int) (suf : ByteArray), 0 ≤ m ∧ m ≤ n ∧ x = .int .i64 m ∧ s = .string suf ∧ Hid (DecRel n.toNat m.toNat suf) ∧ Below w.heap.size w wr) (fun x _ _ _ => (intOf x).toNat)
  case atStart => exact ⟨n, ⟨#[]⟩, by omega, by omega, rfl, rfl, DecRel.start (by omega), Below.refl _ _⟩
  case round =>
    obtain ⟨m, suf, hm0, hm, rfl, rfl, hD, hb⟩ := hrel
    by_cases hlt : 0 < m
    · have hne2 : (m != 0) = true := by simp; omega
      have hm2 : m ≤ 9223372036854775807 := by omega
      have hd0 : decide (m % 10 < 0) = false := by simp; omega
      have hcv := byte_str wr (48 + m % 10) (by omega) (by omega)
      have hsz : ¬ 9223372036854775807 < 1 + suf.size := by have := hD.out.len; omega
      have hD1 : Hid (DecRel n.toNat (m / 10).toNat (⟨#[UInt8.ofNat (48 + m % 10).toNat]⟩ ++ suf)) := by
        have := hD.out.step (by omega)
        rw [show (m / 10).toNat = m.toNat / 10 by omega, show (48 + m % 10).toNat = 48 + m.toNat % 10 by omega]
        exact this
      have hbs := hb.size
      clear hD
      go_wp2
      go_roundw
      case rel => exact ⟨m / 10, _, by omega, by omega, rfl, rfl, hD1, hb.alloc hbs _⟩
      case measure => simp [intOf]; omega
    · obtain rfl : m = 0 := by omega
      obtain rfl := hD.out.done
      go_wp2
      go_ret
      exact ⟨rfl, hb⟩

set_option maxHeartbeats 1000000 in
theorem digitsNeg (n : Int) (w : World) (h0 : n < 0) (h1 : -9223372036854775808 ≤ n) :
    Calls Tryd.prog 22 #[.int .i64 n] w fun e w' => e = .returned (.string ⟨(45 :: Lib.decDigits n.natAbs).toArray⟩) ∧ Below w.heap.size w w' := by
  have hne : (n == 0) = false := by simp; omega
  have hn0 : decide (n < 0) = true := by simp; omega
  go_enter Tryd.func22, Tryd.ntmps22
  go_wp2
  go_loopw [0, 4, 5] (fun x s _ wr => ∃ (m : Int) (suf : ByteArray), m ≤ 0 ∧ n ≤ m ∧ x = .int .i64 m ∧ s = .string suf ∧ Hid (DecRel n.natAbs m.natAbs suf) ∧ Below w.heap.size w wr) (fun x _ _ _ => (intOf x).natAbs)
  case atStart => exact ⟨n, ⟨#[]⟩, by omega, by omega, rfl, rfl, DecRel.start (by omega), Below.refl _ _⟩
  case round =>
    obtain ⟨m, suf, hm0, hm, rfl, rfl, hD, hb⟩ := hrel
    have hsz : ¬ 9223372036854775807 < 1 + suf.size := by have := hD.out.len; omega
    by_cases hlt : m < 0
    · have hne2 : (m != 0) = true := by simp; omega
      have hm2 : -9223372036854775808 ≤ m := by omega
      obtain ⟨r, hr⟩ : ∃ r, r = -m % 10 := ⟨_, rfl⟩
      obtain ⟨q, hq⟩ : ∃ q, q = -m / 10 := ⟨_, rfl⟩
      have ht : m.tmod 10 = -r := by
        rw [hr, show m = -(-m) by omega, Int.neg_tmod, Int.tmod_eq_emod_of_nonneg (by omega)]
        simp
      have htq : m.tdiv 10 = -q := by
        rw [hq, show m = -(-m) by omega, Int.neg_tdiv, Int.tdiv_eq_ediv_of_nonneg (by omega)]
        simp
      have hD1 : Hid (DecRel n.natAbs (-q).natAbs (⟨#[UInt8.ofNat (48 + r).toNat]⟩ ++ suf)) := by
        have := hD.out.step (by omega)
        rw [show (-q).natAbs = m.natAbs / 10 by omega, show (48 + r).toNat = 48 + m.natAbs % 10 by omega]
        exact this
      have hr0 : 0 ≤ r := by omega
      have hr9 : r ≤ 9 := by omega
      have hq0 : 0 ≤ q := by omega
      have hqm : Hid (n ≤ -q ∧ q < m.natAbs) := ⟨by omega, by omega⟩
      have hq8 : q ≤ 922337203685477580 := by omega
      have hbs := hb.size
      clear hD hr hq
      by_cases hz : r = 0
      · subst hz
        have hcv := byte_str wr 48 (by omega) (by omega)
        go_wp2
        go_roundw
        case rel => exact ⟨-q, _, by omega, hqm.out.1, rfl, rfl, hD1, hb.alloc hbs _⟩
        case measure => have := hqm.out.2; simp [intOf]; omega
      · have hd0 : decide (0 < r) = true := by simp; omega
        have hcv := byte_str wr (48 + r) (by omega) (by omega)
        clear hz
        go_wp2
        go_roundw
        case rel => exact ⟨-q, _, by omega, hqm.out.1, rfl, rfl, hD1, hb.alloc hbs _⟩
        case measure => have := hqm.out.2; simp [intOf]; omega
    · obtain rfl : m = 0 := by omega
      obtain rfl := hD.out.done
      go_wp2
      go_ret
      exact ⟨congrArg (fun x => Ending.returned (.string x)) (neg_text _), hb⟩

/-- spec.Digits tells the decimal numeral, at every int. -/
theorem digitsSpec (n : Int) (w : World) (h0 : -9223372036854775808 ≤ n) (h1 : n ≤ 9223372036854775807) :
    Calls Tryd.prog 22 #[.int .i64 n] w fun e w' => e = .returned (.string ⟨(Lib.itoa n).toArray⟩) ∧ Below w.heap.size w w' := by
  by_cases hn : n < 0
  · have e : Lib.itoa n = 45 :: Lib.decDigits n.natAbs := by unfold Lib.itoa; rw [if_pos hn]
    rw [e]
    exact digitsNeg n w hn h0
  · have e : Lib.itoa n = Lib.decDigits n.toNat := by unfold Lib.itoa; rw [if_neg hn]
    rw [e]
    by_cases hz : n = 0
    · subst hz
      have e2 : Lib.decDigits (0 : Int).toNat = [48] := by rw [Lib.decDigits]; rfl
      rw [e2]
      go_enter Tryd.func22, Tryd.ntmps22
      go_wp2
      go_ret
      exact ⟨rfl, Below.refl _ _⟩
    · exact digitsPos n w (by omega) h1

/-- impl.Digits tells it too: strconv.Itoa does. -/
theorem digitsImpl (n : Int) (w : World) (h0 : -9223372036854775808 ≤ n) (h1 : n ≤ 9223372036854775807) (htab : Lib.TabIs Tryd.prog w "internal/strconv.uint64pow10" .u64 Lib.pow10Tab) :
    Calls Tryd.prog 34 #[.int .i64 n] w fun e w' => e = .returned (.string ⟨(Lib.itoa n).toArray⟩) ∧ Below w.heap.size w w' := by
  have hb : ∀ k os, Below w.heap.size w (Sort.grow (w.drewN k) os) := fun k os =>
    ⟨rfl, rfl, rfl, by show w.heap.size ≤ (w.heap ++ os).size; simp, fun j hj => by show (w.heap ++ os)[j]? = _; rw [Array.getElem?_append_left hj]⟩
  go_enter Tryd.func34, Tryd.ntmps34
  go_wp2_with fail
  go_at_call 43
  refine (Tryd.strconv_Itoa n h0 h1 w htab).mono ?_
  rintro e w' ⟨rfl, k, os, rfl⟩
  go_wp2
  go_ret
  exact ⟨rfl, hb k os⟩

end Go.Proofs.YtjholgpjicliaaaDoor
