/- Whether a number is within two. Steps of a region that draws its order. Contracts of both Digits. -/
import Derived.Test.YthgcbihhdbpbdaaGreatDoorRows
import Derived.WalkKit
import Derived.ProofKit
import Derived.OpenShut
import Derived.ShutString
import Derived.ChangeOld
import Derived.Below
import Derived.Deep.QuietTactic
import Derived.BigQuiet
import Derived.WalkSmall
import Derived.Laws.OwnMore
import Derived.WalkSpells
import Derived.Deep.RegionHeld
import Derived.WalkLawsBesides
import Derived.Lib.ItoaNum
import Derived.Laws.IdiomStrings
import Derived.Test.YthgcbihhdbpbdaaGreatDoorShelf
namespace Go.Proofs.YthgcbihhdbpbdaaGreatDoor
open Go.ChangeShapes Go.WideShapes Go.ChangeAt Go.RowKit
open Go.ChangeMaps (open_string shut_string)
set_option linter.unusedVariables false
set_option maxRecDepth 100000

theorem inYes (n a b : Int) (w : World) (h : a ≤ n ∧ n ≤ b) : Calls Tryz.prog 66 #[.int .i64 n, .int .i64 a, .int .i64 b] w fun e w' => e = .returned (.bool true) ∧ w' = w := by
  obtain ⟨h1, h2⟩ := h
  go_enter Tryz.func66, Tryz.ntmps66
  go_wp2
  go_ret
  exact ⟨rfl, rfl⟩
theorem inNo (n a b : Int) (w : World) (h : n < a ∨ b < n) : Calls Tryz.prog 66 #[.int .i64 n, .int .i64 a, .int .i64 b] w fun e w' => e = .returned (.bool false) ∧ w' = w := by
  by_cases h1 : n < a
  · clear h
    go_enter Tryz.func66, Tryz.ntmps66
    go_wp2
    go_ret
    exact ⟨rfl, rfl⟩
  · have h2 : b < n := by omega
    have h3 : a ≤ n := by omega
    have hd : decide (n ≤ b) = false := by simp; omega
    clear h h1
    go_enter Tryz.func66, Tryz.ntmps66
    go_wp2
    go_ret
    exact ⟨rfl, rfl⟩


end Go.Proofs.YthgcbihhdbpbdaaGreatDoor
namespace Go.Proofs.YthgcbihhdbpbdaaGreatDoor
open Go.ChangeShapes Go.WideShapes Go.ChangeAt Go.RowKit
open Go.ChangeMaps (open_string shut_string)
set_option linter.unusedVariables false
set_option maxRecDepth 100000

/-- One operation of a region that draws its order, taken first: it yields v in every world that meets S; the frame laid out. -/
theorem takeW {P : Program} {ops : Array Oper} {Q : Exit → Act → World → Prop} {md : Region.Mode} {S : World → Prop} (i d : Nat) (v : Value) {oi : Oper} {fuel : Nat} {listed : Array Bool} {l : List Value} {ds : List Deferred} {w : World} (hi : ops[i]? = some oi) (hd : oi.dst = some d)
    (hs : Region.noSelect ops = true) (hf : Region.free md ops listed i = true) (hr : (Region.ready md ops listed).contains i = true)
    (hQ : ∀ c a w, Q (.panic c) (a.put oi.dst v) w → Q (.panic c) a w) (hw : Region.wanted oi (yielded ops l.toArray) = true) (hy : ∀ w, S w → (execOp (Act.eval ⟨l.toArray, ds⟩) oi).run P w = .ok (.value v) w) (hS : S w)
    (h : wpAnyH P md ops Q S fuel (listed.setIfInBounds i true) ⟨(l.set d v).toArray, ds⟩ w) : wpAnyH P md ops Q S (fuel + 1) listed ⟨l.toArray, ds⟩ w := by
  refine wpAnyH_take (v := v) hi hs hf hr hQ (.inl ⟨hw, hy⟩) hS ?_
  have e : (Act.mk l.toArray ds).put oi.dst v = ⟨(l.set d v).toArray, ds⟩ := by rw [hd]; simp [Act.put]
  rw [e]
  exact h
/-- The same of one that its guard passes over. -/
theorem takeS {P : Program} {ops : Array Oper} {Q : Exit → Act → World → Prop} {md : Region.Mode} {S : World → Prop} (i d : Nat) {oi : Oper} {fuel : Nat} {listed : Array Bool} {l : List Value} {ds : List Deferred} {w : World} (hi : ops[i]? = some oi) (hd : oi.dst = some d)
    (hs : Region.noSelect ops = true) (hf : Region.free md ops listed i = true) (hr : (Region.ready md ops listed).contains i = true)
    (hQ : ∀ c a w, Q (.panic c) (a.put oi.dst undef) w → Q (.panic c) a w) (hw : Region.wanted oi (yielded ops l.toArray) = false) (hS : S w)
    (h : wpAnyH P md ops Q S fuel (listed.setIfInBounds i true) ⟨(l.set d undef).toArray, ds⟩ w) : wpAnyH P md ops Q S (fuel + 1) listed ⟨l.toArray, ds⟩ w := by
  refine wpAnyH_take (v := undef) hi hs hf hr hQ (.inr ⟨hw, rfl⟩) hS ?_
  have e : (Act.mk l.toArray ds).put oi.dst undef = ⟨(l.set d undef).toArray, ds⟩ := by rw [hd]; simp [Act.put]
  rw [e]
  exact h

end Go.Proofs.YthgcbihhdbpbdaaGreatDoor
namespace Go.Proofs.YthgcbihhdbpbdaaGreatDoor
open Go.ChangeShapes Go.WideShapes Go.ChangeAt Go.RowKit
open Go.ChangeMaps (open_string shut_string)
set_option linter.unusedVariables false
set_option maxRecDepth 100000

/-- string([]byte{x}). -/
theorem byte_str (w : World) (x : Int) (h0 : 0 ≤ x) (h1 : x ≤ 255) :
    (convert 22 9 (.slice (some ⟨w.heap.size, 0, none⟩) 1 1)).run Tryz.prog (w.alloc (.cells #[.int .u8 x] 5)) = .ok (.string ⟨#[UInt8.ofNat x.toNat]⟩) (w.alloc (.cells #[.int .u8 x] 5)) := by
  have h := run_convert_bytes_back (P := Tryz.prog) (w.alloc (.cells #[.int .u8 x] 5)) 22 9 5 ⟨w.heap.size, 0, none⟩ 1 [UInt8.ofNat x.toNat] Tryz.underlying22 Tryz.underlying5 Tryz.underlying9 (fun j hj => by
    obtain rfl : j = 0 := by simpa using hj
    have e : ((UInt8.ofNat x.toNat).toNat : Int) = x := by simp; omega
    simp [Addr.add]
    omega)
  simpa using h

theorem dec_step {m : Nat} (h : 0 < m) (suf : List UInt8) : (if m / 10 = 0 then [] else Lib.decDigits (m / 10)) ++ (UInt8.ofNat (48 + m % 10) :: suf) = Lib.decDigits m ++ suf := by
  by_cases hm : m < 10
  · rw [if_pos (by omega), Lib.decDigits, dif_pos hm]
    simp
    congr 1
    omega
  · rw [if_neg (by omega)]
    conv => rhs; rw [Lib.decDigits, dif_neg hm]
    simp

/-- What the loop of spec.Digits keeps: the digits still to come, and those that it has, are all. -/
def DecRel (N m : Nat) (suf : ByteArray) : Prop := (if m = 0 then [] else Lib.decDigits m) ++ suf.data.toList = Lib.decDigits N
theorem DecRel.start {N : Nat} (h : 0 < N) : DecRel N N ⟨#[]⟩ := by unfold DecRel; rw [if_neg (by omega)]; simp
theorem DecRel.step {N m : Nat} {suf : ByteArray} (h : DecRel N m suf) (hm : 0 < m) : DecRel N (m / 10) (⟨#[UInt8.ofNat (48 + m % 10)]⟩ ++ suf) := by
  unfold DecRel at h ⊢
  rw [if_neg (by omega)] at h
  have e : (⟨#[UInt8.ofNat (48 + m % 10)]⟩ ++ suf : ByteArray).data.toList = UInt8.ofNat (48 + m % 10) :: suf.data.toList := by simp [ByteArray.data_append]
  rw [e, dec_step hm, h]
theorem DecRel.done {N : Nat} {suf : ByteArray} (h : DecRel N 0 suf) : suf = ⟨(Lib.decDigits N).toArray⟩ := by
  unfold DecRel at h
  simp at h
  rw [← h]
theorem decDigits_len (u : Nat) : (Lib.decDigits u).length ≤ u / 10 + 1 := by
  induction u using Nat.strongRecOn with
  | ind u ih =>
    rw [Lib.decDigits]
    split
    · simp
    · have := ih (u / 10) (by omega); simp; omega
theorem DecRel.len {N m : Nat} {suf : ByteArray} (h : DecRel N m suf) : suf.size ≤ N / 10 + 1 := by
  have := congrArg List.length h
  have h2 := decDigits_len N
  rw [List.length_append] at this
  have e : suf.data.toList.length = suf.size := Array.length_toList
  omega

theorem neg_text (l : List UInt8) : (⟨#[45]⟩ ++ ⟨l.toArray⟩ : ByteArray) = ⟨(45 :: l).toArray⟩ := by
  apply ByteArray.ext
  rw [ByteArray.data_append]
  simp
set_option maxHeartbeats 1000000 in
theorem digitsPos (n : Int) (w : World) (h0 : 0 < n) (h1 : n ≤ 9223372036854775807) :
    Calls Tryz.prog 64 #[.int .i64 n] w fun e w' => e = .returned (.string ⟨(Lib.decDigits n.toNat).toArray⟩) ∧ Below w.heap.size w w' := by
  have hne : (n == 0) = false := by simp; omega
  have hn0 : decide (n < 0) = false := by simp; omega
  go_enter Tryz.func64, Tryz.ntmps64
  go_wp2
  go_loopw [0, 4, 5] (fun x s _ wr => ∃ (m : Int) (suf : ByteArray), 0 ≤ m ∧ m ≤ n ∧ x = .int .i64 m ∧ s = .string suf ∧ Hid (DecRel n.toNat m.toNat suf) ∧ Below w.heap.size w wr) (fun x _ _ _ => (intOf x).toNat)
  case atStart => exact ⟨n, ⟨#[]⟩, by omega, by omega, rfl, rfl, DecRel.start (by omega), Below.refl _ _⟩
  case round =>
    obtain ⟨m, suf, hm0, hm, rfl, rfl, hD, hb⟩ := hrel
    by_cases hlt : 0 < m
    · have hne2 : (m != 0) = true := by simp; omega
      have hm2 : m ≤ 9223372036854775807 := by omega
      have hd0 : decide (m % 10 < 0) = false := by simp; omega
      have hcv := byte_str wr (48 + m % 10) (by omega) (by omega)
      have hsz : ¬ 9223372036854775807 < 1 + suf.size := by have := hD.out.len; omega
      have hD1 : Hid (DecRel n.toNat (m / 10).toNat (⟨#[UInt8.ofNat (48 + m % 10).toNat]⟩ ++ suf)) := by
        have := hD.out.step (by omega)
        rw [show (m / 10).toNat = m.toNat / 10 by omega, show (48 + m % 10).toNat = 48 + m.toNat % 10 by omega]
        exact this
      have hbs := hb.size
      clear hD
      go_wp2
      go_roundw
      case rel => exact ⟨m / 10, _, by omega, by omega, rfl, rfl, hD1, hb.alloc hbs _⟩
      case measure => simp [intOf]; omega
    · obtain rfl : m = 0 := by omega
      obtain rfl := hD.out.done
      go_wp2
      go_ret
      exact ⟨rfl, hb⟩

set_option maxHeartbeats 1000000 in
theorem digitsNeg (n : Int) (w : World) (h0 : n < 0) (h1 : -9223372036854775808 ≤ n) :
    Calls Tryz.prog 64 #[.int .i64 n] w fun e w' => e = .returned (.string ⟨(45 :: Lib.decDigits n.natAbs).toArray⟩) ∧ Below w.heap.size w w' := by
  have hne : (n == 0) = false := by simp; omega
  have hn0 : decide (n < 0) = true := by simp; omega
  go_enter Tryz.func64, Tryz.ntmps64
  go_wp2
  go_loopw [0, 4, 5] (fun x s _ wr => ∃ (m : Int) (suf : ByteArray), m ≤ 0 ∧ n ≤ m ∧ x = .int .i64 m ∧ s = .string suf ∧ Hid (DecRel n.natAbs m.natAbs suf) ∧ Below w.heap.size w wr) (fun x _ _ _ => (intOf x).natAbs)
  case atStart => exact ⟨n, ⟨#[]⟩, by omega, by omega, rfl, rfl, DecRel.start (by omega), Below.refl _ _⟩
  case round =>
    obtain ⟨m, suf, hm0, hm, rfl, rfl, hD, hb⟩ := hrel
    have hsz : ¬ 9223372036854775807 < 1 + suf.size := by have := hD.out.len; omega
    by_cases hlt : m < 0
    · have hne2 : (m != 0) = true := by simp; omega
      have hm2 : -9223372036854775808 ≤ m := by omega
      obtain ⟨r, hr⟩ : ∃ r, r = -m % 10 := ⟨_, rfl⟩
      obtain ⟨q, hq⟩ : ∃ q, q = -m / 10 := ⟨_, rfl⟩
      have ht : m.tmod 10 = -r := by
        rw [hr, show m = -(-m) by omega, Int.neg_tmod, Int.tmod_eq_emod_of_nonneg (by omega)]
        simp
      have htq : m.tdiv 10 = -q := by
        rw [hq, show m = -(-m) by omega, Int.neg_tdiv, Int.tdiv_eq_ediv_of_nonneg (by omega)]
        simp
      have hD1 : Hid (DecRel n.natAbs (-q).natAbs (⟨#[UInt8.ofNat (48 + r).toNat]⟩ ++ suf)) := by
        have := hD.out.step (by omega)
        rw [show (-q).natAbs = m.natAbs / 10 by omega, show (48 + r).toNat = 48 + m.natAbs % 10 by omega]
        exact this
      have hr0 : 0 ≤ r := by omega
      have hr9 : r ≤ 9 := by omega
      have hq0 : 0 ≤ q := by omega
      have hqm : Hid (n ≤ -q ∧ q < m.natAbs) := ⟨by omega, by omega⟩
      have hq8 : q ≤ 922337203685477580 := by omega
      have hbs := hb.size
      clear hD hr hq
      by_cases hz : r = 0
      · subst hz
        have hcv := byte_str wr 48 (by omega) (by omega)
        go_wp2
        go_roundw
        case rel => exact ⟨-q, _, by omega, hqm.out.1, rfl, rfl, hD1, hb.alloc hbs _⟩
        case measure => have := hqm.out.2; simp [intOf]; omega
      · have hd0 : decide (0 < r) = true := by simp; omega
        have hcv := byte_str wr (48 + r) (by omega) (by omega)
        clear hz
        go_wp2
        go_roundw
        case rel => exact ⟨-q, _, by omega, hqm.out.1, rfl, rfl, hD1, hb.alloc hbs _⟩
        case measure => have := hqm.out.2; simp [intOf]; omega
    · obtain rfl : m = 0 := by omega
      obtain rfl := hD.out.done
      go_wp2
      go_ret
      exact ⟨congrArg (fun x => Ending.returned (.string x)) (neg_text _), hb⟩

/-- spec.Digits tells the decimal numeral, at every int. -/
theorem digitsSpec (n : Int) (w : World) (h0 : -9223372036854775808 ≤ n) (h1 : n ≤ 9223372036854775807) :
    Calls Tryz.prog 64 #[.int .i64 n] w fun e w' => e = .returned (.string ⟨(Lib.itoa n).toArray⟩) ∧ Below w.heap.size w w' := by
  by_cases hn : n < 0
  · have e : Lib.itoa n = 45 :: Lib.decDigits n.natAbs := by unfold Lib.itoa; rw [if_pos hn]
    rw [e]
    exact digitsNeg n w hn h0
  · have e : Lib.itoa n = Lib.decDigits n.toNat := by unfold Lib.itoa; rw [if_neg hn]
    rw [e]
    by_cases hz : n = 0
    · subst hz
      have e2 : Lib.decDigits (0 : Int).toNat = [48] := by rw [Lib.decDigits]; rfl
      rw [e2]
      go_enter Tryz.func64, Tryz.ntmps64
      go_wp2
      go_ret
      exact ⟨rfl, Below.refl _ _⟩
    · exact digitsPos n w (by omega) h1

/-- impl.Digits tells it too: strconv.Itoa does. -/
theorem digitsImpl (n : Int) (w : World) (h0 : -9223372036854775808 ≤ n) (h1 : n ≤ 9223372036854775807) (htab : Lib.TabIs Tryz.prog w "internal/strconv.uint64pow10" .u64 Lib.pow10Tab) :
    Calls Tryz.prog 99 #[.int .i64 n] w fun e w' => e = .returned (.string ⟨(Lib.itoa n).toArray⟩) ∧ Below w.heap.size w w' := by
  have hb : ∀ k os, Below w.heap.size w (Sort.grow (w.drewN k) os) := fun k os =>
    ⟨rfl, rfl, rfl, by show w.heap.size ≤ (w.heap ++ os).size; simp, fun j hj => by show (w.heap ++ os)[j]? = _; rw [Array.getElem?_append_left hj]⟩
  go_enter Tryz.func99, Tryz.ntmps99
  go_wp2_with fail
  go_at_call 121
  refine (Tryz.strconv_Itoa n h0 h1 w htab).mono ?_
  rintro e w' ⟨rfl, k, os, rfl⟩
  go_wp2
  go_ret
  exact ⟨rfl, hb k os⟩

end Go.Proofs.YthgcbihhdbpbdaaGreatDoor
