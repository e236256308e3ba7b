/- counts, impl.Claim, walked. waitTurned, l7Open, impl.Turn, walked. Contracts of both Digits. How a code comes in. -/
import Derived.Test.YtlnogijlfompoaaGreatDoorRows
import Derived.WalkKit
import Derived.ProofKit
import Derived.OpenShut
import Derived.ShutString
import Derived.ChangeOld
import Derived.Below
import Derived.Deep.QuietTactic
import Derived.BigQuiet
import Derived.WalkSmall
import Derived.Laws.OwnMore
import Derived.WalkSpells
import Derived.WalkLawsBesides
import Derived.Deep.Cut
import Derived.Test.YtlnogijlfompoaaGreatDoorKPort3
import Derived.Test.YtlnogijlfompoaaGreatDoorM1
import Derived.Lib.ItoaNum
import Derived.Laws.IdiomStrings
import Derived.Test.YtlnogijlfompoaaGreatDoorShelf
import Derived.Test.YtlnogijlfompoaaGreatDoorM2
namespace Go.Proofs.YtlnogijlfompoaaGreatDoor
open Go.ChangeShapes Go.WideShapes Go.ChangeAt Go.RowKit
open Go.ChangeMaps (open_string shut_string)
set_option linter.unusedVariables false
set_option maxRecDepth 100000

/-- A claim counts at a port. -/
def cnt (x : Pt) (r2 c2 b2 p2 : Int) : Bool := !x.has || (!vLt x.r x.c x.b x.p r2 c2 b2 p2 || ((b2 == x.b) && (p2 == x.p)))
def takes (x : Pt) (r2 c2 b2 p2 k : Int) : Bool := pOk x && (x.up && (vOk r2 c2 b2 p2 && (decide (0 ≤ k ∧ k ≤ 8) && cnt x r2 c2 b2 p2)))
/-- What Claim answers. -/
def claimR (x : Pt) (r2 c2 b2 p2 k : Int) : Pt := if takes x r2 c2 b2 p2 k then ⟨x.up, true, r2, c2, b2, p2, k, 3, x.ro, x.wa, x.op⟩ else x
theorem claimR_no {x : Pt} {r2 c2 b2 p2 k : Int} (h : takes x r2 c2 b2 p2 k = false) : claimR x r2 c2 b2 p2 k = x := by unfold claimR; rw [h]; rfl
theorem claimR_yes {x : Pt} {r2 c2 b2 p2 k : Int} (h : takes x r2 c2 b2 p2 k = true) : claimR x r2 c2 b2 p2 k = ⟨x.up, true, r2, c2, b2, p2, k, 3, x.ro, x.wa, x.op⟩ := by unfold claimR; rw [h]; rfl
end Go.Proofs.YtlnogijlfompoaaGreatDoor
namespace Go.Proofs.YtlnogijlfompoaaGreatDoor
open Go.ChangeShapes Go.WideShapes Go.ChangeAt Go.RowKit
open Go.ChangeMaps (open_string shut_string)
set_option linter.unusedVariables false
set_option maxRecDepth 100000

/-- How long a port waits once it is turned. -/
def waitR (ro wa role : Int) : Int := if role = 3 then 0 else if ro = 3 then 4 else wa
/-- What Turn answers. -/
def turnR (x : Pt) (role : Int) : Pt := if pOk x && (x.up && raUp role) then ⟨x.up, x.has, x.r, x.c, x.b, x.p, x.h, x.l, role, waitR x.ro x.wa role, raOp role (waitR x.ro x.wa role)⟩ else x
set_option maxHeartbeats 4000000 in
theorem openS (x : Pt) (w : World) : Calls Tryz.prog 97 #[.agg #[.bool x.up, .bool x.has, .int .i64 x.r, .int .i64 x.c, .int .i64 x.b, .int .i64 x.p, .int .i64 x.h, .int .i64 x.l, .int .i64 x.ro, .int .i64 x.wa, .bool x.op]] w fun e w' => e = .returned (.agg #[.bool x.up, .bool x.has, .int .i64 x.r, .int .i64 x.c, .int .i64 x.b, .int .i64 x.p, .int .i64 x.h, .int .i64 x.l, .int .i64 x.ro, .int .i64 x.wa, .bool (raOp x.ro x.wa)]) ∧ Below w.heap.size w w' := by
  obtain ⟨up, has, r, c, b, p, h, l, ro, wa, op⟩ := x
  dsimp only
  have e : Hid (raOp ro wa = (((ro == 1) || (ro == 2)) && (wa == 0))) := by unfold raOp; rw [Hid, Bool.eq_iff_iff]; simp
  generalize raOp ro wa = o at e ⊢
  cases l1 : (ro == 1)
  · cases l2 : (ro == 2)
    · replace e : Hid (o = false) := e.out.trans (by rw [l1, l2]; rfl)
      go_enter Tryz.func97, Tryz.ntmps97
      go_wp2
      refine bodyPost_ret (v := .agg #[.bool up, .bool has, .int .i64 r, .int .i64 c, .int .i64 b, .int .i64 p, .int .i64 h, .int .i64 l, .int .i64 ro, .int .i64 wa, .bool false]) (by simp [results, Tryz.results97, go_sem]) rfl ⟨by rw [e.out], ?_⟩
      exact ((Below.refl _ _).alloc (Nat.le_refl _) _).alloc (by simp) _

    · replace e : Hid (o = (wa == 0)) := e.out.trans (by rw [l1, l2]; rfl)
      go_enter Tryz.func97, Tryz.ntmps97
      go_wp2
      refine bodyPost_ret (v := .agg #[.bool up, .bool has, .int .i64 r, .int .i64 c, .int .i64 b, .int .i64 p, .int .i64 h, .int .i64 l, .int .i64 ro, .int .i64 wa, .bool (wa == 0)]) (by simp [results, Tryz.results97, go_sem]) rfl ⟨by rw [e.out], ?_⟩
      exact ((Below.refl _ _).alloc (Nat.le_refl _) _).alloc (by simp) _

  · replace e : Hid (o = (wa == 0)) := e.out.trans (by rw [l1]; rfl)
    go_enter Tryz.func97, Tryz.ntmps97
    go_wp2
    refine bodyPost_ret (v := .agg #[.bool up, .bool has, .int .i64 r, .int .i64 c, .int .i64 b, .int .i64 p, .int .i64 h, .int .i64 l, .int .i64 ro, .int .i64 wa, .bool (wa == 0)]) (by simp [results, Tryz.results97, go_sem]) rfl ⟨by rw [e.out], ?_⟩
    exact ((Below.refl _ _).alloc (Nat.le_refl _) _).alloc (by simp) _

end Go.Proofs.YtlnogijlfompoaaGreatDoor
namespace Go.Proofs.YtlnogijlfompoaaGreatDoor
open Go.ChangeShapes Go.WideShapes Go.ChangeAt Go.RowKit
open Go.ChangeMaps (open_string shut_string)
set_option linter.unusedVariables false
set_option maxRecDepth 100000

/-- string([]byte{x}). -/
theorem byte_str (w : World) (x : Int) (h0 : 0 ≤ x) (h1 : x ≤ 255) :
    (convert 22 9 (.slice (some ⟨w.heap.size, 0, none⟩) 1 1)).run Tryz.prog (w.alloc (.cells #[.int .u8 x] 5)) = .ok (.string ⟨#[UInt8.ofNat x.toNat]⟩) (w.alloc (.cells #[.int .u8 x] 5)) := by
  have h := run_convert_bytes_back (P := Tryz.prog) (w.alloc (.cells #[.int .u8 x] 5)) 22 9 5 ⟨w.heap.size, 0, none⟩ 1 [UInt8.ofNat x.toNat] Tryz.underlying22 Tryz.underlying5 Tryz.underlying9 (fun j hj => by
    obtain rfl : j = 0 := by simpa using hj
    have e : ((UInt8.ofNat x.toNat).toNat : Int) = x := by simp; omega
    simp [Addr.add]
    omega)
  simpa using h

theorem dec_step {m : Nat} (h : 0 < m) (suf : List UInt8) : (if m / 10 = 0 then [] else Lib.decDigits (m / 10)) ++ (UInt8.ofNat (48 + m % 10) :: suf) = Lib.decDigits m ++ suf := by
  by_cases hm : m < 10
  · rw [if_pos (by omega), Lib.decDigits, dif_pos hm]
    simp
    congr 1
    omega
  · rw [if_neg (by omega)]
    conv => rhs; rw [Lib.decDigits, dif_neg hm]
    simp

/-- What the loop of spec.Digits keeps: the digits still to come, and those that it has, are all. -/
def DecRel (N m : Nat) (suf : ByteArray) : Prop := (if m = 0 then [] else Lib.decDigits m) ++ suf.data.toList = Lib.decDigits N
theorem DecRel.start {N : Nat} (h : 0 < N) : DecRel N N ⟨#[]⟩ := by unfold DecRel; rw [if_neg (by omega)]; simp
theorem DecRel.step {N m : Nat} {suf : ByteArray} (h : DecRel N m suf) (hm : 0 < m) : DecRel N (m / 10) (⟨#[UInt8.ofNat (48 + m % 10)]⟩ ++ suf) := by
  unfold DecRel at h ⊢
  rw [if_neg (by omega)] at h
  have e : (⟨#[UInt8.ofNat (48 + m % 10)]⟩ ++ suf : ByteArray).data.toList = UInt8.ofNat (48 + m % 10) :: suf.data.toList := by simp [ByteArray.data_append]
  rw [e, dec_step hm, h]
theorem DecRel.done {N : Nat} {suf : ByteArray} (h : DecRel N 0 suf) : suf = ⟨(Lib.decDigits N).toArray⟩ := by
  unfold DecRel at h
  simp at h
  rw [← h]
theorem decDigits_len (u : Nat) : (Lib.decDigits u).length ≤ u / 10 + 1 := by
  induction u using Nat.strongRecOn with
  | ind u ih =>
    rw [Lib.decDigits]
    split
    · simp
    · have := ih (u / 10) (by omega); simp; omega
theorem DecRel.len {N m : Nat} {suf : ByteArray} (h : DecRel N m suf) : suf.size ≤ N / 10 + 1 := by
  have := congrArg List.length h
  have h2 := decDigits_len N
  rw [List.length_append] at this
  have e : suf.data.toList.length = suf.size := Array.length_toList
  omega

theorem neg_text (l : List UInt8) : (⟨#[45]⟩ ++ ⟨l.toArray⟩ : ByteArray) = ⟨(45 :: l).toArray⟩ := by
  apply ByteArray.ext
  rw [ByteArray.data_append]
  simp
set_option maxHeartbeats 1000000 in
theorem digitsPos (n : Int) (w : World) (h0 : 0 < n) (h1 : n ≤ 9223372036854775807) :
    Calls Tryz.prog 51 #[.int .i64 n] w fun e w' => e = .returned (.string ⟨(Lib.decDigits n.toNat).toArray⟩) ∧ Below w.heap.size w w' := by
  have hne : (n == 0) = false := by simp; omega
  have hn0 : decide (n < 0) = false := by simp; omega
  go_enter Tryz.func51, Tryz.ntmps51
  go_wp2
  go_loopw [0, 4, 5] (fun x s _ wr => ∃ (m : Int) (suf : ByteArray), 0 ≤ m ∧ m ≤ n ∧ x = .int .i64 m ∧ s = .string suf ∧ Hid (DecRel n.toNat m.toNat suf) ∧ Below w.heap.size w wr) (fun x _ _ _ => (intOf x).toNat)
  case atStart => exact ⟨n, ⟨#[]⟩, by omega, by omega, rfl, rfl, DecRel.start (by omega), Below.refl _ _⟩
  case round =>
    obtain ⟨m, suf, hm0, hm, rfl, rfl, hD, hb⟩ := hrel
    by_cases hlt : 0 < m
    · have hne2 : (m != 0) = true := by simp; omega
      have hm2 : m ≤ 9223372036854775807 := by omega
      have hd0 : decide (m % 10 < 0) = false := by simp; omega
      have hcv := byte_str wr (48 + m % 10) (by omega) (by omega)
      have hsz : ¬ 9223372036854775807 < 1 + suf.size := by have := hD.out.len; omega
      have hD1 : Hid (DecRel n.toNat (m / 10).toNat (⟨#[UInt8.ofNat (48 + m % 10).toNat]⟩ ++ suf)) := by
        have := hD.out.step (by omega)
        rw [show (m / 10).toNat = m.toNat / 10 by omega, show (48 + m % 10).toNat = 48 + m.toNat % 10 by omega]
        exact this
      have hbs := hb.size
      clear hD
      go_wp2
      go_roundw
      case rel => exact ⟨m / 10, _, by omega, by omega, rfl, rfl, hD1, hb.alloc hbs _⟩
      case measure => simp [intOf]; omega
    · obtain rfl : m = 0 := by omega
      obtain rfl := hD.out.done
      go_wp2
      go_ret
      exact ⟨rfl, hb⟩

set_option maxHeartbeats 1000000 in
theorem digitsNeg (n : Int) (w : World) (h0 : n < 0) (h1 : -9223372036854775808 ≤ n) :
    Calls Tryz.prog 51 #[.int .i64 n] w fun e w' => e = .returned (.string ⟨(45 :: Lib.decDigits n.natAbs).toArray⟩) ∧ Below w.heap.size w w' := by
  have hne : (n == 0) = false := by simp; omega
  have hn0 : decide (n < 0) = true := by simp; omega
  go_enter Tryz.func51, Tryz.ntmps51
  go_wp2
  go_loopw [0, 4, 5] (fun x s _ wr => ∃ (m : Int) (suf : ByteArray), m ≤ 0 ∧ n ≤ m ∧ x = .int .i64 m ∧ s = .string suf ∧ Hid (DecRel n.natAbs m.natAbs suf) ∧ Below w.heap.size w wr) (fun x _ _ _ => (intOf x).natAbs)
  case atStart => exact ⟨n, ⟨#[]⟩, by omega, by omega, rfl, rfl, DecRel.start (by omega), Below.refl _ _⟩
  case round =>
    obtain ⟨m, suf, hm0, hm, rfl, rfl, hD, hb⟩ := hrel
    have hsz : ¬ 9223372036854775807 < 1 + suf.size := by have := hD.out.len; omega
    by_cases hlt : m < 0
    · have hne2 : (m != 0) = true := by simp; omega
      have hm2 : -9223372036854775808 ≤ m := by omega
      obtain ⟨r, hr⟩ : ∃ r, r = -m % 10 := ⟨_, rfl⟩
      obtain ⟨q, hq⟩ : ∃ q, q = -m / 10 := ⟨_, rfl⟩
      have ht : m.tmod 10 = -r := by
        rw [hr, show m = -(-m) by omega, Int.neg_tmod, Int.tmod_eq_emod_of_nonneg (by omega)]
        simp
      have htq : m.tdiv 10 = -q := by
        rw [hq, show m = -(-m) by omega, Int.neg_tdiv, Int.tdiv_eq_ediv_of_nonneg (by omega)]
        simp
      have hD1 : Hid (DecRel n.natAbs (-q).natAbs (⟨#[UInt8.ofNat (48 + r).toNat]⟩ ++ suf)) := by
        have := hD.out.step (by omega)
        rw [show (-q).natAbs = m.natAbs / 10 by omega, show (48 + r).toNat = 48 + m.natAbs % 10 by omega]
        exact this
      have hr0 : 0 ≤ r := by omega
      have hr9 : r ≤ 9 := by omega
      have hq0 : 0 ≤ q := by omega
      have hqm : Hid (n ≤ -q ∧ q < m.natAbs) := ⟨by omega, by omega⟩
      have hq8 : q ≤ 922337203685477580 := by omega
      have hbs := hb.size
      clear hD hr hq
      by_cases hz : r = 0
      · subst hz
        have hcv := byte_str wr 48 (by omega) (by omega)
        go_wp2
        go_roundw
        case rel => exact ⟨-q, _, by omega, hqm.out.1, rfl, rfl, hD1, hb.alloc hbs _⟩
        case measure => have := hqm.out.2; simp [intOf]; omega
      · have hd0 : decide (0 < r) = true := by simp; omega
        have hcv := byte_str wr (48 + r) (by omega) (by omega)
        clear hz
        go_wp2
        go_roundw
        case rel => exact ⟨-q, _, by omega, hqm.out.1, rfl, rfl, hD1, hb.alloc hbs _⟩
        case measure => have := hqm.out.2; simp [intOf]; omega
    · obtain rfl : m = 0 := by omega
      obtain rfl := hD.out.done
      go_wp2
      go_ret
      exact ⟨congrArg (fun x => Ending.returned (.string x)) (neg_text _), hb⟩

/-- spec.Digits tells the decimal numeral, at every int. -/
theorem digitsSpec (n : Int) (w : World) (h0 : -9223372036854775808 ≤ n) (h1 : n ≤ 9223372036854775807) :
    Calls Tryz.prog 51 #[.int .i64 n] w fun e w' => e = .returned (.string ⟨(Lib.itoa n).toArray⟩) ∧ Below w.heap.size w w' := by
  by_cases hn : n < 0
  · have e : Lib.itoa n = 45 :: Lib.decDigits n.natAbs := by unfold Lib.itoa; rw [if_pos hn]
    rw [e]
    exact digitsNeg n w hn h0
  · have e : Lib.itoa n = Lib.decDigits n.toNat := by unfold Lib.itoa; rw [if_neg hn]
    rw [e]
    by_cases hz : n = 0
    · subst hz
      have e2 : Lib.decDigits (0 : Int).toNat = [48] := by rw [Lib.decDigits]; rfl
      rw [e2]
      go_enter Tryz.func51, Tryz.ntmps51
      go_wp2
      go_ret
      exact ⟨rfl, Below.refl _ _⟩
    · exact digitsPos n w (by omega) h1

/-- impl.Digits tells it too: strconv.Itoa does. -/
theorem digitsImpl (n : Int) (w : World) (h0 : -9223372036854775808 ≤ n) (h1 : n ≤ 9223372036854775807) (htab : Lib.TabIs Tryz.prog w "internal/strconv.uint64pow10" .u64 Lib.pow10Tab) :
    Calls Tryz.prog 76 #[.int .i64 n] w fun e w' => e = .returned (.string ⟨(Lib.itoa n).toArray⟩) ∧ Below w.heap.size w w' := by
  have hb : ∀ k os, Below w.heap.size w (Sort.grow (w.drewN k) os) := fun k os =>
    ⟨rfl, rfl, rfl, by show w.heap.size ≤ (w.heap ++ os).size; simp, fun j hj => by show (w.heap ++ os)[j]? = _; rw [Array.getElem?_append_left hj]⟩
  go_enter Tryz.func76, Tryz.ntmps76
  go_wp2_with fail
  go_at_call 93
  refine (Tryz.strconv_Itoa n h0 h1 w htab).mono ?_
  rintro e w' ⟨rfl, k, os, rfl⟩
  go_wp2
  go_ret
  exact ⟨rfl, hb k os⟩

end Go.Proofs.YtlnogijlfompoaaGreatDoor
namespace Go.Proofs.YtlnogijlfompoaaGreatDoor
open Go.ChangeShapes Go.WideShapes Go.ChangeAt Go.RowKit
open Go.ChangeMaps (open_string shut_string)
set_option linter.unusedVariables false
set_option maxRecDepth 100000

/-- What is known of a code that comes in: it reads as bytes. -/
structure CodeIn (w : World) (ad : Option Addr) (len : Nat) (f : Nat → Int) : Prop where
  lm : len ≤ maxLen
  view : View w ad len f
  lt : ∀ a, ad = some a → 0 < len → a.block < w.heap.size
  bytes : ∀ i, 0 ≤ f i ∧ f i ≤ 255
theorem codeIn_open {H : Type} {enc : TypeId × Value → H} {w : World} {r : Reach} {b0 : Nat} {v : Value} {d : DataW H} {p : List MemPlace} (hv : Value.okWide Tryz.prog w r b0 22 v) (h : DataW.Trod enc Tryz.prog w 0 (fun _ => true) true 22 v d p) :
    ∃ ad len cap f, v = .slice ad len cap ∧ CodeIn w ad len f := by
  obtain ⟨n, hn⟩ := h
  obtain ⟨a0, len0, cap0, rfl⟩ := okWide_slice (P := Tryz.prog) (t := 22) (e := 5) Tryz.underlying22 hv
  have hcell0 : ∀ x, (Value.slice a0 len0 cap0).cells.toList = [x] → Value.slice a0 len0 cap0 = x := fun x h => by simpa [Value.cells] using h
  rcases open_ints Tryz.underlying22 Tryz.underlying5 (by kernel_rfl) hn with ⟨hcs, _⟩ | ⟨x, l, cp, zs, hcs, _, hl, hm, hz, _, hcell, hwz⟩
  · exact ⟨none, 0, 0, fun _ => 0, hcell0 _ hcs, by unfold maxLen; omega, fun h => absurd h (by omega), fun a h => by simp at h, fun i => by simp⟩
  · simp at hz
    refine ⟨some x, l, cp, fun i => zs.getD i 0, hcell0 _ hcs, by omega, fun hp => ?_, fun a h hp => ?_, fun i => ?_⟩
    · obtain ⟨b, off, rfl, hc⟩ := ints_at hcell (by omega)
      exact ⟨b, off, rfl, fun i hi => hc i (by omega)⟩
    · obtain rfl : x = a := by simpa using h
      have hc := hcell 0 (by omega)
      simpa [Addr.add] using World.block_lt_of_cell? w _ hc
    · by_cases hi : i < zs.length
      · have := bounds_u8 (hwz (zs.getD i 0) (by simp [List.getD, hi]))
        exact this
      · simp [List.getD, List.getElem?_eq_none (by omega : zs.length ≤ i)]
theorem bigYes (ad : Option Addr) (len cap : Nat) (w : World) (h : (1048576 : Int) < (len : Int)) : Calls Tryz.prog 4 #[.slice ad len cap] w fun e w' => e = .returned (.bool true) ∧ w' = w := by
  go_enter Tryz.func4, Tryz.ntmps4
  go_wp2
  go_ret
  exact ⟨rfl, rfl⟩
theorem bigNo (ad : Option Addr) (len cap : Nat) (w : World) (h : len ≤ 1048576) : Calls Tryz.prog 4 #[.slice ad len cap] w fun e w' => e = .returned (.bool false) ∧ w' = w := by
  have h' : decide ((1048576 : Int) < (len : Int)) = false := decide_eq_false (by omega)
  go_enter Tryz.func4, Tryz.ntmps4
  go_wp2
  go_ret
  exact ⟨rfl, rfl⟩

end Go.Proofs.YtlnogijlfompoaaGreatDoor
