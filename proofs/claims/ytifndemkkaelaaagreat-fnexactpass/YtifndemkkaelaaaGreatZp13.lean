/- Both Where, and impl.TableOk, walked. What toHeardS made, as a list. -/
import Derived.Test.YtifndemkkaelaaaGreatRows
import Derived.WalkKit
import Derived.ProofKit
import Derived.OpenShut
import Derived.ShutString
import Derived.ChangeOld
import Derived.Below
import Derived.Deep.QuietTactic
import Derived.BigQuiet
import Derived.WalkSmall
import Derived.Laws.OwnMore
import Derived.WalkSpells
import Derived.Test.YtifndemkkaelaaaGreatZpHeard4
namespace Go.Proofs.YtifndemkkaelaaaGreat
open Go.ChangeShapes Go.WideShapes Go.ChangeAt Go.RowKit
open Go.ChangeMaps (open_string shut_string)
set_option linter.unusedVariables false

def whereR : List Hd → Int → Int → Int × Bool
  | [], _, _ => (0, false)
  | h :: t, a, v => if h.a = a ∧ h.v = v then (h.p, true) else whereR t a v
theorem drop_cons {L : List Hd} {k : Nat} {h : Hd} (hk : k < L.length) (hh : L.getD k Hd.nil = h) : L.drop k = h :: L.drop (k + 1) := by
  rw [List.drop_eq_getElem_cons hk]
  simp [List.getD, List.getElem?_eq_getElem hk] at hh
  rw [hh]
set_option maxHeartbeats 1000000 in
theorem whereI (ad : Option Addr) (cap : Nat) (L : List Hd) (a v : Int) (w : World) (hv : HView w ad L) (hm : L.length ≤ maxLen) (hB : HIs ad L (· < w.heap.size)) :
    Calls Tryz.prog 20 #[.slice ad L.length cap, .int .i64 a, .int .i64 v] w fun e w' => e = .returned (.tuple #[.int .i64 (whereR L a v).1, .bool (whereR L a v).2]) ∧ Below w.heap.size w w' := by
  unfold maxLen at hm
  go_enter Tryz.func20, Tryz.ntmps20
  go_wp2
  go_loopw [12] (fun i wr => ∃ k : Nat, i = .int .i64 (k : Int) ∧ k ≤ L.length ∧ Hid (whereR L a v = whereR (L.drop k) a v) ∧ Below w.heap.size w wr) (fun i _ => L.length - (intOf i).toNat)
  case atStart => exact ⟨0, rfl, Nat.zero_le _, by simp [Hid], Below.refl _ _⟩
  case round =>
    obtain ⟨k, rfl, hk, hW, hb⟩ := hrel
    by_cases hlt : k < L.length
    · obtain ⟨b, off, rfl, hc0⟩ := hv (by omega)
      obtain ⟨h, hh⟩ : ∃ h, L.getD k Hd.nil = h := ⟨_, rfl⟩
      have hck : HAt wr b (off + k * 4) h := by rw [← hh]; exact (hc0 k hlt).of_block (hb.block _ (hB ⟨b, off, none⟩ rfl (by omega)))
      obtain ⟨c1, c2, c3, c4⟩ := hck
      clear hc0
      have hW1 : Hid (whereR L a v = if h.a = a ∧ h.v = v then (h.p, true) else whereR (L.drop (k + 1)) a v) := by
        have := hW.out
        rw [drop_cons hlt hh] at this
        exact this
      clear hh hW
      have hb1 : Below w.heap.size w (wr.alloc (Obj.cells #[.int .i64 h.a, .int .i64 h.v, .int .i64 h.p, .int .i64 h.l] 97)) := hb.trans ((below_box wr _).mono hb.size)
      by_cases h1 : h.a = a
      · by_cases h2 : h.v = v
        · have hW2 : Hid (whereR L a v = (h.p, true)) := by have := hW1.out; rw [if_pos ⟨h1, h2⟩] at this; exact this
          have h1' : (h.a == a) = true := by simp [h1]
          have h2' : (h.v == v) = true := by simp [h2]
          clear h1 h2 hW1
          go_wp2
          go_ret2
          exact ⟨by rw [hW2.out]; rfl, hb1⟩
        · have hW2 : Hid (whereR L a v = whereR (L.drop (k + 1)) a v) := by have := hW1.out; rw [if_neg (fun q => h2 q.2)] at this; exact this
          have h1' : (h.a == a) = true := by simp [h1]
          have h2' : (h.v == v) = false := by simp [h2]
          clear h1 h2 hW1
          go_wp2
          go_roundw
          case rel => exact ⟨k + 1, by go_num, by omega, hW2, hb1⟩
          case measure => simp [intOf]; omega
      · have hW2 : Hid (whereR L a v = whereR (L.drop (k + 1)) a v) := by have := hW1.out; rw [if_neg (fun q => h1 q.1)] at this; exact this
        have h1' : (h.a == a) = false := by simp [h1]
        clear h1 hW1
        go_wp2
        go_roundw
        case rel => exact ⟨k + 1, by go_num, by omega, hW2, hb1⟩
        case measure => simp [intOf]; omega
    · obtain rfl : k = L.length := by omega
      have hW2 : Hid (whereR L a v = (0, false)) := by have := hW.out; rw [List.drop_length] at this; exact this
      go_wp2
      go_ret2
      exact ⟨by rw [hW2.out]; rfl, hb⟩
set_option maxHeartbeats 1000000 in
theorem whereS (ad : Option Addr) (cap : Nat) (L : List Hd) (a v : Int) (w : World) (hv : HView w ad L) (hm : L.length ≤ maxLen) (hB : HIs ad L (· < w.heap.size)) :
    Calls Tryz.prog 47 #[.slice ad L.length cap, .int .i64 a, .int .i64 v] w fun e w' => e = .returned (.tuple #[.int .i64 (whereR L a v).1, .bool (whereR L a v).2]) ∧ w' = w := by
  unfold maxLen at hm
  go_enter Tryz.func47, Tryz.ntmps47
  go_wp2
  go_loop [8] (fun i => ∃ k : Nat, i = .int .i64 (k : Int) ∧ k ≤ L.length ∧ Hid (whereR L a v = whereR (L.drop k) a v)) (fun i => L.length - (intOf i).toNat)
  case atStart => exact ⟨0, rfl, Nat.zero_le _, by simp [Hid]⟩
  case round =>
    obtain ⟨k, rfl, hk, hW⟩ := hrel
    by_cases hlt : k < L.length
    · obtain ⟨b, off, rfl, hc0⟩ := hv (by omega)
      obtain ⟨h, hh⟩ : ∃ h, L.getD k Hd.nil = h := ⟨_, rfl⟩
      have hck : HAt w b (off + k * 4) h := by rw [← hh]; exact hc0 k hlt
      obtain ⟨c1, c2, c3, c4⟩ := hck
      have hW1 : Hid (whereR L a v = if h.a = a ∧ h.v = v then (h.p, true) else whereR (L.drop (k + 1)) a v) := by
        have := hW.out
        rw [drop_cons hlt hh] at this
        exact this
      clear hh hW hc0
      by_cases h1 : h.a = a
      · by_cases h2 : h.v = v
        · have hW2 : Hid (whereR L a v = (h.p, true)) := by have := hW1.out; rw [if_pos ⟨h1, h2⟩] at this; exact this
          have h1' : (h.a == a) = true := by simp [h1]
          have h2' : (h.v == v) = true := by simp [h2]
          clear h1 h2 hW1
          go_wp2
          go_ret2
          exact ⟨by rw [hW2.out]; rfl, rfl⟩
        · have hW2 : Hid (whereR L a v = whereR (L.drop (k + 1)) a v) := by have := hW1.out; rw [if_neg (fun q => h2 q.2)] at this; exact this
          have h1' : (h.a == a) = true := by simp [h1]
          have h2' : (h.v == v) = false := by simp [h2]
          clear h1 h2 hW1
          go_wp2
          go_round
          case rel => exact ⟨k + 1, by go_num, by omega, hW2⟩
          case measure => simp [intOf]; omega
      · have hW2 : Hid (whereR L a v = whereR (L.drop (k + 1)) a v) := by have := hW1.out; rw [if_neg (fun q => h1 q.1)] at this; exact this
        have h1' : (h.a == a) = false := by simp [h1]
        clear h1 hW1
        go_wp2
        go_round
        case rel => exact ⟨k + 1, by go_num, by omega, hW2⟩
        case measure => simp [intOf]; omega
    · obtain rfl : k = L.length := by omega
      have hW2 : Hid (whereR L a v = (0, false)) := by have := hW.out; rw [List.drop_length] at this; exact this
      go_wp2
      go_ret2
      exact ⟨by rw [hW2.out]; rfl, rfl⟩
set_option maxHeartbeats 1000000 in
theorem okI (ad : Option Addr) (cap : Nat) (L : List Hd) (w : World) (hv : HView w ad L) (hm : L.length ≤ maxLen) (hB : HIs ad L (· < w.heap.size)) :
    Calls Tryz.prog 93 #[.slice ad L.length cap] w fun e w' => e = .returned (.bool (tokB L)) ∧ Below w.heap.size w w' := by
  have hm0 := hm
  unfold maxLen at hm
  by_cases hbig : 12 < L.length
  · have hbig' : (12 : Int) < (L.length : Int) := by omega
    have hO : Hid (tokB L = false) := tokB_no fun q => by have := q.1; omega
    go_enter Tryz.func93, Tryz.ntmps93
    go_wp2
    go_ret
    exact ⟨by rw [hO.out]; rfl, Below.refl _ _⟩
  have hbig' : (L.length : Int) ≤ 12 := by omega
  go_enter Tryz.func93, Tryz.ntmps93
  go_wp2
  go_loopw [10] (fun i wr => ∃ k : Nat, i = .int .i64 (k : Int) ∧ k ≤ L.length ∧ Hid (∀ i, i < k → (L.getD i Hd.nil).fits = true) ∧ Below w.heap.size w wr) (fun i _ => L.length - (intOf i).toNat)
  case atStart => exact ⟨0, rfl, Nat.zero_le _, fun i hi => absurd hi (by omega), Below.refl _ _⟩
  case round =>
    obtain ⟨k, rfl, hk, hF, hb⟩ := hrel
    by_cases hlt : k < L.length
    · obtain ⟨b, off, rfl, hc0⟩ := hv (by omega)
      obtain ⟨h, hh⟩ : ∃ h, L.getD k Hd.nil = h := ⟨_, rfl⟩
      have hck : HAt wr b (off + k * 4) h := by rw [← hh]; exact (hc0 k hlt).of_block (hb.block _ (hB ⟨b, off, none⟩ rfl (by omega)))
      obtain ⟨c1, c2, c3, c4⟩ := hck
      clear hc0
      have hb1 : Below w.heap.size w (wr.alloc (Obj.cells #[.int .i64 h.a, .int .i64 h.v, .int .i64 h.p, .int .i64 h.l] 97)) := hb.trans ((below_box wr _).mono hb.size)
      cases hf : h.fits with
      | false =>
        have hO : Hid (tokB L = false) := tokB_no fun q => by have := q.2.1 k hlt; rw [hh, hf] at this; cases this
        clear hh hF
        go_wp2_with fail
        go_at_call 122
        refine (fitsH h _).mono ?_
        rintro e w1 ⟨rfl, k1⟩
        rw [hf]
        clear hf
        go_wp2
        go_ret
        exact ⟨by rw [hO.out]; rfl, hb1.trans (k1.mono hb1.size)⟩
      | true =>
        have hF1 : Hid (∀ i, i < k + 1 → (L.getD i Hd.nil).fits = true) := fun i hi => by
          by_cases e : i = k
          · subst e; rw [hh]; exact hf
          · exact hF.out i (by omega)
        clear hh hF
        go_wp2_with fail
        go_at_call 122
        refine (fitsH h _).mono ?_
        rintro e w1 ⟨rfl, k1⟩
        rw [hf]
        clear hf
        go_wp2
        go_roundw
        case rel => exact ⟨k + 1, by go_num, by omega, hF1, hb1.trans (k1.mono hb1.size)⟩
        case measure => simp [intOf]; omega
    · obtain rfl : k = L.length := by omega
      have hO : Hid (tokB L = ordB L) := by
        have hF' := hF.out
        unfold Hid
        by_cases q : Ord L
        · rw [ordB_yes q, tokB_yes (show TOk L from ⟨by omega, hF', q⟩)]
        · rw [ordB_no q, tokB_no (show ¬ TOk L from fun t => q t.2.2)]
      clear hF
      go_wp2_with fail
      go_at_call 95
      refine (inOrd ad cap L wr (hv.below hB hb) hm0 (fun a e p => by have := hB a e p; have := hb.size; omega)).mono ?_
      rintro e w1 ⟨rfl, k1⟩
      go_wp2
      go_ret
      exact ⟨by rw [hO.out]; rfl, hb.trans (k1.mono hb.size)⟩

end Go.Proofs.YtifndemkkaelaaaGreat
namespace Go.Proofs.YtifndemkkaelaaaGreat
open Go.ChangeShapes Go.WideShapes Go.ChangeAt Go.RowKit
open Go.ChangeMaps (open_string shut_string)
set_option linter.unusedVariables false

theorem HFilled.view {B : Nat} {L : List Hd} {w wr : World} (h : HFilled B L L.length w wr) : HView wr (some ⟨B, 0, none⟩) L :=
  fun _ => ⟨B, 0, rfl, fun i hi => by rw [Nat.zero_add]; exact h.2.2.2.2 i hi⟩
theorem HFilled.room {B : Nat} {L : List Hd} {w wr : World} (h : HFilled B L L.length w wr) : HRoom wr (some ⟨B, 0, none⟩) L.length :=
  fun _ => ⟨B, 0, rfl, fun i hi => by rw [Nat.zero_add]; exact ⟨h.2.2.1 i hi, h.2.2.2.1 i hi⟩⟩
theorem his_some {B n : Nat} {L : List Hd} (h : B < n) : HIs (some ⟨B, 0, none⟩) L (· < n) := fun a e _ => by
  obtain rfl : (⟨B, 0, none⟩ : Addr) = a := by simpa using e
  exact h
theorem HIs.le {ad : Option Addr} {L : List Hd} {n m : Nat} (h : HIs ad L (· < n)) (k : n ≤ m) : HIs ad L (· < m) := fun a e p => Nat.lt_of_lt_of_le (h a e p) k

end Go.Proofs.YtifndemkkaelaaaGreat
