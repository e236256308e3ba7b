/- Contracts of the small functions over texts that the law calls. -/
import Derived.Test.YtpddgladbodkbaaDoorRows
import Derived.WalkKit
import Derived.ProofKit
import Derived.OpenShut
import Derived.ShutString
import Derived.ChangeOld
import Derived.Below
import Derived.Deep.QuietTactic
import Derived.BigQuiet
import Derived.WalkSmall
import Derived.Laws.OwnMore
import Derived.WalkSpells
import Derived.WalkLawsBesides
import Derived.RegionTactic
import Derived.ChangeAlike
import Derived.Test.YtpddgladbodkbaaDoorDigits
namespace Go.Proofs.YtpddgladbodkbaaDoor
open Go.ChangeShapes Go.WideShapes Go.ChangeAt Go.RowKit
open Go.ChangeMaps (open_string shut_string)
set_option linter.unusedVariables false

/-- The slice at 'ad' of 'len' texts reads, in the world w, as f 0, f 1, .. -/
def SView (w : World) (ad : Option Addr) (len : Nat) (f : Nat → ByteArray) : Prop :=
  0 < len → ∃ b off, ad = some ⟨b, off, none⟩ ∧ ∀ i, i < len → w.cell? ⟨b, off + i, none⟩ = some (.string (f i))
def SRoom (w : World) (ad : Option Addr) (len : Nat) : Prop :=
  0 < len → ∃ b off, ad = some ⟨b, off, none⟩ ∧ ∀ i, i < len → (∃ u, w.cell? ⟨b, off + i, none⟩ = some u) ∧ w.frozen? ⟨b, off + i, none⟩ = false
theorem SView.carry {w w' : World} {ad : Option Addr} {len : Nat} {f : Nat → ByteArray} (h : SView w ad len f) (hb : ∀ a, ad = some a → 0 < len → w'.heap[a.block]? = w.heap[a.block]?) : SView w' ad len f :=
  fun hp => by
    obtain ⟨b, off, e, hc⟩ := h hp
    exact ⟨b, off, e, fun i hi => (World.cell?_of_block (a := ⟨b, off + i, none⟩) (hb ⟨b, off, none⟩ e hp)).trans (hc i hi)⟩
theorem SRoom.carry {w w' : World} {ad : Option Addr} {len : Nat} (h : SRoom w ad len) (hb : ∀ a, ad = some a → 0 < len → w'.heap[a.block]? = w.heap[a.block]?) : SRoom w' ad len :=
  fun hp => by
    obtain ⟨b, off, e, hc⟩ := h hp
    refine ⟨b, off, e, fun i hi => ⟨?_, ?_⟩⟩
    · obtain ⟨u, hu⟩ := (hc i hi).1
      exact ⟨u, (World.cell?_of_block (a := ⟨b, off + i, none⟩) (hb ⟨b, off, none⟩ e hp)).trans hu⟩
    · exact (World.frozen?_of_block (a := ⟨b, off + i, none⟩) (hb ⟨b, off, none⟩ e hp)).trans (hc i hi).2
theorem scell_set_same {w : World} {b j : Nat} {v : Value} (h : ∃ u, w.cell? ⟨b, j, none⟩ = some u) : (w.setCell ⟨b, j, none⟩ v).cell? ⟨b, j, none⟩ = some v := by
  obtain ⟨u, hu⟩ := h
  exact World.cell?_setCell_same _ _ _ hu
theorem scell_set_ne {w : World} {b j i : Nat} {v : Value} (h : i ≠ j) : (w.setCell ⟨b, j, none⟩ v).cell? ⟨b, i, none⟩ = w.cell? ⟨b, i, none⟩ :=
  World.cell?_setCell_other _ _ _ _ (fun e => h (by injection e with _ e2; exact e2.symm))
theorem own_sview {w : World} {base E n : Nat} {v : Value} {L : List ByteArray} (h : w.ownsRow base E 1 v n (L.map Value.string)) :
    n = L.length ∧ ∃ ad cap, v = .slice ad n cap ∧ SView w ad n (fun i => L.getD i ByteArray.empty) ∧ SRoom w ad n ∧ ∀ a, ad = some a → base ≤ a.block ∧ a.block < w.heap.size := by
  have hn : n = L.length := by have := h.1; simp at this; omega
  refine ⟨hn, ?_⟩
  rcases h.2 with ⟨rfl, h0⟩ | ⟨g, cap, cur, rfl, hb, hg, hnc, hcm, hcs, htk⟩
  · exact ⟨none, 0, by rw [h0], fun hp => absurd hp (by omega), fun hp => absurd hp (by omega), fun a e => by simp at e⟩
  · have hc : ∀ i, i < n → w.cell? ⟨g, i, none⟩ = some (.string (L.getD i ByteArray.empty)) := fun i hi => by
      rw [h.cellAt i (by omega), List.getElem?_map, List.getElem?_eq_getElem (by omega)]
      simp [List.getD, List.getElem?_eq_getElem (by omega : i < L.length)]
    refine ⟨some ⟨g, 0, none⟩, cap, rfl, fun _ => ⟨g, 0, rfl, fun i hi => by rw [Nat.zero_add]; exact hc i hi⟩, fun _ => ⟨g, 0, rfl, fun i hi => ?_⟩, fun a e => ?_⟩
    · rw [Nat.zero_add]
      exact ⟨⟨_, hc i hi⟩, h.frozenAt i⟩
    · obtain rfl : (⟨g, 0, none⟩ : Addr) = a := by simpa using e
      exact ⟨hb, (Array.getElem?_eq_some_iff.1 hg).1⟩

set_option maxHeartbeats 400000 in
theorem eqStrs (ad ad' : Option Addr) (len cap cap' : Nat) (f : Nat → ByteArray) (w : World) (hv : SView w ad len f) (hv' : SView w ad' len f) (hl : len ≤ 2097152) :
    Calls Tryd.prog 29 #[.slice ad len cap, .slice ad' len cap'] w fun e w' => e = .returned (.bool true) ∧ ∃ n, w' = w.drewN n := by
  go_enter Tryd.func29, Tryd.ntmps29
  go_wp2
  go_loopw [5] (fun i wr => ∃ k n : Nat, k ≤ len ∧ i = .int .i64 k ∧ wr = w.drewN n) (fun i _ => len - (intOf i).toNat)
  case atStart => exact ⟨0, 0, Nat.zero_le _, rfl, rfl⟩
  case round =>
    obtain ⟨k, n, hk, rfl, rfl⟩ := hrel
    by_cases hlt : k < len
    · obtain ⟨b, off, rfl, hc⟩ := hv (by omega)
      obtain ⟨b', off', rfl, hc'⟩ := hv' (by omega)
      have hck := hc k hlt
      have hck' := hc' k hlt
      go_wp2
      go_quiet (fail)
      go_wp2
      go_roundw
      case rel => exact ⟨k + 1, _, by omega, by go_num, rfl⟩
      case measure => simp [intOf]; omega
    · obtain rfl : k = len := by omega
      go_wp2
      go_ret
      exact ⟨rfl, _, rfl⟩

/-- The text that markText makes of k. -/
def mtext (k : Int) : ByteArray := ⟨(109 :: Lib.decDigits k.toNat).toArray⟩
theorem m_text (l : List UInt8) : (⟨#[109]⟩ ++ ⟨l.toArray⟩ : ByteArray) = ⟨(109 :: l).toArray⟩ := by
  apply ByteArray.ext
  rw [ByteArray.data_append]
  simp

set_option maxHeartbeats 1000000 in
theorem markText (n : Int) (w : World) (h0 : 0 < n) (h1 : n ≤ 1000000000000) :
    Calls Tryd.prog 44 #[.int .i64 n] w fun e w' => e = .returned (.string (mtext n)) ∧ Below w.heap.size w w' := by
  have hd0 : decide (n ≤ 0) = false := by simp; omega
  go_enter Tryd.func44, Tryd.ntmps44
  go_wp2
  go_loopw [0, 3] (fun x s wr => ∃ (m : Int) (suf : ByteArray), 0 ≤ m ∧ m ≤ n ∧ x = .int .i64 m ∧ s = .string suf ∧ Hid (DecRel n.toNat m.toNat suf) ∧ Below w.heap.size w wr) (fun x _ _ => (intOf x).toNat)
  case atStart => exact ⟨n, ⟨#[]⟩, by omega, by omega, rfl, rfl, DecRel.start (by omega), Below.refl _ _⟩
  case round =>
    obtain ⟨m, suf, hm0, hm, rfl, rfl, hD, hb⟩ := hrel
    have hsz : ¬ 9223372036854775807 < 1 + suf.size := by have := hD.out.len; omega
    by_cases hlt : 0 < m
    · have hcv := byte_str wr (48 + m % 10) (by omega) (by omega)
      have hD1 : Hid (DecRel n.toNat (m / 10).toNat (⟨#[UInt8.ofNat (48 + m % 10).toNat]⟩ ++ suf)) := by
        have := hD.out.step (by omega)
        rw [show (m / 10).toNat = m.toNat / 10 by omega, show (48 + m % 10).toNat = 48 + m.toNat % 10 by omega]
        exact this
      have hbs := hb.size
      clear hD
      go_wp2
      go_roundw
      case rel => exact ⟨m / 10, _, by omega, by omega, rfl, rfl, hD1, hb.alloc hbs _⟩
      case measure => simp [intOf]; omega
    · obtain rfl : m = 0 := by omega
      obtain rfl := hD.out.done
      go_wp2
      go_ret
      exact ⟨congrArg (fun x => Ending.returned (.string x)) (m_text _), hb⟩

/-- What markStringS has done behind k rounds, at a row at (b, off). -/
def SMarked (b off len : Nat) (m : Int) (k : Nat) (w wr : World) : Prop :=
  w.grownBy wr (some b) ∧ (∀ j, j < len → (∃ u, wr.cell? ⟨b, off + j, none⟩ = some u) ∧ wr.frozen? ⟨b, off + j, none⟩ = false) ∧ ∀ j, j < k → wr.cell? ⟨b, off + j, none⟩ = some (.string (mtext (m + j)))
theorem SMarked.step {b off len : Nat} {m : Int} {k : Nat} {w wr w1 : World} (h : SMarked b off len m k w wr) (hk : k < len) (hb : Below wr.heap.size wr w1) (hlt : b < wr.heap.size) : SMarked b off len m (k + 1) w (w1.setCell ⟨b, off + k, none⟩ (.string (mtext (m + k)))) := by
  obtain ⟨h1, h2, h3⟩ := h
  have hc : ∀ j, w1.cell? ⟨b, off + j, none⟩ = wr.cell? ⟨b, off + j, none⟩ := fun j => hb.cell (p := ⟨b, off + j, none⟩) hlt
  have hz : ∀ j, w1.frozen? ⟨b, off + j, none⟩ = wr.frozen? ⟨b, off + j, none⟩ := fun j => hb.frozen (p := ⟨b, off + j, none⟩) hlt
  have hs := hb.size
  refine ⟨⟨by show w1.os = _; rw [hb.os]; exact h1.os, by show w1.tape = _; rw [hb.tape]; exact h1.tape, by show w1.output = _; rw [hb.output]; exact h1.output, by have := h1.size; simp; omega, fun j hj hne => ?_⟩, fun j hj => ⟨?_, ?_⟩, fun j hj => ?_⟩
  · rw [Below.heap_setCell _ _ _ _ (fun e => hne (by rw [e])), hb.block j (Nat.lt_of_lt_of_le hj h1.size)]
    exact h1.block j hj hne
  · obtain ⟨u, hu⟩ := (h2 j hj).1
    exact cell?_setCell_some ((hc j).trans hu)
  · simpa using (hz j).trans (h2 j hj).2
  · by_cases e : j = k
    · subst e
      obtain ⟨u, hu⟩ := (h2 j hk).1
      exact scell_set_same ⟨u, (hc j).trans hu⟩
    · rw [scell_set_ne (by omega), hc j]
      exact h3 j (by omega)

set_option maxHeartbeats 1000000 in
theorem markStrs (ad : Option Addr) (len cap : Nat) (m : Int) (w : World) (hr : SRoom w ad len) (hl : len ≤ 2097152) (hm0 : 1 ≤ m) (hm1 : m ≤ 100000000000) :
    Calls Tryd.prog 30 #[.slice ad len cap, .int .i64 m] w fun e w' => e = .returned (.int .i64 (m + len)) ∧ SView w' ad len (fun i => mtext (m + i)) ∧ (w' = w ∨ ∃ a, ad = some a ∧ 0 < len ∧ w.grownBy w' (some a.block)) := by
  by_cases hz : len = 0
  · subst hz
    go_enter Tryd.func30, Tryd.ntmps30
    go_wp2
    refine wp_loop_rounds 1 ?_; rw [rounds_succ]
    go_wp2
    go_ret
    exact ⟨by simp, fun h => absurd h (by omega), .inl rfl⟩
  · obtain ⟨b, off, rfl, hc⟩ := hr (by omega)
    have M0 : SMarked b off len m 0 w w := ⟨⟨rfl, rfl, rfl, Nat.le_refl _, fun _ _ _ => rfl⟩, hc, fun j hj => absurd hj (by omega)⟩
    have hbw : b < w.heap.size := by obtain ⟨u, hu⟩ := (hc 0 (by omega)).1; exact World.block_lt_of_cell? w _ hu
    clear hc hr
    go_enter Tryd.func30, Tryd.ntmps30
    go_wp2
    go_loopw [1, 5] (fun q i wr => ∃ k : Nat, k ≤ len ∧ i = .int .i64 k ∧ q = .int .i64 (m + k) ∧ SMarked b off len m k w wr) (fun _ i _ => len - (intOf i).toNat)
    case atStart => exact ⟨0, Nat.zero_le _, rfl, by simp, M0⟩
    case round =>
      obtain ⟨k, hk, rfl, rfl, M⟩ := hrel
      clear M0
      have hbr : b < wr.heap.size := Nat.lt_of_lt_of_le hbw M.1.size
      by_cases hlt : k < len
      · go_wp2_with fail
        go_at_call 44
        refine (markText (m + k) wr (by omega) (by omega)).mono ?_
        rintro e w1 ⟨rfl, hb1⟩
        have M1 := M.step hlt hb1 hbr
        obtain ⟨u, hu⟩ := (M.2.1 k hlt).1
        have hu1 := (hb1.cell (p := ⟨b, off + k, none⟩) hbr).trans hu
        have hfz := (hb1.frozen (p := ⟨b, off + k, none⟩) hbr).trans (M.2.1 k hlt).2
        clear M hu hb1
        go_wp2
        go_roundw
        case rel => exact ⟨k + 1, by omega, by go_num, by go_num, M1⟩
        case measure => simp [intOf]; omega
      · obtain rfl : k = len := by omega
        go_wp2
        go_ret
        exact ⟨rfl, fun _ => ⟨b, off, rfl, M.2.2⟩, .inr ⟨_, rfl, by omega, M.1⟩⟩

set_option maxHeartbeats 1000000 in
theorem heldStrs (ad : Option Addr) (len cap : Nat) (m : Int) (w : World) (hv : SView w ad len (fun i => mtext (m + i))) (hl : len ≤ 2097152) (hm0 : 1 ≤ m) (hm1 : m ≤ 100000000000) :
    Calls Tryd.prog 31 #[.slice ad len cap, .int .i64 m] w fun e w' => e = .returned (.int .i64 (m + len)) ∧ Below w.heap.size w w' := by
  go_enter Tryd.func31, Tryd.ntmps31
  go_wp2
  go_loopw [1, 5] (fun q i wr => ∃ k : Nat, k ≤ len ∧ i = .int .i64 k ∧ q = .int .i64 (m + k) ∧ Below w.heap.size w wr) (fun _ i _ => len - (intOf i).toNat)
  case atStart => exact ⟨0, Nat.zero_le _, rfl, by simp, Below.refl _ _⟩
  case round =>
    obtain ⟨k, hk, rfl, rfl, hb⟩ := hrel
    by_cases hlt : k < len
    · obtain ⟨b, off, rfl, hc⟩ := hv (by omega)
      have hbw : b < w.heap.size := World.block_lt_of_cell? w _ (hc k hlt)
      have hck := (hb.cell (p := ⟨b, off + k, none⟩) hbw).trans (hc k hlt)
      have hbr : b < wr.heap.size := Nat.lt_of_lt_of_le hbw hb.size
      clear hc hv
      go_wp2_with fail
      go_region_with (go_at_call 44; refine (markText (m + k) _ (by omega) (by omega)).mono ?_; rintro e w1 ⟨rfl, hb1⟩; have hc1 := (hb1.cell (p := ⟨b, off + k, none⟩) hbr).trans hck)
      all_goals
        go_wp2
        go_roundw
        case rel => exact ⟨k + 1, by omega, by go_num, by go_num, hb.drew.trans (hb1.mono hb.size)⟩
        case measure => simp [intOf]; omega
    · obtain rfl : k = len := by omega
      go_wp2
      go_ret
      exact ⟨rfl, hb⟩

end Go.Proofs.YtpddgladbodkbaaDoor
