/- spec.CardOk, walked. -/
import Derived.Test.YtifndemkkaelaaaRows
import Derived.WalkKit
import Derived.ProofKit
import Derived.OpenShut
import Derived.ShutString
import Derived.ChangeOld
import Derived.Below
import Derived.Deep.QuietTactic
import Derived.BigQuiet
import Derived.WalkSmall
import Derived.Laws.OwnMore
import Derived.WalkSpells
import Derived.WalkLawsBesides
import Derived.Test.YtifndemkkaelaaaCard2
import Derived.Test.YtifndemkkaelaaaHeard7
import Derived.Test.YtifndemkkaelaaaNets5
import Derived.Test.YtifndemkkaelaaaTakes
namespace Go.Proofs.Ytifndemkkaelaaa
open Go.ChangeShapes Go.WideShapes Go.ChangeAt Go.RowKit
open Go.ChangeMaps (open_string shut_string)
set_option linter.unusedVariables false

/-- Whether one of the list is a member. -/
def okMem (d : Int × List Int) : Bool := mOk d.1 (fun i => d.2.getD i 0) d.2.length
/-- Whether it is a card. -/
def cOk (O : List Bool) (D : DL) (T : List Hd) : Bool := decide (1 ≤ O.length) && (decide (O.length ≤ 4) && (decide (D.length = O.length) && (D.all okMem && tokB T)))
theorem all_no {D : DL} {k : Nat} (hk : k < D.length) (h : okMem (D.getD k (0, [])) = false) : D.all okMem = false := by
  rw [List.all_eq_false]
  exact ⟨D.getD k (0, []), by simp [List.getD, List.getElem?_eq_getElem hk], by rw [h]; simp⟩
theorem all_yes {D : DL} (h : ∀ k, k < D.length → okMem (D.getD k (0, [])) = true) : D.all okMem = true := by
  rw [List.all_eq_true]
  intro d hd
  obtain ⟨i, hi, rfl⟩ := List.getElem_of_mem hd
  have := h i hi
  simpa [List.getD, List.getElem?_eq_getElem hi] using this
theorem siz_max (D : DL) (h : sizD D ≤ 1048576) (i : Nat) (hi : i < D.length) : (D.getD i (0, [])).2.length ≤ maxLen := by
  have := getD_siz hi
  unfold maxLen
  omega
set_option maxHeartbeats 2000000 in
theorem cardOkS (adO : Option Addr) (cO : Nat) (O : List Bool) (adM : Option Addr) (cM : Nat) (D : DL) (adT : Option Addr) (cT : Nat) (T : List Hd) (lo hi : Nat) (w : World) (I : CdV w lo hi adO O adM D adT T) (ht : hi ≤ w.heap.size) (hl : O.length + totD D + T.length ≤ 1048576) :
    Calls Try.prog 15 #[.agg #[.slice adO O.length cO, .slice adM D.length cM, .slice adT T.length cT]] w fun e w' => e = .returned (.bool (cOk O D T)) ∧ Below w.heap.size w w' := by
  obtain ⟨Ms, hD, vM, iM, jM⟩ := I.vM
  have hlen : D.length = Ms.length := by rw [← hD, List.length_map]
  have hget : ∀ i, D.getD i (0, []) = (Ms.getD i Mb.nil).d := fun i => by rw [← hD]; exact d_get Ms i
  have hts := tot_siz D
  have hmx : ∀ i, i < Ms.length → (Ms.getD i Mb.nil).L.length ≤ maxLen := fun i hi => by
    have := siz_max D (by omega) i (by omega)
    rw [hget i] at this
    exact this
  have iT : HIs adT T (· < w.heap.size) := fun a e p => by have := I.iT a e p; show a.block < _; omega
  have lT : T.length ≤ maxLen := by unfold maxLen; omega
  have vT := I.vT
  clear hts jM
  rw [hlen]
  obtain ⟨x0, hx⟩ : ∃ x, x = w.alloc (Obj.cells #[.slice adO O.length cO, .slice adM Ms.length cM, .slice adT T.length cT] 28) := ⟨_, rfl⟩
  have B0 : Below w.heap.size w x0 := by rw [hx]; exact below_box w _
  have A0 : CdAt x0 w.heap.size adO O.length cO adM Ms.length cM adT T.length cT := by rw [hx]; exact CdAt.box _ _ _ _ _ _ _ _ _ _ _
  have T0 : w.heap.size < x0.heap.size := A0.lt
  by_cases h1 : 1 ≤ (O.length : Int) ∧ (O.length : Int) ≤ 4
  rotate_left
  · have d1 : decide (1 ≤ (O.length : Int) ∧ (O.length : Int) ≤ 4) = false := decide_eq_false h1
    have hC : Hid (cOk O D T = false) := by
      unfold Hid cOk
      by_cases q : 1 ≤ O.length
      · rw [decide_eq_false (p := O.length ≤ 4) (by omega)]; simp
      · rw [decide_eq_false q]; rfl
    rw [hC.out]
    clear h1 hC
    go_enter Try.func15, Try.ntmps15
    go_wp2_with fail
    go_at_call 36
    rw [← hx]
    clear hx
    refine (inIs (O.length : Int) 1 4 x0).mono ?_
    rintro e w1 ⟨rfl, rfl⟩
    rw [d1]
    go_wp2
    go_ret
    exact ⟨rfl, B0⟩
  have d1 : decide (1 ≤ (O.length : Int) ∧ (O.length : Int) ≤ 4) = true := decide_eq_true h1
  by_cases h2 : Ms.length = O.length
  rotate_left
  · have d2 : ((Ms.length : Int) != (O.length : Int)) = true := by simp; omega
    have hC : Hid (cOk O D T = false) := by
      unfold Hid cOk
      rw [decide_eq_false (p := D.length = O.length) (by omega)]; simp
    rw [hC.out]
    clear h1 h2 hC
    go_enter Try.func15, Try.ntmps15
    go_wp2_with fail
    go_at_call 36
    rw [← hx]
    clear hx
    refine (inIs (O.length : Int) 1 4 x0).mono ?_
    rintro e w1 ⟨rfl, rfl⟩
    rw [d1]
    obtain ⟨C1, C2, C3⟩ := A0
    go_wp2
    go_ret
    exact ⟨rfl, B0⟩
  have d2 : ((Ms.length : Int) != (O.length : Int)) = false := by simp; omega
  by_cases h3 : tokB T = true
  rotate_left
  · have h3' : tokB T = false := by simpa using h3
    have hC : Hid (cOk O D T = false) := by unfold Hid cOk; rw [h3']; simp
    rw [hC.out]
    clear h1 h2 h3 hC
    go_enter Try.func15, Try.ntmps15
    go_wp2_with fail
    go_at_call 36
    rw [← hx]
    clear hx
    refine (inIs (O.length : Int) 1 4 x0).mono ?_
    rintro e w1 ⟨rfl, rfl⟩
    rw [d1]
    obtain ⟨C1, C2, C3⟩ := A0
    go_wp2_with fail
    go_at_call 37
    refine (okS adT cT T w1 (vT.below iT B0) lT (iT.le B0.size)).mono ?_
    rintro e w2 ⟨rfl, k2⟩
    rw [h3']
    go_wp2
    go_ret
    exact ⟨rfl, B0.trans (k2.mono B0.size)⟩
  have hC : Hid (cOk O D T = D.all okMem) := by
    unfold Hid cOk
    rw [decide_eq_true (p := 1 ≤ O.length) (by omega), decide_eq_true (p := O.length ≤ 4) (by omega), decide_eq_true (p := D.length = O.length) (by omega), h3]
    simp
  rw [hC.out]
  have hm2 : Ms.length ≤ 1048576 := by omega
  clear h1 h2 hC
  go_enter Try.func15, Try.ntmps15
  go_wp2_with fail
  go_at_call 36
  rw [← hx]
  clear hx
  refine (inIs (O.length : Int) 1 4 x0).mono ?_
  rintro e w1 ⟨rfl, rfl⟩
  rw [d1]
  have A0' := A0
  obtain ⟨C1, C2, C3⟩ := A0'
  go_wp2_with fail
  go_at_call 37
  refine (okS adT cT T w1 (vT.below iT B0) lT (iT.le B0.size)).mono ?_
  rintro e w2 ⟨rfl, k2⟩
  rw [h3]
  have B2 := B0.trans (k2.mono B0.size)
  have A2 := A0.below k2 T0
  have T2 : w.heap.size < w2.heap.size := A2.lt
  clear C1 C2 C3 A0 B0 T0 k2 d1 d2 h3
  go_wp2
  go_loopw [3] (fun i wr => ∃ k : Nat, i = .int .i64 (k : Int) ∧ k ≤ Ms.length ∧ Hid (∀ j, j < k → okMem (D.getD j (0, [])) = true) ∧ Below w.heap.size w wr ∧ CdAt wr w.heap.size adO O.length cO adM Ms.length cM adT T.length cT) (fun i _ => Ms.length - (intOf i).toNat)
  case atStart => exact ⟨0, rfl, Nat.zero_le _, fun j hj => absurd hj (by omega), B2, A2⟩
  case round =>
    obtain ⟨k, rfl, hk, hF, hb, hA⟩ := hrel
    clear A2 B2 T2
    have hA' := hA
    obtain ⟨C1, C2, C3⟩ := hA'
    by_cases hlt : k < Ms.length
    · obtain ⟨b, off, rfl, hc⟩ := vM.row (by omega)
      have hck := (hc k hlt).same (hb.block _ (vM.lt ⟨b, off, none⟩ rfl (by omega)))
      have hnk := ViewI.below (vM.nest k hlt) hb (Nat.le_refl _)
      have hmk := hmx k hlt
      have hgk := hget k
      obtain ⟨m, hh⟩ : ∃ m, Ms.getD k Mb.nil = m := ⟨_, rfl⟩
      rw [hh] at hck hnk hmk hgk
      obtain ⟨c1, c2⟩ := hck
      have hgk' : Hid (okMem (D.getD k (0, [])) = mOk m.o (fun i => m.L.getD i 0) m.L.length) := by unfold Hid; rw [hgk]; rfl
      clear hc hh hgk hget vM iM vT
      go_wp2_with fail
      go_at_call 38
      refine (memberOkS m.o m.ad m.L.length m.cap (fun i => m.L.getD i 0) wr hnk hmk).mono ?_
      rintro e w3 ⟨rfl, k3⟩
      have b3 := hb.trans (k3.mono hb.size)
      have a3 := hA.below k3 hA.lt
      by_cases hq : mOk m.o (fun i => m.L.getD i 0) m.L.length = true
      · rw [hq]
        clear C1 C2 C3
        go_wp2
        go_roundw
        case rel =>
          refine ⟨k + 1, by go_num, by omega, fun j hj => ?_, b3, a3⟩
          by_cases e : j = k
          · rw [e, hgk'.out]; exact hq
          · exact hF.out j (by omega)
        case measure => simp [intOf]; omega
      · have hq' : mOk m.o (fun i => m.L.getD i 0) m.L.length = false := by simpa using hq
        rw [hq']
        clear C1 C2 C3
        go_wp2
        go_ret
        exact ⟨by rw [all_no (D := D) (k := k) (by omega) (by rw [hgk'.out]; exact hq')]; rfl, b3⟩
    · obtain rfl : k = Ms.length := by omega
      go_wp2
      go_ret
      exact ⟨by rw [all_yes (D := D) (fun j hj => hF.out j (by omega))]; rfl, hb⟩

end Go.Proofs.Ytifndemkkaelaaa
