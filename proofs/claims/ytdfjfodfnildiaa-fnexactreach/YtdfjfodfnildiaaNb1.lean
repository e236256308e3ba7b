/- Lists of bridges: how they come in. -/
import Derived.Test.YtdfjfodfnildiaaRows
import Derived.WalkKit
import Derived.ProofKit
import Derived.OpenShut
import Derived.ShutString
import Derived.ChangeOld
import Derived.Below
import Derived.Deep.QuietTactic
import Derived.BigQuiet
import Derived.WalkSmall
import Derived.Laws.OwnMore
import Derived.WalkSpells
import Derived.WalkLawsBesides
import Derived.Deep.Slices
import Derived.Lib.SmallJoins
import Derived.Test.YtdfjfodfnildiaaNb0
import Derived.Test.YtdfjfodfnildiaaBr2
namespace Go.Proofs.Ytdfjfodfnildiaa
open Go.ChangeShapes Go.WideShapes Go.ChangeAt Go.RowKit
open Go.ChangeMaps (open_string shut_string)
set_option linter.unusedVariables false
set_option maxRecDepth 100000

set_option maxRecDepth 100000 in
theorem bdRow_open {H : Type} {enc : TypeId × Value → H} {w : World} {n0 : Nat} {v : Value} {x : DataW H × List MemPlace} (hn : DataW.trod enc Try.prog w 0 (fun _ => true) true n0 40 [v] = some x) :
    ∃ ad cap, ∃ Bs : List Bd, v = .slice ad Bs.length cap ∧ Bs.length ≤ maxLen ∧ NV w ad Bs ∧ (∀ i, i < Bs.length → (Bs.getD i Bd.nil).L.length ≤ maxLen) ∧ (ad = none → cap = 0) := by
  have hs := Go.Deep.open_slice Try.underlying40 hn
  have hcell : ∀ x, [v] = [x] → v = x := fun x h => by simpa using h
  rcases hs with ⟨hcs, _⟩ | ⟨a, len, cap, m, n, D, Pl, hcs, _, hl, hm, hmm, _, hx⟩
  · exact ⟨none, 0, [], hcell _ hcs, by simp, NV.nil, fun i h => absurd h (by simp), fun _ => rfl⟩
  · simp at hmm
    subst hmm
    have each : ∀ i, i < m → ∃ q : Bd, w.cell? (a.add (i * 2)) = some (.int .i64 q.id) ∧ w.cell? (a.add (i * 2 + 1)) = some (.slice q.ad q.L.length q.cap) ∧ FView ptEnc w q.ad q.L ∧ q.L.length ≤ maxLen ∧ (q.ad = none → q.cap = 0) := by
      intro i hi
      obtain ⟨cs', h1, h2⟩ := hx i hi
      rw [(by kernel_rfl : Try.prog.cellsOf 108 = 2)] at h1
      obtain ⟨_, hlen, hc⟩ := World.cells?_some h1
      obtain ⟨xs, k, hk, hxy, _, hxl, hf⟩ := DataW.trod_struct Try.underlying108 h2
      match xs, hxl, cs', hlen with
      | [y0, y1], _, [c0, c1], _ =>
        have g0 : DataW.trod enc Try.prog w 0 (fun _ => true) true k 3 ((List.drop 0 [c0, c1]).take (Try.prog.cellsOf 3)) = some y0 := hf 0 _ rfl
        have g1 : DataW.trod enc Try.prog w 0 (fun _ => true) true k 106 ((List.drop 1 [c0, c1]).take (Try.prog.cellsOf 106)) = some y1 := hf 1 _ rfl
        rw [(by kernel_rfl : Try.prog.cellsOf 3 = 1)] at g0
        rw [(by kernel_rfl : Try.prog.cellsOf 106 = 1)] at g1
        obtain ⟨z0, e0, _, w0⟩ := DataW.trod_int Try.underlying3 g0
        simp at e0
        subst e0
        have k0 := hc 0 (by omega)
        have k1 := hc 1 (by omega)
        rw [Go.Deep.add_add] at k0 k1
        obtain ⟨ad, cp, L, e1, hm, hV, hz⟩ := ptRow_open (by simpa using g1)
        subst e1
        exact ⟨⟨z0, ad, cp, L⟩, by simpa using k0, by simpa using k1, hV, hm, hz⟩
    haveI : Inhabited Bd := ⟨Bd.nil⟩
    obtain ⟨q, hq⟩ := Go.Deep.choose_lt each
    have hg : ∀ i, i < len → ((List.range len).map q).getD i Bd.nil = q i := fun i hi => by simp [List.getD, hi]
    refine ⟨some a, m, (List.range len).map q, by simpa using hcell _ hcs, by simpa using Nat.le_trans hl hm, ⟨fun hp => ?_, fun i hi => ?_, fun i hi => ?_⟩, fun i hi => ?_, fun e => by cases e⟩
    · simp at hp
      obtain ⟨b, off, spot⟩ := a
      have hspot : spot = none := by simpa [Addr.add] using World.cell?_spot (hq 0 (by omega)).1
      subst hspot
      refine ⟨b, off, rfl, fun j v hv => ?_⟩
      have hjl : j < len * 2 := by
        have := (List.getElem?_eq_some_iff.1 hv).1
        rw [fcells_len bdEnc_len] at this
        simpa using this
      have hi : j / 2 < len := by omega
      have hr : j % 2 < 2 := Nat.mod_lt _ (by omega)
      have e : j = j / 2 * 2 + j % 2 := by omega
      rw [e, fcells_at bdEnc_len Bd.nil _ _ _ (by simpa using hi) hr, hg _ hi] at hv
      obtain ⟨k0, k1, _⟩ := hq (j / 2) (by omega)
      simp only [add_plain] at k0 k1
      rw [e]
      generalize j % 2 = r at hv hr
      have hcase : r = 0 ∨ r = 1 := by omega
      rcases hcase with rfl | rfl
      · cases hv; simpa [Nat.add_assoc] using k0
      · cases hv; simpa [Nat.add_assoc] using k1
    · simp at hi
      rw [hg i hi]
      exact (hq i (by omega)).2.2.1
    · simp at hi
      rw [hg i hi]
      exact (hq i (by omega)).2.2.2.2
    · simp at hi
      rw [hg i hi]
      exact (hq i (by omega)).2.2.2.1
/-- How much the first j count. -/
def lTo (Bs : List Bd) : Nat → Nat
  | 0 => 0
  | j + 1 => lTo Bs j + (Bs.getD j Bd.nil).L.length
theorem lTo_mono (Bs : List Bd) {i j : Nat} (h : i ≤ j) : lTo Bs i ≤ lTo Bs j := by
  induction h with
  | refl => exact Nat.le_refl _
  | step _ ih => exact Nat.le_trans ih (by show _ ≤ lTo Bs _ + _; omega)
theorem getL_le (Bs : List Bd) {k : Nat} (h : k < Bs.length) : (Bs.getD k Bd.nil).L.length ≤ lTo Bs Bs.length :=
  Nat.le_trans (by show _ ≤ lTo Bs k + (Bs.getD k Bd.nil).L.length; omega) (lTo_mono Bs (i := k + 1) h)
set_option maxHeartbeats 1000000 in
theorem bdSz (ad : Option Addr) (cap : Nat) (Bs : List Bd) (l : Int) (w : World) (hv : NV w ad Bs) (hl0 : 0 ≤ l) (hl1 : l ≤ 1048576) (hm : Bs.length ≤ maxLen) (hms : ∀ i, i < Bs.length → (Bs.getD i Bd.nil).L.length ≤ maxLen) :
    Calls Try.prog 54 #[.slice ad Bs.length cap, .int .i64 l] w fun e w' => e = .returned (.int .i64 (if ((Bs.length + lTo Bs Bs.length : Nat) : Int) ≤ l then l - ((Bs.length + lTo Bs Bs.length : Nat) : Int) else -1)) ∧ Below w.heap.size w w' := by
  unfold maxLen at hm
  by_cases h0 : (Bs.length : Int) ≤ l
  rotate_left
  · have h1 : l - (Bs.length : Int) < 0 := by omega
    have hr : Hid ((if ((Bs.length + lTo Bs Bs.length : Nat) : Int) ≤ l then l - ((Bs.length + lTo Bs Bs.length : Nat) : Int) else -1) = (-1 : Int)) := if_neg (by omega)
    rw [hr.out]
    clear hr
    go_enter Try.func54, Try.ntmps54
    go_wp2
    go_ret
    exact ⟨rfl, Below.refl _ _⟩
  · have h1 : 0 ≤ l - (Bs.length : Int) := by omega
    have h1' : ¬ l - (Bs.length : Int) < 0 := by omega
    obtain ⟨R, hR⟩ : ∃ R, Hid ((if ((Bs.length + lTo Bs Bs.length : Nat) : Int) ≤ l then l - ((Bs.length + lTo Bs Bs.length : Nat) : Int) else -1) = R) := ⟨_, rfl⟩
    rw [hR.out]
    go_enter Try.func54, Try.ntmps54
    go_wp2
    go_loopw [1, 5] (fun q i wr => ∃ (k : Nat) (x : Int), k ≤ Bs.length ∧ i = .int .i64 k ∧ q = .int .i64 x ∧ Hid (x = l - (Bs.length : Int) - (lTo Bs k : Int)) ∧ 0 ≤ x ∧ x ≤ 1048576 ∧ Below w.heap.size w wr) (fun _ i _ => Bs.length - (intOf i).toNat)
    case atStart => exact ⟨0, l - (Bs.length : Int), Nat.zero_le _, rfl, rfl, by unfold Hid; simp [lTo], h1, by omega, Below.refl _ _⟩
    case round =>
      obtain ⟨k, x, hk, rfl, rfl, hx, hx0, hx1, hb⟩ := hrel
      clear h0 h1 h1'
      by_cases hlt : k < Bs.length
      · obtain ⟨b, off, rfl⟩ := hv.ad_ (by omega)
        have hck := (hv.below hb (Nat.le_refl _)).at_ hlt
        have hmk := hms k hlt
        have hnx : Hid (lTo Bs (k + 1) = lTo Bs k + (Bs.getD k Bd.nil).L.length) := rfl
        have hmo : Hid (lTo Bs (k + 1) ≤ lTo Bs Bs.length) := lTo_mono Bs (by omega)
        obtain ⟨m, hh⟩ : ∃ m, Bs.getD k Bd.nil = m := ⟨_, rfl⟩
        rw [hh] at hck hmk hnx
        obtain ⟨c1, c2⟩ := hck
        clear hv hms hh
        go_wp2_with fail
        go_at_call 80
        refine (brSz m.id m.ad m.L.length m.cap x wr hx0 hx1 hmk).mono ?_
        rintro e w2 ⟨rfl, k2⟩
        have b2 := hb.trans (k2.mono hb.size)
        by_cases hy : (m.L.length : Int) ≤ x
        · rw [if_pos hy]
          have hz : 0 ≤ x - (m.L.length : Int) := by omega
          have hz' : ¬ x - (m.L.length : Int) < 0 := by omega
          go_wp2
          go_roundw
          case rel => exact ⟨k + 1, x - (m.L.length : Int), by omega, by go_num, rfl, by have := hx.out; have := hnx.out; unfold Hid; omega, hz, by omega, b2⟩
          case measure => simp [intOf]; omega
        · rw [if_neg hy]
          go_wp2
          go_ret
          refine ⟨?_, b2⟩
          have h1 := hx.out
          have h2 := hnx.out
          have h3 := hmo.out
          rw [← hR.out, if_neg (by omega)]
          rfl
      · obtain rfl : k = Bs.length := by omega
        go_wp2
        go_ret
        refine ⟨?_, hb⟩
        have h1 := hx.out
        have h2 : x = l - ((Bs.length + lTo Bs Bs.length : Nat) : Int) := by omega
        rw [← hR.out, if_pos (by omega), ← h2]
        rfl

end Go.Proofs.Ytdfjfodfnildiaa
