/- The small functions over lists of members that the laws call. -/
import Derived.Test.YtifndemkkaelaaaGreatRows
import Derived.WalkKit
import Derived.ProofKit
import Derived.OpenShut
import Derived.ShutString
import Derived.ChangeOld
import Derived.Below
import Derived.Deep.QuietTactic
import Derived.BigQuiet
import Derived.WalkSmall
import Derived.Laws.OwnMore
import Derived.WalkSpells
import Derived.WalkLawsBesides
import Derived.Test.YtifndemkkaelaaaGreatZpCardOwn
import Derived.Test.YtifndemkkaelaaaGreatZp7
import Derived.Test.YtifndemkkaelaaaGreatZp2
namespace Go.Proofs.YtifndemkkaelaaaGreat
open Go.ChangeShapes Go.WideShapes Go.ChangeAt Go.RowKit
open Go.ChangeMaps (open_string shut_string)
set_option linter.unusedVariables false
set_option maxRecDepth 100000

set_option maxHeartbeats 400000 in
theorem heldInts (ad : Option Addr) (len cap : Nat) (m : Int) (w : World) (hv : ViewI w ad len (fun i => m + (i : Int))) (hl : len ≤ 1048576) (hm0 : 0 ≤ m) (hm1 : m ≤ 1000000000000) :
    Calls Tryz.prog 116 #[.slice ad len cap, .int .i64 m] w fun e w' => e = .returned (.int .i64 (m + len)) ∧ w' = w := by
  go_enter Tryz.func116, Tryz.ntmps116
  go_wp2
  go_loop [1, 5] (fun q i => ∃ k : Nat, k ≤ len ∧ i = .int .i64 k ∧ q = .int .i64 (m + k)) (fun _ i => len - (intOf i).toNat)
  case atStart => exact ⟨0, Nat.zero_le _, rfl, by simp⟩
  case round =>
    obtain ⟨k, hk, rfl, rfl⟩ := hrel
    by_cases hlt : k < len
    · obtain ⟨b, off, rfl, hc⟩ := hv (by omega)
      have hck := hc k hlt
      go_wp2
      go_round
      case rel => exact ⟨k + 1, by omega, by go_num, by go_num⟩
      case measure => simp [intOf]; omega
    · obtain rfl : k = len := by omega
      go_wp2
      go_ret
      exact ⟨rfl, rfl⟩
theorem getL_le (Ms : List Mb) {k : Nat} (h : k < Ms.length) : (Ms.getD k Mb.nil).L.length ≤ lTo Ms Ms.length :=
  Nat.le_trans (by show _ ≤ lTo Ms k + (Ms.getD k Mb.nil).L.length; omega) (lTo_mono Ms (i := k + 1) h)
theorem Tryz.info50' : (Tryz.prog.info? 50).map (fun i => (i.zero, i.size, i.bytes)) = some (some (.agg #[.int .i64 0, .slice none 0 0]), 2, 32) := by kernel_rfl
set_option maxHeartbeats 1000000 in
theorem szMs (ad : Option Addr) (cap : Nat) (Ms : List Mb) (l : Int) (w : World) (hv : MbV w ad Ms) (hl0 : 0 ≤ l) (hl1 : l ≤ 1048576) (hm : Ms.length ≤ maxLen) (hms : ∀ i, i < Ms.length → (Ms.getD i Mb.nil).L.length ≤ maxLen) :
    Calls Tryz.prog 63 #[.slice ad Ms.length cap, .int .i64 l] w fun e w' => e = .returned (.int .i64 (if ((Ms.length + lTo Ms Ms.length : Nat) : Int) ≤ l then l - ((Ms.length + lTo Ms Ms.length : Nat) : Int) else -1)) ∧ Below w.heap.size w w' := by
  unfold maxLen at hm
  by_cases h0 : (Ms.length : Int) ≤ l
  rotate_left
  · have h1 : l - (Ms.length : Int) < 0 := by omega
    have hr : Hid ((if ((Ms.length + lTo Ms Ms.length : Nat) : Int) ≤ l then l - ((Ms.length + lTo Ms Ms.length : Nat) : Int) else -1) = (-1 : Int)) := if_neg (by omega)
    rw [hr.out]
    clear hr
    go_enter Tryz.func63, Tryz.ntmps63
    go_wp2
    go_ret
    exact ⟨rfl, Below.refl _ _⟩
  · have h1 : 0 ≤ l - (Ms.length : Int) := by omega
    have h1' : ¬ l - (Ms.length : Int) < 0 := by omega
    obtain ⟨R, hR⟩ : ∃ R, Hid ((if ((Ms.length + lTo Ms Ms.length : Nat) : Int) ≤ l then l - ((Ms.length + lTo Ms Ms.length : Nat) : Int) else -1) = R) := ⟨_, rfl⟩
    rw [hR.out]
    go_enter Tryz.func63, Tryz.ntmps63
    go_wp2
    go_loopw [1, 5] (fun q i wr => ∃ (k : Nat) (x : Int), k ≤ Ms.length ∧ i = .int .i64 k ∧ q = .int .i64 x ∧ Hid (x = l - (Ms.length : Int) - (lTo Ms k : Int)) ∧ 0 ≤ x ∧ x ≤ 1048576 ∧ Below w.heap.size w wr) (fun _ i _ => Ms.length - (intOf i).toNat)
    case atStart => exact ⟨0, l - (Ms.length : Int), Nat.zero_le _, rfl, rfl, by unfold Hid; simp [lTo], h1, by omega, Below.refl _ _⟩
    case round =>
      obtain ⟨k, x, hk, rfl, rfl, hx, hx0, hx1, hb⟩ := hrel
      clear h0 h1 h1'
      by_cases hlt : k < Ms.length
      · obtain ⟨b, off, rfl, hc⟩ := hv.row (by omega)
        have hck := (hc k hlt).same (hb.block _ (hv.lt ⟨b, off, none⟩ rfl (by omega)))
        have hmk := hms k hlt
        have hnx : Hid (lTo Ms (k + 1) = lTo Ms k + (Ms.getD k Mb.nil).L.length) := rfl
        have hmo : Hid (lTo Ms (k + 1) ≤ lTo Ms Ms.length) := lTo_mono Ms (by omega)
        obtain ⟨m, hh⟩ : ∃ m, Ms.getD k Mb.nil = m := ⟨_, rfl⟩
        rw [hh] at hck hmk hnx
        obtain ⟨c1, c2⟩ := hck
        clear hc hv hms hh
        go_wp2_with fail
        go_at_call 110
        refine (szM m.o m.ad m.L.length m.cap x wr hx0 hx1 hmk).mono ?_
        rintro e w2 ⟨rfl, k2⟩
        have b2 := hb.trans (k2.mono hb.size)
        by_cases hy : (m.L.length : Int) ≤ x
        · rw [if_pos hy]
          have hz : 0 ≤ x - (m.L.length : Int) := by omega
          have hz' : ¬ x - (m.L.length : Int) < 0 := by omega
          go_wp2
          go_roundw
          case rel => exact ⟨k + 1, x - (m.L.length : Int), by omega, by go_num, rfl, by have := hx.out; have := hnx.out; unfold Hid; omega, hz, by omega, b2⟩
          case measure => simp [intOf]; omega
        · rw [if_neg hy]
          go_wp2
          go_ret
          refine ⟨?_, b2⟩
          have h1 := hx.out
          have h2 := hnx.out
          have h3 := hmo.out
          rw [← hR.out, if_neg (by omega)]
          rfl
      · obtain rfl : k = Ms.length := by omega
        go_wp2
        go_ret
        refine ⟨?_, hb⟩
        have h1 := hx.out
        have h2 : x = l - ((Ms.length + lTo Ms Ms.length : Nat) : Int) := by omega
        rw [← hR.out, if_pos (by omega), ← h2]
        rfl
theorem mbf_made {w w1 : World} {Ms : List Mb} {Ns : Nat → Nat} {xs : List Value} (hown : w1.ownsRow w.heap.size 50 2 (.slice (some ⟨w.heap.size, 0, none⟩) Ms.length Ms.length) Ms.length xs) (hgrow : w.grownBy w1 none) : MbF w.heap.size Ms Ns 0 w w1 := by
  refine ⟨(Below.refl _ _).grown hgrow (Nat.le_refl _) (by simp), ?_, ?_, ?_, fun j hj => by omega, fun j hj => by omega, fun j hj => by omega, fun j hj => by omega, fun i j _ hj => by omega⟩
  · rcases hown.2 with ⟨h, _⟩ | ⟨g, cap, cur, h, _, hg, _⟩
    · simp at h
    · simp only [Value.slice.injEq, Option.some.injEq, Addr.mk.injEq, and_true, true_and] at h
      obtain ⟨rfl, _⟩ := h
      exact (Array.getElem?_eq_some_iff.1 hg).1
  · intro j hj
    have hx := hown.1
    rw [hown.cellAt j (by omega)]
    exact ⟨xs[j]'(by omega), List.getElem?_eq_getElem (by omega)⟩
  · intro j hj
    exact hown.frozenAt j
set_option maxHeartbeats 1000000 in
theorem toMs (ad : Option Addr) (cap : Nat) (Ms : List Mb) (w : World) (hv : MbV w ad Ms) (hl : Ms.length ≤ 1048576) (hls : ∀ i, i < Ms.length → (Ms.getD i Mb.nil).L.length ≤ 1048576) :
    Calls Tryz.prog 67 #[.slice ad Ms.length cap] w fun e w' => ∃ Ns, e = .returned (.slice (some ⟨w.heap.size, 0, none⟩) Ms.length Ms.length) ∧ MbF w.heap.size Ms Ns Ms.length w w' := by
  obtain ⟨i0, hi, hz0, hz1, hz2⟩ := info_parts Tryz.info50'
  go_enter Tryz.func67, Tryz.ntmps67
  go_wp2_with (first | (refine wpList_make_full _ rfl _ _ 25 rfl w.heap.size 50 i0 (.agg #[.int .i64 0, .slice none 0 0]) 2 Tryz.underlying25 hi hz0 hz1 .i64 .i64 _ _ Ms.length rfl rfl rfl rfl ?c1 ?c2 ?c3 ?_))
  case c1 => rw [hz2]; omega
  case c2 => unfold maxLen; omega
  case c3 => exact Nat.le_refl _
  intro w1 hown hgrow
  have F0 : MbF w.heap.size Ms (fun _ => 0) 0 w w1 := mbf_made hown hgrow
  clear hown hgrow
  go_wp2
  go_loopw [4] (fun i wr => ∃ (k : Nat) (Ns : Nat → Nat), k ≤ Ms.length ∧ i = .int .i64 k ∧ MbF w.heap.size Ms Ns k w wr) (fun i _ => Ms.length - (intOf i).toNat)
  case atStart => exact ⟨0, _, Nat.zero_le _, rfl, F0⟩
  case round =>
    obtain ⟨k, Ns, hk, rfl, F⟩ := hrel
    clear F0
    by_cases hlt : k < Ms.length
    · obtain ⟨b, off, rfl, hc⟩ := hv.row (by omega)
      have hck := (hc k hlt).same (F.bel.block _ (hv.lt ⟨b, off, none⟩ rfl (by omega)))
      have hnk := ViewI.below (hv.nest k hlt) F.bel (Nat.le_refl _)
      have hlk := hls k hlt
      have hs := F.bel.size
      have st := fun (w2 : World) (N : Nat) (G : MbF w.heap.size Ms Ns k w w2) (h1 : wr.heap.size ≤ N) (h2 : N < w2.heap.size) => G.step (N := N) hlt ⟨by have := F.lt; omega, h2⟩ (fun j hj => by have := (F.nb j hj).2; omega)
      obtain ⟨m, hh⟩ : ∃ m, Ms.getD k Mb.nil = m := ⟨_, rfl⟩
      rw [hh] at hck hnk hlk
      simp only [hh] at st
      obtain ⟨c1, c2⟩ := hck
      clear hc hv hls hh
      go_wp2_with fail
      go_at_call 111
      refine (toM m.o m.ad m.L.length m.cap (fun i => m.L.getD i 0) wr hnk hlk).mono ?_
      rintro e w2 ⟨N, rfl, n1, n2, v2, r2, k2⟩
      have G := F.later k2
      have G1 := st w2 N G n1 n2 v2 r2
      obtain ⟨u0, hu0⟩ := G.cells (k * 2) (by omega)
      obtain ⟨u1, hu1⟩ := G.cells (k * 2 + 1) (by omega)
      have f0 := G.fz (k * 2) (by omega)
      have f1 := G.fz (k * 2 + 1) (by omega)
      clear F G st v2 r2 hnk
      go_wp2
      go_roundw
      case rel => exact ⟨k + 1, _, by omega, by go_num, G1⟩
      case measure => simp [intOf]; omega
    · obtain rfl : k = Ms.length := by omega
      go_wp2
      go_ret
      exact ⟨Ns, rfl, F⟩
set_option maxHeartbeats 1000000 in
theorem eqMs (ad ad' : Option Addr) (cap cap' : Nat) (Ms Ms' : List Mb) (w : World) (hv : MbV w ad Ms) (hv' : MbV w ad' Ms') (hd : Ms'.map Mb.d = Ms.map Mb.d) (hl : Ms.length ≤ 1048576) (hls : ∀ i, i < Ms.length → (Ms.getD i Mb.nil).L.length ≤ 1048576) :
    Calls Tryz.prog 71 #[.slice ad Ms.length cap, .slice ad' Ms'.length cap'] w fun e w' => e = .returned (.bool true) ∧ Below w.heap.size w w' := by
  have hlen : Ms'.length = Ms.length := by have := congrArg List.length hd; simpa using this
  have hsame : ∀ i, (Ms'.getD i Mb.nil).o = (Ms.getD i Mb.nil).o ∧ (Ms'.getD i Mb.nil).L = (Ms.getD i Mb.nil).L := fun i => by
    have := congrArg (fun D => D.getD i (0, [])) hd
    simp only [d_get] at this
    simpa [Mb.d] using this
  rw [hlen]
  go_enter Tryz.func71, Tryz.ntmps71
  go_wp2
  go_loopw [5] (fun i wr => ∃ k : Nat, k ≤ Ms.length ∧ i = .int .i64 k ∧ Below w.heap.size w wr) (fun i _ => Ms.length - (intOf i).toNat)
  case atStart => exact ⟨0, Nat.zero_le _, rfl, Below.refl _ _⟩
  case round =>
    obtain ⟨k, hk, rfl, hb⟩ := hrel
    by_cases hlt : k < Ms.length
    · obtain ⟨b, off, rfl, hc0⟩ := hv.row (by omega)
      obtain ⟨b', off', rfl, hc0'⟩ := hv'.row (by omega)
      have hlk := hls k hlt
      have hn : ∀ Y, Below w.heap.size w Y → MbL Y (Ms.getD k Mb.nil) := fun Y hY => ViewI.below (hv.nest k hlt) hY (Nat.le_refl _)
      have hn' : ∀ Y, Below w.heap.size w Y → MbL Y (Ms'.getD k Mb.nil) := fun Y hY => ViewI.below (hv'.nest k (by omega)) hY (Nat.le_refl _)
      have hc : ∀ Y, Below w.heap.size w Y → MbAt Y b (off + k * 2) (Ms.getD k Mb.nil) := fun Y hY => (hc0 k hlt).same (hY.block _ (hv.lt ⟨b, off, none⟩ rfl (by omega)))
      have hc' : ∀ Y, Below w.heap.size w Y → MbAt Y b' (off' + k * 2) (Ms'.getD k Mb.nil) := fun Y hY => (hc0' k (by omega)).same (hY.block _ (hv'.lt ⟨b', off', none⟩ rfl (by omega)))
      obtain ⟨e1, e2⟩ := hsame k
      obtain ⟨m, hh⟩ : ∃ m, Ms.getD k Mb.nil = m := ⟨_, rfl⟩
      obtain ⟨m', hh'⟩ : ∃ m, Ms'.getD k Mb.nil = m := ⟨_, rfl⟩
      rw [hh] at e1 e2 hlk
      rw [hh'] at e1 e2
      simp only [hh] at hn hc
      simp only [hh'] at hn' hc'
      unfold MbL at hn hn'
      unfold MbAt at hc hc'
      rw [e1, e2] at hc'
      rw [e2] at hn'
      clear hh hh' hc0 hc0' hv hv' hsame hls hd hlen e1 e2
      go_wp2_with fail
      refine wp_region_held (S := fun Y => Below w.heap.size w Y) (by kernel_rfl) ?_
      change wpAnyH _ _ _ _ _ _ _ _ (World.drew _)
      have hb0 : Below w.heap.size w wr.drew := hb.drew
      refine takeW 0 17 (.slice (some ⟨b, off, none⟩) Ms.length cap) rfl rfl (by kernel_rfl) (by kernel_rfl) (by kernel_rfl) (fun _ _ _ h => h) (by kernel_rfl) (by (intro w hSw; go_simp)) (by assumption) ?_
      simp only [List.set_cons_zero, List.set_cons_succ]
      refine takeW 1 18 (.int .i64 k) rfl rfl (by kernel_rfl) (by kernel_rfl) (by kernel_rfl) (fun _ _ _ h => h) (by kernel_rfl) (by (intro w hSw; go_simp)) (by assumption) ?_
      simp only [List.set_cons_zero, List.set_cons_succ]
      refine takeW 2 19 (.pointer (some ⟨b, off + k * 2, none⟩)) rfl rfl (by kernel_rfl) (by kernel_rfl) (by kernel_rfl) (fun _ _ _ h => h) (by kernel_rfl) (by (intro Y hSw; go_simp; try omega)) (by assumption) ?_
      simp only [List.set_cons_zero, List.set_cons_succ]
      refine takeW 3 20 (.agg #[.int .i64 m.o, .slice m.ad m.L.length m.cap]) rfl rfl (by kernel_rfl) (by kernel_rfl) (by kernel_rfl) (fun _ _ _ h => h) (by kernel_rfl) (by (intro Y hSw; obtain ⟨X1, X2⟩ := hc Y hSw; go_simp)) (by assumption) ?_
      simp only [List.set_cons_zero, List.set_cons_succ]
      refine takeW 4 21 (.slice (some ⟨b', off', none⟩) Ms.length cap') rfl rfl (by kernel_rfl) (by kernel_rfl) (by kernel_rfl) (fun _ _ _ h => h) (by kernel_rfl) (by (intro w hSw; go_simp)) (by assumption) ?_
      simp only [List.set_cons_zero, List.set_cons_succ]
      refine takeW 5 22 (.int .i64 k) rfl rfl (by kernel_rfl) (by kernel_rfl) (by kernel_rfl) (fun _ _ _ h => h) (by kernel_rfl) (by (intro w hSw; go_simp)) (by assumption) ?_
      simp only [List.set_cons_zero, List.set_cons_succ]
      refine takeW 6 23 (.pointer (some ⟨b', off' + k * 2, none⟩)) rfl rfl (by kernel_rfl) (by kernel_rfl) (by kernel_rfl) (fun _ _ _ h => h) (by kernel_rfl) (by (intro Y hSw; go_simp; try omega)) (by assumption) ?_
      simp only [List.set_cons_zero, List.set_cons_succ]
      refine takeW 7 24 (.agg #[.int .i64 m.o, .slice m'.ad m.L.length m'.cap]) rfl rfl (by kernel_rfl) (by kernel_rfl) (by kernel_rfl) (fun _ _ _ h => h) (by kernel_rfl) (by (intro Y hSw; obtain ⟨X1, X2⟩ := hc' Y hSw; go_simp)) (by assumption) ?_
      simp only [List.set_cons_zero, List.set_cons_succ]
      refine wpAnyH_all (rs := [8]) (by kernel_rfl) (by simp) ?_
      intro i hi; obtain rfl : i = 8 := by simpa using hi
      refine wpOp_step rfl (fun K hK => ?_)
      rw [if_pos (by kernel_rfl)]
      go_simp
      go_at_call 113
      refine (eqM m.o m.ad m'.ad m.L.length m.cap m'.cap (fun i => m.L.getD i 0) _ (hn _ hb0) (hn' _ hb0) hlk).mono ?_
      rintro e y1 ⟨rfl, j1⟩
      have hb1 : Below w.heap.size w y1 := hb0.trans (j1.mono hb0.size)
      refine hK _ _ ⟨hb1, ?_⟩
      clear hK K hi
      refine takeW 9 26 (.bool false) rfl rfl (by kernel_rfl) (by kernel_rfl) (by kernel_rfl) (fun _ _ _ h => h) (by kernel_rfl) (by (intro w hSw; go_simp)) (by assumption) ?_
      simp only [List.set_cons_zero, List.set_cons_succ]
      refine wpAnyH_done (by kernel_rfl) ?_ _
      go_wp2
      go_roundw
      case rel => exact ⟨k + 1, by omega, by go_num, hb1⟩
      case measure => simp [intOf]; omega
    · obtain rfl : k = Ms.length := by omega
      go_wp2
      go_ret
      exact ⟨rfl, hb⟩
set_option maxHeartbeats 1000000 in
theorem markMs (ad : Option Addr) (cap : Nat) (Ms : List Mb) (fp : List Nat) (k0 : Int) (w : World) (hv : MbW w ad Ms fp) (hl : Ms.length ≤ 1048576) (hls : lTo Ms Ms.length ≤ 1048576) (hk0 : 0 ≤ k0) (hk1 : k0 ≤ 100000000) :
    Calls Tryz.prog 76 #[.slice ad Ms.length cap, .int .i64 k0] w fun e w' => e = .returned (.int .i64 (k0 + (kTo Ms Ms.length : Int))) ∧ MbW w' ad (marksM Ms k0 Ms.length) fp ∧ KeptF fp w w' := by
  by_cases hz : Ms.length = 0
  · obtain rfl : Ms = [] := List.eq_nil_of_length_eq_zero hz
    go_enter Tryz.func76, Tryz.ntmps76
    go_wp2
    refine wp_loop_rounds 1 ?_; rw [rounds_succ]
    go_wp2
    go_ret
    exact ⟨by simp [kTo], hv, KeptF.refl _ _⟩
  · obtain ⟨b, off, rfl, _⟩ := hv.view.row (by omega)
    have M0 : MbW w (some ⟨b, off, none⟩) (marksM Ms k0 0) fp := by rw [marks_zero]; exact hv
    clear hv
    go_enter Tryz.func76, Tryz.ntmps76
    go_wp2
    go_loopw [1, 5] (fun q i wr => ∃ (k : Nat) (x : Int), k ≤ Ms.length ∧ i = .int .i64 k ∧ q = .int .i64 x ∧ Hid (x = k0 + (kTo Ms k : Int)) ∧ MbW wr (some ⟨b, off, none⟩) (marksM Ms k0 k) fp ∧ KeptF fp w wr) (fun _ i _ => Ms.length - (intOf i).toNat)
    case atStart => exact ⟨0, k0, Nat.zero_le _, rfl, rfl, by unfold Hid; simp [kTo], M0, KeptF.refl _ _⟩
    case round =>
      obtain ⟨k, x, hk, rfl, rfl, hx, M, K⟩ := hrel
      clear M0
      by_cases hlt : k < Ms.length
      · have hb1 : Hid (kTo Ms (k + 1) ≤ kTo Ms Ms.length) := kTo_mono Ms (by omega)
        have hb2 : Hid (kTo Ms Ms.length = Ms.length + lTo Ms Ms.length) := kTo_lTo Ms _
        have hb3 : Hid (kTo Ms (k + 1) = kTo Ms k + 1 + (Ms.getD k Mb.nil).L.length) := rfl
        have hx0 : 0 ≤ x := by have := hx.out; omega
        have hx1 : x ≤ 1000000000 := by have := hx.out; have := hb1.out; have := hb2.out; have := hb3.out; omega
        have hlk : (Ms.getD k Mb.nil).L.length ≤ 1048576 := Nat.le_trans (getL_le Ms hlt) hls
        obtain ⟨b', off', eb, hc⟩ := M.view.row (by rw [marks_length]; omega)
        cases eb
        have hck := hc k (by rw [marks_length]; omega)
        have hrk := M.rooms k (by rw [marks_length]; omega)
        rw [marks_get Ms k0 k hlt, if_neg (by omega)] at hck hrk
        obtain ⟨b', off', eb, hr⟩ := M.room (by rw [marks_length]; omega)
        cases eb
        have fz := (hr (k * 2) (by rw [marks_length]; omega)).2
        have hap := fun y => M.apart k (by rw [marks_length]; omega) ⟨b, off, none⟩ y rfl
        rw [marks_ad Ms k0 k hlt, marks_len Ms k0 k hlt] at hap
        have st := fun w2 => M.markStep (w2 := w2) hlt
        rw [← hx.out] at st
        obtain ⟨m, hh⟩ : ∃ m, Ms.getD k Mb.nil = m := ⟨_, rfl⟩
        rw [hh] at hck hrk hlk hap hb3
        simp only [hh] at st
        obtain ⟨c1, c2⟩ := hck
        have hsr : Room (wr.setCell ⟨b, off + k * 2, none⟩ (.int .i64 x)) m.ad m.L.length := hrk.carry (fun y e hp => Below.heap_setCell _ _ _ _ (hap y e hp))
        have c2' : (wr.setCell ⟨b, off + k * 2, none⟩ (.int .i64 x)).cell? ⟨b, off + k * 2 + 1, none⟩ = some (.slice m.ad m.L.length m.cap) := by rw [cell_set_ne (by omega)]; exact c2
        clear hh hc hr hrk hap M
        go_wp2_with fail
        go_at_call 115
        refine (markInts m.ad m.L.length m.cap (x + 1) _ hsr hlk (by omega) (by omega)).mono ?_
        rintro e w2 ⟨rfl, v2, r2, g2⟩
        obtain ⟨M1, K1⟩ := st w2 g2 v2 r2
        go_wp2
        go_roundw
        case rel => exact ⟨k + 1, x + 1 + (m.L.length : Int), by omega, by go_num, rfl, by have := hx.out; have := hb3.out; unfold Hid; omega, M1, K.trans K1⟩
        case measure => simp [intOf]; omega
      · obtain rfl : k = Ms.length := by omega
        go_wp2
        go_ret
        exact ⟨by rw [← hx.out]; rfl, M, K⟩
theorem marks_held (Ms : List Mb) (k0 : Int) : ∀ i, i < (marksM Ms k0 Ms.length).length → ((marksM Ms k0 Ms.length).getD i Mb.nil).o = k0 + (kTo (marksM Ms k0 Ms.length) i : Int) ∧ ((marksM Ms k0 Ms.length).getD i Mb.nil).L = seqI (k0 + (kTo (marksM Ms k0 Ms.length) i : Int) + 1) ((marksM Ms k0 Ms.length).getD i Mb.nil).L.length := fun i hi => by
  rw [marks_length] at hi
  rw [kTo_marks Ms k0 _ i (by omega), marks_len Ms k0 _ hi, marks_get Ms k0 _ hi, if_pos hi]
  exact ⟨rfl, rfl⟩
set_option maxHeartbeats 1000000 in
theorem heldMs (ad : Option Addr) (cap : Nat) (Ms : List Mb) (k0 : Int) (w : World) (hv : MbV w ad Ms) (hM : ∀ i, i < Ms.length → (Ms.getD i Mb.nil).o = k0 + (kTo Ms i : Int) ∧ (Ms.getD i Mb.nil).L = seqI (k0 + (kTo Ms i : Int) + 1) (Ms.getD i Mb.nil).L.length) (hl : Ms.length ≤ 1048576) (hls : lTo Ms Ms.length ≤ 1048576) (hk0 : 0 ≤ k0) (hk1 : k0 ≤ 100000000) :
    Calls Tryz.prog 80 #[.slice ad Ms.length cap, .int .i64 k0] w fun e w' => e = .returned (.int .i64 (k0 + (kTo Ms Ms.length : Int))) ∧ w' = w := by
  go_enter Tryz.func80, Tryz.ntmps80
  go_wp2
  go_loop [1, 5] (fun q i => ∃ (k : Nat) (x : Int), k ≤ Ms.length ∧ i = .int .i64 k ∧ q = .int .i64 x ∧ Hid (x = k0 + (kTo Ms k : Int))) (fun _ i => Ms.length - (intOf i).toNat)
  case atStart => exact ⟨0, k0, Nat.zero_le _, rfl, rfl, by unfold Hid; simp [kTo]⟩
  case round =>
    obtain ⟨k, x, hk, rfl, rfl, hx⟩ := hrel
    by_cases hlt : k < Ms.length
    · have hb1 : Hid (kTo Ms (k + 1) ≤ kTo Ms Ms.length) := kTo_mono Ms (by omega)
      have hb2 : Hid (kTo Ms Ms.length = Ms.length + lTo Ms Ms.length) := kTo_lTo Ms _
      have hb3 : Hid (kTo Ms (k + 1) = kTo Ms k + 1 + (Ms.getD k Mb.nil).L.length) := rfl
      have hx0 : 0 ≤ x := by have := hx.out; omega
      have hx1 : x ≤ 1000000000 := by have := hx.out; have := hb1.out; have := hb2.out; have := hb3.out; omega
      have hlk : (Ms.getD k Mb.nil).L.length ≤ 1048576 := Nat.le_trans (getL_le Ms hlt) hls
      obtain ⟨b, off, rfl, hc⟩ := hv.row (by omega)
      have hck := hc k hlt
      have hnk : ViewI w (Ms.getD k Mb.nil).ad (Ms.getD k Mb.nil).L.length (fun i => x + 1 + (i : Int)) := ViewI.congr (hv.nest k hlt) (fun i hi => by
        have h2 := (hM k hlt).2
        rw [h2, seqI_get _ (by omega), hx.out])
      have ho := (hM k hlt).1
      rw [← hx.out] at ho
      obtain ⟨m, hh⟩ : ∃ m, Ms.getD k Mb.nil = m := ⟨_, rfl⟩
      rw [hh] at hck hnk hlk ho hb3
      obtain ⟨c1, c2⟩ := hck
      rw [ho] at c1
      have hneg : ¬ x + 1 + (m.L.length : Int) < 0 := by omega
      clear hh hc hv hM ho
      go_wp2_with fail
      go_at_call 116
      refine (heldInts m.ad m.L.length m.cap (x + 1) _ hnk hlk (by omega) (by omega)).mono ?_
      rintro e w2 ⟨rfl, rfl⟩
      go_wp2
      go_round
      case rel => exact ⟨k + 1, x + 1 + (m.L.length : Int), by omega, by go_num, rfl, by have := hx.out; have := hb3.out; unfold Hid; omega⟩
      case measure => simp [intOf]; omega
    · obtain rfl : k = Ms.length := by omega
      go_wp2
      go_ret
      exact ⟨by rw [← hx.out]; rfl, rfl⟩

end Go.Proofs.YtifndemkkaelaaaGreat
