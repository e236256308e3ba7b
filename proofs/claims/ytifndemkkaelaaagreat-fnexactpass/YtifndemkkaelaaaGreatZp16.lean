/- How a card comes in. Marks upon lists. -/
import Derived.Test.YtifndemkkaelaaaGreatRows
import Derived.WalkKit
import Derived.ProofKit
import Derived.OpenShut
import Derived.ShutString
import Derived.ChangeOld
import Derived.Below
import Derived.Deep.QuietTactic
import Derived.BigQuiet
import Derived.WalkSmall
import Derived.Laws.OwnMore
import Derived.WalkSpells
import Derived.WalkLawsBesides
import Derived.Lib.SmallJoins
import Derived.Deep.Grids
import Derived.Deep.Slices
import Derived.Test.YtifndemkkaelaaaGreatZpNest
import Derived.Test.YtifndemkkaelaaaGreatZpBools
import Derived.Test.YtifndemkkaelaaaGreatZp13
namespace Go.Proofs.YtifndemkkaelaaaGreat
open Go.ChangeShapes Go.WideShapes Go.ChangeAt Go.RowKit
open Go.ChangeMaps (open_string shut_string)
set_option linter.unusedVariables false
set_option maxRecDepth 100000

set_option maxRecDepth 100000 in
theorem heardRow_open {H : Type} {enc : TypeId × Value → H} {w : World} {n0 : Nat} {v : Value} {x : DataW H × List MemPlace} (hn : DataW.trod enc Tryz.prog w 0 (fun _ => true) true n0 54 [v] = some x) :
    ∃ ad cap L, v = .slice ad L.length cap ∧ HIn w ad L := by
  have hs := Go.Deep.open_slice Tryz.underlying54 hn
  have hcell : ∀ x, [v] = [x] → v = x := fun x h => by simpa using h
  rcases hs with ⟨hcs, _⟩ | ⟨a, len, cap, m, n, D, Pl, hcs, _, hl, hm, hmm, _, hx⟩
  · exact ⟨none, 0, [], hcell _ hcs, by simp, fun h => absurd h (by simp), fun a h => by simp at h, fun h hh => by simp at hh⟩
  · simp at hmm
    subst hmm
    have each : ∀ i, i < m → ∃ q : Hd, q.Wf ∧ w.cell? (a.add (i * 4)) = some (.int .i64 q.a) ∧ w.cell? (a.add (i * 4 + 1)) = some (.int .i64 q.v) ∧ w.cell? (a.add (i * 4 + 2)) = some (.int .i64 q.p) ∧ w.cell? (a.add (i * 4 + 3)) = some (.int .i64 q.l) := by
      intro i hi
      obtain ⟨cs', h1, h2⟩ := hx i hi
      rw [(by kernel_rfl : Tryz.prog.cellsOf 139 = 4)] at h1
      obtain ⟨_, hlen, hc⟩ := World.cells?_some h1
      obtain ⟨xs, k, hk, hxy, _, hxl, hf⟩ := DataW.trod_struct Tryz.underlying139 h2
      match xs, hxl, cs', hlen with
      | [y0, y1, y2, y3], _, [c0, c1, c2, c3], _ =>
        have hc3 : Tryz.prog.cellsOf 3 = 1 := by kernel_rfl
        have g0 : DataW.trod enc Tryz.prog w 0 (fun _ => true) true k 3 ((List.drop 0 [c0, c1, c2, c3]).take (Tryz.prog.cellsOf 3)) = some y0 := hf 0 _ rfl
        have g1 : DataW.trod enc Tryz.prog w 0 (fun _ => true) true k 3 ((List.drop 1 [c0, c1, c2, c3]).take (Tryz.prog.cellsOf 3)) = some y1 := hf 1 _ rfl
        have g2 : DataW.trod enc Tryz.prog w 0 (fun _ => true) true k 3 ((List.drop 2 [c0, c1, c2, c3]).take (Tryz.prog.cellsOf 3)) = some y2 := hf 2 _ rfl
        have g3 : DataW.trod enc Tryz.prog w 0 (fun _ => true) true k 3 ((List.drop 3 [c0, c1, c2, c3]).take (Tryz.prog.cellsOf 3)) = some y3 := hf 3 _ rfl
        rw [hc3] at g0 g1 g2 g3
        obtain ⟨z0, e0, _, w0⟩ := DataW.trod_int Tryz.underlying3 g0
        obtain ⟨z1, e1, _, w1⟩ := DataW.trod_int Tryz.underlying3 g1
        obtain ⟨z2, e2, _, w2⟩ := DataW.trod_int Tryz.underlying3 g2
        obtain ⟨z3, e3, _, w3⟩ := DataW.trod_int Tryz.underlying3 g3
        simp at e0 e1 e2 e3
        subst e0 e1 e2 e3
        have k0 := hc 0 (by omega)
        have k1 := hc 1 (by omega)
        have k2 := hc 2 (by omega)
        have k3 := hc 3 (by omega)
        rw [Go.Deep.add_add] at k0 k1 k2 k3
        exact ⟨⟨z0, z1, z2, z3⟩, ⟨w0, w1, w2, w3⟩, by simpa using k0, by simpa using k1, by simpa using k2, by simpa using k3⟩
    haveI : Inhabited Hd := ⟨Hd.nil⟩
    obtain ⟨q, hq⟩ := Go.Deep.choose_lt each
    refine ⟨some a, m, (List.range len).map q, by simpa using hcell _ hcs, by simpa using Nat.le_trans hl hm, fun hp => ?_, fun a' e hp => ?_, fun h hh => ?_⟩
    · simp at hp
      obtain ⟨b, off, spot⟩ := a
      have hspot : spot = none := by simpa [Addr.add] using World.cell?_spot (hq 0 (by omega)).2.1
      subst hspot
      refine ⟨b, off, rfl, fun i hi => ?_⟩
      simp at hi
      obtain ⟨_, k0, k1, k2, k3⟩ := hq i (by omega)
      rw [show ((List.range len).map q).getD i Hd.nil = q i by simp [List.getD, hi]]
      rw [add_plain] at k0 k1 k2 k3
      exact ⟨k0, by simpa [Nat.add_assoc] using k1, by simpa [Nat.add_assoc] using k2, by simpa [Nat.add_assoc] using k3⟩
    · obtain rfl : a = a' := by simpa using e
      simp at hp
      simpa [Addr.add] using World.block_lt_of_cell? w _ (hq 0 (by omega)).2.1
    · obtain ⟨i, hi, rfl⟩ := List.mem_map.1 hh
      exact (hq i (by have := List.mem_range.1 hi; omega)).1

theorem boolRow_open {H : Type} {enc : TypeId × Value → H} {w : World} {n0 : Nat} {v : Value} {x : DataW H × List MemPlace} (hn : DataW.trod enc Tryz.prog w 0 (fun _ => true) true n0 24 [v] = some x) :
    ∃ ad cap, ∃ O : List Bool, v = .slice ad O.length cap ∧ O.length ≤ maxLen ∧ ViewB w ad O.length (fun i => O.getD i false) := by
  rcases Go.Deep.open_bools Tryz.underlying24 Tryz.underlying4 (by kernel_rfl) hn with ⟨hcs, _⟩ | ⟨a, len, cap, B, hcs, _, hl, hm, _, hc⟩
  · exact ⟨none, 0, [], by simpa using hcs, by simp, fun h => absurd h (by simp)⟩
  · refine ⟨some a, cap, (List.range len).map B, by simpa using hcs, by simpa using Nat.le_trans hl hm, fun hp => ?_⟩
    simp at hp
    obtain ⟨b, off, spot⟩ := a
    have hspot : spot = none := by simpa [Addr.add] using World.cell?_spot (hc 0 (by omega))
    subst hspot
    refine ⟨b, off, rfl, fun i hi => ?_⟩
    simp at hi
    have := hc i (by omega)
    rw [add_plain] at this
    rw [this]
    simp [List.getD, hi]
set_option maxRecDepth 100000 in
theorem memRow_open {H : Type} {enc : TypeId × Value → H} {w : World} {n0 : Nat} {v : Value} {x : DataW H × List MemPlace} (hn : DataW.trod enc Tryz.prog w 0 (fun _ => true) true n0 53 [v] = some x) :
    ∃ ad cap, ∃ Ms : List Mb, v = .slice ad Ms.length cap ∧ Ms.length ≤ maxLen ∧ MbV w ad Ms ∧ ∀ i, i < Ms.length → (Ms.getD i Mb.nil).L.length ≤ maxLen := by
  have hs := Go.Deep.open_slice Tryz.underlying53 hn
  have hcell : ∀ x, [v] = [x] → v = x := fun x h => by simpa using h
  rcases hs with ⟨hcs, _⟩ | ⟨a, len, cap, m, n, D, Pl, hcs, _, hl, hm, hmm, _, hx⟩
  · exact ⟨none, 0, [], hcell _ hcs, by simp, ⟨fun h => absurd h (by simp), fun i h => absurd h (by simp), fun i h => absurd h (by simp)⟩, fun i h => absurd h (by simp)⟩
  · simp at hmm
    subst hmm
    have each : ∀ i, i < m → ∃ q : Mb, w.cell? (a.add (i * 2)) = some (.int .i64 q.o) ∧ w.cell? (a.add (i * 2 + 1)) = some (.slice q.ad q.L.length q.cap) ∧ MbL w q ∧ q.L.length ≤ maxLen ∧ (q.ad = none → q.cap = 0) := by
      intro i hi
      obtain ⟨cs', h1, h2⟩ := hx i hi
      rw [(by kernel_rfl : Tryz.prog.cellsOf 136 = 2)] at h1
      obtain ⟨_, hlen, hc⟩ := World.cells?_some h1
      obtain ⟨xs, k, hk, hxy, _, hxl, hf⟩ := DataW.trod_struct Tryz.underlying136 h2
      match xs, hxl, cs', hlen with
      | [y0, y1], _, [c0, c1], _ =>
        have hc3 : Tryz.prog.cellsOf 3 = 1 := by kernel_rfl
        have hc4 : Tryz.prog.cellsOf 48 = 1 := by kernel_rfl
        have g0 : DataW.trod enc Tryz.prog w 0 (fun _ => true) true k 3 ((List.drop 0 [c0, c1]).take (Tryz.prog.cellsOf 3)) = some y0 := hf 0 _ rfl
        have g1 : DataW.trod enc Tryz.prog w 0 (fun _ => true) true k 48 ((List.drop 1 [c0, c1]).take (Tryz.prog.cellsOf 48)) = some y1 := hf 1 _ rfl
        rw [hc3] at g0
        rw [hc4] at g1
        obtain ⟨z0, e0, _, w0⟩ := DataW.trod_int Tryz.underlying3 g0
        simp at e0
        subst e0
        have k0 := hc 0 (by omega)
        have k1 := hc 1 (by omega)
        rw [Go.Deep.add_add] at k0 k1
        rcases open_ints Tryz.underlying48 Tryz.underlying3 (by kernel_rfl) g1 with ⟨hcs, _⟩ | ⟨x, l, cp, zs, hcs, _, hl, hm, hz, _, hcell, hwz⟩
        · simp at hcs
          subst hcs
          exact ⟨⟨z0, none, 0, []⟩, by simpa using k0, by simpa using k1, fun h => absurd h (by simp), by simp, fun _ => rfl⟩
        · simp at hcs
          subst hcs
          simp at hz
          refine ⟨⟨z0, some x, cp, (List.range l).map (fun i => zs.getD i 0)⟩, by simpa using k0, by simpa using k1, fun hp => ?_, by simp; omega, fun e => by cases e⟩
          simp at hp
          obtain ⟨b, off, rfl, hce⟩ := ints_at hcell (by omega)
          refine ⟨b, off, rfl, fun i hi => ?_⟩
          simp at hi
          rw [hce i (by omega)]
          simp [List.getD, hi]
    haveI : Inhabited Mb := ⟨Mb.nil⟩
    obtain ⟨q, hq⟩ := Go.Deep.choose_lt each
    have hg : ∀ i, i < len → ((List.range len).map q).getD i Mb.nil = q i := fun i hi => by simp [List.getD, hi]
    refine ⟨some a, m, (List.range len).map q, by simpa using hcell _ hcs, by simpa using Nat.le_trans hl hm, ⟨fun hp => ?_, fun i hi => ?_, fun i hi => ?_⟩, fun i hi => ?_⟩
    · simp at hp
      obtain ⟨b, off, spot⟩ := a
      have hspot : spot = none := by simpa [Addr.add] using World.cell?_spot (hq 0 (by omega)).1
      subst hspot
      refine ⟨b, off, rfl, fun i hi => ?_⟩
      simp at hi
      obtain ⟨k0, k1, _⟩ := hq i (by omega)
      rw [hg i hi]
      rw [add_plain] at k0 k1
      exact ⟨k0, by simpa [Nat.add_assoc] using k1⟩
    · simp at hi
      rw [hg i hi]
      exact (hq i (by omega)).2.2.1
    · simp at hi
      rw [hg i hi]
      exact (hq i (by omega)).2.2.2.2
    · simp at hi
      rw [hg i hi]
      exact (hq i (by omega)).2.2.2.1
/-- What is known of a card that comes in. -/
structure CardIn (w : World) (adO : Option Addr) (O : List Bool) (adM : Option Addr) (Ms : List Mb) (adT : Option Addr) (T : List Hd) : Prop where
  mO : O.length ≤ maxLen
  vO : ViewB w adO O.length (fun i => O.getD i false)
  mM : Ms.length ≤ maxLen
  vM : MbV w adM Ms
  mMs : ∀ i, i < Ms.length → (Ms.getD i Mb.nil).L.length ≤ maxLen
  hT : HIn w adT T
set_option maxRecDepth 100000 in
theorem cardIn_open {H : Type} {enc : TypeId × Value → H} {w : World} {r : Reach} {b0 : Nat} {v : Value} {d : DataW H} {p : List MemPlace} (hv : Value.okWide Tryz.prog w r b0 56 v) (h : DataW.Trod enc Tryz.prog w 0 (fun _ => true) true 56 v d p) :
    ∃ adO capO O adM capM Ms adT capT T, v = .agg #[.slice adO (List.length O) capO, .slice adM (List.length Ms) capM, .slice adT (List.length T) capT] ∧ CardIn w adO O adM Ms adT T := by
  obtain ⟨v0, v1, v2, y0, y1, y2, n, rfl, _, _, h0, h1, h2⟩ := Go.Joins.open_agg3 Tryz.underlying56 (by kernel_rfl) (by kernel_rfl) hv h
  obtain ⟨adO, capO, O, rfl, mO, vO⟩ := boolRow_open h0
  obtain ⟨adM, capM, Ms, rfl, mM, vM, mMs⟩ := memRow_open h1
  obtain ⟨adT, capT, T, rfl, hT⟩ := heardRow_open h2
  exact ⟨adO, capO, O, adM, capM, Ms, adT, capT, T, rfl, mO, vO, mM, vM, mMs, hT⟩

end Go.Proofs.YtifndemkkaelaaaGreat
namespace Go.Proofs.YtifndemkkaelaaaGreat
open Go.ChangeShapes Go.WideShapes Go.ChangeAt Go.RowKit
open Go.ChangeMaps (open_string shut_string)
set_option linter.unusedVariables false

/-- The marks that markHeardS lays. -/
def mkH (m : Int) (i : Nat) : Hd := ⟨m + 4 * (i : Int), m + 4 * (i : Int) + 1, m + 4 * (i : Int) + 2, m + 4 * (i : Int) + 3⟩
def mksH (m : Int) (n : Nat) : List Hd := (List.range n).map (mkH m)
theorem mksH_len (m : Int) (n : Nat) : (mksH m n).length = n := by simp [mksH]
theorem mksH_at (m : Int) {n i : Nat} (h : i < n) : (mksH m n).getD i Hd.nil = mkH m i := by simp [mksH, List.getD, h]
/-- What markHeardS has done behind k rounds. -/
def HMk (m : Int) (b off len : Nat) (k : Nat) (w wr : World) : Prop :=
  w.grownBy wr (some b) ∧ (∀ j, j < len * 4 → (∃ u, wr.cell? ⟨b, off + j, none⟩ = some u) ∧ wr.frozen? ⟨b, off + j, none⟩ = false) ∧ ∀ j, j < k → HAt wr b (off + j * 4) (mkH m j)
theorem grown_put4 {w wr : World} {b : Nat} (h : w.grownBy wr (some b)) (o : Nat) (x : Hd) : w.grownBy (World.put4 wr b o x) (some b) := by
  refine ⟨h.os, h.tape, h.output, by rw [size_put4]; exact h.size, fun j hj hne => ?_⟩
  have hn : j ≠ b := fun e => hne (by rw [e])
  unfold World.put4
  rw [Below.heap_setCell _ _ _ _ hn, Below.heap_setCell _ _ _ _ hn, Below.heap_setCell _ _ _ _ hn, Below.heap_setCell _ _ _ _ hn]
  exact h.block j hj hne
theorem HMk.step {m : Int} {b off len k : Nat} {w wr : World} (h : HMk m b off len k w wr) (hk : k < len) : HMk m b off len (k + 1) w (World.put4 wr b (off + k * 4) (mkH m k)) := by
  obtain ⟨h1, h2, h3⟩ := h
  refine ⟨grown_put4 h1 _ _, fun j hj => ⟨cell_put4_some (h2 j hj).1, by rw [frozen_put4]; exact (h2 j hj).2⟩, fun j hj => ?_⟩
  by_cases e : j = k
  · subst e
    exact hat_put4 fun i hi => by rw [Nat.add_assoc]; exact (h2 _ (by omega)).1
  · obtain ⟨q0, q1, q2, q3⟩ := h3 j (by omega)
    exact ⟨(cell_put4_ne (by omega)).trans q0, (cell_put4_ne (by omega)).trans q1, (cell_put4_ne (by omega)).trans q2, (cell_put4_ne (by omega)).trans q3⟩
set_option maxHeartbeats 1000000 in
theorem markHG (ad : Option Addr) (len cap : Nat) (m : Int) (w : World) (hr : HRoom w ad len) (hl : len ≤ 1048576) (hm0 : 0 ≤ m) (hm1 : m ≤ 1000000000000) :
    Calls Tryz.prog 77 #[.slice ad len cap, .int .i64 m] w fun e w' => e = .returned (.int .i64 (m + 4 * (len : Int))) ∧ HView w' ad (mksH m len) ∧ HRoom w' ad len ∧ (w' = w ∨ ∃ a, ad = some a ∧ 0 < len ∧ w.grownBy w' (some a.block)) := by
  by_cases hz : len = 0
  · subst hz
    go_enter Tryz.func77, Tryz.ntmps77
    go_wp2
    refine wp_loop_rounds 1 ?_; rw [rounds_succ]
    go_wp2
    go_ret
    exact ⟨by simp, fun h => absurd h (by simp [mksH]), fun h => absurd h (by omega), .inl rfl⟩
  · obtain ⟨b, off, rfl, hc⟩ := hr (by omega)
    have M0 : HMk m b off len 0 w w := ⟨⟨rfl, rfl, rfl, Nat.le_refl _, fun _ _ _ => rfl⟩, hc, fun j hj => absurd hj (by omega)⟩
    clear hc hr
    go_enter Tryz.func77, Tryz.ntmps77
    go_wp2
    go_loopw [1, 5] (fun q i wr => ∃ k : Nat, k ≤ len ∧ i = .int .i64 k ∧ q = .int .i64 (m + 4 * (k : Int)) ∧ HMk m b off len k w wr) (fun _ i _ => len - (intOf i).toNat)
    case atStart => exact ⟨0, Nat.zero_le _, rfl, by simp, M0⟩
    case round =>
      obtain ⟨k, hk, rfl, rfl, M⟩ := hrel
      clear M0
      by_cases hlt : k < len
      · obtain ⟨u0, hu0⟩ := (M.2.1 (k * 4) (by omega)).1
        obtain ⟨u1, hu1⟩ := (M.2.1 (k * 4 + 1) (by omega)).1
        obtain ⟨u2, hu2⟩ := (M.2.1 (k * 4 + 2) (by omega)).1
        obtain ⟨u3, hu3⟩ := (M.2.1 (k * 4 + 3) (by omega)).1
        have f0 := (M.2.1 (k * 4) (by omega)).2
        have f1 := (M.2.1 (k * 4 + 1) (by omega)).2
        have f2 := (M.2.1 (k * 4 + 2) (by omega)).2
        have f3 := (M.2.1 (k * 4 + 3) (by omega)).2
        simp only [← Nat.add_assoc] at hu0 hu1 hu2 hu3 f0 f1 f2 f3
        have M1 := M.step hlt
        unfold World.put4 mkH at M1
        clear M
        go_wp2
        go_roundw
        case rel => exact ⟨k + 1, by omega, by go_num, by go_num, by simpa [Int.add_assoc] using M1⟩
        case measure => simp [intOf]; omega
      · obtain rfl : k = len := by omega
        go_wp2
        go_ret
        exact ⟨rfl, fun _ => ⟨b, off, rfl, fun i hi => by rw [mksH_len] at hi; rw [mksH_at m hi]; exact M.2.2 i hi⟩, fun _ => ⟨b, off, rfl, M.2.1⟩, .inr ⟨_, rfl, by omega, M.1⟩⟩
set_option maxHeartbeats 1000000 in
theorem heldHG (ad : Option Addr) (len cap : Nat) (m : Int) (w : World) (hv : HView w ad (mksH m len)) (hl : len ≤ 1048576) (hm0 : 0 ≤ m) (hm1 : m ≤ 1000000000000) :
    Calls Tryz.prog 81 #[.slice ad len cap, .int .i64 m] w fun e w' => e = .returned (.int .i64 (m + 4 * (len : Int))) ∧ w' = w := by
  go_enter Tryz.func81, Tryz.ntmps81
  go_wp2
  go_loop [1, 5] (fun q i => ∃ k : Nat, k ≤ len ∧ i = .int .i64 k ∧ q = .int .i64 (m + 4 * (k : Int))) (fun _ i => len - (intOf i).toNat)
  case atStart => exact ⟨0, Nat.zero_le _, rfl, by simp⟩
  case round =>
    obtain ⟨k, hk, rfl, rfl⟩ := hrel
    by_cases hlt : k < len
    · obtain ⟨b, off, rfl, hc⟩ := hv (by rw [mksH_len]; omega)
      have hck := hc k (by rw [mksH_len]; exact hlt)
      rw [mksH_at m hlt] at hck
      obtain ⟨c1, c2, c3, c4⟩ := hck
      simp only [mkH] at c1 c2 c3 c4
      clear hc hv
      go_wp2
      go_round
      case rel => exact ⟨k + 1, by omega, by go_num, by go_num⟩
      case measure => simp [intOf]; omega
    · obtain rfl : k = len := by omega
      go_wp2
      go_ret
      exact ⟨rfl, rfl⟩

end Go.Proofs.YtifndemkkaelaaaGreat
