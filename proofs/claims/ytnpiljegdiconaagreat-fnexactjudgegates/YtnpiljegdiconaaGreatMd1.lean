/- Lists of minders: how they come in, how long. -/
import Derived.Test.YtnpiljegdiconaaGreatRows
import Derived.WalkKit
import Derived.ProofKit
import Derived.OpenShut
import Derived.ShutString
import Derived.ChangeOld
import Derived.Below
import Derived.Deep.QuietTactic
import Derived.BigQuiet
import Derived.WalkSmall
import Derived.Laws.OwnMore
import Derived.WalkSpells
import Derived.WalkLawsBesides
import Derived.Deep.Slices
import Derived.Lib.SmallJoins
import Derived.Test.YtnpiljegdiconaaGreatMd0
import Derived.Test.YtnpiljegdiconaaGreatMi2
namespace Go.Proofs.YtnpiljegdiconaaGreat
open Go.ChangeShapes Go.WideShapes Go.ChangeAt Go.RowKit
open Go.ChangeMaps (open_string shut_string)
set_option linter.unusedVariables false
set_option maxRecDepth 100000

set_option maxRecDepth 100000 in
theorem mdRow_open {H : Type} {enc : TypeId × Value → H} {w : World} {n0 : Nat} {v : Value} {x : DataW H × List MemPlace} (hn : DataW.trod enc Tryz.prog w 0 (fun _ => true) true n0 65 [v] = some x) :
    ∃ ad cap, ∃ Bs : List MiD, v = .slice ad Bs.length cap ∧ Bs.length ≤ maxLen ∧ MV w ad Bs ∧ (∀ i, i < Bs.length → (Bs.getD i MiD.nil).m.lg.length ≤ maxLen) ∧ (ad = none → cap = 0) ∧ Bs.length ≤ cap := by
  have hs := Go.Deep.open_slice Tryz.underlying65 hn
  have hcell : ∀ x, [v] = [x] → v = x := fun x h => by simpa using h
  rcases hs with ⟨hcs, _⟩ | ⟨a, len, cap, m, n, D, Pl, hcs, _, hl, hm, hmm, _, hx⟩
  · exact ⟨none, 0, [], hcell _ hcs, by simp, MV.nil, fun i h => absurd h (by simp), fun _ => rfl, Nat.le_refl _⟩
  · simp at hmm
    subst hmm
    have each : ∀ i, i < m → ∃ q : MiD, w.cell? (a.add (i * 7)) = some (.bool q.m.up) ∧ w.cell? (a.add (i * 7 + 1)) = some (.int .i64 q.m.li) ∧ w.cell? (a.add (i * 7 + 2)) = some (.int .i64 q.m.ep) ∧ w.cell? (a.add (i * 7 + 3)) = some (.slice q.ad q.m.lg.length q.cap) ∧ w.cell? (a.add (i * 7 + 4)) = some (.int .i64 q.m.sd) ∧ w.cell? (a.add (i * 7 + 5)) = some (.int .i64 q.m.ac) ∧ w.cell? (a.add (i * 7 + 6)) = some (.int .i64 q.m.al) ∧ FView ikEnc w q.ad q.m.lg ∧ q.m.lg.length ≤ maxLen ∧ (q.ad = none → q.cap = 0) := by
      intro i hi
      obtain ⟨cs', h1, h2⟩ := hx i hi
      rw [(by kernel_rfl : Tryz.prog.cellsOf 191 = 7)] at h1
      obtain ⟨_, hlen, hc⟩ := World.cells?_some h1
      obtain ⟨xs, k, hk, hxy, _, hxl, hf⟩ := DataW.trod_struct Tryz.underlying191 h2
      match xs, hxl, cs', hlen with
      | [y0, y1, y2, y3, y4, y5, y6], _, [c0, c1, c2, c3, c4, c5, c6], _ =>
        have g0 : DataW.trod enc Tryz.prog w 0 (fun _ => true) true k 4 ((List.drop 0 [c0, c1, c2, c3, c4, c5, c6]).take (Tryz.prog.cellsOf 4)) = some y0 := hf 0 _ rfl
        rw [(by kernel_rfl : Tryz.prog.cellsOf 4 = 1)] at g0
        have g1 : DataW.trod enc Tryz.prog w 0 (fun _ => true) true k 3 ((List.drop 1 [c0, c1, c2, c3, c4, c5, c6]).take (Tryz.prog.cellsOf 3)) = some y1 := hf 1 _ rfl
        rw [(by kernel_rfl : Tryz.prog.cellsOf 3 = 1)] at g1
        have g2 : DataW.trod enc Tryz.prog w 0 (fun _ => true) true k 3 ((List.drop 2 [c0, c1, c2, c3, c4, c5, c6]).take (Tryz.prog.cellsOf 3)) = some y2 := hf 2 _ rfl
        rw [(by kernel_rfl : Tryz.prog.cellsOf 3 = 1)] at g2
        have g3 : DataW.trod enc Tryz.prog w 0 (fun _ => true) true k 67 ((List.drop 3 [c0, c1, c2, c3, c4, c5, c6]).take (Tryz.prog.cellsOf 67)) = some y3 := hf 3 _ rfl
        rw [(by kernel_rfl : Tryz.prog.cellsOf 67 = 1)] at g3
        have g4 : DataW.trod enc Tryz.prog w 0 (fun _ => true) true k 3 ((List.drop 4 [c0, c1, c2, c3, c4, c5, c6]).take (Tryz.prog.cellsOf 3)) = some y4 := hf 4 _ rfl
        rw [(by kernel_rfl : Tryz.prog.cellsOf 3 = 1)] at g4
        have g5 : DataW.trod enc Tryz.prog w 0 (fun _ => true) true k 3 ((List.drop 5 [c0, c1, c2, c3, c4, c5, c6]).take (Tryz.prog.cellsOf 3)) = some y5 := hf 5 _ rfl
        rw [(by kernel_rfl : Tryz.prog.cellsOf 3 = 1)] at g5
        have g6 : DataW.trod enc Tryz.prog w 0 (fun _ => true) true k 3 ((List.drop 6 [c0, c1, c2, c3, c4, c5, c6]).take (Tryz.prog.cellsOf 3)) = some y6 := hf 6 _ rfl
        rw [(by kernel_rfl : Tryz.prog.cellsOf 3 = 1)] at g6
        obtain ⟨z0, e0, _⟩ := DataW.trod_bool Tryz.underlying4 g0
        obtain ⟨z1, e1, _, _⟩ := DataW.trod_int Tryz.underlying3 g1
        obtain ⟨z2, e2, _, _⟩ := DataW.trod_int Tryz.underlying3 g2
        obtain ⟨z4, e4, _, _⟩ := DataW.trod_int Tryz.underlying3 g4
        obtain ⟨z5, e5, _, _⟩ := DataW.trod_int Tryz.underlying3 g5
        obtain ⟨z6, e6, _, _⟩ := DataW.trod_int Tryz.underlying3 g6
        simp at e0 e1 e2 e4 e5 e6
        subst e0 e1 e2 e4 e5 e6
        have k0 := hc 0 (by omega)
        have k1 := hc 1 (by omega)
        have k2 := hc 2 (by omega)
        have k3 := hc 3 (by omega)
        have k4 := hc 4 (by omega)
        have k5 := hc 5 (by omega)
        have k6 := hc 6 (by omega)
        rw [Go.Deep.add_add] at k0 k1 k2 k3 k4 k5 k6
        obtain ⟨ad, cp, L, e3, hm, hV, hz⟩ := ikRow_open (by simpa using g3)
        subst e3
        exact ⟨⟨⟨z0, z1, z2, L, z4, z5, z6⟩, ad, cp⟩, by simpa using k0, by simpa using k1, by simpa using k2, by simpa using k3, by simpa using k4, by simpa using k5, by simpa using k6, hV, hm, hz⟩
    haveI : Inhabited MiD := ⟨MiD.nil⟩
    obtain ⟨q, hq⟩ := Go.Deep.choose_lt each
    have hg : ∀ i, i < len → ((List.range len).map q).getD i MiD.nil = q i := fun i hi => by simp [List.getD, hi]
    refine ⟨some a, m, (List.range len).map q, by simpa using hcell _ hcs, by simpa using Nat.le_trans hl hm, ⟨fun hp => ?_, fun i hi => ?_, fun i hi => ?_⟩, fun i hi => ?_, (fun e => by cases e), by simpa using hl⟩
    · simp at hp
      obtain ⟨b, off, spot⟩ := a
      have hspot : spot = none := by simpa [Addr.add] using World.cell?_spot (hq 0 (by omega)).1
      subst hspot
      refine ⟨b, off, rfl, fun j v hv => ?_⟩
      have hjl : j < len * 7 := by
        have := (List.getElem?_eq_some_iff.1 hv).1
        rw [fcells_len mdEnc_len] at this
        simpa using this
      have hi : j / 7 < len := by omega
      have hr : j % 7 < 7 := Nat.mod_lt _ (by omega)
      have e : j = j / 7 * 7 + j % 7 := by omega
      rw [e, fcells_at mdEnc_len MiD.nil _ _ _ (by simpa using hi) hr, hg _ hi] at hv
      obtain ⟨k0, k1, k2, k3, k4, k5, k6, _⟩ := hq (j / 7) (by omega)
      simp only [add_plain] at k0 k1 k2 k3 k4 k5 k6
      rw [e]
      generalize j % 7 = r at hv hr
      have hcase : r = 0 ∨ r = 1 ∨ r = 2 ∨ r = 3 ∨ r = 4 ∨ r = 5 ∨ r = 6 := by omega
      rcases hcase with rfl | rfl | rfl | rfl | rfl | rfl | rfl
      · cases hv; simpa [Nat.add_assoc] using k0
      · cases hv; simpa [Nat.add_assoc] using k1
      · cases hv; simpa [Nat.add_assoc] using k2
      · cases hv; simpa [Nat.add_assoc] using k3
      · cases hv; simpa [Nat.add_assoc] using k4
      · cases hv; simpa [Nat.add_assoc] using k5
      · cases hv; simpa [Nat.add_assoc] using k6
    · simp at hi
      rw [hg i hi]
      exact (hq i (by omega)).2.2.2.2.2.2.2.1
    · simp at hi
      rw [hg i hi]
      exact (hq i (by omega)).2.2.2.2.2.2.2.2.2
    · simp at hi
      rw [hg i hi]
      exact (hq i (by omega)).2.2.2.2.2.2.2.2.1
/-- How much the first j count. -/
def lToM (Bs : List MiD) : Nat → Nat
  | 0 => 0
  | j + 1 => lToM Bs j + (Bs.getD j MiD.nil).m.lg.length
theorem lToM_mono (Bs : List MiD) {i j : Nat} (h : i ≤ j) : lToM Bs i ≤ lToM Bs j := by
  induction h with
  | refl => exact Nat.le_refl _
  | step _ ih => exact Nat.le_trans ih (by show _ ≤ lToM Bs _ + _; omega)
theorem getLM_le (Bs : List MiD) {k : Nat} (h : k < Bs.length) : (Bs.getD k MiD.nil).m.lg.length ≤ lToM Bs Bs.length :=
  Nat.le_trans (by show _ ≤ lToM Bs k + (Bs.getD k MiD.nil).m.lg.length; omega) (lToM_mono Bs (i := k + 1) h)
set_option maxHeartbeats 1000000 in
theorem mdSz (ad : Option Addr) (cap : Nat) (Bs : List MiD) (l : Int) (w : World) (hv : MV w ad Bs) (hl0 : 0 ≤ l) (hl1 : l ≤ 1048576) (hm : Bs.length ≤ maxLen) (hms : ∀ i, i < Bs.length → (Bs.getD i MiD.nil).m.lg.length ≤ maxLen) :
    Calls Tryz.prog 105 #[.slice ad Bs.length cap, .int .i64 l] w fun e w' => e = .returned (.int .i64 (if ((Bs.length + lToM Bs Bs.length : Nat) : Int) ≤ l then l - ((Bs.length + lToM Bs Bs.length : Nat) : Int) else -1)) ∧ Below w.heap.size w w' := by
  unfold maxLen at hm
  by_cases h0 : (Bs.length : Int) ≤ l
  rotate_left
  · have h1 : l - (Bs.length : Int) < 0 := by omega
    have hr : Hid ((if ((Bs.length + lToM Bs Bs.length : Nat) : Int) ≤ l then l - ((Bs.length + lToM Bs Bs.length : Nat) : Int) else -1) = (-1 : Int)) := if_neg (by omega)
    rw [hr.out]
    clear hr
    go_enter Tryz.func105, Tryz.ntmps105
    go_wp2
    go_ret
    exact ⟨rfl, Below.refl _ _⟩
  · have h1 : 0 ≤ l - (Bs.length : Int) := by omega
    have h1' : ¬ l - (Bs.length : Int) < 0 := by omega
    obtain ⟨R, hR⟩ : ∃ R, Hid ((if ((Bs.length + lToM Bs Bs.length : Nat) : Int) ≤ l then l - ((Bs.length + lToM Bs Bs.length : Nat) : Int) else -1) = R) := ⟨_, rfl⟩
    rw [hR.out]
    go_enter Tryz.func105, Tryz.ntmps105
    go_wp2
    go_loopw [1, 5] (fun q i wr => ∃ (k : Nat) (x : Int), k ≤ Bs.length ∧ i = .int .i64 k ∧ q = .int .i64 x ∧ Hid (x = l - (Bs.length : Int) - (lToM Bs k : Int)) ∧ 0 ≤ x ∧ x ≤ 1048576 ∧ Below w.heap.size w wr) (fun _ i _ => Bs.length - (intOf i).toNat)
    case atStart => exact ⟨0, l - (Bs.length : Int), Nat.zero_le _, rfl, rfl, by unfold Hid; simp [lToM], h1, by omega, Below.refl _ _⟩
    case round =>
      obtain ⟨k, x, hk, rfl, rfl, hx, hx0, hx1, hb⟩ := hrel
      clear h0 h1 h1'
      by_cases hlt : k < Bs.length
      · obtain ⟨b, off, rfl⟩ := hv.ad_ (by omega)
        have hck := (hv.below hb (Nat.le_refl _)).at_ hlt
        have hmk := hms k hlt
        have hnx : Hid (lToM Bs (k + 1) = lToM Bs k + (Bs.getD k MiD.nil).m.lg.length) := rfl
        have hmo : Hid (lToM Bs (k + 1) ≤ lToM Bs Bs.length) := lToM_mono Bs (by omega)
        obtain ⟨m, hh⟩ : ∃ m, Bs.getD k MiD.nil = m := ⟨_, rfl⟩
        rw [hh] at hck hmk hnx
        obtain ⟨c0, c1, c2, c3, c4, c5, c6⟩ := hck
        clear hv hms hh
        go_wp2_with fail
        go_at_call 160
        refine (miSz m.m m.ad m.cap x wr hx0 hx1 hmk).mono ?_
        rintro e w2 ⟨rfl, k2⟩
        have b2 := hb.trans (k2.mono hb.size)
        by_cases hy : (m.m.lg.length : Int) ≤ x
        · rw [if_pos hy]
          have hz : 0 ≤ x - (m.m.lg.length : Int) := by omega
          have hz' : ¬ x - (m.m.lg.length : Int) < 0 := by omega
          go_wp2
          go_roundw
          case rel => exact ⟨k + 1, x - (m.m.lg.length : Int), by omega, by go_num, rfl, by have := hx.out; have := hnx.out; unfold Hid; omega, hz, by omega, b2⟩
          case measure => simp [intOf]; omega
        · rw [if_neg hy]
          go_wp2
          go_ret
          refine ⟨?_, b2⟩
          have h1 := hx.out
          have h2 := hnx.out
          have h3 := hmo.out
          rw [← hR.out, if_neg (by omega)]
          rfl
      · obtain rfl : k = Bs.length := by omega
        go_wp2
        go_ret
        refine ⟨?_, hb⟩
        have h1 := hx.out
        have h2 : x = l - ((Bs.length + lToM Bs Bs.length : Nat) : Int) := by omega
        rw [← hR.out, if_pos (by omega), ← h2]
        rfl

end Go.Proofs.YtnpiljegdiconaaGreat
