/- Lists of minders: how they come in, how long. Registers in memory. spec.InOk, walked. count, begins, eachIs of a journal, walked. spec.MinderOk, walked. spec.l1Max, spec.RegOk, spec.Minds, walked. spec.l14Net, walked. Wires: copied, compared. Lists of wires: how they come in, how long, copied. Rows of flags: how they come in, copied. How an Out comes in; copied. Lists of what is said: how they come in, how long, copied. Boxes that come in; boxes that a call owns. laws.szBox, walked. Boxes that may be written. Boxes that are written, cell by cell. Lists of minders: copied. Registers: how they come in, copied, compared. laws.toBox, walked. Lists of minders: compared. Lists of wires: compared. Lists of flags: marked, held, compared. -/
import Derived.Test.YtnpiljegdiconaaGreatRows
import Derived.WalkKit
import Derived.ProofKit
import Derived.OpenShut
import Derived.ShutString
import Derived.ChangeOld
import Derived.Below
import Derived.Deep.QuietTactic
import Derived.BigQuiet
import Derived.WalkSmall
import Derived.Laws.OwnMore
import Derived.WalkSpells
import Derived.WalkLawsBesides
import Derived.Deep.Slices
import Derived.Lib.SmallJoins
import Derived.Test.YtnpiljegdiconaaGreatMd0
import Derived.Test.YtnpiljegdiconaaGreatMi2
import Derived.Test.YtnpiljegdiconaaGreatRg13
import Derived.Test.YtnpiljegdiconaaGreatMi1
import Derived.Deep.Cut
import Derived.Test.YtnpiljegdiconaaGreatIn1
import Derived.Test.YtnpiljegdiconaaGreatPort3
import Derived.Test.YtnpiljegdiconaaGreatIs1
import Derived.Test.YtnpiljegdiconaaGreatIn2
import Derived.Laws.StructEq
import Derived.Test.YtnpiljegdiconaaGreatBxd1
import Derived.Test.YtnpiljegdiconaaGreatIn4
import Derived.Deep.Grids
import Derived.Test.YtnpiljegdiconaaGreatGa1
import Derived.Test.YtnpiljegdiconaaGreatBools
import Derived.Test.YtnpiljegdiconaaGreatVec1
import Derived.Test.YtnpiljegdiconaaGreatRe1
import Derived.Test.YtnpiljegdiconaaGreatIs2
import Derived.Test.YtnpiljegdiconaaGreatTakes
namespace Go.Proofs.YtnpiljegdiconaaGreat
open Go.ChangeShapes Go.WideShapes Go.ChangeAt Go.RowKit
open Go.ChangeMaps (open_string shut_string)
set_option linter.unusedVariables false
set_option maxRecDepth 100000

set_option maxRecDepth 100000 in
theorem mdRow_open {H : Type} {enc : TypeId × Value → H} {w : World} {n0 : Nat} {v : Value} {x : DataW H × List MemPlace} (hn : DataW.trod enc Tryz.prog w 0 (fun _ => true) true n0 65 [v] = some x) :
    ∃ ad cap, ∃ Bs : List MiD, v = .slice ad Bs.length cap ∧ Bs.length ≤ maxLen ∧ MV w ad Bs ∧ (∀ i, i < Bs.length → (Bs.getD i MiD.nil).m.lg.length ≤ maxLen) ∧ (ad = none → cap = 0) ∧ Bs.length ≤ cap := by
  have hs := Go.Deep.open_slice Tryz.underlying65 hn
  have hcell : ∀ x, [v] = [x] → v = x := fun x h => by simpa using h
  rcases hs with ⟨hcs, _⟩ | ⟨a, len, cap, m, n, D, Pl, hcs, _, hl, hm, hmm, _, hx⟩
  · exact ⟨none, 0, [], hcell _ hcs, by simp, MV.nil, fun i h => absurd h (by simp), fun _ => rfl, Nat.le_refl _⟩
  · simp at hmm
    subst hmm
    have each : ∀ i, i < m → ∃ q : MiD, w.cell? (a.add (i * 7)) = some (.bool q.m.up) ∧ w.cell? (a.add (i * 7 + 1)) = some (.int .i64 q.m.li) ∧ w.cell? (a.add (i * 7 + 2)) = some (.int .i64 q.m.ep) ∧ w.cell? (a.add (i * 7 + 3)) = some (.slice q.ad q.m.lg.length q.cap) ∧ w.cell? (a.add (i * 7 + 4)) = some (.int .i64 q.m.sd) ∧ w.cell? (a.add (i * 7 + 5)) = some (.int .i64 q.m.ac) ∧ w.cell? (a.add (i * 7 + 6)) = some (.int .i64 q.m.al) ∧ FView ikEnc w q.ad q.m.lg ∧ q.m.lg.length ≤ maxLen ∧ (q.ad = none → q.cap = 0) := by
      intro i hi
      obtain ⟨cs', h1, h2⟩ := hx i hi
      rw [(by kernel_rfl : Tryz.prog.cellsOf 191 = 7)] at h1
      obtain ⟨_, hlen, hc⟩ := World.cells?_some h1
      obtain ⟨xs, k, hk, hxy, _, hxl, hf⟩ := DataW.trod_struct Tryz.underlying191 h2
      match xs, hxl, cs', hlen with
      | [y0, y1, y2, y3, y4, y5, y6], _, [c0, c1, c2, c3, c4, c5, c6], _ =>
        have g0 : DataW.trod enc Tryz.prog w 0 (fun _ => true) true k 4 ((List.drop 0 [c0, c1, c2, c3, c4, c5, c6]).take (Tryz.prog.cellsOf 4)) = some y0 := hf 0 _ rfl
        rw [(by kernel_rfl : Tryz.prog.cellsOf 4 = 1)] at g0
        have g1 : DataW.trod enc Tryz.prog w 0 (fun _ => true) true k 3 ((List.drop 1 [c0, c1, c2, c3, c4, c5, c6]).take (Tryz.prog.cellsOf 3)) = some y1 := hf 1 _ rfl
        rw [(by kernel_rfl : Tryz.prog.cellsOf 3 = 1)] at g1
        have g2 : DataW.trod enc Tryz.prog w 0 (fun _ => true) true k 3 ((List.drop 2 [c0, c1, c2, c3, c4, c5, c6]).take (Tryz.prog.cellsOf 3)) = some y2 := hf 2 _ rfl
        rw [(by kernel_rfl : Tryz.prog.cellsOf 3 = 1)] at g2
        have g3 : DataW.trod enc Tryz.prog w 0 (fun _ => true) true k 67 ((List.drop 3 [c0, c1, c2, c3, c4, c5, c6]).take (Tryz.prog.cellsOf 67)) = some y3 := hf 3 _ rfl
        rw [(by kernel_rfl : Tryz.prog.cellsOf 67 = 1)] at g3
        have g4 : DataW.trod enc Tryz.prog w 0 (fun _ => true) true k 3 ((List.drop 4 [c0, c1, c2, c3, c4, c5, c6]).take (Tryz.prog.cellsOf 3)) = some y4 := hf 4 _ rfl
        rw [(by kernel_rfl : Tryz.prog.cellsOf 3 = 1)] at g4
        have g5 : DataW.trod enc Tryz.prog w 0 (fun _ => true) true k 3 ((List.drop 5 [c0, c1, c2, c3, c4, c5, c6]).take (Tryz.prog.cellsOf 3)) = some y5 := hf 5 _ rfl
        rw [(by kernel_rfl : Tryz.prog.cellsOf 3 = 1)] at g5
        have g6 : DataW.trod enc Tryz.prog w 0 (fun _ => true) true k 3 ((List.drop 6 [c0, c1, c2, c3, c4, c5, c6]).take (Tryz.prog.cellsOf 3)) = some y6 := hf 6 _ rfl
        rw [(by kernel_rfl : Tryz.prog.cellsOf 3 = 1)] at g6
        obtain ⟨z0, e0, _⟩ := DataW.trod_bool Tryz.underlying4 g0
        obtain ⟨z1, e1, _, _⟩ := DataW.trod_int Tryz.underlying3 g1
        obtain ⟨z2, e2, _, _⟩ := DataW.trod_int Tryz.underlying3 g2
        obtain ⟨z4, e4, _, _⟩ := DataW.trod_int Tryz.underlying3 g4
        obtain ⟨z5, e5, _, _⟩ := DataW.trod_int Tryz.underlying3 g5
        obtain ⟨z6, e6, _, _⟩ := DataW.trod_int Tryz.underlying3 g6
        simp at e0 e1 e2 e4 e5 e6
        subst e0 e1 e2 e4 e5 e6
        have k0 := hc 0 (by omega)
        have k1 := hc 1 (by omega)
        have k2 := hc 2 (by omega)
        have k3 := hc 3 (by omega)
        have k4 := hc 4 (by omega)
        have k5 := hc 5 (by omega)
        have k6 := hc 6 (by omega)
        rw [Go.Deep.add_add] at k0 k1 k2 k3 k4 k5 k6
        obtain ⟨ad, cp, L, e3, hm, hV, hz⟩ := ikRow_open (by simpa using g3)
        subst e3
        exact ⟨⟨⟨z0, z1, z2, L, z4, z5, z6⟩, ad, cp⟩, by simpa using k0, by simpa using k1, by simpa using k2, by simpa using k3, by simpa using k4, by simpa using k5, by simpa using k6, hV, hm, hz⟩
    haveI : Inhabited MiD := ⟨MiD.nil⟩
    obtain ⟨q, hq⟩ := Go.Deep.choose_lt each
    have hg : ∀ i, i < len → ((List.range len).map q).getD i MiD.nil = q i := fun i hi => by simp [List.getD, hi]
    refine ⟨some a, m, (List.range len).map q, by simpa using hcell _ hcs, by simpa using Nat.le_trans hl hm, ⟨fun hp => ?_, fun i hi => ?_, fun i hi => ?_⟩, fun i hi => ?_, (fun e => by cases e), by simpa using hl⟩
    · simp at hp
      obtain ⟨b, off, spot⟩ := a
      have hspot : spot = none := by simpa [Addr.add] using World.cell?_spot (hq 0 (by omega)).1
      subst hspot
      refine ⟨b, off, rfl, fun j v hv => ?_⟩
      have hjl : j < len * 7 := by
        have := (List.getElem?_eq_some_iff.1 hv).1
        rw [fcells_len mdEnc_len] at this
        simpa using this
      have hi : j / 7 < len := by omega
      have hr : j % 7 < 7 := Nat.mod_lt _ (by omega)
      have e : j = j / 7 * 7 + j % 7 := by omega
      rw [e, fcells_at mdEnc_len MiD.nil _ _ _ (by simpa using hi) hr, hg _ hi] at hv
      obtain ⟨k0, k1, k2, k3, k4, k5, k6, _⟩ := hq (j / 7) (by omega)
      simp only [add_plain] at k0 k1 k2 k3 k4 k5 k6
      rw [e]
      generalize j % 7 = r at hv hr
      have hcase : r = 0 ∨ r = 1 ∨ r = 2 ∨ r = 3 ∨ r = 4 ∨ r = 5 ∨ r = 6 := by omega
      rcases hcase with rfl | rfl | rfl | rfl | rfl | rfl | rfl
      · cases hv; simpa [Nat.add_assoc] using k0
      · cases hv; simpa [Nat.add_assoc] using k1
      · cases hv; simpa [Nat.add_assoc] using k2
      · cases hv; simpa [Nat.add_assoc] using k3
      · cases hv; simpa [Nat.add_assoc] using k4
      · cases hv; simpa [Nat.add_assoc] using k5
      · cases hv; simpa [Nat.add_assoc] using k6
    · simp at hi
      rw [hg i hi]
      exact (hq i (by omega)).2.2.2.2.2.2.2.1
    · simp at hi
      rw [hg i hi]
      exact (hq i (by omega)).2.2.2.2.2.2.2.2.2
    · simp at hi
      rw [hg i hi]
      exact (hq i (by omega)).2.2.2.2.2.2.2.2.1
/-- How much the first j count. -/
def lToM (Bs : List MiD) : Nat → Nat
  | 0 => 0
  | j + 1 => lToM Bs j + (Bs.getD j MiD.nil).m.lg.length
theorem lToM_mono (Bs : List MiD) {i j : Nat} (h : i ≤ j) : lToM Bs i ≤ lToM Bs j := by
  induction h with
  | refl => exact Nat.le_refl _
  | step _ ih => exact Nat.le_trans ih (by show _ ≤ lToM Bs _ + _; omega)
theorem getLM_le (Bs : List MiD) {k : Nat} (h : k < Bs.length) : (Bs.getD k MiD.nil).m.lg.length ≤ lToM Bs Bs.length :=
  Nat.le_trans (by show _ ≤ lToM Bs k + (Bs.getD k MiD.nil).m.lg.length; omega) (lToM_mono Bs (i := k + 1) h)
set_option maxHeartbeats 1000000 in
theorem mdSz (ad : Option Addr) (cap : Nat) (Bs : List MiD) (l : Int) (w : World) (hv : MV w ad Bs) (hl0 : 0 ≤ l) (hl1 : l ≤ 1048576) (hm : Bs.length ≤ maxLen) (hms : ∀ i, i < Bs.length → (Bs.getD i MiD.nil).m.lg.length ≤ maxLen) :
    Calls Tryz.prog 105 #[.slice ad Bs.length cap, .int .i64 l] w fun e w' => e = .returned (.int .i64 (if ((Bs.length + lToM Bs Bs.length : Nat) : Int) ≤ l then l - ((Bs.length + lToM Bs Bs.length : Nat) : Int) else -1)) ∧ Below w.heap.size w w' := by
  unfold maxLen at hm
  by_cases h0 : (Bs.length : Int) ≤ l
  rotate_left
  · have h1 : l - (Bs.length : Int) < 0 := by omega
    have hr : Hid ((if ((Bs.length + lToM Bs Bs.length : Nat) : Int) ≤ l then l - ((Bs.length + lToM Bs Bs.length : Nat) : Int) else -1) = (-1 : Int)) := if_neg (by omega)
    rw [hr.out]
    clear hr
    go_enter Tryz.func105, Tryz.ntmps105
    go_wp2
    go_ret
    exact ⟨rfl, Below.refl _ _⟩
  · have h1 : 0 ≤ l - (Bs.length : Int) := by omega
    have h1' : ¬ l - (Bs.length : Int) < 0 := by omega
    obtain ⟨R, hR⟩ : ∃ R, Hid ((if ((Bs.length + lToM Bs Bs.length : Nat) : Int) ≤ l then l - ((Bs.length + lToM Bs Bs.length : Nat) : Int) else -1) = R) := ⟨_, rfl⟩
    rw [hR.out]
    go_enter Tryz.func105, Tryz.ntmps105
    go_wp2
    go_loopw [1, 5] (fun q i wr => ∃ (k : Nat) (x : Int), k ≤ Bs.length ∧ i = .int .i64 k ∧ q = .int .i64 x ∧ Hid (x = l - (Bs.length : Int) - (lToM Bs k : Int)) ∧ 0 ≤ x ∧ x ≤ 1048576 ∧ Below w.heap.size w wr) (fun _ i _ => Bs.length - (intOf i).toNat)
    case atStart => exact ⟨0, l - (Bs.length : Int), Nat.zero_le _, rfl, rfl, by unfold Hid; simp [lToM], h1, by omega, Below.refl _ _⟩
    case round =>
      obtain ⟨k, x, hk, rfl, rfl, hx, hx0, hx1, hb⟩ := hrel
      clear h0 h1 h1'
      by_cases hlt : k < Bs.length
      · obtain ⟨b, off, rfl⟩ := hv.ad_ (by omega)
        have hck := (hv.below hb (Nat.le_refl _)).at_ hlt
        have hmk := hms k hlt
        have hnx : Hid (lToM Bs (k + 1) = lToM Bs k + (Bs.getD k MiD.nil).m.lg.length) := rfl
        have hmo : Hid (lToM Bs (k + 1) ≤ lToM Bs Bs.length) := lToM_mono Bs (by omega)
        obtain ⟨m, hh⟩ : ∃ m, Bs.getD k MiD.nil = m := ⟨_, rfl⟩
        rw [hh] at hck hmk hnx
        obtain ⟨c0, c1, c2, c3, c4, c5, c6⟩ := hck
        clear hv hms hh
        go_wp2_with fail
        go_at_call 160
        refine (miSz m.m m.ad m.cap x wr hx0 hx1 hmk).mono ?_
        rintro e w2 ⟨rfl, k2⟩
        have b2 := hb.trans (k2.mono hb.size)
        by_cases hy : (m.m.lg.length : Int) ≤ x
        · rw [if_pos hy]
          have hz : 0 ≤ x - (m.m.lg.length : Int) := by omega
          have hz' : ¬ x - (m.m.lg.length : Int) < 0 := by omega
          go_wp2
          go_roundw
          case rel => exact ⟨k + 1, x - (m.m.lg.length : Int), by omega, by go_num, rfl, by have := hx.out; have := hnx.out; unfold Hid; omega, hz, by omega, b2⟩
          case measure => simp [intOf]; omega
        · rw [if_neg hy]
          go_wp2
          go_ret
          refine ⟨?_, b2⟩
          have h1 := hx.out
          have h2 := hnx.out
          have h3 := hmo.out
          rw [← hR.out, if_neg (by omega)]
          rfl
      · obtain rfl : k = Bs.length := by omega
        go_wp2
        go_ret
        refine ⟨?_, hb⟩
        have h1 := hx.out
        have h2 : x = l - ((Bs.length + lToM Bs Bs.length : Nat) : Int) := by omega
        rw [← hR.out, if_pos (by omega), ← h2]
        rfl

end Go.Proofs.YtnpiljegdiconaaGreat
namespace Go.Proofs.YtnpiljegdiconaaGreat
open Go.ChangeShapes Go.WideShapes Go.ChangeAt Go.RowKit
open Go.ChangeMaps (open_string shut_string)
set_option linter.unusedVariables false
set_option maxRecDepth 100000

/-- A register's box. -/
structure RgAt (w : World) (q : Nat) (r : Rg) : Prop where
  c0 : w.cell? ⟨q, 0, none⟩ = some (.int .i64 r.ep)
  c1 : w.cell? ⟨q, 1, none⟩ = some (.int .i64 r.ow)
  c2 : w.cell? ⟨q, 2, none⟩ = some (.int .i64 r.pa)
theorem RgAt.keep {w w' : World} {q : Nat} {r : Rg} (h : RgAt w q r) (k : w'.heap[q]? = w.heap[q]?) : RgAt w' q r :=
  ⟨(World.cell?_of_block (a := ⟨q, 0, none⟩) k).trans h.c0, (World.cell?_of_block (a := ⟨q, 1, none⟩) k).trans h.c1, (World.cell?_of_block (a := ⟨q, 2, none⟩) k).trans h.c2⟩
theorem RgAt.below {w w' : World} {q n : Nat} {r : Rg} (h : RgAt w q r) (k : Below n w w') (hq : q < n) : RgAt w' q r := h.keep (k.block q hq)
theorem RgAt.lt {w : World} {q : Nat} {r : Rg} (h : RgAt w q r) : q < w.heap.size := World.block_lt_of_cell? w _ h.c0
theorem RgAt.new (w : World) (t : TypeId) (r : Rg) : RgAt (w.alloc (Obj.cells #[.int .i64 r.ep, .int .i64 r.ow, .int .i64 r.pa] t)) w.heap.size r := by
  refine ⟨?_, ?_, ?_⟩ <;> simp [go_sem]
/-- A register's box that may be written. -/
structure RgBox (w : World) (q : Nat) (r : Rg) : Prop where
  at_ : RgAt w q r
  fr : ∀ i, w.frozen? ⟨q, i, none⟩ = false
theorem RgBox.keep {w w' : World} {q : Nat} {r : Rg} (h : RgBox w q r) (k : w'.heap[q]? = w.heap[q]?) : RgBox w' q r :=
  ⟨h.at_.keep k, fun i => (World.frozen?_of_block (a := ⟨q, i, none⟩) k).trans (h.fr i)⟩
theorem RgBox.below {w w' : World} {q n : Nat} {r : Rg} (h : RgBox w q r) (k : Below n w w') (hq : q < n) : RgBox w' q r := h.keep (k.block q hq)
theorem RgBox.lt {w : World} {q : Nat} {r : Rg} (h : RgBox w q r) : q < w.heap.size := h.at_.lt
theorem RgBox.put {w : World} {q : Nat} {r : Rg} (h : RgBox w q r) (r' : Rg) : RgBox (((w.setCell ⟨q, 0, none⟩ (.int .i64 r'.ep)).setCell ⟨q, 1, none⟩ (.int .i64 r'.ow)).setCell ⟨q, 2, none⟩ (.int .i64 r'.pa)) q r' := by
  obtain ⟨⟨h0, h1, h2⟩, hf⟩ := h
  have h0 : (w.setCell ⟨q, 0, none⟩ (.int .i64 r'.ep)).cell? ⟨q, 0, none⟩ = some (.int .i64 r'.ep) := pset_same h0
  have h1 : (w.setCell ⟨q, 0, none⟩ (.int .i64 r'.ep)).cell? ⟨q, 1, none⟩ = _ := (pset_else (by decide)).trans h1
  have h2 : (w.setCell ⟨q, 0, none⟩ (.int .i64 r'.ep)).cell? ⟨q, 2, none⟩ = _ := (pset_else (by decide)).trans h2
  have h0 : ((w.setCell ⟨q, 0, none⟩ (.int .i64 r'.ep)).setCell ⟨q, 1, none⟩ (.int .i64 r'.ow)).cell? ⟨q, 0, none⟩ = _ := (pset_else (by decide)).trans h0
  have h1 : ((w.setCell ⟨q, 0, none⟩ (.int .i64 r'.ep)).setCell ⟨q, 1, none⟩ (.int .i64 r'.ow)).cell? ⟨q, 1, none⟩ = some (.int .i64 r'.ow) := pset_same h1
  have h2 : ((w.setCell ⟨q, 0, none⟩ (.int .i64 r'.ep)).setCell ⟨q, 1, none⟩ (.int .i64 r'.ow)).cell? ⟨q, 2, none⟩ = _ := (pset_else (by decide)).trans h2
  refine ⟨⟨(pset_else (by decide)).trans h0, (pset_else (by decide)).trans h1, pset_same h2⟩, fun i => ?_⟩
  rw [World.frozen?_setCell, World.frozen?_setCell, World.frozen?_setCell]; exact hf i
theorem heap_put3 (w : World) (q k : Nat) (r' : Rg) (h : k ≠ q) : (((w.setCell ⟨q, 0, none⟩ (.int .i64 r'.ep)).setCell ⟨q, 1, none⟩ (.int .i64 r'.ow)).setCell ⟨q, 2, none⟩ (.int .i64 r'.pa)).heap[k]? = w.heap[k]? := by
  rw [Below.heap_setCell _ _ _ _ h, Below.heap_setCell _ _ _ _ h, Below.heap_setCell _ _ _ _ h]
theorem below_put3 {a w : World} {q n : Nat} (r' : Rg) (h : Below n a w) (hq : n ≤ q) : Below n a (((w.setCell ⟨q, 0, none⟩ (.int .i64 r'.ep)).setCell ⟨q, 1, none⟩ (.int .i64 r'.ow)).setCell ⟨q, 2, none⟩ (.int .i64 r'.pa)) :=
  ((h.setCell (p := ⟨q, 0, none⟩) hq _).setCell (p := ⟨q, 1, none⟩) hq _).setCell (p := ⟨q, 2, none⟩) hq _

end Go.Proofs.YtnpiljegdiconaaGreat
namespace Go.Proofs.YtnpiljegdiconaaGreat
open Go.ChangeShapes Go.WideShapes Go.ChangeAt Go.RowKit
open Go.ChangeMaps (open_string shut_string)
set_option linter.unusedVariables false
set_option maxRecDepth 100000

set_option maxHeartbeats 4000000 in
theorem inOkS (x : Ik) (w : World) : Calls Tryz.prog 134 #[.agg #[.int .i64 x.k, .int .i64 x.q, .int .i64 x.r, .int .i64 x.c, .int .i64 x.b, .int .i64 x.p, .int .i64 x.h, .bool x.up]] w fun e w' => e = .returned (.bool (inOk x)) ∧ Below w.heap.size w w' := by
  obtain ⟨k, q, r, c, b, p, h, up⟩ := x
  dsimp only
  obtain ⟨R, hR⟩ : ∃ R, R = inOk ⟨k, q, r, c, b, p, h, up⟩ := ⟨_, rfl⟩
  rw [← hR]
  by_cases h1 : k = 1
  · subst h1
    have hR1 : Hid (R = (decide (0 ≤ q ∧ q ≤ 3) && (vOk r c b p && (decide (0 ≤ h ∧ h ≤ 8) && !up)))) := hR
    clear hR
    have B0 := below_new (w := w) (Obj.cells #[.int .i64 1, .int .i64 q, .int .i64 r, .int .i64 c, .int .i64 b, .int .i64 p, .int .i64 h, .bool up] 105)
    obtain ⟨y, hy⟩ : ∃ y, y = w.alloc (Obj.cells #[.int .i64 1, .int .i64 q, .int .i64 r, .int .i64 c, .int .i64 b, .int .i64 p, .int .i64 h, .bool up] 105) := ⟨_, rfl⟩
    rw [← hy] at B0
    have A0 : InAt y w.heap.size ⟨1, q, r, c, b, p, h, up⟩ := by rw [hy]; exact InAt.new w _ ⟨1, q, r, c, b, p, h, up⟩
    have S0 := A0.lt
    go_enter Tryz.func134, Tryz.ntmps134
    go_wp2_with fail
    go_at_call 65
    rw [← hy]
    clear hy
    refine (inB q 0 3 y).mono ?_
    rintro e y1 ⟨rfl, rfl⟩
    obtain ⟨a0, a1, a2, a3, a4, a5, a6, a7⟩ := A0
    have A0 : InAt y1 w.heap.size ⟨1, q, r, c, b, p, h, up⟩ := ⟨a0, a1, a2, a3, a4, a5, a6, a7⟩
    cases hF : decide (0 ≤ q ∧ q ≤ 3) with
    | false =>
      have hN : Hid (R = false) := by unfold Hid; rw [hR1.out, hF]; rfl
      clear hR1 hF
      go_wp2
      go_ret
      exact ⟨by rw [hN.out]; rfl, B0⟩
    | true =>
      have hR2 : Hid (R = (vOk r c b p && (decide (0 ≤ h ∧ h ≤ 8) && !up))) := by unfold Hid; rw [hR1.out, hF]; rfl
      clear hR1 hF
      go_wp2_with fail
      go_at_call 181
      refine (vOkS r c b p y1).mono ?_
      rintro e y2 ⟨rfl, k2⟩
      have B2 := B0.trans (k2.mono B0.size)
      have A2 := A0.below k2 S0
      clear a0 a1 a2 a3 a4 a5 a6 a7 A0 k2
      obtain ⟨a0, a1, a2, a3, a4, a5, a6, a7⟩ := A2
      cases hF : vOk r c b p with
      | false =>
        have hN : Hid (R = false) := by unfold Hid; rw [hR2.out, hF]; rfl
        clear hR2 hF
        go_wp2
        go_ret
        exact ⟨by rw [hN.out]; rfl, B2⟩
      | true =>
        have hR3 : Hid (R = (decide (0 ≤ h ∧ h ≤ 8) && !up)) := by unfold Hid; rw [hR2.out, hF]; rfl
        clear hR2 hF
        go_wp2_with fail
        go_at_call 65
        refine (inB h 0 8 y2).mono ?_
        rintro e y3 ⟨rfl, rfl⟩
        cases hF : decide (0 ≤ h ∧ h ≤ 8) with
        | false =>
          have hN : Hid (R = false) := by unfold Hid; rw [hR3.out, hF]; rfl
          clear hR3 hF
          go_wp2
          go_ret
          exact ⟨by rw [hN.out]; rfl, B2⟩
        | true =>
          have hN : Hid (R = !up) := by unfold Hid; rw [hR3.out, hF]; rfl
          clear hR3 hF
          go_wp2
          go_ret
          exact ⟨by rw [hN.out]; rfl, B2⟩
  have d1 : (k == 1) = false := by simpa using h1
  by_cases h3 : k = 3
  · subst h3
    have hR1 : Hid (R = (decide (0 ≤ q ∧ q ≤ 3) && (decide (r = 0 ∧ c = 0 ∧ b = 0 ∧ p = 0) && (h == 0)))) := hR
    clear hR h1 d1
    have B0 := below_new (w := w) (Obj.cells #[.int .i64 3, .int .i64 q, .int .i64 r, .int .i64 c, .int .i64 b, .int .i64 p, .int .i64 h, .bool up] 105)
    obtain ⟨y, hy⟩ : ∃ y, y = w.alloc (Obj.cells #[.int .i64 3, .int .i64 q, .int .i64 r, .int .i64 c, .int .i64 b, .int .i64 p, .int .i64 h, .bool up] 105) := ⟨_, rfl⟩
    rw [← hy] at B0
    have A0 : InAt y w.heap.size ⟨3, q, r, c, b, p, h, up⟩ := by rw [hy]; exact InAt.new w _ ⟨3, q, r, c, b, p, h, up⟩
    have S0 := A0.lt
    go_enter Tryz.func134, Tryz.ntmps134
    go_wp2_with fail
    go_at_call 65
    rw [← hy]
    clear hy
    refine (inB q 0 3 y).mono ?_
    rintro e y1 ⟨rfl, rfl⟩
    obtain ⟨a0, a1, a2, a3, a4, a5, a6, a7⟩ := A0
    cases hF : decide (0 ≤ q ∧ q ≤ 3) with
    | false =>
      have hN : Hid (R = false) := by unfold Hid; rw [hR1.out, hF]; rfl
      clear hR1 hF
      go_wp2
      go_ret
      exact ⟨by rw [hN.out]; rfl, B0⟩
    | true =>
      have hR2 : Hid (R = (decide (r = 0 ∧ c = 0 ∧ b = 0 ∧ p = 0) && (h == 0))) := by unfold Hid; rw [hR1.out, hF]; rfl
      clear hR1 hF
      have eV : ∀ w_ : World, (binOp .eql 103 (.agg #[.int .i64 r, .int .i64 c, .int .i64 b, .int .i64 p]) (.agg #[.int .i64 0, .int .i64 0, .int .i64 0, .int .i64 0])).run Tryz.prog w_ = .ok (.bool (decide (r = 0 ∧ c = 0 ∧ b = 0 ∧ p = 0))) w_ := fun w_ => by
        have := eqV r c b p 0 0 0 0 w_
        go_simp
      cases hF : decide (r = 0 ∧ c = 0 ∧ b = 0 ∧ p = 0) with
      | false =>
        have hN : Hid (R = false) := by unfold Hid; rw [hR2.out, hF]; rfl
        rw [hF] at eV
        clear hR2 hF
        go_wp2
        go_ret
        exact ⟨by rw [hN.out]; rfl, B0⟩
      | true =>
        have hN : Hid (R = (h == 0)) := by unfold Hid; rw [hR2.out, hF]; rfl
        rw [hF] at eV
        clear hR2 hF
        go_wp2
        go_ret
        exact ⟨by rw [hN.out]; rfl, B0⟩
  have d3 : (k == 3) = false := by simpa using h3
  by_cases h2 : k = 2
  · subst h2
    have hN : Hid (R = decide (q = 0 ∧ r = 0 ∧ c = 0 ∧ b = 0 ∧ p = 0 ∧ h = 0 ∧ up = false)) := hR
    clear hR h1 d1 h3 d3
    have eI : ∀ w_ : World, (binOp .eql 105 (.agg #[.int .i64 2, .int .i64 q, .int .i64 r, .int .i64 c, .int .i64 b, .int .i64 p, .int .i64 h, .bool up]) (.agg #[.int .i64 2, .int .i64 0, .int .i64 0, .int .i64 0, .int .i64 0, .int .i64 0, .int .i64 0, .bool false])).run Tryz.prog w_ = .ok (.bool R) w_ := fun w_ => by
      rw [hN.out]
      go_simp
      all_goals ((repeat' split) <;> first | (simp_all; done) | grind)
    clear hN
    have B0 := below_new (w := w) (Obj.cells #[.int .i64 2, .int .i64 q, .int .i64 r, .int .i64 c, .int .i64 b, .int .i64 p, .int .i64 h, .bool up] 105)
    obtain ⟨y, hy⟩ : ∃ y, y = w.alloc (Obj.cells #[.int .i64 2, .int .i64 q, .int .i64 r, .int .i64 c, .int .i64 b, .int .i64 p, .int .i64 h, .bool up] 105) := ⟨_, rfl⟩
    rw [← hy] at B0
    have A0 : InAt y w.heap.size ⟨2, q, r, c, b, p, h, up⟩ := by rw [hy]; exact InAt.new w _ ⟨2, q, r, c, b, p, h, up⟩
    have S0 := A0.lt
    go_enter Tryz.func134, Tryz.ntmps134
    go_upto_region 7 with fail
    rw [← hy]
    clear hy
    obtain ⟨a0, a1, a2, a3, a4, a5, a6, a7⟩ := A0
    go_wp2
    go_ret
    exact ⟨rfl, B0⟩
  have d2 : (k == 2) = false := by simpa using h2
  have hN : Hid (R = false) := by unfold Hid; rw [hR]; unfold inOk; rw [if_neg h1, if_neg h3, if_neg h2]
  clear hR h1 h2 h3
  have B0 := below_new (w := w) (Obj.cells #[.int .i64 k, .int .i64 q, .int .i64 r, .int .i64 c, .int .i64 b, .int .i64 p, .int .i64 h, .bool up] 105)
  obtain ⟨y, hy⟩ : ∃ y, y = w.alloc (Obj.cells #[.int .i64 k, .int .i64 q, .int .i64 r, .int .i64 c, .int .i64 b, .int .i64 p, .int .i64 h, .bool up] 105) := ⟨_, rfl⟩
  rw [← hy] at B0
  have A0 : InAt y w.heap.size ⟨k, q, r, c, b, p, h, up⟩ := by rw [hy]; exact InAt.new w _ ⟨k, q, r, c, b, p, h, up⟩
  have S0 := A0.lt
  go_enter Tryz.func134, Tryz.ntmps134
  go_wp2
  go_ret
  rw [← hy]
  exact ⟨by rw [hN.out]; rfl, B0⟩

end Go.Proofs.YtnpiljegdiconaaGreat
namespace Go.Proofs.YtnpiljegdiconaaGreat
open Go.ChangeShapes Go.WideShapes Go.ChangeAt Go.RowKit
open Go.ChangeMaps (open_string shut_string)
set_option linter.unusedVariables false
set_option maxRecDepth 100000

theorem countI (q len : Nat) (ad : Option Addr) (cap : Nat) (w : World) (h : w.cell? ⟨q, 0, none⟩ = some (.slice ad len cap)) :
    Calls Tryz.prog 172 #[.pointer (some ⟨q, 0, none⟩)] w fun e w' => e = .returned (.int .i64 (len : Int)) ∧ w' = w := by
  go_enter Tryz.func172, Tryz.ntmps172
  go_wp2
  go_ret
  exact ⟨rfl, rfl⟩
theorem begI (q len : Nat) (ad : Option Addr) (cap : Nat) (n : Int) (w : World) (h : w.cell? ⟨q, 0, none⟩ = some (.slice ad len cap)) :
    Calls Tryz.prog 174 #[.pointer (some ⟨q, 0, none⟩), .int .i64 n] w fun e w' => e = .returned (.bool (decide (0 ≤ n ∧ n ≤ (len : Int)))) ∧ w' = w := by
  obtain ⟨R, hR⟩ : ∃ R, R = decide (0 ≤ n ∧ n ≤ (len : Int)) := ⟨_, rfl⟩
  rw [← hR]
  replace hR : Hid _ := hR
  by_cases h1 : 0 ≤ n
  · have d1 : decide (0 ≤ n) = true := decide_eq_true h1
    have hN : Hid (R = decide (n ≤ (len : Int))) := by unfold Hid; rw [hR.out]; by_cases h2 : n ≤ (len : Int) <;> simp [h1, h2]
    clear hR
    go_enter Tryz.func174, Tryz.ntmps174
    go_wp2_with fail
    go_at_call 172
    refine (countI q len ad cap w h).mono ?_
    rintro e w1 ⟨rfl, rfl⟩
    go_wp2
    go_ret
    exact ⟨by rw [hN.out]; rfl, rfl⟩
  · have d1 : decide (0 ≤ n) = false := decide_eq_false h1
    have hN : Hid (R = false) := by unfold Hid; rw [hR.out]; simp [h1]
    clear hR
    go_enter Tryz.func174, Tryz.ntmps174
    go_wp2
    go_ret
    exact ⟨by rw [hN.out]; rfl, rfl⟩
theorem all_take {X : Type} (f : X → Bool) (L : List X) (d : X) {k : Nat} (hk : k < L.length) : (L.take (k + 1)).all f = ((L.take k).all f && f (L.getD k d)) := by
  rw [List.take_add_one, List.all_append]
  have e : L[k]?.toList = [L.getD k d] := by simp [List.getD, hk]
  rw [e]; simp
theorem all_no {X : Type} (f : X → Bool) (L : List X) (d : X) {k : Nat} (hk : k < L.length) (h : f (L.getD k d) = false) : L.all f = false := by
  rw [List.all_eq_false]
  refine ⟨L.getD k d, ?_, by rw [h]; exact Bool.false_ne_true⟩
  simp [List.getD, hk]
set_option maxHeartbeats 2000000 in
theorem eachI (q : Nat) (ad : Option Addr) (cap : Nat) (L : List Ik) (w : World) (h : w.cell? ⟨q, 0, none⟩ = some (.slice ad L.length cap)) (hv : FView ikEnc w ad L) (hl : L.length ≤ 1048577) :
    Calls Tryz.prog 173 #[.pointer (some ⟨q, 0, none⟩), .func (Fn.func 147) #[] #[]] w fun e w' => e = .returned (.bool (L.all inOk)) ∧ Below w.heap.size w w' := by
  have hB := hv.lt ikEnc_len (by omega)
  obtain ⟨R, hR⟩ : ∃ R, R = L.all inOk := ⟨_, rfl⟩
  rw [← hR]
  replace hR : Hid _ := hR
  go_enter Tryz.func173, Tryz.ntmps173
  go_wp2
  go_loopw [12] (fun i wr => ∃ k : Nat, k ≤ L.length ∧ i = .int .i64 k ∧ (L.take k).all inOk = true ∧ Below w.heap.size w wr) (fun i _ => L.length - (intOf i).toNat)
  case atStart => exact ⟨0, Nat.zero_le _, rfl, rfl, Below.refl _ _⟩
  case round =>
    obtain ⟨k, hk, rfl, T, B⟩ := hrel
    replace T : Hid _ := T
    by_cases hlt : k < L.length
    · obtain ⟨b, off, rfl, _⟩ := hv (by omega)
      obtain ⟨x, hh⟩ : ∃ x, L.getD k Ik.nil = x := ⟨_, rfl⟩
      have hck : IkAtO wr b (off + k * 8) x := by
        rw [← hh]
        exact ikAtO_of ((hv.below B hB).at_ ikEnc_len Ik.nil hlt)
      have hT := all_take inOk L Ik.nil hlt
      rw [T.out, hh, Bool.true_and] at hT
      have hNo : inOk x = false → L.all inOk = false := fun e => all_no inOk L Ik.nil hlt (by rw [hh]; exact e)
      replace hT : Hid _ := hT
      replace hh : Hid _ := hh
      obtain ⟨c0, c1, c2, c3, c4, c5, c6, c7⟩ := hck
      obtain ⟨u, hu⟩ : ∃ u, u = wr.alloc (Obj.cells #[.int .i64 x.k, .int .i64 x.q, .int .i64 x.r, .int .i64 x.c, .int .i64 x.b, .int .i64 x.p, .int .i64 x.h, .bool x.up] 105) := ⟨_, rfl⟩
      have ku : Below wr.heap.size wr u := by rw [hu]; exact below_new _
      have U : InAt u wr.heap.size x := by rw [hu]; exact InAt.new wr _ x
      have B2 := B.trans (ku.mono B.size)
      go_upto_region 4 with fail
      rw [← hu]
      clear hu c0 c1 c2 c3 c4 c5 c6 c7 ku
      obtain ⟨c0, c1, c2, c3, c4, c5, c6, c7⟩ := U
      go_wp2_with fail
      go_at_call 147
      clear c0 c1 c2 c3 c4 c5 c6 c7
      refine (inOkI x u).mono ?_
      rintro e u2 ⟨rfl, k2⟩
      have B3 := B2.trans (k2.mono B2.size)
      clear k2 B2 B
      cases hx : inOk x with
      | false =>
        have hN : Hid (R = false) := by unfold Hid; rw [hR.out]; exact hNo hx
        clear hNo hx
        go_wp2
        go_ret
        exact ⟨by rw [hN.out]; rfl, B3⟩
      | true =>
        have hT2 : Hid ((L.take (k + 1)).all inOk = true) := by unfold Hid; rw [hT.out, hx]
        clear hNo hx
        go_wp2
        go_roundw
        case rel => exact ⟨k + 1, by omega, by go_num, hT2.out, B3⟩
        case measure => simp [intOf]; omega
    · obtain rfl : k = L.length := by omega
      have hN : Hid (R = true) := by unfold Hid; rw [hR.out]; have := T.out; rwa [List.take_length] at this
      go_wp2
      go_ret
      exact ⟨by rw [hN.out]; rfl, B⟩

end Go.Proofs.YtnpiljegdiconaaGreat
namespace Go.Proofs.YtnpiljegdiconaaGreat
open Go.ChangeShapes Go.WideShapes Go.ChangeAt Go.RowKit
open Go.ChangeMaps (open_string shut_string)
set_option linter.unusedVariables false
set_option maxRecDepth 100000

set_option maxHeartbeats 2000000 in
theorem insS (ad : Option Addr) (cap : Nat) (L : List Ik) (w : World) (hv : FView ikEnc w ad L) (hl : L.length ≤ 1048577) :
    Calls Tryz.prog 90 #[.slice ad L.length cap] w fun e w' => e = .returned (.bool (insB L)) ∧ Below w.heap.size w w' := by
  have hB := hv.lt ikEnc_len (by omega)
  obtain ⟨R, hR⟩ : ∃ R, R = insB L := ⟨_, rfl⟩
  rw [← hR]
  replace hR : Hid _ := hR
  go_enter Tryz.func90, Tryz.ntmps90
  go_wp2
  go_loopw [3] (fun i wr => ∃ k : Nat, k ≤ L.length ∧ i = .int .i64 k ∧ (L.take k).all inOk = true ∧ Below w.heap.size w wr) (fun i _ => L.length - (intOf i).toNat)
  case atStart => exact ⟨0, Nat.zero_le _, rfl, rfl, Below.refl _ _⟩
  case round =>
    obtain ⟨k, hk, rfl, T, B⟩ := hrel
    replace T : Hid _ := T
    by_cases hlt : k < L.length
    · obtain ⟨b, off, rfl, _⟩ := hv (by omega)
      obtain ⟨x, hh⟩ : ∃ x, L.getD k Ik.nil = x := ⟨_, rfl⟩
      have hck : IkAtO wr b (off + k * 8) x := by
        rw [← hh]
        exact ikAtO_of ((hv.below B hB).at_ ikEnc_len Ik.nil hlt)
      have hT := all_take inOk L Ik.nil hlt
      rw [T.out, hh, Bool.true_and] at hT
      have hNo : inOk x = false → L.all inOk = false := fun e => all_no inOk L Ik.nil hlt (by rw [hh]; exact e)
      replace hT : Hid _ := hT
      replace hh : Hid _ := hh
      obtain ⟨c0, c1, c2, c3, c4, c5, c6, c7⟩ := hck
      go_wp2_with fail
      go_at_call 134
      clear c0 c1 c2 c3 c4 c5 c6 c7
      refine (inOkS x wr).mono ?_
      rintro e u2 ⟨rfl, k2⟩
      have B3 := B.trans (k2.mono B.size)
      clear k2 B
      cases hx : inOk x with
      | false =>
        have hN : Hid (R = false) := by unfold Hid; rw [hR.out]; unfold insB; rw [hNo hx]; rfl
        clear hNo hx
        go_wp2
        go_ret
        exact ⟨by rw [hN.out]; rfl, B3⟩
      | true =>
        have hT2 : Hid ((L.take (k + 1)).all inOk = true) := by unfold Hid; rw [hT.out, hx]
        clear hNo hx
        go_wp2
        go_roundw
        case rel => exact ⟨k + 1, by omega, by go_num, hT2.out, B3⟩
        case measure => simp [intOf]; omega
    · obtain rfl : k = L.length := by omega
      have hN : Hid (R = decide ((L.length : Int) ≤ 60)) := by
        unfold Hid; rw [hR.out]; unfold insB
        have := T.out
        rw [List.take_length] at this
        rw [this, Bool.true_and]
        by_cases h : L.length ≤ 60
        · rw [decide_eq_true h, decide_eq_true (by omega)]
        · rw [decide_eq_false h, decide_eq_false (by omega)]
      go_wp2
      go_ret
      exact ⟨by rw [hN.out]; rfl, B⟩
set_option maxHeartbeats 4000000 in
theorem miOkS (m : Mi) (ad : Option Addr) (cap : Nat) (w : World) (hv : FView ikEnc w ad m.lg) (hl : m.lg.length ≤ 1048577) :
    Calls Tryz.prog 64 #[.agg #[.bool m.up, .int .i64 m.li, .int .i64 m.ep, .slice ad m.lg.length cap, .int .i64 m.sd, .int .i64 m.ac, .int .i64 m.al]] w fun e w' => e = .returned (.bool (miOk m)) ∧ Below w.heap.size w w' := by
  have hB := hv.lt ikEnc_len (by omega)
  obtain ⟨R, hR⟩ : ∃ R, R = miOk m := ⟨_, rfl⟩
  rw [← hR]
  replace hR : Hid _ := hR
  obtain ⟨y, hy⟩ : ∃ y, y = w.alloc (Obj.cells #[.bool m.up, .int .i64 m.li, .int .i64 m.ep, .slice ad m.lg.length cap, .int .i64 m.sd, .int .i64 m.ac, .int .i64 m.al] 28) := ⟨_, rfl⟩
  have B0 : Below w.heap.size w y := by rw [hy]; exact below_new _
  have A : MiAt y w.heap.size m (.slice ad m.lg.length cap) := by rw [hy]; exact MiAt.new w _ _ _
  have S0 := A.lt
  have hv1 := hv.below B0 hB
  clear hv
  go_enter Tryz.func64, Tryz.ntmps64
  go_upto_region 1 with fail
  rw [← hy]
  clear hy
  have cc := A
  obtain ⟨x0, x1, x2, x3, x4, x5, x6⟩ := cc
  go_wp2_with fail
  go_at_call 65
  clear x0 x1 x2 x3 x4 x5 x6
  refine (inB m.li 0 100000 y).mono ?_
  rintro e v0 ⟨rfl, hw_⟩
  have A := (by rw [hw_]; exact A : MiAt v0 w.heap.size m (.slice ad m.lg.length cap))
  have hv1 := (by rw [hw_]; exact hv1 : FView ikEnc v0 ad m.lg)
  have Bx := (by rw [hw_]; exact B0 : Below w.heap.size w v0)
  clear hw_ B0
  have B1 := Bx
  clear Bx
  rw [show decide (0 ≤ m.li ∧ m.li ≤ 100000) = numB m.li from rfl]
  cases h_li : numB m.li
  · have hN : Hid (R = false) := by unfold Hid; rw [hR.out]; unfold miOk; rw [h_li]; rfl
    clear h_li
    go_wp2
    go_ret
    exact ⟨by rw [hN.out]; rfl, B1⟩
  · replace h_li : Hid _ := h_li
    have cc := A
    obtain ⟨x0, x1, x2, x3, x4, x5, x6⟩ := cc
    go_wp2_with fail
    go_at_call 65
    clear x0 x1 x2 x3 x4 x5 x6
    refine (inB m.ep 0 100000 v0).mono ?_
    rintro e v1 ⟨rfl, hw_⟩
    have A := (by rw [hw_]; exact A : MiAt v1 w.heap.size m (.slice ad m.lg.length cap))
    have hv1 := (by rw [hw_]; exact hv1 : FView ikEnc v1 ad m.lg)
    have Bx := (by rw [hw_]; exact B1 : Below w.heap.size w v1)
    clear hw_ B1
    have B2 := Bx
    clear Bx
    rw [show decide (0 ≤ m.ep ∧ m.ep ≤ 100000) = numB m.ep from rfl]
    cases h_ep : numB m.ep
    · have hN : Hid (R = false) := by unfold Hid; rw [hR.out]; unfold miOk; rw [h_li.out, h_ep]; rfl
      clear h_ep
      go_wp2
      go_ret
      exact ⟨by rw [hN.out]; rfl, B2⟩
    · replace h_ep : Hid _ := h_ep
      have cc := A
      obtain ⟨x0, x1, x2, x3, x4, x5, x6⟩ := cc
      go_wp2_with fail
      go_at_call 65
      clear x0 x1 x2 x3 x4 x5 x6
      refine (inB m.al 0 100000 v1).mono ?_
      rintro e v2 ⟨rfl, hw_⟩
      have A := (by rw [hw_]; exact A : MiAt v2 w.heap.size m (.slice ad m.lg.length cap))
      have hv1 := (by rw [hw_]; exact hv1 : FView ikEnc v2 ad m.lg)
      have Bx := (by rw [hw_]; exact B2 : Below w.heap.size w v2)
      clear hw_ B2
      have B3 := Bx
      clear Bx
      rw [show decide (0 ≤ m.al ∧ m.al ≤ 100000) = numB m.al from rfl]
      cases h_al : numB m.al
      · have hN : Hid (R = false) := by unfold Hid; rw [hR.out]; unfold miOk; rw [h_li.out, h_ep.out, h_al]; rfl
        clear h_al
        go_wp2
        go_ret
        exact ⟨by rw [hN.out]; rfl, B3⟩
      · replace h_al : Hid _ := h_al
        have cc := A
        obtain ⟨x0, x1, x2, x3, x4, x5, x6⟩ := cc
        go_wp2_with fail
        go_at_call 90
        clear x0 x1 x2 x3 x4 x5 x6
        refine (insS ad cap m.lg v2 hv1 hl).mono ?_
        rintro e v3 ⟨rfl, kq⟩
        have A := A.below kq A.lt
        have hv1 := hv1.below kq (hv1.lt ikEnc_len (by omega))
        have B4 := B3.trans (kq.mono B3.size)
        clear kq B3
        cases h_in : insB m.lg
        · have hN : Hid (R = false) := by unfold Hid; rw [hR.out]; unfold miOk; rw [h_li.out, h_ep.out, h_al.out, h_in]; rfl
          clear h_in
          go_wp2
          go_ret
          exact ⟨by rw [hN.out]; rfl, B4⟩
        · replace h_in : Hid _ := h_in
          have cc := A
          obtain ⟨x0, x1, x2, x3, x4, x5, x6⟩ := cc
          go_wp2_with fail
          go_at_call 65
          clear x0 x1 x2 x3 x4 x5 x6
          refine (inB m.sd 0 (m.lg.length : Int) v3).mono ?_
          rintro e v4 ⟨rfl, hw_⟩
          have A := (by rw [hw_]; exact A : MiAt v4 w.heap.size m (.slice ad m.lg.length cap))
          have hv1 := (by rw [hw_]; exact hv1 : FView ikEnc v4 ad m.lg)
          have Bx := (by rw [hw_]; exact B4 : Below w.heap.size w v4)
          clear hw_ B4
          have B5 := Bx
          clear Bx
          cases h_sd : decide (0 ≤ m.sd ∧ m.sd ≤ (m.lg.length : Int))
          · have hN : Hid (R = false) := by unfold Hid; rw [hR.out]; unfold miOk; rw [h_li.out, h_ep.out, h_al.out, h_in.out, h_sd]; rfl
            clear h_sd
            go_wp2
            go_ret
            exact ⟨by rw [hN.out]; rfl, B5⟩
          · replace h_sd : Hid _ := h_sd
            have cc := A
            obtain ⟨x0, x1, x2, x3, x4, x5, x6⟩ := cc
            go_wp2_with fail
            go_at_call 65
            clear x0 x1 x2 x3 x4 x5 x6
            refine (inB m.ac 0 (m.lg.length : Int) v4).mono ?_
            rintro e v5 ⟨rfl, hw_⟩
            have A := (by rw [hw_]; exact A : MiAt v5 w.heap.size m (.slice ad m.lg.length cap))
            have hv1 := (by rw [hw_]; exact hv1 : FView ikEnc v5 ad m.lg)
            have Bx := (by rw [hw_]; exact B5 : Below w.heap.size w v5)
            clear hw_ B5
            have B6 := Bx
            clear Bx
            cases h_ac : decide (0 ≤ m.ac ∧ m.ac ≤ (m.lg.length : Int))
            · have hN : Hid (R = false) := by unfold Hid; rw [hR.out]; unfold miOk; rw [h_li.out, h_ep.out, h_al.out, h_in.out, h_sd.out, h_ac]; rfl
              clear h_ac
              go_wp2
              go_ret
              exact ⟨by rw [hN.out]; rfl, B6⟩
            · replace h_ac : Hid _ := h_ac
              obtain ⟨x0, x1, x2, x3, x4, x5, x6⟩ := A
              cases hU : m.up
              · rw [hU] at x0
                by_cases e1 : m.ep = 0
                · have d1 : (m.ep == 0) = true := by simpa using e1
                  by_cases e2 : (m.lg.length : Int) = 0
                  · have d2 : ((m.lg.length : Int) == 0) = true := by simpa using e2
                    have e2' : m.lg.length = 0 := by omega
                    have hN : Hid (R = (m.al == 0)) := by unfold Hid; rw [hR.out]; unfold miOk; rw [h_li.out, h_ep.out, h_al.out, h_in.out, h_sd.out, h_ac.out, hU, decide_eq_true e1, decide_eq_true e2']; by_cases e3 : m.al = 0 <;> simp [e3]
                    clear e1 e2 e2'
                    go_wp2
                    go_ret
                    exact ⟨by rw [hN.out]; rfl, B6⟩
                  · have d2 : ((m.lg.length : Int) == 0) = false := by rw [beq_eq_false_iff_ne]; exact e2
                    have e2' : ¬ m.lg.length = 0 := by omega
                    have hN : Hid (R = false) := by unfold Hid; rw [hR.out]; unfold miOk; rw [h_li.out, h_ep.out, h_al.out, h_in.out, h_sd.out, h_ac.out, hU, decide_eq_false e2']; simp
                    clear e1 e2 e2'
                    go_wp2
                    go_ret
                    exact ⟨by rw [hN.out]; rfl, B6⟩
                · have d1 : (m.ep == 0) = false := by rw [beq_eq_false_iff_ne]; exact e1
                  have hN : Hid (R = false) := by unfold Hid; rw [hR.out]; unfold miOk; rw [h_li.out, h_ep.out, h_al.out, h_in.out, h_sd.out, h_ac.out, hU, decide_eq_false e1]; rfl
                  clear e1
                  go_wp2
                  go_ret
                  exact ⟨by rw [hN.out]; rfl, B6⟩
              · rw [hU] at x0
                have hN : Hid (R = true) := by unfold Hid; rw [hR.out]; unfold miOk; rw [h_li.out, h_ep.out, h_al.out, h_in.out, h_sd.out, h_ac.out, hU]; rfl
                go_wp2
                go_ret
                exact ⟨by rw [hN.out]; rfl, B6⟩

end Go.Proofs.YtnpiljegdiconaaGreat
namespace Go.Proofs.YtnpiljegdiconaaGreat
open Go.ChangeShapes Go.WideShapes Go.ChangeAt Go.RowKit
open Go.ChangeMaps (open_string shut_string)
set_option linter.unusedVariables false
set_option maxRecDepth 100000

theorem maxS (a b : Int) (w : World) : Calls Tryz.prog 223 #[.int .i64 a, .int .i64 b] w fun e w' => e = .returned (.int .i64 (if b < a then a else b)) ∧ w' = w := by
  by_cases h : b < a
  · rw [if_pos h]
    have d : decide (b < a) = true := decide_eq_true h
    go_enter Tryz.func223, Tryz.ntmps223
    go_wp2
    go_ret
    exact ⟨rfl, rfl⟩
  · rw [if_neg h]
    have d : decide (b < a) = false := decide_eq_false h
    go_enter Tryz.func223, Tryz.ntmps223
    go_wp2
    go_ret
    exact ⟨rfl, rfl⟩
set_option maxHeartbeats 2000000 in
theorem regOkS (r : Rg) (w : World) : Calls Tryz.prog 21 #[.agg #[.int .i64 r.ep, .int .i64 r.ow, .int .i64 r.pa]] w fun e w' => e = .returned (.bool (rgOk r)) ∧ Below w.heap.size w w' := by
  obtain ⟨R, hR⟩ : ∃ R, R = rgOk r := ⟨_, rfl⟩
  rw [← hR]
  replace hR : Hid _ := hR
  obtain ⟨y, hy⟩ : ∃ y, y = w.alloc (Obj.cells #[.int .i64 r.ep, .int .i64 r.ow, .int .i64 r.pa] 25) := ⟨_, rfl⟩
  have B0 : Below w.heap.size w y := by rw [hy]; exact below_new _
  have A : RgAt y w.heap.size r := by rw [hy]; exact RgAt.new w _ r
  go_enter Tryz.func21, Tryz.ntmps21
  go_upto_region 1 with fail
  rw [← hy]
  clear hy
  have cc := A
  obtain ⟨x0, x1, x2⟩ := cc
  go_wp2_with fail
  go_at_call 65
  refine (inB r.ep 1 100000 y).mono ?_
  rintro e v0 ⟨rfl, hw_⟩
  have A := (by rw [hw_]; exact A : RgAt v0 w.heap.size r)
  have B0 := (by rw [hw_]; exact B0 : Below w.heap.size w v0)
  clear hw_
  clear x0 x1 x2
  cases h1 : decide (1 ≤ r.ep ∧ r.ep ≤ 100000)
  · have hN : Hid (R = false) := by unfold Hid; rw [hR.out]; unfold rgOk; rw [h1]; rfl
    clear h1
    go_wp2
    go_ret
    exact ⟨by rw [hN.out]; rfl, B0⟩
  · replace h1 : Hid _ := h1
    have cc := A
    obtain ⟨x0, x1, x2⟩ := cc
    go_wp2_with fail
    go_at_call 65
    refine (inB r.ow 0 1 v0).mono ?_
    rintro e v1 ⟨rfl, hw_⟩
    have A := (by rw [hw_]; exact A : RgAt v1 w.heap.size r)
    have B0 := (by rw [hw_]; exact B0 : Below w.heap.size w v1)
    clear hw_
    clear x0 x1 x2
    cases h2 : decide (0 ≤ r.ow ∧ r.ow ≤ 1)
    · have hN : Hid (R = false) := by unfold Hid; rw [hR.out]; unfold rgOk; rw [h1.out, h2]; rfl
      clear h2
      go_wp2
      go_ret
      exact ⟨by rw [hN.out]; rfl, B0⟩
    · replace h2 : Hid _ := h2
      have cc := A
      obtain ⟨x0, x1, x2⟩ := cc
      go_wp2_with fail
      go_at_call 65
      refine (inB r.pa 0 100000 v1).mono ?_
      rintro e v2 ⟨rfl, hw_⟩
      have A := (by rw [hw_]; exact A : RgAt v2 w.heap.size r)
      have B0 := (by rw [hw_]; exact B0 : Below w.heap.size w v2)
      clear hw_
      clear x0 x1 x2
      rw [show decide (0 ≤ r.pa ∧ r.pa ≤ 100000) = numB r.pa from rfl]
      have hN : Hid (R = numB r.pa) := by unfold Hid; rw [hR.out]; unfold rgOk; rw [h1.out, h2.out]; rfl
      rw [← hN.out]
      go_wp2
      go_ret
      exact ⟨rfl, B0⟩
set_option maxHeartbeats 2000000 in
theorem mindsS (r : Rg) (s : Int) (m : Mi) (ad : Option Addr) (cap : Nat) (w : World) (hv : FView ikEnc w ad m.lg) (hl : m.lg.length ≤ 1048577) :
    Calls Tryz.prog 19 #[.agg #[.int .i64 r.ep, .int .i64 r.ow, .int .i64 r.pa], .int .i64 s, .agg #[.bool m.up, .int .i64 m.li, .int .i64 m.ep, .slice ad m.lg.length cap, .int .i64 m.sd, .int .i64 m.ac, .int .i64 m.al]] w fun e w' => e = .returned (.bool (mindsB r s m)) ∧ Below w.heap.size w w' := by
  have hB := hv.lt ikEnc_len (by omega)
  obtain ⟨R, hR⟩ : ∃ R, R = mindsB r s m := ⟨_, rfl⟩
  rw [← hR]
  replace hR : Hid _ := hR
  obtain ⟨y, hy⟩ : ∃ y, y = (w.alloc (Obj.cells #[.int .i64 r.ep, .int .i64 r.ow, .int .i64 r.pa] 25)).alloc (Obj.cells #[.bool m.up, .int .i64 m.li, .int .i64 m.ep, .slice ad m.lg.length cap, .int .i64 m.sd, .int .i64 m.ac, .int .i64 m.al] 28) := ⟨_, rfl⟩
  have B0 : Below w.heap.size w y := by rw [hy]; exact ((Below.refl _ _).alloc (Nat.le_refl _) _).alloc (by simp) _
  have A : RgAt y w.heap.size r := by rw [hy]; constructor <;> simp [go_sem]
  have M : MiAt y (w.heap.size + 1) m (.slice ad m.lg.length cap) := by rw [hy]; constructor <;> simp [go_sem]
  have hv1 := hv.below B0 hB
  clear hv hB
  go_enter Tryz.func19, Tryz.ntmps19
  have cc := A
  obtain ⟨x0, x1, x2⟩ := cc
  go_wp2_with fail
  go_at_call 21
  rw [← hy]
  clear hy x0 x1 x2
  refine (regOkS r y).mono ?_
  rintro e v1 ⟨rfl, k1⟩
  have A := A.below k1 A.lt
  have M := M.below k1 M.lt
  have hv1 := hv1.below k1 (hv1.lt ikEnc_len (by omega))
  have B1 := B0.trans (k1.mono B0.size)
  clear k1 B0
  cases h1 : rgOk r
  · have hN : Hid (R = false) := by unfold Hid; rw [hR.out]; unfold mindsB; rw [h1]; rfl
    clear h1
    go_wp2
    go_ret
    exact ⟨by rw [hN.out]; rfl, B1⟩
  · replace h1 : Hid _ := h1
    have cc := M
    obtain ⟨x0, x1, x2, x3, x4, x5, x6⟩ := cc
    go_wp2_with fail
    go_at_call 64
    clear x0 x1 x2 x3 x4 x5 x6
    refine (miOkS m ad cap v1 hv1 hl).mono ?_
    rintro e v2 ⟨rfl, k2⟩
    have A := A.below k2 A.lt
    have M := M.below k2 M.lt
    have B2 := B1.trans (k2.mono B1.size)
    clear k2 B1 hv1
    cases h2 : miOk m
    · have hN : Hid (R = false) := by unfold Hid; rw [hR.out]; unfold mindsB; rw [h1.out, h2]; rfl
      clear h2
      go_wp2
      go_ret
      exact ⟨by rw [hN.out]; rfl, B2⟩
    · replace h2 : Hid _ := h2
      obtain ⟨x0, x1, x2, x3, x4, x5, x6⟩ := M
      obtain ⟨z0, z1, z2⟩ := A
      cases h3 : m.up
      · rw [h3] at x0
        have hN : Hid (R = false) := by unfold Hid; rw [hR.out]; unfold mindsB; rw [h1.out, h2.out, h3]; rfl
        go_wp2
        go_ret
        exact ⟨by rw [hN.out]; rfl, B2⟩
      · rw [h3] at x0
        by_cases h4 : s = r.ow
        · have d4 : (s == r.ow) = true := by simpa using h4
          have hN : Hid (R = (m.ep == r.ep)) := by unfold Hid; rw [hR.out]; unfold mindsB; rw [h1.out, h2.out, h3, decide_eq_true h4]; by_cases h5 : m.ep = r.ep <;> simp [h5]
          replace h4 : Hid _ := h4
          go_wp2
          go_ret
          exact ⟨by rw [hN.out]; rfl, B2⟩
        · have d4 : (s == r.ow) = false := by rw [beq_eq_false_iff_ne]; exact h4
          have hN : Hid (R = false) := by unfold Hid; rw [hR.out]; unfold mindsB; rw [h1.out, h2.out, h3, decide_eq_false h4]; rfl
          clear h4
          go_wp2
          go_ret
          exact ⟨by rw [hN.out]; rfl, B2⟩

end Go.Proofs.YtnpiljegdiconaaGreat
namespace Go.Proofs.YtnpiljegdiconaaGreat
open Go.ChangeShapes Go.WideShapes Go.ChangeAt Go.RowKit
open Go.ChangeMaps (open_string shut_string)
set_option linter.unusedVariables false
set_option maxRecDepth 100000

/-- A wire's box. -/
structure WiAt (w : World) (q : Nat) (x : Wi) : Prop where
  c0 : w.cell? ⟨q, 0, none⟩ = some (.int .i64 x.fr)
  c1 : w.cell? ⟨q, 1, none⟩ = some (.bool x.ak)
  c2 : w.cell? ⟨q, 2, none⟩ = some (.int .i64 x.li)
  c3 : w.cell? ⟨q, 3, none⟩ = some (.int .i64 x.n)
  c4 : w.cell? ⟨q, 4, none⟩ = some (.int .i64 x.x.k)
  c5 : w.cell? ⟨q, 5, none⟩ = some (.int .i64 x.x.q)
  c6 : w.cell? ⟨q, 6, none⟩ = some (.int .i64 x.x.r)
  c7 : w.cell? ⟨q, 7, none⟩ = some (.int .i64 x.x.c)
  c8 : w.cell? ⟨q, 8, none⟩ = some (.int .i64 x.x.b)
  c9 : w.cell? ⟨q, 9, none⟩ = some (.int .i64 x.x.p)
  c10 : w.cell? ⟨q, 10, none⟩ = some (.int .i64 x.x.h)
  c11 : w.cell? ⟨q, 11, none⟩ = some (.bool x.x.up)
theorem WiAt.new (w : World) (t : TypeId) (x : Wi) : WiAt (w.alloc (Obj.cells #[.int .i64 x.fr, .bool x.ak, .int .i64 x.li, .int .i64 x.n, .int .i64 x.x.k, .int .i64 x.x.q, .int .i64 x.x.r, .int .i64 x.x.c, .int .i64 x.x.b, .int .i64 x.x.p, .int .i64 x.x.h, .bool x.x.up] t)) w.heap.size x := by
  refine ⟨?_, ?_, ?_, ?_, ?_, ?_, ?_, ?_, ?_, ?_, ?_, ?_⟩ <;> simp [go_sem]
theorem WiAt.keep {w w' : World} {q : Nat} {x : Wi} (h : WiAt w q x) (k : w'.heap[q]? = w.heap[q]?) : WiAt w' q x :=
  ⟨(World.cell?_of_block (a := ⟨q, 0, none⟩) k).trans h.c0, (World.cell?_of_block (a := ⟨q, 1, none⟩) k).trans h.c1, (World.cell?_of_block (a := ⟨q, 2, none⟩) k).trans h.c2, (World.cell?_of_block (a := ⟨q, 3, none⟩) k).trans h.c3, (World.cell?_of_block (a := ⟨q, 4, none⟩) k).trans h.c4, (World.cell?_of_block (a := ⟨q, 5, none⟩) k).trans h.c5, (World.cell?_of_block (a := ⟨q, 6, none⟩) k).trans h.c6, (World.cell?_of_block (a := ⟨q, 7, none⟩) k).trans h.c7, (World.cell?_of_block (a := ⟨q, 8, none⟩) k).trans h.c8, (World.cell?_of_block (a := ⟨q, 9, none⟩) k).trans h.c9, (World.cell?_of_block (a := ⟨q, 10, none⟩) k).trans h.c10, (World.cell?_of_block (a := ⟨q, 11, none⟩) k).trans h.c11⟩
theorem WiAt.below {w w' : World} {q n : Nat} {x : Wi} (h : WiAt w q x) (k : Below n w w') (hq : q < n) : WiAt w' q x := h.keep (k.block q hq)
theorem WiAt.lt {w : World} {q : Nat} {x : Wi} (h : WiAt w q x) : q < w.heap.size := World.block_lt_of_cell? w _ h.c0
theorem neqIn (x : Ik) (w : World) : (binOp .neq 105 (.agg #[.int .i64 x.k, .int .i64 x.q, .int .i64 x.r, .int .i64 x.c, .int .i64 x.b, .int .i64 x.p, .int .i64 x.h, .bool x.up]) (.agg #[.int .i64 0, .int .i64 0, .int .i64 0, .int .i64 0, .int .i64 0, .int .i64 0, .int .i64 0, .bool false])).run Tryz.prog w = .ok (.bool (!inNil x)) w := by
  have hE : (binOp .eql 105 (.agg #[.int .i64 x.k, .int .i64 x.q, .int .i64 x.r, .int .i64 x.c, .int .i64 x.b, .int .i64 x.p, .int .i64 x.h, .bool x.up]) (.agg #[.int .i64 0, .int .i64 0, .int .i64 0, .int .i64 0, .int .i64 0, .int .i64 0, .int .i64 0, .bool false])).run Tryz.prog w = .ok (.bool (inNil x)) w := by
    unfold inNil
    go_simp
    all_goals ((repeat' split) <;> first | (simp_all; done) | grind)
  unfold inNil
  go_simp
  all_goals ((repeat' split) <;> first | (simp_all; done) | grind)
set_option maxHeartbeats 4000000 in
theorem netS (x : BxD) (w : World) (hV : BxV w x) :
    Calls Tryz.prog 89 #[.agg #[.int .i64 x.id, .int .i64 x.po, .int .i64 x.rg.ep, .int .i64 x.rg.ow, .int .i64 x.rg.pa, .slice x.aT x.two.length x.cT, .slice x.aN x.net.length x.cN, .slice x.aG x.ga.length x.cG, .slice x.aL x.ln.length x.cL, .slice x.aS x.sd.length x.cS]] w fun e w' => e = .returned (.bool (x.net.all wiOk && decide (x.net.length ≤ 20))) ∧ Below w.heap.size w w' := by
  obtain ⟨R, hR⟩ : ∃ R, R = (x.net.all wiOk && decide (x.net.length ≤ 20)) := ⟨_, rfl⟩
  rw [← hR]
  replace hR : Hid _ := hR
  obtain ⟨y, hy⟩ : ∃ y, y = w.alloc (Obj.cells #[.int .i64 x.id, .int .i64 x.po, .int .i64 x.rg.ep, .int .i64 x.rg.ow, .int .i64 x.rg.pa, .slice x.aT x.two.length x.cT, .slice x.aN x.net.length x.cN, .slice x.aG x.ga.length x.cG, .slice x.aL x.ln.length x.cL, .slice x.aS x.sd.length x.cS] 48) := ⟨_, rfl⟩
  have B0 : Below w.heap.size w y := by rw [hy]; exact below_new _
  have A : BxAt y w.heap.size x := by rw [hy]; exact BxAt.new w _ x
  have V := hV.later B0
  have S0 := A.lt
  have bn := V.bn
  go_enter Tryz.func89, Tryz.ntmps89
  go_upto_region 1 with fail
  rw [← hy]
  clear hy hV
  go_wp2
  go_loopw [3] (fun i wr => ∃ k : Nat, k ≤ x.net.length ∧ i = .int .i64 k ∧ (x.net.take k).all wiOk = true ∧ Below y.heap.size y wr) (fun i _ => x.net.length - (intOf i).toNat)
  case atStart => exact ⟨0, Nat.zero_le _, rfl, rfl, Below.refl _ _⟩
  case round =>
    obtain ⟨k, hk, rfl, T, K⟩ := hrel
    replace T : Hid _ := T
    have A2 := A.below K S0
    have V2 := V.later K
    have cc := A2
    obtain ⟨a0, a1, a2, a3, a4, a5, a6, a7, a8, a9⟩ := cc
    by_cases hlt : k < x.net.length
    · obtain ⟨b, off, hat, _⟩ := V2.n (by omega)
      rw [hat] at a6
      obtain ⟨v, hh⟩ : ∃ v, x.net.getD k Wi.nil = v := ⟨_, rfl⟩
      have hck : WiAtO wr b (off + k * 12) v := by
        have ht := V2.n
        rw [hat] at ht
        rw [← hh]
        exact wiAtO_of (ht.at_ wiEnc_len Wi.nil hlt)
      have hT := all_take wiOk x.net Wi.nil hlt
      rw [T.out, hh, Bool.true_and] at hT
      have hNo : wiOk v = false → x.net.all wiOk = false := fun e => all_no wiOk x.net Wi.nil hlt (by rw [hh]; exact e)
      replace hT : Hid _ := hT
      replace hh : Hid _ := hh
      replace hat : Hid _ := hat
      obtain ⟨c0, c1, c2, c3, c4, c5, c6, c7, c8, c9, c10, c11⟩ := hck
      obtain ⟨u, hu⟩ : ∃ u, u = wr.alloc (Obj.cells #[.int .i64 v.fr, .bool v.ak, .int .i64 v.li, .int .i64 v.n, .int .i64 v.x.k, .int .i64 v.x.q, .int .i64 v.x.r, .int .i64 v.x.c, .int .i64 v.x.b, .int .i64 v.x.p, .int .i64 v.x.h, .bool v.x.up] 112) := ⟨_, rfl⟩
      have ku : Below wr.heap.size wr u := by rw [hu]; exact below_new _
      have U : WiAt u wr.heap.size v := by rw [hu]; exact WiAt.new wr _ v
      have K0 := K.trans (ku.mono K.size)
      go_upto_region 5 with fail
      rw [← hu]
      clear hu ku c0 c1 c2 c3 c4 c5 c6 c7 c8 c9 c10 c11 K A2 V2 a0 a1 a2 a3 a4 a5 a6 a7 a8 a9
      have cc := U
      obtain ⟨c0, c1, c2, c3, c4, c5, c6, c7, c8, c9, c10, c11⟩ := cc
      go_wp2_with fail
      go_at_call 65
      clear c0 c1 c2 c3 c4 c5 c6 c7 c8 c9 c10 c11
      refine (inB v.fr 0 1 u).mono ?_
      rintro e u1 ⟨rfl, hw_⟩
      have U := (by rw [hw_]; exact U : WiAt u1 wr.heap.size v)
      have K1 := (by rw [hw_]; exact K0 : Below y.heap.size y u1)
      clear hw_ K0
      cases h1 : decide (0 ≤ v.fr ∧ v.fr ≤ 1)
      · have hx : wiOk v = false := by unfold wiOk; rw [h1]; rfl
        have hN : Hid (R = false) := by unfold Hid; rw [hR.out, hNo hx]; rfl
        clear hx hNo h1
        go_wp2
        go_ret
        exact ⟨by rw [hN.out]; rfl, B0.trans (K1.mono B0.size)⟩
      · replace h1 : Hid _ := h1
        have cc := U
        obtain ⟨c0, c1, c2, c3, c4, c5, c6, c7, c8, c9, c10, c11⟩ := cc
        go_wp2_with fail
        go_at_call 65
        clear c0 c1 c2 c3 c4 c5 c6 c7 c8 c9 c10 c11
        refine (inB v.li 0 100000 u1).mono ?_
        rintro e u2 ⟨rfl, hw_⟩
        have U := (by rw [hw_]; exact U : WiAt u2 wr.heap.size v)
        have K2 := (by rw [hw_]; exact K1 : Below y.heap.size y u2)
        clear hw_ K1
        rw [show decide (0 ≤ v.li ∧ v.li ≤ 100000) = numB v.li from rfl]
        cases h2 : numB v.li
        · have hx : wiOk v = false := by unfold wiOk; rw [h1.out, h2]; rfl
          have hN : Hid (R = false) := by unfold Hid; rw [hR.out, hNo hx]; rfl
          clear hx hNo h2
          go_wp2
          go_ret
          exact ⟨by rw [hN.out]; rfl, B0.trans (K2.mono B0.size)⟩
        · replace h2 : Hid _ := h2
          have cc := U
          obtain ⟨c0, c1, c2, c3, c4, c5, c6, c7, c8, c9, c10, c11⟩ := cc
          go_wp2_with fail
          go_at_call 65
          clear c0 c1 c2 c3 c4 c5 c6 c7 c8 c9 c10 c11
          refine (inB v.n 0 100000 u2).mono ?_
          rintro e u3 ⟨rfl, hw_⟩
          have U := (by rw [hw_]; exact U : WiAt u3 wr.heap.size v)
          have K3 := (by rw [hw_]; exact K2 : Below y.heap.size y u3)
          clear hw_ K2
          rw [show decide (0 ≤ v.n ∧ v.n ≤ 100000) = numB v.n from rfl]
          cases h3 : numB v.n
          · have hx : wiOk v = false := by unfold wiOk; rw [h1.out, h2.out, h3]; rfl
            have hN : Hid (R = false) := by unfold Hid; rw [hR.out, hNo hx]; rfl
            clear hx hNo h3
            go_wp2
            go_ret
            exact ⟨by rw [hN.out]; rfl, B0.trans (K3.mono B0.size)⟩
          · replace h3 : Hid _ := h3
            cases h4 : v.ak
            · have cc := U
              obtain ⟨c0, c1, c2, c3, c4, c5, c6, c7, c8, c9, c10, c11⟩ := cc
              rw [h4] at c1
              replace h4 : Hid _ := h4
              go_wp2_with fail
              go_at_call 134
              clear c0 c1 c2 c3 c4 c5 c6 c7 c8 c9 c10 c11
              refine (inOkS v.x u3).mono ?_
              rintro e u4 ⟨rfl, k4⟩
              have K4 := K3.trans (k4.mono K3.size)
              clear k4 K3
              cases h5 : inOk v.x
              · have hx : wiOk v = false := by unfold wiOk; rw [h1.out, h2.out, h3.out, h4.out, if_neg (by decide), h5]; rfl
                have hN : Hid (R = false) := by unfold Hid; rw [hR.out, hNo hx]; rfl
                clear hx hNo h5
                go_wp2
                go_ret
                exact ⟨by rw [hN.out]; rfl, B0.trans (K4.mono B0.size)⟩
              · replace h5 : Hid _ := h5
                have hx : wiOk v = true := by unfold wiOk; rw [h1.out, h2.out, h3.out, h4.out, if_neg (by decide), h5.out]; rfl
                have hT2 : Hid ((x.net.take (k + 1)).all wiOk = true) := by unfold Hid; rw [hT.out, hx]
                clear hx hNo
                go_wp2
                go_roundw
                case rel => exact ⟨k + 1, by omega, by go_num, hT2.out, K4⟩
                case measure => simp [intOf]; omega
            · have eI := neqIn v.x
              have cc := U
              obtain ⟨c0, c1, c2, c3, c4, c5, c6, c7, c8, c9, c10, c11⟩ := cc
              rw [h4] at c1
              replace h4 : Hid _ := h4
              cases h5 : inNil v.x
              · rw [h5] at eI
                have hx : wiOk v = false := by unfold wiOk; rw [h1.out, h2.out, h3.out, h4.out, if_pos rfl, h5]; rfl
                have hN : Hid (R = false) := by unfold Hid; rw [hR.out, hNo hx]; rfl
                clear hx hNo h5
                go_wp2
                go_ret
                exact ⟨by rw [hN.out]; rfl, B0.trans (K3.mono B0.size)⟩
              · rw [h5] at eI
                replace h5 : Hid _ := h5
                have hx : wiOk v = true := by unfold wiOk; rw [h1.out, h2.out, h3.out, h4.out, if_pos rfl, h5.out]; rfl
                have hT2 : Hid ((x.net.take (k + 1)).all wiOk = true) := by unfold Hid; rw [hT.out, hx]
                clear hx hNo
                go_wp2
                go_roundw
                case rel => exact ⟨k + 1, by omega, by go_num, hT2.out, K3⟩
                case measure => simp [intOf]; omega
    · obtain rfl : k = x.net.length := by omega
      have hN : Hid (R = decide ((x.net.length : Int) ≤ 20)) := by
        unfold Hid; rw [hR.out]
        have := T.out
        rw [List.take_length] at this
        rw [this, Bool.true_and]
        by_cases h : x.net.length ≤ 20
        · rw [decide_eq_true h, decide_eq_true (by omega)]
        · rw [decide_eq_false h, decide_eq_false (by omega)]
      go_wp2
      go_ret
      exact ⟨by rw [hN.out]; rfl, B0.trans (K.mono B0.size)⟩

end Go.Proofs.YtnpiljegdiconaaGreat
namespace Go.Proofs.YtnpiljegdiconaaGreat
open Go.ChangeShapes Go.WideShapes Go.ChangeAt Go.RowKit
open Go.ChangeMaps (open_string shut_string)
set_option linter.unusedVariables false
set_option maxRecDepth 100000

theorem wiPut (w : World) (g o : Nat) (x : Wi) : putAll w g o (wiEnc x) = ((((((((((((w.setCell ⟨g, o, none⟩ (.int .i64 x.fr)).setCell ⟨g, o + 1, none⟩ (.bool x.ak)).setCell ⟨g, o + 2, none⟩ (.int .i64 x.li)).setCell ⟨g, o + 3, none⟩ (.int .i64 x.n)).setCell ⟨g, o + 4, none⟩ (.int .i64 x.x.k)).setCell ⟨g, o + 5, none⟩ (.int .i64 x.x.q)).setCell ⟨g, o + 6, none⟩ (.int .i64 x.x.r)).setCell ⟨g, o + 7, none⟩ (.int .i64 x.x.c)).setCell ⟨g, o + 8, none⟩ (.int .i64 x.x.b)).setCell ⟨g, o + 9, none⟩ (.int .i64 x.x.p)).setCell ⟨g, o + 10, none⟩ (.int .i64 x.x.h)).setCell ⟨g, o + 11, none⟩ (.bool x.x.up)) := rfl
theorem WiAtO.below {w w' : World} {q o n : Nat} {x : Wi} (h : WiAtO w q o x) (k : Below n w w') (hq : q < n) : WiAtO w' q o x :=
  ⟨(World.cell?_of_block (a := ⟨q, o, none⟩) (k.block q hq)).trans h.c0, (World.cell?_of_block (a := ⟨q, o + 1, none⟩) (k.block q hq)).trans h.c1, (World.cell?_of_block (a := ⟨q, o + 2, none⟩) (k.block q hq)).trans h.c2, (World.cell?_of_block (a := ⟨q, o + 3, none⟩) (k.block q hq)).trans h.c3, (World.cell?_of_block (a := ⟨q, o + 4, none⟩) (k.block q hq)).trans h.c4, (World.cell?_of_block (a := ⟨q, o + 5, none⟩) (k.block q hq)).trans h.c5, (World.cell?_of_block (a := ⟨q, o + 6, none⟩) (k.block q hq)).trans h.c6, (World.cell?_of_block (a := ⟨q, o + 7, none⟩) (k.block q hq)).trans h.c7, (World.cell?_of_block (a := ⟨q, o + 8, none⟩) (k.block q hq)).trans h.c8, (World.cell?_of_block (a := ⟨q, o + 9, none⟩) (k.block q hq)).trans h.c9, (World.cell?_of_block (a := ⟨q, o + 10, none⟩) (k.block q hq)).trans h.c10, (World.cell?_of_block (a := ⟨q, o + 11, none⟩) (k.block q hq)).trans h.c11⟩
set_option maxHeartbeats 2000000 in
theorem toWiI (x : Wi) (w : World) : Calls Tryz.prog 162 #[.agg #[.int .i64 x.fr, .bool x.ak, .int .i64 x.li, .int .i64 x.n, .int .i64 x.x.k, .int .i64 x.x.q, .int .i64 x.x.r, .int .i64 x.x.c, .int .i64 x.x.b, .int .i64 x.x.p, .int .i64 x.x.h, .bool x.x.up]] w fun e w' => e = .returned (.agg #[.int .i64 x.fr, .bool x.ak, .int .i64 x.li, .int .i64 x.n, .int .i64 x.x.k, .int .i64 x.x.q, .int .i64 x.x.r, .int .i64 x.x.c, .int .i64 x.x.b, .int .i64 x.x.p, .int .i64 x.x.h, .bool x.x.up]) ∧ Below w.heap.size w w' := by
  obtain ⟨w0, hw0⟩ : ∃ w0, w0 = ((w.alloc (Obj.cells #[.int .i64 x.fr, .bool x.ak, .int .i64 x.li, .int .i64 x.n, .int .i64 x.x.k, .int .i64 x.x.q, .int .i64 x.x.r, .int .i64 x.x.c, .int .i64 x.x.b, .int .i64 x.x.p, .int .i64 x.x.h, .bool x.x.up] 198)).alloc (Obj.cells #[.int .i64 0, .bool false, .int .i64 0, .int .i64 0, .int .i64 0, .int .i64 0, .int .i64 0, .int .i64 0, .int .i64 0, .int .i64 0, .int .i64 0, .bool false] 112)).alloc (Obj.cells #[.int .i64 x.fr, .bool x.ak, .int .i64 x.li, .int .i64 x.n, .int .i64 0, .int .i64 0, .int .i64 0, .int .i64 0, .int .i64 0, .int .i64 0, .int .i64 0, .bool false] 112) := ⟨_, rfl⟩
  have b0 : Below w.heap.size w w0 := by rw [hw0]; exact (((Below.refl _ _).alloc (Nat.le_refl _) _).alloc (by simp) _).alloc (by simp; omega) _
  have P0 : WiAt w0 w.heap.size x := by rw [hw0]; constructor <;> simp [go_sem]
  have Q0 : WiAt w0 (w.heap.size + 1) Wi.nil := by rw [hw0]; constructor <;> simp [go_sem, Wi.nil, ikN]
  have R0 : WiAt w0 (w.heap.size + 1 + 1) ⟨x.fr, x.ak, x.li, x.n, ⟨0, 0, 0, 0, 0, 0, 0, false⟩⟩ := by rw [hw0]; constructor <;> simp [go_sem]
  have QF : ∀ i, w0.frozen? ⟨w.heap.size + 1, i, none⟩ = false := fun i => by rw [hw0]; simp [go_sem]
  have RF : ∀ i, w0.frozen? ⟨w.heap.size + 1 + 1, i, none⟩ = false := fun i => by rw [hw0]; simp [go_sem]
  have S0 := R0.lt
  go_enter Tryz.func162, Tryz.ntmps162
  go_wp2_with fail
  go_at_call 163
  rw [← hw0]
  clear hw0
  refine (toInI x.x w0).mono ?_
  rintro e w1 ⟨rfl, k1⟩
  have b1 := b0.trans (k1.mono b0.size)
  obtain ⟨p0, p1, p2, p3, p4, p5, p6, p7, p8, p9, p10, p11⟩ := P0.below k1 (by omega)
  obtain ⟨r0, r1, r2, r3, r4, r5, r6, r7, r8, r9, r10, r11⟩ := R0.below k1 (by omega)
  obtain ⟨q0, q1, q2, q3, q4, q5, q6, q7, q8, q9, q10, q11⟩ := Q0.below k1 (by omega)
  have qf0 : w1.frozen? ⟨w.heap.size + 1, 0, none⟩ = false := (World.frozen?_of_block (a := ⟨w.heap.size + 1, 0, none⟩) (k1.block (w.heap.size + 1) (by omega))).trans (QF 0)
  have rf0 : w1.frozen? ⟨w.heap.size + 1 + 1, 0, none⟩ = false := (World.frozen?_of_block (a := ⟨w.heap.size + 1 + 1, 0, none⟩) (k1.block (w.heap.size + 1 + 1) (by omega))).trans (RF 0)
  have qf1 : w1.frozen? ⟨w.heap.size + 1, 1, none⟩ = false := (World.frozen?_of_block (a := ⟨w.heap.size + 1, 1, none⟩) (k1.block (w.heap.size + 1) (by omega))).trans (QF 1)
  have rf1 : w1.frozen? ⟨w.heap.size + 1 + 1, 1, none⟩ = false := (World.frozen?_of_block (a := ⟨w.heap.size + 1 + 1, 1, none⟩) (k1.block (w.heap.size + 1 + 1) (by omega))).trans (RF 1)
  have qf2 : w1.frozen? ⟨w.heap.size + 1, 2, none⟩ = false := (World.frozen?_of_block (a := ⟨w.heap.size + 1, 2, none⟩) (k1.block (w.heap.size + 1) (by omega))).trans (QF 2)
  have rf2 : w1.frozen? ⟨w.heap.size + 1 + 1, 2, none⟩ = false := (World.frozen?_of_block (a := ⟨w.heap.size + 1 + 1, 2, none⟩) (k1.block (w.heap.size + 1 + 1) (by omega))).trans (RF 2)
  have qf3 : w1.frozen? ⟨w.heap.size + 1, 3, none⟩ = false := (World.frozen?_of_block (a := ⟨w.heap.size + 1, 3, none⟩) (k1.block (w.heap.size + 1) (by omega))).trans (QF 3)
  have rf3 : w1.frozen? ⟨w.heap.size + 1 + 1, 3, none⟩ = false := (World.frozen?_of_block (a := ⟨w.heap.size + 1 + 1, 3, none⟩) (k1.block (w.heap.size + 1 + 1) (by omega))).trans (RF 3)
  have qf4 : w1.frozen? ⟨w.heap.size + 1, 4, none⟩ = false := (World.frozen?_of_block (a := ⟨w.heap.size + 1, 4, none⟩) (k1.block (w.heap.size + 1) (by omega))).trans (QF 4)
  have rf4 : w1.frozen? ⟨w.heap.size + 1 + 1, 4, none⟩ = false := (World.frozen?_of_block (a := ⟨w.heap.size + 1 + 1, 4, none⟩) (k1.block (w.heap.size + 1 + 1) (by omega))).trans (RF 4)
  have qf5 : w1.frozen? ⟨w.heap.size + 1, 5, none⟩ = false := (World.frozen?_of_block (a := ⟨w.heap.size + 1, 5, none⟩) (k1.block (w.heap.size + 1) (by omega))).trans (QF 5)
  have rf5 : w1.frozen? ⟨w.heap.size + 1 + 1, 5, none⟩ = false := (World.frozen?_of_block (a := ⟨w.heap.size + 1 + 1, 5, none⟩) (k1.block (w.heap.size + 1 + 1) (by omega))).trans (RF 5)
  have qf6 : w1.frozen? ⟨w.heap.size + 1, 6, none⟩ = false := (World.frozen?_of_block (a := ⟨w.heap.size + 1, 6, none⟩) (k1.block (w.heap.size + 1) (by omega))).trans (QF 6)
  have rf6 : w1.frozen? ⟨w.heap.size + 1 + 1, 6, none⟩ = false := (World.frozen?_of_block (a := ⟨w.heap.size + 1 + 1, 6, none⟩) (k1.block (w.heap.size + 1 + 1) (by omega))).trans (RF 6)
  have qf7 : w1.frozen? ⟨w.heap.size + 1, 7, none⟩ = false := (World.frozen?_of_block (a := ⟨w.heap.size + 1, 7, none⟩) (k1.block (w.heap.size + 1) (by omega))).trans (QF 7)
  have rf7 : w1.frozen? ⟨w.heap.size + 1 + 1, 7, none⟩ = false := (World.frozen?_of_block (a := ⟨w.heap.size + 1 + 1, 7, none⟩) (k1.block (w.heap.size + 1 + 1) (by omega))).trans (RF 7)
  have qf8 : w1.frozen? ⟨w.heap.size + 1, 8, none⟩ = false := (World.frozen?_of_block (a := ⟨w.heap.size + 1, 8, none⟩) (k1.block (w.heap.size + 1) (by omega))).trans (QF 8)
  have rf8 : w1.frozen? ⟨w.heap.size + 1 + 1, 8, none⟩ = false := (World.frozen?_of_block (a := ⟨w.heap.size + 1 + 1, 8, none⟩) (k1.block (w.heap.size + 1 + 1) (by omega))).trans (RF 8)
  have qf9 : w1.frozen? ⟨w.heap.size + 1, 9, none⟩ = false := (World.frozen?_of_block (a := ⟨w.heap.size + 1, 9, none⟩) (k1.block (w.heap.size + 1) (by omega))).trans (QF 9)
  have rf9 : w1.frozen? ⟨w.heap.size + 1 + 1, 9, none⟩ = false := (World.frozen?_of_block (a := ⟨w.heap.size + 1 + 1, 9, none⟩) (k1.block (w.heap.size + 1 + 1) (by omega))).trans (RF 9)
  have qf10 : w1.frozen? ⟨w.heap.size + 1, 10, none⟩ = false := (World.frozen?_of_block (a := ⟨w.heap.size + 1, 10, none⟩) (k1.block (w.heap.size + 1) (by omega))).trans (QF 10)
  have rf10 : w1.frozen? ⟨w.heap.size + 1 + 1, 10, none⟩ = false := (World.frozen?_of_block (a := ⟨w.heap.size + 1 + 1, 10, none⟩) (k1.block (w.heap.size + 1 + 1) (by omega))).trans (RF 10)
  have qf11 : w1.frozen? ⟨w.heap.size + 1, 11, none⟩ = false := (World.frozen?_of_block (a := ⟨w.heap.size + 1, 11, none⟩) (k1.block (w.heap.size + 1) (by omega))).trans (QF 11)
  have rf11 : w1.frozen? ⟨w.heap.size + 1 + 1, 11, none⟩ = false := (World.frozen?_of_block (a := ⟨w.heap.size + 1 + 1, 11, none⟩) (k1.block (w.heap.size + 1 + 1) (by omega))).trans (RF 11)
  clear P0 R0 Q0 QF RF k1 b0
  go_wp2
  refine bodyPost_ret (v := .agg #[.int .i64 x.fr, .bool x.ak, .int .i64 x.li, .int .i64 x.n, .int .i64 x.x.k, .int .i64 x.x.q, .int .i64 x.x.r, .int .i64 x.x.c, .int .i64 x.x.b, .int .i64 x.x.p, .int .i64 x.x.h, .bool x.x.up]) (by simp [results, Tryz.results162, go_sem, *]) rfl ⟨rfl, ?_⟩
  repeat' (first | with_reducible exact b1 | refine Below.setCell ?_ (by first | (show _ ≤ w.heap.size + 1; omega) | (show _ ≤ w.heap.size + 1 + 1; omega)) _)
set_option maxHeartbeats 2000000 in
theorem eqWiI (x : Wi) (w : World) :
    Calls Tryz.prog 166 #[.agg #[.int .i64 x.fr, .bool x.ak, .int .i64 x.li, .int .i64 x.n, .int .i64 x.x.k, .int .i64 x.x.q, .int .i64 x.x.r, .int .i64 x.x.c, .int .i64 x.x.b, .int .i64 x.x.p, .int .i64 x.x.h, .bool x.x.up], .agg #[.int .i64 x.fr, .bool x.ak, .int .i64 x.li, .int .i64 x.n, .int .i64 x.x.k, .int .i64 x.x.q, .int .i64 x.x.r, .int .i64 x.x.c, .int .i64 x.x.b, .int .i64 x.x.p, .int .i64 x.x.h, .bool x.x.up]] w fun e w' => e = .returned (.bool true) ∧ Below w.heap.size w w' := by
  obtain ⟨w0, hw0⟩ : ∃ w0, w0 = (w.alloc (Obj.cells #[.int .i64 x.fr, .bool x.ak, .int .i64 x.li, .int .i64 x.n, .int .i64 x.x.k, .int .i64 x.x.q, .int .i64 x.x.r, .int .i64 x.x.c, .int .i64 x.x.b, .int .i64 x.x.p, .int .i64 x.x.h, .bool x.x.up] 112)).alloc (Obj.cells #[.int .i64 x.fr, .bool x.ak, .int .i64 x.li, .int .i64 x.n, .int .i64 x.x.k, .int .i64 x.x.q, .int .i64 x.x.r, .int .i64 x.x.c, .int .i64 x.x.b, .int .i64 x.x.p, .int .i64 x.x.h, .bool x.x.up] 112) := ⟨_, rfl⟩
  have b0 : Below w.heap.size w w0 := by rw [hw0]; exact ((Below.refl _ _).alloc (Nat.le_refl _) _).alloc (by simp) _
  have P0 : WiAt w0 w.heap.size x := by rw [hw0]; constructor <;> simp [go_sem]
  have R0 : WiAt w0 (w.heap.size + 1) x := by rw [hw0]; constructor <;> simp [go_sem]
  have hle := R0.lt
  have hak : (x.ak != x.ak) = false := by simp
  go_enter Tryz.func166, Tryz.ntmps166
  go_wp2_with fail
  go_at_call 167
  rw [← hw0]
  clear hw0
  refine (eqInI x.x w0).mono ?_
  rintro e w1 ⟨rfl, k1⟩
  have b1 := b0.trans (k1.mono b0.size)
  clear P0 R0 k1 b0
  go_wp2
  go_ret
  exact ⟨rfl, b1⟩

end Go.Proofs.YtnpiljegdiconaaGreat
namespace Go.Proofs.YtnpiljegdiconaaGreat
open Go.ChangeShapes Go.WideShapes Go.ChangeAt Go.RowKit
open Go.ChangeMaps (open_string shut_string)
set_option linter.unusedVariables false
set_option maxRecDepth 100000

set_option maxRecDepth 100000 in
theorem wiRow_open {H : Type} {enc : TypeId × Value → H} {w : World} {n0 : Nat} {v : Value} {x : DataW H × List MemPlace} (hn : DataW.trod enc Tryz.prog w 0 (fun _ => true) true n0 66 [v] = some x) :
    ∃ ad cap L, v = .slice ad L.length cap ∧ L.length ≤ maxLen ∧ FView wiEnc w ad L ∧ (ad = none → cap = 0) := by
  have hs := Go.Deep.open_slice Tryz.underlying66 hn
  have hcell : ∀ x, [v] = [x] → v = x := fun x h => by simpa using h
  rcases hs with ⟨hcs, _⟩ | ⟨a, len, cap, m, n, D, Pl, hcs, _, hl, hm, hmm, _, hx⟩
  · exact ⟨none, 0, [], hcell _ hcs, by simp, FView.nil, fun _ => rfl⟩
  · simp at hmm
    subst hmm
    have each : ∀ i, i < m → ∃ q : Wi, w.cell? (a.add (i * 12)) = some (.int .i64 q.fr) ∧ w.cell? (a.add (i * 12 + 1)) = some (.bool q.ak) ∧ w.cell? (a.add (i * 12 + 2)) = some (.int .i64 q.li) ∧ w.cell? (a.add (i * 12 + 3)) = some (.int .i64 q.n) ∧ w.cell? (a.add (i * 12 + 4)) = some (.int .i64 q.x.k) ∧ w.cell? (a.add (i * 12 + 5)) = some (.int .i64 q.x.q) ∧ w.cell? (a.add (i * 12 + 6)) = some (.int .i64 q.x.r) ∧ w.cell? (a.add (i * 12 + 7)) = some (.int .i64 q.x.c) ∧ w.cell? (a.add (i * 12 + 8)) = some (.int .i64 q.x.b) ∧ w.cell? (a.add (i * 12 + 9)) = some (.int .i64 q.x.p) ∧ w.cell? (a.add (i * 12 + 10)) = some (.int .i64 q.x.h) ∧ w.cell? (a.add (i * 12 + 11)) = some (.bool q.x.up) := by
      intro i hi
      obtain ⟨cs', h1, h2⟩ := hx i hi
      rw [(by kernel_rfl : Tryz.prog.cellsOf 198 = 12)] at h1
      obtain ⟨_, hlen, hc⟩ := World.cells?_some h1
      obtain ⟨xs, k, hk, hxy, _, hxl, hf⟩ := DataW.trod_struct Tryz.underlying198 h2
      match xs, hxl, cs', hlen with
      | [y0, y1, y2, y3, y4], _, [c0, c1, c2, c3, c4, c5, c6, c7, c8, c9, c10, c11], _ =>
        have g0 : DataW.trod enc Tryz.prog w 0 (fun _ => true) true k 3 ((List.drop 0 [c0, c1, c2, c3, c4, c5, c6, c7, c8, c9, c10, c11]).take (Tryz.prog.cellsOf 3)) = some y0 := hf 0 _ rfl
        rw [(by kernel_rfl : Tryz.prog.cellsOf 3 = 1)] at g0
        have g1 : DataW.trod enc Tryz.prog w 0 (fun _ => true) true k 4 ((List.drop 1 [c0, c1, c2, c3, c4, c5, c6, c7, c8, c9, c10, c11]).take (Tryz.prog.cellsOf 4)) = some y1 := hf 1 _ rfl
        rw [(by kernel_rfl : Tryz.prog.cellsOf 4 = 1)] at g1
        have g2 : DataW.trod enc Tryz.prog w 0 (fun _ => true) true k 3 ((List.drop 2 [c0, c1, c2, c3, c4, c5, c6, c7, c8, c9, c10, c11]).take (Tryz.prog.cellsOf 3)) = some y2 := hf 2 _ rfl
        rw [(by kernel_rfl : Tryz.prog.cellsOf 3 = 1)] at g2
        have g3 : DataW.trod enc Tryz.prog w 0 (fun _ => true) true k 3 ((List.drop 3 [c0, c1, c2, c3, c4, c5, c6, c7, c8, c9, c10, c11]).take (Tryz.prog.cellsOf 3)) = some y3 := hf 3 _ rfl
        rw [(by kernel_rfl : Tryz.prog.cellsOf 3 = 1)] at g3
        have g4 : DataW.trod enc Tryz.prog w 0 (fun _ => true) true k 196 ((List.drop 4 [c0, c1, c2, c3, c4, c5, c6, c7, c8, c9, c10, c11]).take (Tryz.prog.cellsOf 196)) = some y4 := hf 4 _ rfl
        rw [(by kernel_rfl : Tryz.prog.cellsOf 196 = 8)] at g4
        obtain ⟨us4_, k4_, hk4_, hxy4_, _, hul4_, hg4_⟩ := DataW.trod_struct Tryz.underlying196 g4
        match us4_, hul4_ with
        | [u4_0, u4_1, u4_2, u4_3, u4_4], _ =>
          have g4_0 : DataW.trod enc Tryz.prog w 0 (fun _ => true) true k4_ 3 ((List.drop 0 [c4, c5, c6, c7, c8, c9, c10, c11]).take (Tryz.prog.cellsOf 3)) = some u4_0 := hg4_ 0 _ rfl
          rw [(by kernel_rfl : Tryz.prog.cellsOf 3 = 1)] at g4_0
          have g4_1 : DataW.trod enc Tryz.prog w 0 (fun _ => true) true k4_ 3 ((List.drop 1 [c4, c5, c6, c7, c8, c9, c10, c11]).take (Tryz.prog.cellsOf 3)) = some u4_1 := hg4_ 1 _ rfl
          rw [(by kernel_rfl : Tryz.prog.cellsOf 3 = 1)] at g4_1
          have g4_2 : DataW.trod enc Tryz.prog w 0 (fun _ => true) true k4_ 194 ((List.drop 2 [c4, c5, c6, c7, c8, c9, c10, c11]).take (Tryz.prog.cellsOf 194)) = some u4_2 := hg4_ 2 _ rfl
          rw [(by kernel_rfl : Tryz.prog.cellsOf 194 = 4)] at g4_2
          have g4_3 : DataW.trod enc Tryz.prog w 0 (fun _ => true) true k4_ 3 ((List.drop 6 [c4, c5, c6, c7, c8, c9, c10, c11]).take (Tryz.prog.cellsOf 3)) = some u4_3 := hg4_ 3 _ rfl
          rw [(by kernel_rfl : Tryz.prog.cellsOf 3 = 1)] at g4_3
          have g4_4 : DataW.trod enc Tryz.prog w 0 (fun _ => true) true k4_ 4 ((List.drop 7 [c4, c5, c6, c7, c8, c9, c10, c11]).take (Tryz.prog.cellsOf 4)) = some u4_4 := hg4_ 4 _ rfl
          rw [(by kernel_rfl : Tryz.prog.cellsOf 4 = 1)] at g4_4
          obtain ⟨us4_2_, k4_2_, hk4_2_, hxy4_2_, _, hul4_2_, hg4_2_⟩ := DataW.trod_struct Tryz.underlying194 g4_2
          match us4_2_, hul4_2_ with
          | [u4_2_0, u4_2_1, u4_2_2, u4_2_3], _ =>
            have g4_2_0 : DataW.trod enc Tryz.prog w 0 (fun _ => true) true k4_2_ 3 ((List.drop 0 [c6, c7, c8, c9]).take (Tryz.prog.cellsOf 3)) = some u4_2_0 := hg4_2_ 0 _ rfl
            rw [(by kernel_rfl : Tryz.prog.cellsOf 3 = 1)] at g4_2_0
            have g4_2_1 : DataW.trod enc Tryz.prog w 0 (fun _ => true) true k4_2_ 3 ((List.drop 1 [c6, c7, c8, c9]).take (Tryz.prog.cellsOf 3)) = some u4_2_1 := hg4_2_ 1 _ rfl
            rw [(by kernel_rfl : Tryz.prog.cellsOf 3 = 1)] at g4_2_1
            have g4_2_2 : DataW.trod enc Tryz.prog w 0 (fun _ => true) true k4_2_ 3 ((List.drop 2 [c6, c7, c8, c9]).take (Tryz.prog.cellsOf 3)) = some u4_2_2 := hg4_2_ 2 _ rfl
            rw [(by kernel_rfl : Tryz.prog.cellsOf 3 = 1)] at g4_2_2
            have g4_2_3 : DataW.trod enc Tryz.prog w 0 (fun _ => true) true k4_2_ 3 ((List.drop 3 [c6, c7, c8, c9]).take (Tryz.prog.cellsOf 3)) = some u4_2_3 := hg4_2_ 3 _ rfl
            rw [(by kernel_rfl : Tryz.prog.cellsOf 3 = 1)] at g4_2_3
            obtain ⟨z0, e0, _, _⟩ := DataW.trod_int Tryz.underlying3 g0
            obtain ⟨z1, e1, _⟩ := DataW.trod_bool Tryz.underlying4 g1
            obtain ⟨z2, e2, _, _⟩ := DataW.trod_int Tryz.underlying3 g2
            obtain ⟨z3, e3, _, _⟩ := DataW.trod_int Tryz.underlying3 g3
            obtain ⟨z4, e4, _, _⟩ := DataW.trod_int Tryz.underlying3 g4_0
            obtain ⟨z5, e5, _, _⟩ := DataW.trod_int Tryz.underlying3 g4_1
            obtain ⟨z6, e6, _, _⟩ := DataW.trod_int Tryz.underlying3 g4_2_0
            obtain ⟨z7, e7, _, _⟩ := DataW.trod_int Tryz.underlying3 g4_2_1
            obtain ⟨z8, e8, _, _⟩ := DataW.trod_int Tryz.underlying3 g4_2_2
            obtain ⟨z9, e9, _, _⟩ := DataW.trod_int Tryz.underlying3 g4_2_3
            obtain ⟨z10, e10, _, _⟩ := DataW.trod_int Tryz.underlying3 g4_3
            obtain ⟨z11, e11, _⟩ := DataW.trod_bool Tryz.underlying4 g4_4
            simp at e0 e1 e2 e3 e4 e5 e6 e7 e8 e9 e10 e11
            subst e0 e1 e2 e3 e4 e5 e6 e7 e8 e9 e10 e11
            have k_0 := hc 0 (by omega)
            have k_1 := hc 1 (by omega)
            have k_2 := hc 2 (by omega)
            have k_3 := hc 3 (by omega)
            have k_4 := hc 4 (by omega)
            have k_5 := hc 5 (by omega)
            have k_6 := hc 6 (by omega)
            have k_7 := hc 7 (by omega)
            have k_8 := hc 8 (by omega)
            have k_9 := hc 9 (by omega)
            have k_10 := hc 10 (by omega)
            have k_11 := hc 11 (by omega)
            rw [Go.Deep.add_add] at k_0 k_1 k_2 k_3 k_4 k_5 k_6 k_7 k_8 k_9 k_10 k_11
            exact ⟨⟨z0, z1, z2, z3, z4, z5, z6, z7, z8, z9, z10, z11⟩, by simpa using k_0, by simpa using k_1, by simpa using k_2, by simpa using k_3, by simpa using k_4, by simpa using k_5, by simpa using k_6, by simpa using k_7, by simpa using k_8, by simpa using k_9, by simpa using k_10, by simpa using k_11⟩
    haveI : Inhabited Wi := ⟨Wi.nil⟩
    obtain ⟨q, hq⟩ := Go.Deep.choose_lt each
    refine ⟨some a, m, (List.range len).map q, by simpa using hcell _ hcs, by simpa using Nat.le_trans hl hm, fun hp => ?_, fun e => by cases e⟩
    simp at hp
    obtain ⟨b, off, spot⟩ := a
    have hspot : spot = none := by simpa [Addr.add] using World.cell?_spot (hq 0 (by omega)).1
    subst hspot
    refine ⟨b, off, rfl, fun j v hv => ?_⟩
    have hjl : j < len * 12 := by
      have := (List.getElem?_eq_some_iff.1 hv).1
      rw [fcells_len wiEnc_len] at this
      simpa using this
    have hi : j / 12 < len := by omega
    have hr : j % 12 < 12 := Nat.mod_lt _ (by omega)
    have e : j = j / 12 * 12 + j % 12 := by omega
    rw [e, fcells_at wiEnc_len Wi.nil _ _ _ (by simpa using hi) hr, show ((List.range len).map q).getD (j / 12) Wi.nil = q (j / 12) by simp [List.getD, hi]] at hv
    obtain ⟨k0, k1, k2, k3, k4, k5, k6, k7, k8, k9, k10, k11⟩ := hq (j / 12) (by omega)
    simp only [add_plain] at k0 k1 k2 k3 k4 k5 k6 k7 k8 k9 k10 k11
    rw [e]
    generalize j % 12 = r at hv hr
    have hcase : r = 0 ∨ r = 1 ∨ r = 2 ∨ r = 3 ∨ r = 4 ∨ r = 5 ∨ r = 6 ∨ r = 7 ∨ r = 8 ∨ r = 9 ∨ r = 10 ∨ r = 11 := by omega
    rcases hcase with rfl | rfl | rfl | rfl | rfl | rfl | rfl | rfl | rfl | rfl | rfl | rfl
    · cases hv; simpa [Nat.add_assoc] using k0
    · cases hv; simpa [Nat.add_assoc] using k1
    · cases hv; simpa [Nat.add_assoc] using k2
    · cases hv; simpa [Nat.add_assoc] using k3
    · cases hv; simpa [Nat.add_assoc] using k4
    · cases hv; simpa [Nat.add_assoc] using k5
    · cases hv; simpa [Nat.add_assoc] using k6
    · cases hv; simpa [Nat.add_assoc] using k7
    · cases hv; simpa [Nat.add_assoc] using k8
    · cases hv; simpa [Nat.add_assoc] using k9
    · cases hv; simpa [Nat.add_assoc] using k10
    · cases hv; simpa [Nat.add_assoc] using k11
theorem wiSz (ad : Option Addr) (len cap : Nat) (left : Int) (w : World) (h0 : 0 ≤ left) (h1 : left ≤ 1048576) (hm : len ≤ maxLen) :
    Calls Tryz.prog 106 #[.slice ad len cap, .int .i64 left] w fun e w' => e = .returned (.int .i64 (if (len : Int) ≤ left then left - len else -1)) ∧ w' = w := by
  unfold maxLen at hm
  by_cases h : (len : Int) ≤ left
  · rw [if_pos h]
    have h2 : 0 ≤ left - (len : Int) := by omega
    go_enter Tryz.func106, Tryz.ntmps106
    go_wp2
    go_ret
    exact ⟨rfl, rfl⟩
  · rw [if_neg h]
    have h2 : left - (len : Int) < 0 := by omega
    go_enter Tryz.func106, Tryz.ntmps106
    go_wp2
    go_ret
    exact ⟨rfl, rfl⟩
theorem wiInfo2 : (Tryz.prog.info? 112).map (fun i => (i.zero, i.size, i.bytes)) = some (some (.agg #[.int .i64 0, .bool false, .int .i64 0, .int .i64 0, .int .i64 0, .int .i64 0, .int .i64 0, .int .i64 0, .int .i64 0, .int .i64 0, .int .i64 0, .bool false]), 12, 96) := by kernel_rfl
set_option maxHeartbeats 2000000 in
theorem wiToS (ad : Option Addr) (cap : Nat) (L : List Wi) (w : World) (hv : FView wiEnc w ad L) (hl : L.length ≤ 1048576) :
    Calls Tryz.prog 112 #[.slice ad L.length cap] w fun e w' => e = .returned (.slice (some ⟨w.heap.size, 0, none⟩) L.length L.length) ∧ FOwn wiEnc 12 112 w.heap.size w' (.slice (some ⟨w.heap.size, 0, none⟩) L.length L.length) L ∧ Below w.heap.size w w' := by
  obtain ⟨i0, hi, hz0, hz1, hz2⟩ := info_parts wiInfo2
  have hB := hv.lt wiEnc_len (by omega)
  go_enter Tryz.func112, Tryz.ntmps112
  go_wp2_with (first | (refine wpList_make_full _ rfl _ _ 44 rfl w.heap.size 112 i0 (.agg #[.int .i64 0, .bool false, .int .i64 0, .int .i64 0, .int .i64 0, .int .i64 0, .int .i64 0, .int .i64 0, .int .i64 0, .int .i64 0, .int .i64 0, .bool false]) 12 Tryz.underlying44 hi hz0 hz1 .i64 .i64 _ _ L.length rfl rfl rfl rfl ?c1 ?c2 ?c3 ?_))
  case c1 => rw [hz2]; omega
  case c2 => unfold maxLen; omega
  case c3 => exact Nat.le_refl _
  intro w1 hown hgrow
  have F0 : FFill wiEnc 12 112 w.heap.size w1 w.heap.size L 0 := FFill.start hown
  have B0 : Below w.heap.size w w1 := (Below.refl _ _).grown hgrow (Nat.le_refl _) (by simp)
  clear hown hgrow
  go_wp2
  go_loopw [4] (fun i wr => ∃ k : Nat, k ≤ L.length ∧ i = .int .i64 k ∧ FFill wiEnc 12 112 w.heap.size wr w.heap.size L k ∧ Below w.heap.size w wr) (fun i _ => L.length - (intOf i).toNat)
  case atStart => exact ⟨0, Nat.zero_le _, rfl, F0, B0⟩
  case round =>
    obtain ⟨k, hk, rfl, F, B⟩ := hrel
    clear F0 B0
    by_cases hlt : k < L.length
    · obtain ⟨b, off, rfl, _⟩ := hv (by omega)
      obtain ⟨h, hh⟩ : ∃ h, L.getD k Wi.nil = h := ⟨_, rfl⟩
      have hck : WiAtO wr b (off + k * 12) h := by
        rw [← hh]
        exact wiAtO_of ((hv.below B hB).at_ wiEnc_len Wi.nil hlt)
      obtain ⟨c0, c1, c2, c3, c4, c5, c6, c7, c8, c9, c10, c11⟩ := hck
      have hsz := F.lt
      go_wp2_with fail
      go_at_call 162
      refine (toWiI h wr).mono ?_
      rintro e w2 ⟨rfl, k2⟩
      have G := F.keep (k2.block _ hsz.2)
      have B2 := B.trans (k2.mono (Nat.le_of_lt hsz.2))
      obtain ⟨u0, hu0⟩ := G.cell (k * 12) (by omega)
      obtain ⟨u1, hu1⟩ := G.cell (k * 12 + 1) (by omega)
      obtain ⟨u2, hu2⟩ := G.cell (k * 12 + 2) (by omega)
      obtain ⟨u3, hu3⟩ := G.cell (k * 12 + 3) (by omega)
      obtain ⟨u4, hu4⟩ := G.cell (k * 12 + 4) (by omega)
      obtain ⟨u5, hu5⟩ := G.cell (k * 12 + 5) (by omega)
      obtain ⟨u6, hu6⟩ := G.cell (k * 12 + 6) (by omega)
      obtain ⟨u7, hu7⟩ := G.cell (k * 12 + 7) (by omega)
      obtain ⟨u8, hu8⟩ := G.cell (k * 12 + 8) (by omega)
      obtain ⟨u9, hu9⟩ := G.cell (k * 12 + 9) (by omega)
      obtain ⟨u10, hu10⟩ := G.cell (k * 12 + 10) (by omega)
      obtain ⟨u11, hu11⟩ := G.cell (k * 12 + 11) (by omega)
      have f0 := G.frozen (k * 12)
      have f1 := G.frozen (k * 12 + 1)
      have f2 := G.frozen (k * 12 + 2)
      have f3 := G.frozen (k * 12 + 3)
      have f4 := G.frozen (k * 12 + 4)
      have f5 := G.frozen (k * 12 + 5)
      have f6 := G.frozen (k * 12 + 6)
      have f7 := G.frozen (k * 12 + 7)
      have f8 := G.frozen (k * 12 + 8)
      have f9 := G.frozen (k * 12 + 9)
      have f10 := G.frozen (k * 12 + 10)
      have f11 := G.frozen (k * 12 + 11)
      have G1 := G.step wiEnc_len Wi.nil hlt
      have B3 := below_putAll (Nat.le_refl _) (wiEnc h) (k * 12) B2
      rw [hh, wiPut] at G1
      rw [wiPut] at B3
      clear F G B B2 hh hsz
      go_wp2
      go_roundw
      case rel => exact ⟨k + 1, by omega, by go_num, G1, B3⟩
      case measure => simp [intOf]; omega
    · obtain rfl : k = L.length := by omega
      go_wp2
      go_ret
      exact ⟨rfl, F.done wiEnc_len, B⟩

end Go.Proofs.YtnpiljegdiconaaGreat
namespace Go.Proofs.YtnpiljegdiconaaGreat
open Go.ChangeShapes Go.WideShapes Go.ChangeAt Go.RowKit
open Go.ChangeMaps (open_string shut_string)
set_option linter.unusedVariables false
set_option maxRecDepth 100000

theorem FView.ofB {w : World} {ad : Option Addr} {L : List Bool} (h : ViewB w ad L.length (fun i => L.getD i false)) : FView boEnc w ad L := fun hp => by
  obtain ⟨b, off, e, hc⟩ := h hp
  refine ⟨b, off, e, fun j v hv => ?_⟩
  have hj : j < L.length := by
    have := (List.getElem?_eq_some_iff.1 hv).1
    rw [fcells_len boEnc_len] at this
    omega
  have e2 : (fcells boEnc L)[j]? = some (.bool (L.getD j false)) := by
    have := fcells_at boEnc_len false L j 0 hj (by omega)
    rw [Nat.mul_one, Nat.add_zero] at this
    exact this
  rw [e2] at hv
  cases hv
  exact hc j hj
set_option maxRecDepth 100000 in
theorem boRow_open {H : Type} {enc : TypeId × Value → H} {w : World} {n0 : Nat} {v : Value} {x : DataW H × List MemPlace} (hn : DataW.trod enc Tryz.prog w 0 (fun _ => true) true n0 45 [v] = some x) :
    ∃ ad cap L, v = .slice ad L.length cap ∧ L.length ≤ maxLen ∧ FView boEnc w ad L ∧ (ad = none → cap = 0) := by
  rcases Go.Deep.open_bools Tryz.underlying45 Tryz.underlying4 (by kernel_rfl) hn with ⟨hcs, _⟩ | ⟨a, len, cap, B, hcs, _, hl, hm, _, hc⟩
  · exact ⟨none, 0, [], by simpa using hcs, by simp, FView.nil, fun _ => rfl⟩
  · refine ⟨some a, cap, (List.range len).map B, by simpa using hcs, by simpa using Nat.le_trans hl hm, FView.ofB (fun hp => ?_), fun e => by cases e⟩
    simp at hp
    obtain ⟨b, off, spot⟩ := a
    have hspot : spot = none := by simpa [Addr.add] using World.cell?_spot (hc 0 (by omega))
    subst hspot
    refine ⟨b, off, rfl, fun i hi => ?_⟩
    simp at hi
    have := hc i (by omega)
    rw [add_plain] at this
    rw [this]
    simp [List.getD, hi]
theorem boPut (w : World) (g o : Nat) (x : Bool) : putAll w g o (boEnc x) = w.setCell ⟨g, o, none⟩ (.bool x) := rfl
set_option maxHeartbeats 1000000 in
theorem boToS (ad : Option Addr) (cap : Nat) (L : List Bool) (w : World) (hv : FView boEnc w ad L) (hl : L.length ≤ 1048576) :
    Calls Tryz.prog 113 #[.slice ad L.length cap] w fun e w' => e = .returned (.slice (some ⟨w.heap.size, 0, none⟩) L.length L.length) ∧ FOwn boEnc 1 4 w.heap.size w' (.slice (some ⟨w.heap.size, 0, none⟩) L.length L.length) L ∧ Below w.heap.size w w' := by
  obtain ⟨i0, hi, hz0, hz1, hz2⟩ := info_parts boInfo
  have hB := hv.lt boEnc_len (by omega)
  go_enter Tryz.func113, Tryz.ntmps113
  go_wp2_with (first | (refine wpList_make_full _ rfl _ _ 45 rfl w.heap.size 4 i0 (.bool false) 1 Tryz.underlying45 hi hz0 hz1 .i64 .i64 _ _ L.length rfl rfl rfl rfl ?c1 ?c2 ?c3 ?_))
  case c1 => rw [hz2]; omega
  case c2 => unfold maxLen; omega
  case c3 => exact Nat.le_refl _
  intro w1 hown hgrow
  have F0 : FFill boEnc 1 4 w.heap.size w1 w.heap.size L 0 := FFill.start hown
  have B0 : Below w.heap.size w w1 := (Below.refl _ _).grown hgrow (Nat.le_refl _) (by simp)
  clear hown hgrow
  go_wp2
  go_loopw [4] (fun i wr => ∃ k : Nat, k ≤ L.length ∧ i = .int .i64 k ∧ FFill boEnc 1 4 w.heap.size wr w.heap.size L k ∧ Below w.heap.size w wr) (fun i _ => L.length - (intOf i).toNat)
  case atStart => exact ⟨0, Nat.zero_le _, rfl, F0, B0⟩
  case round =>
    obtain ⟨k, hk, rfl, F, B⟩ := hrel
    clear F0 B0
    by_cases hlt : k < L.length
    · obtain ⟨b, off, rfl, _⟩ := hv (by omega)
      obtain ⟨h, hh⟩ : ∃ h, L.getD k false = h := ⟨_, rfl⟩
      have hck : wr.cell? ⟨b, off + k, none⟩ = some (.bool h) := by
        have := (hv.below B hB).at_ boEnc_len false hlt 0 _ rfl
        rw [hh] at this
        simpa using this
      have hsz := F.lt
      obtain ⟨u0, hu0⟩ := F.cell (k * 1) (by omega)
      have f0 := F.frozen (k * 1)
      have G1 := F.step boEnc_len false hlt
      have B3 := below_putAll (Nat.le_refl _) (boEnc h) (k * 1) B
      rw [hh, boPut] at G1
      rw [boPut] at B3
      rw [Nat.mul_one] at hu0 f0 G1 B3
      clear F B hh hsz
      go_wp2
      go_roundw
      case rel => exact ⟨k + 1, by omega, by go_num, G1, B3⟩
      case measure => simp [intOf]; omega
    · obtain rfl : k = L.length := by omega
      go_wp2
      go_ret
      exact ⟨rfl, F.done boEnc_len, B⟩

end Go.Proofs.YtnpiljegdiconaaGreat
namespace Go.Proofs.YtnpiljegdiconaaGreat
open Go.ChangeShapes Go.WideShapes Go.ChangeAt Go.RowKit
open Go.ChangeMaps (open_string shut_string)
set_option linter.unusedVariables false
set_option maxRecDepth 100000

theorem ouIn_open {H : Type} {enc : TypeId × Value → H} {w : World} {r : Reach} {b0 : Nat} {v : Value} {d : DataW H} {p : List MemPlace} (hv : Value.okWide Tryz.prog w r b0 202 v) (h : DataW.Trod enc Tryz.prog w 0 (fun _ => true) true 202 v d p) :
    ∃ x : Ik, v = .agg #[.int .i64 x.k, .int .i64 x.q, .int .i64 x.r, .int .i64 x.c, .int .i64 x.b, .int .i64 x.p, .int .i64 x.h, .bool x.up] ∧ True := by
  obtain ⟨cs, rfl, hsz⟩ := okWide_struct Tryz.underlying202 hv
  rw [(by kernel_rfl : Tryz.prog.cellsOf 202 = 8)] at hsz
  obtain ⟨cs⟩ := cs
  obtain ⟨fuel, hf0⟩ := h
  simp only [Value.cells] at hf0
  have hlen : cs.length = 8 := by simpa using hsz
  obtain ⟨xs, k, hk, hxy, _, hxl, hf⟩ := DataW.trod_struct Tryz.underlying202 hf0
  match xs, hxl, cs, hlen with
  | [y0, y1, y2, y3, y4], _, [c0, c1, c2, c3, c4, c5, c6, c7], _ =>
    have g0 : DataW.trod enc Tryz.prog w 0 (fun _ => true) true k 3 ((List.drop 0 [c0, c1, c2, c3, c4, c5, c6, c7]).take (Tryz.prog.cellsOf 3)) = some y0 := hf 0 _ rfl
    rw [(by kernel_rfl : Tryz.prog.cellsOf 3 = 1)] at g0
    have g1 : DataW.trod enc Tryz.prog w 0 (fun _ => true) true k 3 ((List.drop 1 [c0, c1, c2, c3, c4, c5, c6, c7]).take (Tryz.prog.cellsOf 3)) = some y1 := hf 1 _ rfl
    rw [(by kernel_rfl : Tryz.prog.cellsOf 3 = 1)] at g1
    have g2 : DataW.trod enc Tryz.prog w 0 (fun _ => true) true k 194 ((List.drop 2 [c0, c1, c2, c3, c4, c5, c6, c7]).take (Tryz.prog.cellsOf 194)) = some y2 := hf 2 _ rfl
    rw [(by kernel_rfl : Tryz.prog.cellsOf 194 = 4)] at g2
    have g3 : DataW.trod enc Tryz.prog w 0 (fun _ => true) true k 3 ((List.drop 6 [c0, c1, c2, c3, c4, c5, c6, c7]).take (Tryz.prog.cellsOf 3)) = some y3 := hf 3 _ rfl
    rw [(by kernel_rfl : Tryz.prog.cellsOf 3 = 1)] at g3
    have g4 : DataW.trod enc Tryz.prog w 0 (fun _ => true) true k 4 ((List.drop 7 [c0, c1, c2, c3, c4, c5, c6, c7]).take (Tryz.prog.cellsOf 4)) = some y4 := hf 4 _ rfl
    rw [(by kernel_rfl : Tryz.prog.cellsOf 4 = 1)] at g4
    obtain ⟨us, k2, hk2, hxy2, _, hul, hg⟩ := DataW.trod_struct Tryz.underlying194 g2
    match us, hul with
    | [u0, u1, u2, u3], _ =>
      have q0 : DataW.trod enc Tryz.prog w 0 (fun _ => true) true k2 3 ((List.drop 0 [c2, c3, c4, c5]).take (Tryz.prog.cellsOf 3)) = some u0 := hg 0 _ rfl
      rw [(by kernel_rfl : Tryz.prog.cellsOf 3 = 1)] at q0
      have q1 : DataW.trod enc Tryz.prog w 0 (fun _ => true) true k2 3 ((List.drop 1 [c2, c3, c4, c5]).take (Tryz.prog.cellsOf 3)) = some u1 := hg 1 _ rfl
      rw [(by kernel_rfl : Tryz.prog.cellsOf 3 = 1)] at q1
      have q2 : DataW.trod enc Tryz.prog w 0 (fun _ => true) true k2 3 ((List.drop 2 [c2, c3, c4, c5]).take (Tryz.prog.cellsOf 3)) = some u2 := hg 2 _ rfl
      rw [(by kernel_rfl : Tryz.prog.cellsOf 3 = 1)] at q2
      have q3 : DataW.trod enc Tryz.prog w 0 (fun _ => true) true k2 3 ((List.drop 3 [c2, c3, c4, c5]).take (Tryz.prog.cellsOf 3)) = some u3 := hg 3 _ rfl
      rw [(by kernel_rfl : Tryz.prog.cellsOf 3 = 1)] at q3
      obtain ⟨z0, e0, _, _⟩ := DataW.trod_int Tryz.underlying3 g0
      obtain ⟨z1, e1, _, _⟩ := DataW.trod_int Tryz.underlying3 g1
      obtain ⟨z2, e2, _, _⟩ := DataW.trod_int Tryz.underlying3 q0
      obtain ⟨z3, e3, _, _⟩ := DataW.trod_int Tryz.underlying3 q1
      obtain ⟨z4, e4, _, _⟩ := DataW.trod_int Tryz.underlying3 q2
      obtain ⟨z5, e5, _, _⟩ := DataW.trod_int Tryz.underlying3 q3
      obtain ⟨z6, e6, _, _⟩ := DataW.trod_int Tryz.underlying3 g3
      obtain ⟨z7, e7, _⟩ := DataW.trod_bool Tryz.underlying4 g4
      simp at e0 e1 e2 e3 e4 e5 e6 e7
      subst e0 e1 e2 e3 e4 e5 e6 e7
      exact ⟨⟨z0, z1, z2, z3, z4, z5, z6, z7⟩, rfl, trivial⟩
set_option maxHeartbeats 2000000 in
theorem toOuI (x : Ik) (w : World) : Calls Tryz.prog 164 #[.agg #[.int .i64 x.k, .int .i64 x.q, .int .i64 x.r, .int .i64 x.c, .int .i64 x.b, .int .i64 x.p, .int .i64 x.h, .bool x.up]] w fun e w' => e = .returned (.agg #[.int .i64 x.k, .int .i64 x.q, .int .i64 x.r, .int .i64 x.c, .int .i64 x.b, .int .i64 x.p, .int .i64 x.h, .bool x.up]) ∧ Below w.heap.size w w' := by
  obtain ⟨w0, hw0⟩ : ∃ w0, w0 = ((w.alloc (Obj.cells #[.int .i64 x.k, .int .i64 x.q, .int .i64 x.r, .int .i64 x.c, .int .i64 x.b, .int .i64 x.p, .int .i64 x.h, .bool x.up] 202)).alloc (Obj.cells #[.int .i64 0, .int .i64 0, .int .i64 0, .int .i64 0, .int .i64 0, .int .i64 0, .int .i64 0, .bool false] 114)).alloc (Obj.cells #[.int .i64 x.k, .int .i64 x.q, .int .i64 0, .int .i64 0, .int .i64 0, .int .i64 0, .int .i64 0, .bool false] 114) := ⟨_, rfl⟩
  have b0 : Below w.heap.size w w0 := by rw [hw0]; exact (((Below.refl _ _).alloc (Nat.le_refl _) _).alloc (by simp) _).alloc (by simp; omega) _
  have P0 : InAt w0 w.heap.size x := by rw [hw0]; constructor <;> simp [go_sem]
  have Q0 : InAt w0 (w.heap.size + 1) ⟨0, 0, 0, 0, 0, 0, 0, false⟩ := by rw [hw0]; constructor <;> simp [go_sem]
  have R0 : InAt w0 (w.heap.size + 1 + 1) ⟨x.k, x.q, 0, 0, 0, 0, 0, false⟩ := by rw [hw0]; constructor <;> simp [go_sem]
  have QF : ∀ i, w0.frozen? ⟨w.heap.size + 1, i, none⟩ = false := fun i => by rw [hw0]; simp [go_sem]
  have RF : ∀ i, w0.frozen? ⟨w.heap.size + 1 + 1, i, none⟩ = false := fun i => by rw [hw0]; simp [go_sem]
  have S0 := R0.lt
  go_enter Tryz.func164, Tryz.ntmps164
  go_wp2_with fail
  go_at_call 197
  rw [← hw0]
  clear hw0
  refine (toV x.r x.c x.b x.p w0).mono ?_
  rintro e w1 ⟨rfl, k1⟩
  have b1 := b0.trans (k1.mono b0.size)
  obtain ⟨p0, p1, p2, p3, p4, p5, p6, p7⟩ := P0.below k1 (by omega)
  obtain ⟨r0, r1, r2, r3, r4, r5, r6, r7⟩ := R0.below k1 (by omega)
  obtain ⟨q0, q1, q2, q3, q4, q5, q6, q7⟩ := Q0.below k1 (by omega)
  have qf0 : w1.frozen? ⟨w.heap.size + 1, 0, none⟩ = false := (World.frozen?_of_block (a := ⟨w.heap.size + 1, 0, none⟩) (k1.block (w.heap.size + 1) (by omega))).trans (QF 0)
  have rf0 : w1.frozen? ⟨w.heap.size + 1 + 1, 0, none⟩ = false := (World.frozen?_of_block (a := ⟨w.heap.size + 1 + 1, 0, none⟩) (k1.block (w.heap.size + 1 + 1) (by omega))).trans (RF 0)
  have qf1 : w1.frozen? ⟨w.heap.size + 1, 1, none⟩ = false := (World.frozen?_of_block (a := ⟨w.heap.size + 1, 1, none⟩) (k1.block (w.heap.size + 1) (by omega))).trans (QF 1)
  have rf1 : w1.frozen? ⟨w.heap.size + 1 + 1, 1, none⟩ = false := (World.frozen?_of_block (a := ⟨w.heap.size + 1 + 1, 1, none⟩) (k1.block (w.heap.size + 1 + 1) (by omega))).trans (RF 1)
  have qf2 : w1.frozen? ⟨w.heap.size + 1, 2, none⟩ = false := (World.frozen?_of_block (a := ⟨w.heap.size + 1, 2, none⟩) (k1.block (w.heap.size + 1) (by omega))).trans (QF 2)
  have rf2 : w1.frozen? ⟨w.heap.size + 1 + 1, 2, none⟩ = false := (World.frozen?_of_block (a := ⟨w.heap.size + 1 + 1, 2, none⟩) (k1.block (w.heap.size + 1 + 1) (by omega))).trans (RF 2)
  have qf3 : w1.frozen? ⟨w.heap.size + 1, 3, none⟩ = false := (World.frozen?_of_block (a := ⟨w.heap.size + 1, 3, none⟩) (k1.block (w.heap.size + 1) (by omega))).trans (QF 3)
  have rf3 : w1.frozen? ⟨w.heap.size + 1 + 1, 3, none⟩ = false := (World.frozen?_of_block (a := ⟨w.heap.size + 1 + 1, 3, none⟩) (k1.block (w.heap.size + 1 + 1) (by omega))).trans (RF 3)
  have qf4 : w1.frozen? ⟨w.heap.size + 1, 4, none⟩ = false := (World.frozen?_of_block (a := ⟨w.heap.size + 1, 4, none⟩) (k1.block (w.heap.size + 1) (by omega))).trans (QF 4)
  have rf4 : w1.frozen? ⟨w.heap.size + 1 + 1, 4, none⟩ = false := (World.frozen?_of_block (a := ⟨w.heap.size + 1 + 1, 4, none⟩) (k1.block (w.heap.size + 1 + 1) (by omega))).trans (RF 4)
  have qf5 : w1.frozen? ⟨w.heap.size + 1, 5, none⟩ = false := (World.frozen?_of_block (a := ⟨w.heap.size + 1, 5, none⟩) (k1.block (w.heap.size + 1) (by omega))).trans (QF 5)
  have rf5 : w1.frozen? ⟨w.heap.size + 1 + 1, 5, none⟩ = false := (World.frozen?_of_block (a := ⟨w.heap.size + 1 + 1, 5, none⟩) (k1.block (w.heap.size + 1 + 1) (by omega))).trans (RF 5)
  have qf6 : w1.frozen? ⟨w.heap.size + 1, 6, none⟩ = false := (World.frozen?_of_block (a := ⟨w.heap.size + 1, 6, none⟩) (k1.block (w.heap.size + 1) (by omega))).trans (QF 6)
  have rf6 : w1.frozen? ⟨w.heap.size + 1 + 1, 6, none⟩ = false := (World.frozen?_of_block (a := ⟨w.heap.size + 1 + 1, 6, none⟩) (k1.block (w.heap.size + 1 + 1) (by omega))).trans (RF 6)
  have qf7 : w1.frozen? ⟨w.heap.size + 1, 7, none⟩ = false := (World.frozen?_of_block (a := ⟨w.heap.size + 1, 7, none⟩) (k1.block (w.heap.size + 1) (by omega))).trans (QF 7)
  have rf7 : w1.frozen? ⟨w.heap.size + 1 + 1, 7, none⟩ = false := (World.frozen?_of_block (a := ⟨w.heap.size + 1 + 1, 7, none⟩) (k1.block (w.heap.size + 1 + 1) (by omega))).trans (RF 7)
  clear P0 R0 Q0 QF RF k1 b0
  go_wp2
  refine bodyPost_ret (v := .agg #[.int .i64 x.k, .int .i64 x.q, .int .i64 x.r, .int .i64 x.c, .int .i64 x.b, .int .i64 x.p, .int .i64 x.h, .bool x.up]) (by simp [results, Tryz.results164, go_sem, *]) rfl ⟨rfl, ?_⟩
  repeat' (first | with_reducible exact b1 | refine Below.setCell ?_ (by first | (show _ ≤ w.heap.size + 1; omega) | (show _ ≤ w.heap.size + 1 + 1; omega)) _)

end Go.Proofs.YtnpiljegdiconaaGreat
namespace Go.Proofs.YtnpiljegdiconaaGreat
open Go.ChangeShapes Go.WideShapes Go.ChangeAt Go.RowKit
open Go.ChangeMaps (open_string shut_string)
set_option linter.unusedVariables false
set_option maxRecDepth 100000

theorem toOu (x : Ou) (w : World) : Calls Tryz.prog 164 #[.agg #[.int .i64 x.k, .int .i64 x.pt, .int .i64 x.r, .int .i64 x.c, .int .i64 x.b, .int .i64 x.p, .int .i64 x.h, .bool x.on]] w fun e w' => e = .returned (.agg #[.int .i64 x.k, .int .i64 x.pt, .int .i64 x.r, .int .i64 x.c, .int .i64 x.b, .int .i64 x.p, .int .i64 x.h, .bool x.on]) ∧ Below w.heap.size w w' := toOuI ⟨x.k, x.pt, x.r, x.c, x.b, x.p, x.h, x.on⟩ w
set_option maxRecDepth 100000 in
theorem ouRow_open {H : Type} {enc : TypeId × Value → H} {w : World} {n0 : Nat} {v : Value} {x : DataW H × List MemPlace} (hn : DataW.trod enc Tryz.prog w 0 (fun _ => true) true n0 68 [v] = some x) :
    ∃ ad cap L, v = .slice ad L.length cap ∧ L.length ≤ maxLen ∧ FView ouEnc w ad L ∧ (ad = none → cap = 0) := by
  have hs := Go.Deep.open_slice Tryz.underlying68 hn
  have hcell : ∀ x, [v] = [x] → v = x := fun x h => by simpa using h
  rcases hs with ⟨hcs, _⟩ | ⟨a, len, cap, m, n, D, Pl, hcs, _, hl, hm, hmm, _, hx⟩
  · exact ⟨none, 0, [], hcell _ hcs, by simp, FView.nil, fun _ => rfl⟩
  · simp at hmm
    subst hmm
    have each : ∀ i, i < m → ∃ q : Ou, w.cell? (a.add (i * 8)) = some (.int .i64 q.k) ∧ w.cell? (a.add (i * 8 + 1)) = some (.int .i64 q.pt) ∧ w.cell? (a.add (i * 8 + 2)) = some (.int .i64 q.r) ∧ w.cell? (a.add (i * 8 + 3)) = some (.int .i64 q.c) ∧ w.cell? (a.add (i * 8 + 4)) = some (.int .i64 q.b) ∧ w.cell? (a.add (i * 8 + 5)) = some (.int .i64 q.p) ∧ w.cell? (a.add (i * 8 + 6)) = some (.int .i64 q.h) ∧ w.cell? (a.add (i * 8 + 7)) = some (.bool q.on) := by
      intro i hi
      obtain ⟨cs', h1, h2⟩ := hx i hi
      rw [(by kernel_rfl : Tryz.prog.cellsOf 202 = 8)] at h1
      obtain ⟨_, hlen, hc⟩ := World.cells?_some h1
      obtain ⟨xs, k, hk, hxy, _, hxl, hf⟩ := DataW.trod_struct Tryz.underlying202 h2
      match xs, hxl, cs', hlen with
      | [y0, y1, y2, y3, y4], _, [c0, c1, c2, c3, c4, c5, c6, c7], _ =>
        have g0 : DataW.trod enc Tryz.prog w 0 (fun _ => true) true k 3 ((List.drop 0 [c0, c1, c2, c3, c4, c5, c6, c7]).take (Tryz.prog.cellsOf 3)) = some y0 := hf 0 _ rfl
        rw [(by kernel_rfl : Tryz.prog.cellsOf 3 = 1)] at g0
        have g1 : DataW.trod enc Tryz.prog w 0 (fun _ => true) true k 3 ((List.drop 1 [c0, c1, c2, c3, c4, c5, c6, c7]).take (Tryz.prog.cellsOf 3)) = some y1 := hf 1 _ rfl
        rw [(by kernel_rfl : Tryz.prog.cellsOf 3 = 1)] at g1
        have g2 : DataW.trod enc Tryz.prog w 0 (fun _ => true) true k 194 ((List.drop 2 [c0, c1, c2, c3, c4, c5, c6, c7]).take (Tryz.prog.cellsOf 194)) = some y2 := hf 2 _ rfl
        rw [(by kernel_rfl : Tryz.prog.cellsOf 194 = 4)] at g2
        have g3 : DataW.trod enc Tryz.prog w 0 (fun _ => true) true k 3 ((List.drop 6 [c0, c1, c2, c3, c4, c5, c6, c7]).take (Tryz.prog.cellsOf 3)) = some y3 := hf 3 _ rfl
        rw [(by kernel_rfl : Tryz.prog.cellsOf 3 = 1)] at g3
        have g4 : DataW.trod enc Tryz.prog w 0 (fun _ => true) true k 4 ((List.drop 7 [c0, c1, c2, c3, c4, c5, c6, c7]).take (Tryz.prog.cellsOf 4)) = some y4 := hf 4 _ rfl
        rw [(by kernel_rfl : Tryz.prog.cellsOf 4 = 1)] at g4
        obtain ⟨us2_, k2_, hk2_, hxy2_, _, hul2_, hg2_⟩ := DataW.trod_struct Tryz.underlying194 g2
        match us2_, hul2_ with
        | [u2_0, u2_1, u2_2, u2_3], _ =>
          have g2_0 : DataW.trod enc Tryz.prog w 0 (fun _ => true) true k2_ 3 ((List.drop 0 [c2, c3, c4, c5]).take (Tryz.prog.cellsOf 3)) = some u2_0 := hg2_ 0 _ rfl
          rw [(by kernel_rfl : Tryz.prog.cellsOf 3 = 1)] at g2_0
          have g2_1 : DataW.trod enc Tryz.prog w 0 (fun _ => true) true k2_ 3 ((List.drop 1 [c2, c3, c4, c5]).take (Tryz.prog.cellsOf 3)) = some u2_1 := hg2_ 1 _ rfl
          rw [(by kernel_rfl : Tryz.prog.cellsOf 3 = 1)] at g2_1
          have g2_2 : DataW.trod enc Tryz.prog w 0 (fun _ => true) true k2_ 3 ((List.drop 2 [c2, c3, c4, c5]).take (Tryz.prog.cellsOf 3)) = some u2_2 := hg2_ 2 _ rfl
          rw [(by kernel_rfl : Tryz.prog.cellsOf 3 = 1)] at g2_2
          have g2_3 : DataW.trod enc Tryz.prog w 0 (fun _ => true) true k2_ 3 ((List.drop 3 [c2, c3, c4, c5]).take (Tryz.prog.cellsOf 3)) = some u2_3 := hg2_ 3 _ rfl
          rw [(by kernel_rfl : Tryz.prog.cellsOf 3 = 1)] at g2_3
          obtain ⟨z0, e0, _, _⟩ := DataW.trod_int Tryz.underlying3 g0
          obtain ⟨z1, e1, _, _⟩ := DataW.trod_int Tryz.underlying3 g1
          obtain ⟨z2, e2, _, _⟩ := DataW.trod_int Tryz.underlying3 g2_0
          obtain ⟨z3, e3, _, _⟩ := DataW.trod_int Tryz.underlying3 g2_1
          obtain ⟨z4, e4, _, _⟩ := DataW.trod_int Tryz.underlying3 g2_2
          obtain ⟨z5, e5, _, _⟩ := DataW.trod_int Tryz.underlying3 g2_3
          obtain ⟨z6, e6, _, _⟩ := DataW.trod_int Tryz.underlying3 g3
          obtain ⟨z7, e7, _⟩ := DataW.trod_bool Tryz.underlying4 g4
          simp at e0 e1 e2 e3 e4 e5 e6 e7
          subst e0 e1 e2 e3 e4 e5 e6 e7
          have k_0 := hc 0 (by omega)
          have k_1 := hc 1 (by omega)
          have k_2 := hc 2 (by omega)
          have k_3 := hc 3 (by omega)
          have k_4 := hc 4 (by omega)
          have k_5 := hc 5 (by omega)
          have k_6 := hc 6 (by omega)
          have k_7 := hc 7 (by omega)
          rw [Go.Deep.add_add] at k_0 k_1 k_2 k_3 k_4 k_5 k_6 k_7
          exact ⟨⟨z0, z1, z2, z3, z4, z5, z6, z7⟩, by simpa using k_0, by simpa using k_1, by simpa using k_2, by simpa using k_3, by simpa using k_4, by simpa using k_5, by simpa using k_6, by simpa using k_7⟩
    haveI : Inhabited Ou := ⟨Ou.nil⟩
    obtain ⟨q, hq⟩ := Go.Deep.choose_lt each
    refine ⟨some a, m, (List.range len).map q, by simpa using hcell _ hcs, by simpa using Nat.le_trans hl hm, fun hp => ?_, fun e => by cases e⟩
    simp at hp
    obtain ⟨b, off, spot⟩ := a
    have hspot : spot = none := by simpa [Addr.add] using World.cell?_spot (hq 0 (by omega)).1
    subst hspot
    refine ⟨b, off, rfl, fun j v hv => ?_⟩
    have hjl : j < len * 8 := by
      have := (List.getElem?_eq_some_iff.1 hv).1
      rw [fcells_len ouEnc_len] at this
      simpa using this
    have hi : j / 8 < len := by omega
    have hr : j % 8 < 8 := Nat.mod_lt _ (by omega)
    have e : j = j / 8 * 8 + j % 8 := by omega
    rw [e, fcells_at ouEnc_len Ou.nil _ _ _ (by simpa using hi) hr, show ((List.range len).map q).getD (j / 8) Ou.nil = q (j / 8) by simp [List.getD, hi]] at hv
    obtain ⟨k0, k1, k2, k3, k4, k5, k6, k7⟩ := hq (j / 8) (by omega)
    simp only [add_plain] at k0 k1 k2 k3 k4 k5 k6 k7
    rw [e]
    generalize j % 8 = r at hv hr
    have hcase : r = 0 ∨ r = 1 ∨ r = 2 ∨ r = 3 ∨ r = 4 ∨ r = 5 ∨ r = 6 ∨ r = 7 := by omega
    rcases hcase with rfl | rfl | rfl | rfl | rfl | rfl | rfl | rfl
    · cases hv; simpa [Nat.add_assoc] using k0
    · cases hv; simpa [Nat.add_assoc] using k1
    · cases hv; simpa [Nat.add_assoc] using k2
    · cases hv; simpa [Nat.add_assoc] using k3
    · cases hv; simpa [Nat.add_assoc] using k4
    · cases hv; simpa [Nat.add_assoc] using k5
    · cases hv; simpa [Nat.add_assoc] using k6
    · cases hv; simpa [Nat.add_assoc] using k7
theorem ouSz (ad : Option Addr) (len cap : Nat) (left : Int) (w : World) (h0 : 0 ≤ left) (h1 : left ≤ 1048576) (hm : len ≤ maxLen) :
    Calls Tryz.prog 109 #[.slice ad len cap, .int .i64 left] w fun e w' => e = .returned (.int .i64 (if (len : Int) ≤ left then left - len else -1)) ∧ w' = w := by
  unfold maxLen at hm
  by_cases h : (len : Int) ≤ left
  · rw [if_pos h]
    have h2 : 0 ≤ left - (len : Int) := by omega
    go_enter Tryz.func109, Tryz.ntmps109
    go_wp2
    go_ret
    exact ⟨rfl, rfl⟩
  · rw [if_neg h]
    have h2 : left - (len : Int) < 0 := by omega
    go_enter Tryz.func109, Tryz.ntmps109
    go_wp2
    go_ret
    exact ⟨rfl, rfl⟩
theorem ouInfo2 : (Tryz.prog.info? 114).map (fun i => (i.zero, i.size, i.bytes)) = some (some (.agg #[.int .i64 0, .int .i64 0, .int .i64 0, .int .i64 0, .int .i64 0, .int .i64 0, .int .i64 0, .bool false]), 8, 64) := by kernel_rfl
set_option maxHeartbeats 2000000 in
theorem ouToS (ad : Option Addr) (cap : Nat) (L : List Ou) (w : World) (hv : FView ouEnc w ad L) (hl : L.length ≤ 1048576) :
    Calls Tryz.prog 115 #[.slice ad L.length cap] w fun e w' => e = .returned (.slice (some ⟨w.heap.size, 0, none⟩) L.length L.length) ∧ FOwn ouEnc 8 114 w.heap.size w' (.slice (some ⟨w.heap.size, 0, none⟩) L.length L.length) L ∧ Below w.heap.size w w' := by
  obtain ⟨i0, hi, hz0, hz1, hz2⟩ := info_parts ouInfo2
  have hB := hv.lt ouEnc_len (by omega)
  go_enter Tryz.func115, Tryz.ntmps115
  go_wp2_with (first | (refine wpList_make_full _ rfl _ _ 46 rfl w.heap.size 114 i0 (.agg #[.int .i64 0, .int .i64 0, .int .i64 0, .int .i64 0, .int .i64 0, .int .i64 0, .int .i64 0, .bool false]) 8 Tryz.underlying46 hi hz0 hz1 .i64 .i64 _ _ L.length rfl rfl rfl rfl ?c1 ?c2 ?c3 ?_))
  case c1 => rw [hz2]; omega
  case c2 => unfold maxLen; omega
  case c3 => exact Nat.le_refl _
  intro w1 hown hgrow
  have F0 : FFill ouEnc 8 114 w.heap.size w1 w.heap.size L 0 := FFill.start hown
  have B0 : Below w.heap.size w w1 := (Below.refl _ _).grown hgrow (Nat.le_refl _) (by simp)
  clear hown hgrow
  go_wp2
  go_loopw [4] (fun i wr => ∃ k : Nat, k ≤ L.length ∧ i = .int .i64 k ∧ FFill ouEnc 8 114 w.heap.size wr w.heap.size L k ∧ Below w.heap.size w wr) (fun i _ => L.length - (intOf i).toNat)
  case atStart => exact ⟨0, Nat.zero_le _, rfl, F0, B0⟩
  case round =>
    obtain ⟨k, hk, rfl, F, B⟩ := hrel
    clear F0 B0
    by_cases hlt : k < L.length
    · obtain ⟨b, off, rfl, _⟩ := hv (by omega)
      obtain ⟨h, hh⟩ : ∃ h, L.getD k Ou.nil = h := ⟨_, rfl⟩
      have hck : OuAtO wr b (off + k * 8) h := by
        rw [← hh]
        exact ouAtO_of ((hv.below B hB).at_ ouEnc_len Ou.nil hlt)
      obtain ⟨c0, c1, c2, c3, c4, c5, c6, c7⟩ := hck
      have hsz := F.lt
      go_wp2_with fail
      go_at_call 164
      refine (toOu h wr).mono ?_
      rintro e w2 ⟨rfl, k2⟩
      have G := F.keep (k2.block _ hsz.2)
      have B2 := B.trans (k2.mono (Nat.le_of_lt hsz.2))
      obtain ⟨u0, hu0⟩ := G.cell (k * 8) (by omega)
      obtain ⟨u1, hu1⟩ := G.cell (k * 8 + 1) (by omega)
      obtain ⟨u2, hu2⟩ := G.cell (k * 8 + 2) (by omega)
      obtain ⟨u3, hu3⟩ := G.cell (k * 8 + 3) (by omega)
      obtain ⟨u4, hu4⟩ := G.cell (k * 8 + 4) (by omega)
      obtain ⟨u5, hu5⟩ := G.cell (k * 8 + 5) (by omega)
      obtain ⟨u6, hu6⟩ := G.cell (k * 8 + 6) (by omega)
      obtain ⟨u7, hu7⟩ := G.cell (k * 8 + 7) (by omega)
      have f0 := G.frozen (k * 8)
      have f1 := G.frozen (k * 8 + 1)
      have f2 := G.frozen (k * 8 + 2)
      have f3 := G.frozen (k * 8 + 3)
      have f4 := G.frozen (k * 8 + 4)
      have f5 := G.frozen (k * 8 + 5)
      have f6 := G.frozen (k * 8 + 6)
      have f7 := G.frozen (k * 8 + 7)
      have G1 := G.step ouEnc_len Ou.nil hlt
      have B3 := below_putAll (Nat.le_refl _) (ouEnc h) (k * 8) B2
      rw [hh, ouPut] at G1
      rw [ouPut] at B3
      clear F G B B2 hh hsz
      go_wp2
      go_roundw
      case rel => exact ⟨k + 1, by omega, by go_num, G1, B3⟩
      case measure => simp [intOf]; omega
    · obtain rfl : k = L.length := by omega
      go_wp2
      go_ret
      exact ⟨rfl, F.done ouEnc_len, B⟩

end Go.Proofs.YtnpiljegdiconaaGreat
namespace Go.Proofs.YtnpiljegdiconaaGreat
open Go.ChangeShapes Go.WideShapes Go.ChangeAt Go.RowKit
open Go.ChangeMaps (open_string shut_string)
set_option linter.unusedVariables false
set_option maxRecDepth 100000

/-- What is known of a box that comes in. -/
structure BxIn (w : World) (x : BxD) : Prop where
  t : MV w x.aT x.two
  tm : x.two.length ≤ maxLen
  ts : ∀ i, i < x.two.length → (x.two.getD i MiD.nil).m.lg.length ≤ maxLen
  tc : x.two.length ≤ x.cT
  tn : x.aT = none → x.cT = 0
  n : FView wiEnc w x.aN x.net
  nm : x.net.length ≤ maxLen
  nn : x.aN = none → x.cN = 0
  g : FView boEnc w x.aG x.ga
  gm : x.ga.length ≤ maxLen
  gn : x.aG = none → x.cG = 0
  i : FView ikEnc w x.aL x.ln
  im : x.ln.length ≤ maxLen
  ic : x.aL = none → x.cL = 0
  s : FView ouEnc w x.aS x.sd
  sm : x.sd.length ≤ maxLen
  sn : x.aS = none → x.cS = 0
set_option maxRecDepth 100000 in
theorem bxIn_open {H : Type} {enc : TypeId × Value → H} {w : World} {r : Reach} {b0 : Nat} {v : Value} {d : DataW H} {p : List MemPlace} (hv : Value.okWide Tryz.prog w r b0 70 v) (h : DataW.Trod enc Tryz.prog w 0 (fun _ => true) true 70 v d p) :
    ∃ x : BxD, v = .agg #[.int .i64 x.id, .int .i64 x.po, .int .i64 x.rg.ep, .int .i64 x.rg.ow, .int .i64 x.rg.pa, .slice x.aT x.two.length x.cT, .slice x.aN x.net.length x.cN, .slice x.aG x.ga.length x.cG, .slice x.aL x.ln.length x.cL, .slice x.aS x.sd.length x.cS] ∧ BxIn w x := by
  obtain ⟨cs, rfl, hsz⟩ := okWide_struct Tryz.underlying70 hv
  rw [(by kernel_rfl : Tryz.prog.cellsOf 70 = 10)] at hsz
  obtain ⟨cs⟩ := cs
  obtain ⟨fuel, hf0⟩ := h
  simp only [Value.cells] at hf0
  have hlen : cs.length = 10 := by simpa using hsz
  obtain ⟨xs, k, hk, hxy, _, hxl, hf⟩ := DataW.trod_struct Tryz.underlying70 hf0
  match xs, hxl, cs, hlen with
  | [y0, y1, y2, y3, y4, y5, y6, y7], _, [c0, c1, c2, c3, c4, c5, c6, c7, c8, c9], _ =>
    have g0 : DataW.trod enc Tryz.prog w 0 (fun _ => true) true k 3 ((List.drop 0 [c0, c1, c2, c3, c4, c5, c6, c7, c8, c9]).take (Tryz.prog.cellsOf 3)) = some y0 := hf 0 _ rfl
    rw [(by kernel_rfl : Tryz.prog.cellsOf 3 = 1)] at g0
    have g1 : DataW.trod enc Tryz.prog w 0 (fun _ => true) true k 3 ((List.drop 1 [c0, c1, c2, c3, c4, c5, c6, c7, c8, c9]).take (Tryz.prog.cellsOf 3)) = some y1 := hf 1 _ rfl
    rw [(by kernel_rfl : Tryz.prog.cellsOf 3 = 1)] at g1
    have g2 : DataW.trod enc Tryz.prog w 0 (fun _ => true) true k 64 ((List.drop 2 [c0, c1, c2, c3, c4, c5, c6, c7, c8, c9]).take (Tryz.prog.cellsOf 64)) = some y2 := hf 2 _ rfl
    rw [(by kernel_rfl : Tryz.prog.cellsOf 64 = 3)] at g2
    have g3 : DataW.trod enc Tryz.prog w 0 (fun _ => true) true k 65 ((List.drop 5 [c0, c1, c2, c3, c4, c5, c6, c7, c8, c9]).take (Tryz.prog.cellsOf 65)) = some y3 := hf 3 _ rfl
    rw [(by kernel_rfl : Tryz.prog.cellsOf 65 = 1)] at g3
    have g4 : DataW.trod enc Tryz.prog w 0 (fun _ => true) true k 66 ((List.drop 6 [c0, c1, c2, c3, c4, c5, c6, c7, c8, c9]).take (Tryz.prog.cellsOf 66)) = some y4 := hf 4 _ rfl
    rw [(by kernel_rfl : Tryz.prog.cellsOf 66 = 1)] at g4
    have g5 : DataW.trod enc Tryz.prog w 0 (fun _ => true) true k 45 ((List.drop 7 [c0, c1, c2, c3, c4, c5, c6, c7, c8, c9]).take (Tryz.prog.cellsOf 45)) = some y5 := hf 5 _ rfl
    rw [(by kernel_rfl : Tryz.prog.cellsOf 45 = 1)] at g5
    have g6 : DataW.trod enc Tryz.prog w 0 (fun _ => true) true k 67 ((List.drop 8 [c0, c1, c2, c3, c4, c5, c6, c7, c8, c9]).take (Tryz.prog.cellsOf 67)) = some y6 := hf 6 _ rfl
    rw [(by kernel_rfl : Tryz.prog.cellsOf 67 = 1)] at g6
    have g7 : DataW.trod enc Tryz.prog w 0 (fun _ => true) true k 68 ((List.drop 9 [c0, c1, c2, c3, c4, c5, c6, c7, c8, c9]).take (Tryz.prog.cellsOf 68)) = some y7 := hf 7 _ rfl
    rw [(by kernel_rfl : Tryz.prog.cellsOf 68 = 1)] at g7
    obtain ⟨us, k2, hk2, hxy2, _, hul, hg⟩ := DataW.trod_struct Tryz.underlying64 g2
    match us, hul with
    | [u0, u1, u2], _ =>
      have q0 : DataW.trod enc Tryz.prog w 0 (fun _ => true) true k2 3 ((List.drop 0 [c2, c3, c4]).take (Tryz.prog.cellsOf 3)) = some u0 := hg 0 _ rfl
      rw [(by kernel_rfl : Tryz.prog.cellsOf 3 = 1)] at q0
      have q1 : DataW.trod enc Tryz.prog w 0 (fun _ => true) true k2 3 ((List.drop 1 [c2, c3, c4]).take (Tryz.prog.cellsOf 3)) = some u1 := hg 1 _ rfl
      rw [(by kernel_rfl : Tryz.prog.cellsOf 3 = 1)] at q1
      have q2 : DataW.trod enc Tryz.prog w 0 (fun _ => true) true k2 3 ((List.drop 2 [c2, c3, c4]).take (Tryz.prog.cellsOf 3)) = some u2 := hg 2 _ rfl
      rw [(by kernel_rfl : Tryz.prog.cellsOf 3 = 1)] at q2
      obtain ⟨z0, e0, _, _⟩ := DataW.trod_int Tryz.underlying3 g0
      obtain ⟨z1, e1, _, _⟩ := DataW.trod_int Tryz.underlying3 g1
      obtain ⟨z2, e2, _, _⟩ := DataW.trod_int Tryz.underlying3 q0
      obtain ⟨z3, e3, _, _⟩ := DataW.trod_int Tryz.underlying3 q1
      obtain ⟨z4, e4, _, _⟩ := DataW.trod_int Tryz.underlying3 q2
      simp at e0 e1 e2 e3 e4
      subst e0 e1 e2 e3 e4
      obtain ⟨aT, cT, D, d3, tm, t, ts, tn, tc⟩ := mdRow_open (by simpa using g3)
      obtain ⟨aN, cN, N, d4, nm, n, nn⟩ := wiRow_open (by simpa using g4)
      obtain ⟨aG, cG, G, d5, gm, g, gn⟩ := boRow_open (by simpa using g5)
      obtain ⟨aL, cL, L, d6, im, i, ic⟩ := ikRow_open (by simpa using g6)
      obtain ⟨aS, cS, S, d7, sm, s, sn⟩ := ouRow_open (by simpa using g7)
      subst d3 d4 d5 d6 d7
      exact ⟨⟨z0, z1, ⟨z2, z3, z4⟩, D, aT, cT, N, aN, cN, G, aG, cG, L, aL, cL, S, aS, cS⟩, rfl, t, tm, ts, tc, tn, n, nm, nn, g, gm, gn, i, im, ic, s, sm, sn⟩
theorem BxIn.below {w w' : World} {x : BxD} (h : BxIn w x) (k : Below w.heap.size w w') : BxIn w' x :=
  ⟨h.t.below k (Nat.le_refl _), h.tm, h.ts, h.tc, h.tn, h.n.below k (h.n.lt wiEnc_len (by omega)), h.nm, h.nn, h.g.below k (h.g.lt boEnc_len (by omega)), h.gm, h.gn, h.i.below k (h.i.lt ikEnc_len (by omega)), h.im, h.ic, h.s.below k (h.s.lt ouEnc_len (by omega)), h.sm, h.sn⟩
/-- A box whose size the laws bear. -/
structure BxSm (x : BxD) : Prop where
  t : x.two.length ≤ 1048576
  l : lToM x.two x.two.length ≤ 1048576
  n : x.net.length ≤ 1048576
  g : x.ga.length ≤ 1048576
  i : x.ln.length ≤ 1048576
  s : x.sd.length ≤ 1048576
theorem BxSm.ls {x : BxD} (h : BxSm x) : ∀ i, i < x.two.length → (x.two.getD i MiD.nil).m.lg.length ≤ 1048576 := fun i hi => Nat.le_trans (getLM_le x.two hi) h.l
theorem BxIn.v {w : World} {x : BxD} (h : BxIn w x) (k : BxSm x) : BxV w x :=
  ⟨h.t.row, h.t.nest, h.n, h.g, h.i, h.s, k.t, k.ls, k.n, k.g, k.i, k.s, h.tc⟩
/-- A box whose memory is its own, from lo on below hi. -/
structure BxM (lo hi : Nat) (w : World) (x : BxD) : Prop where
  t : MOwn lo hi w (.slice x.aT x.two.length x.cT) x.two
  n : FOwn wiEnc 12 112 lo w (.slice x.aN x.net.length x.cN) x.net
  g : FOwn boEnc 1 4 lo w (.slice x.aG x.ga.length x.cG) x.ga
  i : FOwn ikEnc 8 105 lo w (.slice x.aL x.ln.length x.cL) x.ln
  s : FOwn ouEnc 8 114 lo w (.slice x.aS x.sd.length x.cS) x.sd
  nh : ∀ b, (Value.slice x.aN x.net.length x.cN).ownBlock = some b → b < hi
  gh : ∀ b, (Value.slice x.aG x.ga.length x.cG).ownBlock = some b → b < hi
  ih : ∀ b, (Value.slice x.aL x.ln.length x.cL).ownBlock = some b → b < hi
  sh : ∀ b, (Value.slice x.aS x.sd.length x.cS).ownBlock = some b → b < hi
  ap : ∀ j, j < x.two.length → ∀ b, (x.two.getD j MiD.nil).v.ownBlock = some b → (Value.slice x.aL x.ln.length x.cL).ownBlock ≠ some b
theorem BxM.keep {lo hi : Nat} {w w' : World} {x : BxD} (h : BxM lo hi w x) (k : ∀ g, lo ≤ g → g < hi → w'.heap[g]? = w.heap[g]?) : BxM lo hi w' x :=
  ⟨h.t.keep k, h.n.keep (fun g e => k g (h.n.lt g e).1 (h.nh g e)), h.g.keep (fun g e => k g (h.g.lt g e).1 (h.gh g e)), h.i.keep (fun g e => k g (h.i.lt g e).1 (h.ih g e)), h.s.keep (fun g e => k g (h.s.lt g e).1 (h.sh g e)), h.nh, h.gh, h.ih, h.sh, h.ap⟩
theorem BxM.below {lo hi B : Nat} {w w' : World} {x : BxD} (h : BxM lo hi w x) (k : Below B w w') (hB : hi ≤ B) : BxM lo hi w' x := h.keep fun g _ hg => k.block _ (by omega)
theorem BxM.wide {lo hi lo' hi' : Nat} {w : World} {x : BxD} (h : BxM lo hi w x) (h1 : lo' ≤ lo) (h2 : hi ≤ hi') : BxM lo' hi' w x :=
  ⟨h.t.wide h1 h2, h.n.base h1, h.g.base h1, h.i.base h1, h.s.base h1, fun b e => Nat.lt_of_lt_of_le (h.nh b e) h2, fun b e => Nat.lt_of_lt_of_le (h.gh b e) h2, fun b e => Nat.lt_of_lt_of_le (h.ih b e) h2, fun b e => Nat.lt_of_lt_of_le (h.sh b e) h2, h.ap⟩
theorem BxM.in_ {lo hi : Nat} {w : World} {x : BxD} (h : BxM lo hi w x) (k : BxSm x) : BxIn w x := by
  have hm : (1048576 : Nat) ≤ maxLen := by unfold maxLen; omega
  exact ⟨h.t.view.2, Nat.le_trans k.t hm, fun i hi => Nat.le_trans (k.ls i hi) hm, h.t.row.capM, fun e => own_noneM (by have := h.t.row; rw [e] at this; exact this), h.n.view.2, Nat.le_trans k.n hm, fun e => own_noneM (by have := h.n; rw [e] at this; exact this), h.g.view.2, Nat.le_trans k.g hm, fun e => own_noneM (by have := h.g; rw [e] at this; exact this), h.i.view.2, Nat.le_trans k.i hm, fun e => own_noneM (by have := h.i; rw [e] at this; exact this), h.s.view.2, Nat.le_trans k.s hm, fun e => own_noneM (by have := h.s; rw [e] at this; exact this)⟩
theorem BxM.v {lo hi : Nat} {w : World} {x : BxD} (h : BxM lo hi w x) (k : BxSm x) : BxV w x := (h.in_ k).v k

end Go.Proofs.YtnpiljegdiconaaGreat
namespace Go.Proofs.YtnpiljegdiconaaGreat
open Go.ChangeShapes Go.WideShapes Go.ChangeAt Go.RowKit
open Go.ChangeMaps (open_string shut_string)
set_option linter.unusedVariables false
set_option maxRecDepth 100000

set_option maxHeartbeats 2000000 in
theorem bxSz (x : BxD) (w : World) (I : BxIn w x) :
    Calls Tryz.prog 49 #[.agg #[.int .i64 x.id, .int .i64 x.po, .int .i64 x.rg.ep, .int .i64 x.rg.ow, .int .i64 x.rg.pa, .slice x.aT x.two.length x.cT, .slice x.aN x.net.length x.cN, .slice x.aG x.ga.length x.cG, .slice x.aL x.ln.length x.cL, .slice x.aS x.sd.length x.cS], .int .i64 1048576] w fun e w' => ∃ c : Int, e = .returned (.int .i64 c) ∧ (c < 0 ∨ (0 ≤ c ∧ c ≤ 1048576 ∧ BxSm x)) ∧ Below w.heap.size w w' := by
  obtain ⟨y, hy⟩ : ∃ y, y = w.alloc (Obj.cells #[.int .i64 x.id, .int .i64 x.po, .int .i64 x.rg.ep, .int .i64 x.rg.ow, .int .i64 x.rg.pa, .slice x.aT x.two.length x.cT, .slice x.aN x.net.length x.cN, .slice x.aG x.ga.length x.cG, .slice x.aL x.ln.length x.cL, .slice x.aS x.sd.length x.cS] 70) := ⟨_, rfl⟩
  have B0 : Below w.heap.size w y := by rw [hy]; exact below_new _
  have A : BxAt y w.heap.size x := by rw [hy]; exact BxAt.new w _ x
  have I := I.below B0
  go_enter Tryz.func49, Tryz.ntmps49
  have cc := A
  obtain ⟨a0, a1, a2, a3, a4, a5, a6, a7, a8, a9⟩ := cc
  go_wp2_with fail
  go_at_call 105
  rw [← hy]
  clear hy a0 a1 a2 a3 a4 a5 a6 a7 a8 a9
  refine (mdSz x.aT x.cT x.two 1048576 y I.t (by decide) (by decide) I.tm I.ts).mono ?_
  rintro e u0 ⟨rfl, k0⟩
  have A := A.below k0 A.lt
  have B0 := B0.trans (k0.mono B0.size)
  clear k0
  by_cases h0 : ((x.two.length + lToM x.two x.two.length : Nat) : Int) ≤ 1048576
  rotate_left
  · rw [if_neg h0]
    go_wp2
    go_ret
    exact ⟨_, rfl, .inl (by decide), B0⟩
  rw [if_pos h0]
  have l0 : 0 ≤ 1048576 - ((x.two.length + lToM x.two x.two.length : Nat) : Int) := by omega
  have l1 : 1048576 - ((x.two.length + lToM x.two x.two.length : Nat) : Int) ≤ 1048576 := by omega
  generalize 1048576 - ((x.two.length + lToM x.two x.two.length : Nat) : Int) = c0 at l0 l1 ⊢
  have l2 : ¬ c0 < 0 := by omega
  have cc := A
  obtain ⟨a0, a1, a2, a3, a4, a5, a6, a7, a8, a9⟩ := cc
  go_wp2_with fail
  go_at_call 106
  clear a0 a1 a2 a3 a4 a5 a6 a7 a8 a9
  refine (wiSz x.aN x.net.length x.cN c0 u0 l0 l1 I.nm).mono ?_
  rintro e u1 ⟨rfl, hw⟩
  have A : BxAt u1 w.heap.size x := by rw [hw]; exact A
  have B0 : Below w.heap.size w u1 := by rw [hw]; exact B0
  clear hw
  by_cases h1 : (x.net.length : Int) ≤ c0
  rotate_left
  · rw [if_neg h1]
    go_wp2
    go_ret
    exact ⟨_, rfl, .inl (by decide), B0⟩
  rw [if_pos h1]
  have l0' : 0 ≤ c0 - (x.net.length : Int) := by omega
  have l1' : c0 - (x.net.length : Int) ≤ 1048576 := by omega
  replace h1 : x.net.length ≤ 1048576 := by omega
  clear l0 l1 l2
  generalize c0 - (x.net.length : Int) = c1 at l0' l1' ⊢
  have l0 := l0'
  have l1 := l1'
  have l2 : ¬ c1 < 0 := by omega
  clear l0' l1'
  have cc := A
  obtain ⟨a0, a1, a2, a3, a4, a5, a6, a7, a8, a9⟩ := cc
  go_wp2_with fail
  go_at_call 107
  clear a0 a1 a2 a3 a4 a5 a6 a7 a8 a9
  refine (szBo x.aG x.ga.length x.cG c1 u1 l0 l1 I.gm).mono ?_
  rintro e u2 ⟨rfl, hw⟩
  have A : BxAt u2 w.heap.size x := by rw [hw]; exact A
  have B0 : Below w.heap.size w u2 := by rw [hw]; exact B0
  clear hw
  by_cases h2 : (x.ga.length : Int) ≤ c1
  rotate_left
  · rw [if_neg h2]
    go_wp2
    go_ret
    exact ⟨_, rfl, .inl (by decide), B0⟩
  rw [if_pos h2]
  have l0' : 0 ≤ c1 - (x.ga.length : Int) := by omega
  have l1' : c1 - (x.ga.length : Int) ≤ 1048576 := by omega
  replace h2 : x.ga.length ≤ 1048576 := by omega
  clear l0 l1 l2
  generalize c1 - (x.ga.length : Int) = c2 at l0' l1' ⊢
  have l0 := l0'
  have l1 := l1'
  have l2 : ¬ c2 < 0 := by omega
  clear l0' l1'
  have cc := A
  obtain ⟨a0, a1, a2, a3, a4, a5, a6, a7, a8, a9⟩ := cc
  go_wp2_with fail
  go_at_call 108
  clear a0 a1 a2 a3 a4 a5 a6 a7 a8 a9
  refine (ikSz x.aL x.ln.length x.cL c2 u2 l0 l1 I.im).mono ?_
  rintro e u3 ⟨rfl, hw⟩
  have A : BxAt u3 w.heap.size x := by rw [hw]; exact A
  have B0 : Below w.heap.size w u3 := by rw [hw]; exact B0
  clear hw
  by_cases h3 : (x.ln.length : Int) ≤ c2
  rotate_left
  · rw [if_neg h3]
    go_wp2
    go_ret
    exact ⟨_, rfl, .inl (by decide), B0⟩
  rw [if_pos h3]
  have l0' : 0 ≤ c2 - (x.ln.length : Int) := by omega
  have l1' : c2 - (x.ln.length : Int) ≤ 1048576 := by omega
  replace h3 : x.ln.length ≤ 1048576 := by omega
  clear l0 l1 l2
  generalize c2 - (x.ln.length : Int) = c3 at l0' l1' ⊢
  have l0 := l0'
  have l1 := l1'
  have l2 : ¬ c3 < 0 := by omega
  clear l0' l1'
  have cc := A
  obtain ⟨a0, a1, a2, a3, a4, a5, a6, a7, a8, a9⟩ := cc
  go_wp2_with fail
  go_at_call 109
  clear a0 a1 a2 a3 a4 a5 a6 a7 a8 a9
  refine (ouSz x.aS x.sd.length x.cS c3 u3 l0 l1 I.sm).mono ?_
  rintro e u4 ⟨rfl, hw⟩
  have A : BxAt u4 w.heap.size x := by rw [hw]; exact A
  have B0 : Below w.heap.size w u4 := by rw [hw]; exact B0
  clear hw
  by_cases h4 : (x.sd.length : Int) ≤ c3
  rotate_left
  · rw [if_neg h4]
    go_wp2
    go_ret
    exact ⟨_, rfl, .inl (by decide), B0⟩
  rw [if_pos h4]
  have l0' : 0 ≤ c3 - (x.sd.length : Int) := by omega
  have l1' : c3 - (x.sd.length : Int) ≤ 1048576 := by omega
  replace h4 : x.sd.length ≤ 1048576 := by omega
  clear l0 l1 l2
  generalize c3 - (x.sd.length : Int) = c4 at l0' l1' ⊢
  have l0 := l0'
  have l1 := l1'
  have l2 : ¬ c4 < 0 := by omega
  clear l0' l1'
  go_wp2
  go_ret
  exact ⟨_, rfl, .inr ⟨l0, l1, by omega, by omega, h1, h2, h3, h4⟩, B0⟩

end Go.Proofs.YtnpiljegdiconaaGreat
namespace Go.Proofs.YtnpiljegdiconaaGreat
open Go.ChangeShapes Go.WideShapes Go.ChangeAt Go.RowKit
open Go.ChangeMaps (open_string shut_string)
set_option linter.unusedVariables false
set_option maxRecDepth 100000

/-- A box's box that may be written. -/
structure BxB (w : World) (q : Nat) (x : BxD) : Prop where
  at_ : BxAt w q x
  fr : ∀ i, w.frozen? ⟨q, i, none⟩ = false
theorem BxB.keep {w w' : World} {q : Nat} {x : BxD} (h : BxB w q x) (k : w'.heap[q]? = w.heap[q]?) : BxB w' q x :=
  ⟨h.at_.keep k, fun i => (World.frozen?_of_block (a := ⟨q, i, none⟩) k).trans (h.fr i)⟩
theorem BxB.below {w w' : World} {q n : Nat} {x : BxD} (h : BxB w q x) (k : Below n w w') (hq : q < n) : BxB w' q x := h.keep (k.block q hq)
theorem BxB.lt {w : World} {q : Nat} {x : BxD} (h : BxB w q x) : q < w.heap.size := h.at_.lt
def BxD.zero : BxD := ⟨0, 0, ⟨0, 0, 0⟩, [], none, 0, [], none, 0, [], none, 0, [], none, 0, [], none, 0⟩
theorem BxB.put {w : World} {q : Nat} {x0 : BxD} (h : BxB w q x0) (x : BxD) : BxB ((((((((((w.setCell ⟨q, 0, none⟩ (.int .i64 x.id)).setCell ⟨q, 1, none⟩ (.int .i64 x.po)).setCell ⟨q, 2, none⟩ (.int .i64 x.rg.ep)).setCell ⟨q, 3, none⟩ (.int .i64 x.rg.ow)).setCell ⟨q, 4, none⟩ (.int .i64 x.rg.pa)).setCell ⟨q, 5, none⟩ (.slice x.aT x.two.length x.cT)).setCell ⟨q, 6, none⟩ (.slice x.aN x.net.length x.cN)).setCell ⟨q, 7, none⟩ (.slice x.aG x.ga.length x.cG)).setCell ⟨q, 8, none⟩ (.slice x.aL x.ln.length x.cL)).setCell ⟨q, 9, none⟩ (.slice x.aS x.sd.length x.cS)) q x := by
  obtain ⟨⟨h0, h1, h2, h3, h4, h5, h6, h7, h8, h9⟩, hf⟩ := h
  have h0 : (w.setCell ⟨q, 0, none⟩ (.int .i64 x.id)).cell? ⟨q, 0, none⟩ = some (.int .i64 x.id) := pset_same h0
  have h1 : (w.setCell ⟨q, 0, none⟩ (.int .i64 x.id)).cell? ⟨q, 1, none⟩ = _ := (pset_else (by decide)).trans h1
  have h2 : (w.setCell ⟨q, 0, none⟩ (.int .i64 x.id)).cell? ⟨q, 2, none⟩ = _ := (pset_else (by decide)).trans h2
  have h3 : (w.setCell ⟨q, 0, none⟩ (.int .i64 x.id)).cell? ⟨q, 3, none⟩ = _ := (pset_else (by decide)).trans h3
  have h4 : (w.setCell ⟨q, 0, none⟩ (.int .i64 x.id)).cell? ⟨q, 4, none⟩ = _ := (pset_else (by decide)).trans h4
  have h5 : (w.setCell ⟨q, 0, none⟩ (.int .i64 x.id)).cell? ⟨q, 5, none⟩ = _ := (pset_else (by decide)).trans h5
  have h6 : (w.setCell ⟨q, 0, none⟩ (.int .i64 x.id)).cell? ⟨q, 6, none⟩ = _ := (pset_else (by decide)).trans h6
  have h7 : (w.setCell ⟨q, 0, none⟩ (.int .i64 x.id)).cell? ⟨q, 7, none⟩ = _ := (pset_else (by decide)).trans h7
  have h8 : (w.setCell ⟨q, 0, none⟩ (.int .i64 x.id)).cell? ⟨q, 8, none⟩ = _ := (pset_else (by decide)).trans h8
  have h9 : (w.setCell ⟨q, 0, none⟩ (.int .i64 x.id)).cell? ⟨q, 9, none⟩ = _ := (pset_else (by decide)).trans h9
  have h0 : ((w.setCell ⟨q, 0, none⟩ (.int .i64 x.id)).setCell ⟨q, 1, none⟩ (.int .i64 x.po)).cell? ⟨q, 0, none⟩ = _ := (pset_else (by decide)).trans h0
  have h1 : ((w.setCell ⟨q, 0, none⟩ (.int .i64 x.id)).setCell ⟨q, 1, none⟩ (.int .i64 x.po)).cell? ⟨q, 1, none⟩ = some (.int .i64 x.po) := pset_same h1
  have h2 : ((w.setCell ⟨q, 0, none⟩ (.int .i64 x.id)).setCell ⟨q, 1, none⟩ (.int .i64 x.po)).cell? ⟨q, 2, none⟩ = _ := (pset_else (by decide)).trans h2
  have h3 : ((w.setCell ⟨q, 0, none⟩ (.int .i64 x.id)).setCell ⟨q, 1, none⟩ (.int .i64 x.po)).cell? ⟨q, 3, none⟩ = _ := (pset_else (by decide)).trans h3
  have h4 : ((w.setCell ⟨q, 0, none⟩ (.int .i64 x.id)).setCell ⟨q, 1, none⟩ (.int .i64 x.po)).cell? ⟨q, 4, none⟩ = _ := (pset_else (by decide)).trans h4
  have h5 : ((w.setCell ⟨q, 0, none⟩ (.int .i64 x.id)).setCell ⟨q, 1, none⟩ (.int .i64 x.po)).cell? ⟨q, 5, none⟩ = _ := (pset_else (by decide)).trans h5
  have h6 : ((w.setCell ⟨q, 0, none⟩ (.int .i64 x.id)).setCell ⟨q, 1, none⟩ (.int .i64 x.po)).cell? ⟨q, 6, none⟩ = _ := (pset_else (by decide)).trans h6
  have h7 : ((w.setCell ⟨q, 0, none⟩ (.int .i64 x.id)).setCell ⟨q, 1, none⟩ (.int .i64 x.po)).cell? ⟨q, 7, none⟩ = _ := (pset_else (by decide)).trans h7
  have h8 : ((w.setCell ⟨q, 0, none⟩ (.int .i64 x.id)).setCell ⟨q, 1, none⟩ (.int .i64 x.po)).cell? ⟨q, 8, none⟩ = _ := (pset_else (by decide)).trans h8
  have h9 : ((w.setCell ⟨q, 0, none⟩ (.int .i64 x.id)).setCell ⟨q, 1, none⟩ (.int .i64 x.po)).cell? ⟨q, 9, none⟩ = _ := (pset_else (by decide)).trans h9
  have h0 : (((w.setCell ⟨q, 0, none⟩ (.int .i64 x.id)).setCell ⟨q, 1, none⟩ (.int .i64 x.po)).setCell ⟨q, 2, none⟩ (.int .i64 x.rg.ep)).cell? ⟨q, 0, none⟩ = _ := (pset_else (by decide)).trans h0
  have h1 : (((w.setCell ⟨q, 0, none⟩ (.int .i64 x.id)).setCell ⟨q, 1, none⟩ (.int .i64 x.po)).setCell ⟨q, 2, none⟩ (.int .i64 x.rg.ep)).cell? ⟨q, 1, none⟩ = _ := (pset_else (by decide)).trans h1
  have h2 : (((w.setCell ⟨q, 0, none⟩ (.int .i64 x.id)).setCell ⟨q, 1, none⟩ (.int .i64 x.po)).setCell ⟨q, 2, none⟩ (.int .i64 x.rg.ep)).cell? ⟨q, 2, none⟩ = some (.int .i64 x.rg.ep) := pset_same h2
  have h3 : (((w.setCell ⟨q, 0, none⟩ (.int .i64 x.id)).setCell ⟨q, 1, none⟩ (.int .i64 x.po)).setCell ⟨q, 2, none⟩ (.int .i64 x.rg.ep)).cell? ⟨q, 3, none⟩ = _ := (pset_else (by decide)).trans h3
  have h4 : (((w.setCell ⟨q, 0, none⟩ (.int .i64 x.id)).setCell ⟨q, 1, none⟩ (.int .i64 x.po)).setCell ⟨q, 2, none⟩ (.int .i64 x.rg.ep)).cell? ⟨q, 4, none⟩ = _ := (pset_else (by decide)).trans h4
  have h5 : (((w.setCell ⟨q, 0, none⟩ (.int .i64 x.id)).setCell ⟨q, 1, none⟩ (.int .i64 x.po)).setCell ⟨q, 2, none⟩ (.int .i64 x.rg.ep)).cell? ⟨q, 5, none⟩ = _ := (pset_else (by decide)).trans h5
  have h6 : (((w.setCell ⟨q, 0, none⟩ (.int .i64 x.id)).setCell ⟨q, 1, none⟩ (.int .i64 x.po)).setCell ⟨q, 2, none⟩ (.int .i64 x.rg.ep)).cell? ⟨q, 6, none⟩ = _ := (pset_else (by decide)).trans h6
  have h7 : (((w.setCell ⟨q, 0, none⟩ (.int .i64 x.id)).setCell ⟨q, 1, none⟩ (.int .i64 x.po)).setCell ⟨q, 2, none⟩ (.int .i64 x.rg.ep)).cell? ⟨q, 7, none⟩ = _ := (pset_else (by decide)).trans h7
  have h8 : (((w.setCell ⟨q, 0, none⟩ (.int .i64 x.id)).setCell ⟨q, 1, none⟩ (.int .i64 x.po)).setCell ⟨q, 2, none⟩ (.int .i64 x.rg.ep)).cell? ⟨q, 8, none⟩ = _ := (pset_else (by decide)).trans h8
  have h9 : (((w.setCell ⟨q, 0, none⟩ (.int .i64 x.id)).setCell ⟨q, 1, none⟩ (.int .i64 x.po)).setCell ⟨q, 2, none⟩ (.int .i64 x.rg.ep)).cell? ⟨q, 9, none⟩ = _ := (pset_else (by decide)).trans h9
  have h0 : ((((w.setCell ⟨q, 0, none⟩ (.int .i64 x.id)).setCell ⟨q, 1, none⟩ (.int .i64 x.po)).setCell ⟨q, 2, none⟩ (.int .i64 x.rg.ep)).setCell ⟨q, 3, none⟩ (.int .i64 x.rg.ow)).cell? ⟨q, 0, none⟩ = _ := (pset_else (by decide)).trans h0
  have h1 : ((((w.setCell ⟨q, 0, none⟩ (.int .i64 x.id)).setCell ⟨q, 1, none⟩ (.int .i64 x.po)).setCell ⟨q, 2, none⟩ (.int .i64 x.rg.ep)).setCell ⟨q, 3, none⟩ (.int .i64 x.rg.ow)).cell? ⟨q, 1, none⟩ = _ := (pset_else (by decide)).trans h1
  have h2 : ((((w.setCell ⟨q, 0, none⟩ (.int .i64 x.id)).setCell ⟨q, 1, none⟩ (.int .i64 x.po)).setCell ⟨q, 2, none⟩ (.int .i64 x.rg.ep)).setCell ⟨q, 3, none⟩ (.int .i64 x.rg.ow)).cell? ⟨q, 2, none⟩ = _ := (pset_else (by decide)).trans h2
  have h3 : ((((w.setCell ⟨q, 0, none⟩ (.int .i64 x.id)).setCell ⟨q, 1, none⟩ (.int .i64 x.po)).setCell ⟨q, 2, none⟩ (.int .i64 x.rg.ep)).setCell ⟨q, 3, none⟩ (.int .i64 x.rg.ow)).cell? ⟨q, 3, none⟩ = some (.int .i64 x.rg.ow) := pset_same h3
  have h4 : ((((w.setCell ⟨q, 0, none⟩ (.int .i64 x.id)).setCell ⟨q, 1, none⟩ (.int .i64 x.po)).setCell ⟨q, 2, none⟩ (.int .i64 x.rg.ep)).setCell ⟨q, 3, none⟩ (.int .i64 x.rg.ow)).cell? ⟨q, 4, none⟩ = _ := (pset_else (by decide)).trans h4
  have h5 : ((((w.setCell ⟨q, 0, none⟩ (.int .i64 x.id)).setCell ⟨q, 1, none⟩ (.int .i64 x.po)).setCell ⟨q, 2, none⟩ (.int .i64 x.rg.ep)).setCell ⟨q, 3, none⟩ (.int .i64 x.rg.ow)).cell? ⟨q, 5, none⟩ = _ := (pset_else (by decide)).trans h5
  have h6 : ((((w.setCell ⟨q, 0, none⟩ (.int .i64 x.id)).setCell ⟨q, 1, none⟩ (.int .i64 x.po)).setCell ⟨q, 2, none⟩ (.int .i64 x.rg.ep)).setCell ⟨q, 3, none⟩ (.int .i64 x.rg.ow)).cell? ⟨q, 6, none⟩ = _ := (pset_else (by decide)).trans h6
  have h7 : ((((w.setCell ⟨q, 0, none⟩ (.int .i64 x.id)).setCell ⟨q, 1, none⟩ (.int .i64 x.po)).setCell ⟨q, 2, none⟩ (.int .i64 x.rg.ep)).setCell ⟨q, 3, none⟩ (.int .i64 x.rg.ow)).cell? ⟨q, 7, none⟩ = _ := (pset_else (by decide)).trans h7
  have h8 : ((((w.setCell ⟨q, 0, none⟩ (.int .i64 x.id)).setCell ⟨q, 1, none⟩ (.int .i64 x.po)).setCell ⟨q, 2, none⟩ (.int .i64 x.rg.ep)).setCell ⟨q, 3, none⟩ (.int .i64 x.rg.ow)).cell? ⟨q, 8, none⟩ = _ := (pset_else (by decide)).trans h8
  have h9 : ((((w.setCell ⟨q, 0, none⟩ (.int .i64 x.id)).setCell ⟨q, 1, none⟩ (.int .i64 x.po)).setCell ⟨q, 2, none⟩ (.int .i64 x.rg.ep)).setCell ⟨q, 3, none⟩ (.int .i64 x.rg.ow)).cell? ⟨q, 9, none⟩ = _ := (pset_else (by decide)).trans h9
  have h0 : (((((w.setCell ⟨q, 0, none⟩ (.int .i64 x.id)).setCell ⟨q, 1, none⟩ (.int .i64 x.po)).setCell ⟨q, 2, none⟩ (.int .i64 x.rg.ep)).setCell ⟨q, 3, none⟩ (.int .i64 x.rg.ow)).setCell ⟨q, 4, none⟩ (.int .i64 x.rg.pa)).cell? ⟨q, 0, none⟩ = _ := (pset_else (by decide)).trans h0
  have h1 : (((((w.setCell ⟨q, 0, none⟩ (.int .i64 x.id)).setCell ⟨q, 1, none⟩ (.int .i64 x.po)).setCell ⟨q, 2, none⟩ (.int .i64 x.rg.ep)).setCell ⟨q, 3, none⟩ (.int .i64 x.rg.ow)).setCell ⟨q, 4, none⟩ (.int .i64 x.rg.pa)).cell? ⟨q, 1, none⟩ = _ := (pset_else (by decide)).trans h1
  have h2 : (((((w.setCell ⟨q, 0, none⟩ (.int .i64 x.id)).setCell ⟨q, 1, none⟩ (.int .i64 x.po)).setCell ⟨q, 2, none⟩ (.int .i64 x.rg.ep)).setCell ⟨q, 3, none⟩ (.int .i64 x.rg.ow)).setCell ⟨q, 4, none⟩ (.int .i64 x.rg.pa)).cell? ⟨q, 2, none⟩ = _ := (pset_else (by decide)).trans h2
  have h3 : (((((w.setCell ⟨q, 0, none⟩ (.int .i64 x.id)).setCell ⟨q, 1, none⟩ (.int .i64 x.po)).setCell ⟨q, 2, none⟩ (.int .i64 x.rg.ep)).setCell ⟨q, 3, none⟩ (.int .i64 x.rg.ow)).setCell ⟨q, 4, none⟩ (.int .i64 x.rg.pa)).cell? ⟨q, 3, none⟩ = _ := (pset_else (by decide)).trans h3
  have h4 : (((((w.setCell ⟨q, 0, none⟩ (.int .i64 x.id)).setCell ⟨q, 1, none⟩ (.int .i64 x.po)).setCell ⟨q, 2, none⟩ (.int .i64 x.rg.ep)).setCell ⟨q, 3, none⟩ (.int .i64 x.rg.ow)).setCell ⟨q, 4, none⟩ (.int .i64 x.rg.pa)).cell? ⟨q, 4, none⟩ = some (.int .i64 x.rg.pa) := pset_same h4
  have h5 : (((((w.setCell ⟨q, 0, none⟩ (.int .i64 x.id)).setCell ⟨q, 1, none⟩ (.int .i64 x.po)).setCell ⟨q, 2, none⟩ (.int .i64 x.rg.ep)).setCell ⟨q, 3, none⟩ (.int .i64 x.rg.ow)).setCell ⟨q, 4, none⟩ (.int .i64 x.rg.pa)).cell? ⟨q, 5, none⟩ = _ := (pset_else (by decide)).trans h5
  have h6 : (((((w.setCell ⟨q, 0, none⟩ (.int .i64 x.id)).setCell ⟨q, 1, none⟩ (.int .i64 x.po)).setCell ⟨q, 2, none⟩ (.int .i64 x.rg.ep)).setCell ⟨q, 3, none⟩ (.int .i64 x.rg.ow)).setCell ⟨q, 4, none⟩ (.int .i64 x.rg.pa)).cell? ⟨q, 6, none⟩ = _ := (pset_else (by decide)).trans h6
  have h7 : (((((w.setCell ⟨q, 0, none⟩ (.int .i64 x.id)).setCell ⟨q, 1, none⟩ (.int .i64 x.po)).setCell ⟨q, 2, none⟩ (.int .i64 x.rg.ep)).setCell ⟨q, 3, none⟩ (.int .i64 x.rg.ow)).setCell ⟨q, 4, none⟩ (.int .i64 x.rg.pa)).cell? ⟨q, 7, none⟩ = _ := (pset_else (by decide)).trans h7
  have h8 : (((((w.setCell ⟨q, 0, none⟩ (.int .i64 x.id)).setCell ⟨q, 1, none⟩ (.int .i64 x.po)).setCell ⟨q, 2, none⟩ (.int .i64 x.rg.ep)).setCell ⟨q, 3, none⟩ (.int .i64 x.rg.ow)).setCell ⟨q, 4, none⟩ (.int .i64 x.rg.pa)).cell? ⟨q, 8, none⟩ = _ := (pset_else (by decide)).trans h8
  have h9 : (((((w.setCell ⟨q, 0, none⟩ (.int .i64 x.id)).setCell ⟨q, 1, none⟩ (.int .i64 x.po)).setCell ⟨q, 2, none⟩ (.int .i64 x.rg.ep)).setCell ⟨q, 3, none⟩ (.int .i64 x.rg.ow)).setCell ⟨q, 4, none⟩ (.int .i64 x.rg.pa)).cell? ⟨q, 9, none⟩ = _ := (pset_else (by decide)).trans h9
  have h0 : ((((((w.setCell ⟨q, 0, none⟩ (.int .i64 x.id)).setCell ⟨q, 1, none⟩ (.int .i64 x.po)).setCell ⟨q, 2, none⟩ (.int .i64 x.rg.ep)).setCell ⟨q, 3, none⟩ (.int .i64 x.rg.ow)).setCell ⟨q, 4, none⟩ (.int .i64 x.rg.pa)).setCell ⟨q, 5, none⟩ (.slice x.aT x.two.length x.cT)).cell? ⟨q, 0, none⟩ = _ := (pset_else (by decide)).trans h0
  have h1 : ((((((w.setCell ⟨q, 0, none⟩ (.int .i64 x.id)).setCell ⟨q, 1, none⟩ (.int .i64 x.po)).setCell ⟨q, 2, none⟩ (.int .i64 x.rg.ep)).setCell ⟨q, 3, none⟩ (.int .i64 x.rg.ow)).setCell ⟨q, 4, none⟩ (.int .i64 x.rg.pa)).setCell ⟨q, 5, none⟩ (.slice x.aT x.two.length x.cT)).cell? ⟨q, 1, none⟩ = _ := (pset_else (by decide)).trans h1
  have h2 : ((((((w.setCell ⟨q, 0, none⟩ (.int .i64 x.id)).setCell ⟨q, 1, none⟩ (.int .i64 x.po)).setCell ⟨q, 2, none⟩ (.int .i64 x.rg.ep)).setCell ⟨q, 3, none⟩ (.int .i64 x.rg.ow)).setCell ⟨q, 4, none⟩ (.int .i64 x.rg.pa)).setCell ⟨q, 5, none⟩ (.slice x.aT x.two.length x.cT)).cell? ⟨q, 2, none⟩ = _ := (pset_else (by decide)).trans h2
  have h3 : ((((((w.setCell ⟨q, 0, none⟩ (.int .i64 x.id)).setCell ⟨q, 1, none⟩ (.int .i64 x.po)).setCell ⟨q, 2, none⟩ (.int .i64 x.rg.ep)).setCell ⟨q, 3, none⟩ (.int .i64 x.rg.ow)).setCell ⟨q, 4, none⟩ (.int .i64 x.rg.pa)).setCell ⟨q, 5, none⟩ (.slice x.aT x.two.length x.cT)).cell? ⟨q, 3, none⟩ = _ := (pset_else (by decide)).trans h3
  have h4 : ((((((w.setCell ⟨q, 0, none⟩ (.int .i64 x.id)).setCell ⟨q, 1, none⟩ (.int .i64 x.po)).setCell ⟨q, 2, none⟩ (.int .i64 x.rg.ep)).setCell ⟨q, 3, none⟩ (.int .i64 x.rg.ow)).setCell ⟨q, 4, none⟩ (.int .i64 x.rg.pa)).setCell ⟨q, 5, none⟩ (.slice x.aT x.two.length x.cT)).cell? ⟨q, 4, none⟩ = _ := (pset_else (by decide)).trans h4
  have h5 : ((((((w.setCell ⟨q, 0, none⟩ (.int .i64 x.id)).setCell ⟨q, 1, none⟩ (.int .i64 x.po)).setCell ⟨q, 2, none⟩ (.int .i64 x.rg.ep)).setCell ⟨q, 3, none⟩ (.int .i64 x.rg.ow)).setCell ⟨q, 4, none⟩ (.int .i64 x.rg.pa)).setCell ⟨q, 5, none⟩ (.slice x.aT x.two.length x.cT)).cell? ⟨q, 5, none⟩ = some (.slice x.aT x.two.length x.cT) := pset_same h5
  have h6 : ((((((w.setCell ⟨q, 0, none⟩ (.int .i64 x.id)).setCell ⟨q, 1, none⟩ (.int .i64 x.po)).setCell ⟨q, 2, none⟩ (.int .i64 x.rg.ep)).setCell ⟨q, 3, none⟩ (.int .i64 x.rg.ow)).setCell ⟨q, 4, none⟩ (.int .i64 x.rg.pa)).setCell ⟨q, 5, none⟩ (.slice x.aT x.two.length x.cT)).cell? ⟨q, 6, none⟩ = _ := (pset_else (by decide)).trans h6
  have h7 : ((((((w.setCell ⟨q, 0, none⟩ (.int .i64 x.id)).setCell ⟨q, 1, none⟩ (.int .i64 x.po)).setCell ⟨q, 2, none⟩ (.int .i64 x.rg.ep)).setCell ⟨q, 3, none⟩ (.int .i64 x.rg.ow)).setCell ⟨q, 4, none⟩ (.int .i64 x.rg.pa)).setCell ⟨q, 5, none⟩ (.slice x.aT x.two.length x.cT)).cell? ⟨q, 7, none⟩ = _ := (pset_else (by decide)).trans h7
  have h8 : ((((((w.setCell ⟨q, 0, none⟩ (.int .i64 x.id)).setCell ⟨q, 1, none⟩ (.int .i64 x.po)).setCell ⟨q, 2, none⟩ (.int .i64 x.rg.ep)).setCell ⟨q, 3, none⟩ (.int .i64 x.rg.ow)).setCell ⟨q, 4, none⟩ (.int .i64 x.rg.pa)).setCell ⟨q, 5, none⟩ (.slice x.aT x.two.length x.cT)).cell? ⟨q, 8, none⟩ = _ := (pset_else (by decide)).trans h8
  have h9 : ((((((w.setCell ⟨q, 0, none⟩ (.int .i64 x.id)).setCell ⟨q, 1, none⟩ (.int .i64 x.po)).setCell ⟨q, 2, none⟩ (.int .i64 x.rg.ep)).setCell ⟨q, 3, none⟩ (.int .i64 x.rg.ow)).setCell ⟨q, 4, none⟩ (.int .i64 x.rg.pa)).setCell ⟨q, 5, none⟩ (.slice x.aT x.two.length x.cT)).cell? ⟨q, 9, none⟩ = _ := (pset_else (by decide)).trans h9
  have h0 : (((((((w.setCell ⟨q, 0, none⟩ (.int .i64 x.id)).setCell ⟨q, 1, none⟩ (.int .i64 x.po)).setCell ⟨q, 2, none⟩ (.int .i64 x.rg.ep)).setCell ⟨q, 3, none⟩ (.int .i64 x.rg.ow)).setCell ⟨q, 4, none⟩ (.int .i64 x.rg.pa)).setCell ⟨q, 5, none⟩ (.slice x.aT x.two.length x.cT)).setCell ⟨q, 6, none⟩ (.slice x.aN x.net.length x.cN)).cell? ⟨q, 0, none⟩ = _ := (pset_else (by decide)).trans h0
  have h1 : (((((((w.setCell ⟨q, 0, none⟩ (.int .i64 x.id)).setCell ⟨q, 1, none⟩ (.int .i64 x.po)).setCell ⟨q, 2, none⟩ (.int .i64 x.rg.ep)).setCell ⟨q, 3, none⟩ (.int .i64 x.rg.ow)).setCell ⟨q, 4, none⟩ (.int .i64 x.rg.pa)).setCell ⟨q, 5, none⟩ (.slice x.aT x.two.length x.cT)).setCell ⟨q, 6, none⟩ (.slice x.aN x.net.length x.cN)).cell? ⟨q, 1, none⟩ = _ := (pset_else (by decide)).trans h1
  have h2 : (((((((w.setCell ⟨q, 0, none⟩ (.int .i64 x.id)).setCell ⟨q, 1, none⟩ (.int .i64 x.po)).setCell ⟨q, 2, none⟩ (.int .i64 x.rg.ep)).setCell ⟨q, 3, none⟩ (.int .i64 x.rg.ow)).setCell ⟨q, 4, none⟩ (.int .i64 x.rg.pa)).setCell ⟨q, 5, none⟩ (.slice x.aT x.two.length x.cT)).setCell ⟨q, 6, none⟩ (.slice x.aN x.net.length x.cN)).cell? ⟨q, 2, none⟩ = _ := (pset_else (by decide)).trans h2
  have h3 : (((((((w.setCell ⟨q, 0, none⟩ (.int .i64 x.id)).setCell ⟨q, 1, none⟩ (.int .i64 x.po)).setCell ⟨q, 2, none⟩ (.int .i64 x.rg.ep)).setCell ⟨q, 3, none⟩ (.int .i64 x.rg.ow)).setCell ⟨q, 4, none⟩ (.int .i64 x.rg.pa)).setCell ⟨q, 5, none⟩ (.slice x.aT x.two.length x.cT)).setCell ⟨q, 6, none⟩ (.slice x.aN x.net.length x.cN)).cell? ⟨q, 3, none⟩ = _ := (pset_else (by decide)).trans h3
  have h4 : (((((((w.setCell ⟨q, 0, none⟩ (.int .i64 x.id)).setCell ⟨q, 1, none⟩ (.int .i64 x.po)).setCell ⟨q, 2, none⟩ (.int .i64 x.rg.ep)).setCell ⟨q, 3, none⟩ (.int .i64 x.rg.ow)).setCell ⟨q, 4, none⟩ (.int .i64 x.rg.pa)).setCell ⟨q, 5, none⟩ (.slice x.aT x.two.length x.cT)).setCell ⟨q, 6, none⟩ (.slice x.aN x.net.length x.cN)).cell? ⟨q, 4, none⟩ = _ := (pset_else (by decide)).trans h4
  have h5 : (((((((w.setCell ⟨q, 0, none⟩ (.int .i64 x.id)).setCell ⟨q, 1, none⟩ (.int .i64 x.po)).setCell ⟨q, 2, none⟩ (.int .i64 x.rg.ep)).setCell ⟨q, 3, none⟩ (.int .i64 x.rg.ow)).setCell ⟨q, 4, none⟩ (.int .i64 x.rg.pa)).setCell ⟨q, 5, none⟩ (.slice x.aT x.two.length x.cT)).setCell ⟨q, 6, none⟩ (.slice x.aN x.net.length x.cN)).cell? ⟨q, 5, none⟩ = _ := (pset_else (by decide)).trans h5
  have h6 : (((((((w.setCell ⟨q, 0, none⟩ (.int .i64 x.id)).setCell ⟨q, 1, none⟩ (.int .i64 x.po)).setCell ⟨q, 2, none⟩ (.int .i64 x.rg.ep)).setCell ⟨q, 3, none⟩ (.int .i64 x.rg.ow)).setCell ⟨q, 4, none⟩ (.int .i64 x.rg.pa)).setCell ⟨q, 5, none⟩ (.slice x.aT x.two.length x.cT)).setCell ⟨q, 6, none⟩ (.slice x.aN x.net.length x.cN)).cell? ⟨q, 6, none⟩ = some (.slice x.aN x.net.length x.cN) := pset_same h6
  have h7 : (((((((w.setCell ⟨q, 0, none⟩ (.int .i64 x.id)).setCell ⟨q, 1, none⟩ (.int .i64 x.po)).setCell ⟨q, 2, none⟩ (.int .i64 x.rg.ep)).setCell ⟨q, 3, none⟩ (.int .i64 x.rg.ow)).setCell ⟨q, 4, none⟩ (.int .i64 x.rg.pa)).setCell ⟨q, 5, none⟩ (.slice x.aT x.two.length x.cT)).setCell ⟨q, 6, none⟩ (.slice x.aN x.net.length x.cN)).cell? ⟨q, 7, none⟩ = _ := (pset_else (by decide)).trans h7
  have h8 : (((((((w.setCell ⟨q, 0, none⟩ (.int .i64 x.id)).setCell ⟨q, 1, none⟩ (.int .i64 x.po)).setCell ⟨q, 2, none⟩ (.int .i64 x.rg.ep)).setCell ⟨q, 3, none⟩ (.int .i64 x.rg.ow)).setCell ⟨q, 4, none⟩ (.int .i64 x.rg.pa)).setCell ⟨q, 5, none⟩ (.slice x.aT x.two.length x.cT)).setCell ⟨q, 6, none⟩ (.slice x.aN x.net.length x.cN)).cell? ⟨q, 8, none⟩ = _ := (pset_else (by decide)).trans h8
  have h9 : (((((((w.setCell ⟨q, 0, none⟩ (.int .i64 x.id)).setCell ⟨q, 1, none⟩ (.int .i64 x.po)).setCell ⟨q, 2, none⟩ (.int .i64 x.rg.ep)).setCell ⟨q, 3, none⟩ (.int .i64 x.rg.ow)).setCell ⟨q, 4, none⟩ (.int .i64 x.rg.pa)).setCell ⟨q, 5, none⟩ (.slice x.aT x.two.length x.cT)).setCell ⟨q, 6, none⟩ (.slice x.aN x.net.length x.cN)).cell? ⟨q, 9, none⟩ = _ := (pset_else (by decide)).trans h9
  have h0 : ((((((((w.setCell ⟨q, 0, none⟩ (.int .i64 x.id)).setCell ⟨q, 1, none⟩ (.int .i64 x.po)).setCell ⟨q, 2, none⟩ (.int .i64 x.rg.ep)).setCell ⟨q, 3, none⟩ (.int .i64 x.rg.ow)).setCell ⟨q, 4, none⟩ (.int .i64 x.rg.pa)).setCell ⟨q, 5, none⟩ (.slice x.aT x.two.length x.cT)).setCell ⟨q, 6, none⟩ (.slice x.aN x.net.length x.cN)).setCell ⟨q, 7, none⟩ (.slice x.aG x.ga.length x.cG)).cell? ⟨q, 0, none⟩ = _ := (pset_else (by decide)).trans h0
  have h1 : ((((((((w.setCell ⟨q, 0, none⟩ (.int .i64 x.id)).setCell ⟨q, 1, none⟩ (.int .i64 x.po)).setCell ⟨q, 2, none⟩ (.int .i64 x.rg.ep)).setCell ⟨q, 3, none⟩ (.int .i64 x.rg.ow)).setCell ⟨q, 4, none⟩ (.int .i64 x.rg.pa)).setCell ⟨q, 5, none⟩ (.slice x.aT x.two.length x.cT)).setCell ⟨q, 6, none⟩ (.slice x.aN x.net.length x.cN)).setCell ⟨q, 7, none⟩ (.slice x.aG x.ga.length x.cG)).cell? ⟨q, 1, none⟩ = _ := (pset_else (by decide)).trans h1
  have h2 : ((((((((w.setCell ⟨q, 0, none⟩ (.int .i64 x.id)).setCell ⟨q, 1, none⟩ (.int .i64 x.po)).setCell ⟨q, 2, none⟩ (.int .i64 x.rg.ep)).setCell ⟨q, 3, none⟩ (.int .i64 x.rg.ow)).setCell ⟨q, 4, none⟩ (.int .i64 x.rg.pa)).setCell ⟨q, 5, none⟩ (.slice x.aT x.two.length x.cT)).setCell ⟨q, 6, none⟩ (.slice x.aN x.net.length x.cN)).setCell ⟨q, 7, none⟩ (.slice x.aG x.ga.length x.cG)).cell? ⟨q, 2, none⟩ = _ := (pset_else (by decide)).trans h2
  have h3 : ((((((((w.setCell ⟨q, 0, none⟩ (.int .i64 x.id)).setCell ⟨q, 1, none⟩ (.int .i64 x.po)).setCell ⟨q, 2, none⟩ (.int .i64 x.rg.ep)).setCell ⟨q, 3, none⟩ (.int .i64 x.rg.ow)).setCell ⟨q, 4, none⟩ (.int .i64 x.rg.pa)).setCell ⟨q, 5, none⟩ (.slice x.aT x.two.length x.cT)).setCell ⟨q, 6, none⟩ (.slice x.aN x.net.length x.cN)).setCell ⟨q, 7, none⟩ (.slice x.aG x.ga.length x.cG)).cell? ⟨q, 3, none⟩ = _ := (pset_else (by decide)).trans h3
  have h4 : ((((((((w.setCell ⟨q, 0, none⟩ (.int .i64 x.id)).setCell ⟨q, 1, none⟩ (.int .i64 x.po)).setCell ⟨q, 2, none⟩ (.int .i64 x.rg.ep)).setCell ⟨q, 3, none⟩ (.int .i64 x.rg.ow)).setCell ⟨q, 4, none⟩ (.int .i64 x.rg.pa)).setCell ⟨q, 5, none⟩ (.slice x.aT x.two.length x.cT)).setCell ⟨q, 6, none⟩ (.slice x.aN x.net.length x.cN)).setCell ⟨q, 7, none⟩ (.slice x.aG x.ga.length x.cG)).cell? ⟨q, 4, none⟩ = _ := (pset_else (by decide)).trans h4
  have h5 : ((((((((w.setCell ⟨q, 0, none⟩ (.int .i64 x.id)).setCell ⟨q, 1, none⟩ (.int .i64 x.po)).setCell ⟨q, 2, none⟩ (.int .i64 x.rg.ep)).setCell ⟨q, 3, none⟩ (.int .i64 x.rg.ow)).setCell ⟨q, 4, none⟩ (.int .i64 x.rg.pa)).setCell ⟨q, 5, none⟩ (.slice x.aT x.two.length x.cT)).setCell ⟨q, 6, none⟩ (.slice x.aN x.net.length x.cN)).setCell ⟨q, 7, none⟩ (.slice x.aG x.ga.length x.cG)).cell? ⟨q, 5, none⟩ = _ := (pset_else (by decide)).trans h5
  have h6 : ((((((((w.setCell ⟨q, 0, none⟩ (.int .i64 x.id)).setCell ⟨q, 1, none⟩ (.int .i64 x.po)).setCell ⟨q, 2, none⟩ (.int .i64 x.rg.ep)).setCell ⟨q, 3, none⟩ (.int .i64 x.rg.ow)).setCell ⟨q, 4, none⟩ (.int .i64 x.rg.pa)).setCell ⟨q, 5, none⟩ (.slice x.aT x.two.length x.cT)).setCell ⟨q, 6, none⟩ (.slice x.aN x.net.length x.cN)).setCell ⟨q, 7, none⟩ (.slice x.aG x.ga.length x.cG)).cell? ⟨q, 6, none⟩ = _ := (pset_else (by decide)).trans h6
  have h7 : ((((((((w.setCell ⟨q, 0, none⟩ (.int .i64 x.id)).setCell ⟨q, 1, none⟩ (.int .i64 x.po)).setCell ⟨q, 2, none⟩ (.int .i64 x.rg.ep)).setCell ⟨q, 3, none⟩ (.int .i64 x.rg.ow)).setCell ⟨q, 4, none⟩ (.int .i64 x.rg.pa)).setCell ⟨q, 5, none⟩ (.slice x.aT x.two.length x.cT)).setCell ⟨q, 6, none⟩ (.slice x.aN x.net.length x.cN)).setCell ⟨q, 7, none⟩ (.slice x.aG x.ga.length x.cG)).cell? ⟨q, 7, none⟩ = some (.slice x.aG x.ga.length x.cG) := pset_same h7
  have h8 : ((((((((w.setCell ⟨q, 0, none⟩ (.int .i64 x.id)).setCell ⟨q, 1, none⟩ (.int .i64 x.po)).setCell ⟨q, 2, none⟩ (.int .i64 x.rg.ep)).setCell ⟨q, 3, none⟩ (.int .i64 x.rg.ow)).setCell ⟨q, 4, none⟩ (.int .i64 x.rg.pa)).setCell ⟨q, 5, none⟩ (.slice x.aT x.two.length x.cT)).setCell ⟨q, 6, none⟩ (.slice x.aN x.net.length x.cN)).setCell ⟨q, 7, none⟩ (.slice x.aG x.ga.length x.cG)).cell? ⟨q, 8, none⟩ = _ := (pset_else (by decide)).trans h8
  have h9 : ((((((((w.setCell ⟨q, 0, none⟩ (.int .i64 x.id)).setCell ⟨q, 1, none⟩ (.int .i64 x.po)).setCell ⟨q, 2, none⟩ (.int .i64 x.rg.ep)).setCell ⟨q, 3, none⟩ (.int .i64 x.rg.ow)).setCell ⟨q, 4, none⟩ (.int .i64 x.rg.pa)).setCell ⟨q, 5, none⟩ (.slice x.aT x.two.length x.cT)).setCell ⟨q, 6, none⟩ (.slice x.aN x.net.length x.cN)).setCell ⟨q, 7, none⟩ (.slice x.aG x.ga.length x.cG)).cell? ⟨q, 9, none⟩ = _ := (pset_else (by decide)).trans h9
  have h0 : (((((((((w.setCell ⟨q, 0, none⟩ (.int .i64 x.id)).setCell ⟨q, 1, none⟩ (.int .i64 x.po)).setCell ⟨q, 2, none⟩ (.int .i64 x.rg.ep)).setCell ⟨q, 3, none⟩ (.int .i64 x.rg.ow)).setCell ⟨q, 4, none⟩ (.int .i64 x.rg.pa)).setCell ⟨q, 5, none⟩ (.slice x.aT x.two.length x.cT)).setCell ⟨q, 6, none⟩ (.slice x.aN x.net.length x.cN)).setCell ⟨q, 7, none⟩ (.slice x.aG x.ga.length x.cG)).setCell ⟨q, 8, none⟩ (.slice x.aL x.ln.length x.cL)).cell? ⟨q, 0, none⟩ = _ := (pset_else (by decide)).trans h0
  have h1 : (((((((((w.setCell ⟨q, 0, none⟩ (.int .i64 x.id)).setCell ⟨q, 1, none⟩ (.int .i64 x.po)).setCell ⟨q, 2, none⟩ (.int .i64 x.rg.ep)).setCell ⟨q, 3, none⟩ (.int .i64 x.rg.ow)).setCell ⟨q, 4, none⟩ (.int .i64 x.rg.pa)).setCell ⟨q, 5, none⟩ (.slice x.aT x.two.length x.cT)).setCell ⟨q, 6, none⟩ (.slice x.aN x.net.length x.cN)).setCell ⟨q, 7, none⟩ (.slice x.aG x.ga.length x.cG)).setCell ⟨q, 8, none⟩ (.slice x.aL x.ln.length x.cL)).cell? ⟨q, 1, none⟩ = _ := (pset_else (by decide)).trans h1
  have h2 : (((((((((w.setCell ⟨q, 0, none⟩ (.int .i64 x.id)).setCell ⟨q, 1, none⟩ (.int .i64 x.po)).setCell ⟨q, 2, none⟩ (.int .i64 x.rg.ep)).setCell ⟨q, 3, none⟩ (.int .i64 x.rg.ow)).setCell ⟨q, 4, none⟩ (.int .i64 x.rg.pa)).setCell ⟨q, 5, none⟩ (.slice x.aT x.two.length x.cT)).setCell ⟨q, 6, none⟩ (.slice x.aN x.net.length x.cN)).setCell ⟨q, 7, none⟩ (.slice x.aG x.ga.length x.cG)).setCell ⟨q, 8, none⟩ (.slice x.aL x.ln.length x.cL)).cell? ⟨q, 2, none⟩ = _ := (pset_else (by decide)).trans h2
  have h3 : (((((((((w.setCell ⟨q, 0, none⟩ (.int .i64 x.id)).setCell ⟨q, 1, none⟩ (.int .i64 x.po)).setCell ⟨q, 2, none⟩ (.int .i64 x.rg.ep)).setCell ⟨q, 3, none⟩ (.int .i64 x.rg.ow)).setCell ⟨q, 4, none⟩ (.int .i64 x.rg.pa)).setCell ⟨q, 5, none⟩ (.slice x.aT x.two.length x.cT)).setCell ⟨q, 6, none⟩ (.slice x.aN x.net.length x.cN)).setCell ⟨q, 7, none⟩ (.slice x.aG x.ga.length x.cG)).setCell ⟨q, 8, none⟩ (.slice x.aL x.ln.length x.cL)).cell? ⟨q, 3, none⟩ = _ := (pset_else (by decide)).trans h3
  have h4 : (((((((((w.setCell ⟨q, 0, none⟩ (.int .i64 x.id)).setCell ⟨q, 1, none⟩ (.int .i64 x.po)).setCell ⟨q, 2, none⟩ (.int .i64 x.rg.ep)).setCell ⟨q, 3, none⟩ (.int .i64 x.rg.ow)).setCell ⟨q, 4, none⟩ (.int .i64 x.rg.pa)).setCell ⟨q, 5, none⟩ (.slice x.aT x.two.length x.cT)).setCell ⟨q, 6, none⟩ (.slice x.aN x.net.length x.cN)).setCell ⟨q, 7, none⟩ (.slice x.aG x.ga.length x.cG)).setCell ⟨q, 8, none⟩ (.slice x.aL x.ln.length x.cL)).cell? ⟨q, 4, none⟩ = _ := (pset_else (by decide)).trans h4
  have h5 : (((((((((w.setCell ⟨q, 0, none⟩ (.int .i64 x.id)).setCell ⟨q, 1, none⟩ (.int .i64 x.po)).setCell ⟨q, 2, none⟩ (.int .i64 x.rg.ep)).setCell ⟨q, 3, none⟩ (.int .i64 x.rg.ow)).setCell ⟨q, 4, none⟩ (.int .i64 x.rg.pa)).setCell ⟨q, 5, none⟩ (.slice x.aT x.two.length x.cT)).setCell ⟨q, 6, none⟩ (.slice x.aN x.net.length x.cN)).setCell ⟨q, 7, none⟩ (.slice x.aG x.ga.length x.cG)).setCell ⟨q, 8, none⟩ (.slice x.aL x.ln.length x.cL)).cell? ⟨q, 5, none⟩ = _ := (pset_else (by decide)).trans h5
  have h6 : (((((((((w.setCell ⟨q, 0, none⟩ (.int .i64 x.id)).setCell ⟨q, 1, none⟩ (.int .i64 x.po)).setCell ⟨q, 2, none⟩ (.int .i64 x.rg.ep)).setCell ⟨q, 3, none⟩ (.int .i64 x.rg.ow)).setCell ⟨q, 4, none⟩ (.int .i64 x.rg.pa)).setCell ⟨q, 5, none⟩ (.slice x.aT x.two.length x.cT)).setCell ⟨q, 6, none⟩ (.slice x.aN x.net.length x.cN)).setCell ⟨q, 7, none⟩ (.slice x.aG x.ga.length x.cG)).setCell ⟨q, 8, none⟩ (.slice x.aL x.ln.length x.cL)).cell? ⟨q, 6, none⟩ = _ := (pset_else (by decide)).trans h6
  have h7 : (((((((((w.setCell ⟨q, 0, none⟩ (.int .i64 x.id)).setCell ⟨q, 1, none⟩ (.int .i64 x.po)).setCell ⟨q, 2, none⟩ (.int .i64 x.rg.ep)).setCell ⟨q, 3, none⟩ (.int .i64 x.rg.ow)).setCell ⟨q, 4, none⟩ (.int .i64 x.rg.pa)).setCell ⟨q, 5, none⟩ (.slice x.aT x.two.length x.cT)).setCell ⟨q, 6, none⟩ (.slice x.aN x.net.length x.cN)).setCell ⟨q, 7, none⟩ (.slice x.aG x.ga.length x.cG)).setCell ⟨q, 8, none⟩ (.slice x.aL x.ln.length x.cL)).cell? ⟨q, 7, none⟩ = _ := (pset_else (by decide)).trans h7
  have h8 : (((((((((w.setCell ⟨q, 0, none⟩ (.int .i64 x.id)).setCell ⟨q, 1, none⟩ (.int .i64 x.po)).setCell ⟨q, 2, none⟩ (.int .i64 x.rg.ep)).setCell ⟨q, 3, none⟩ (.int .i64 x.rg.ow)).setCell ⟨q, 4, none⟩ (.int .i64 x.rg.pa)).setCell ⟨q, 5, none⟩ (.slice x.aT x.two.length x.cT)).setCell ⟨q, 6, none⟩ (.slice x.aN x.net.length x.cN)).setCell ⟨q, 7, none⟩ (.slice x.aG x.ga.length x.cG)).setCell ⟨q, 8, none⟩ (.slice x.aL x.ln.length x.cL)).cell? ⟨q, 8, none⟩ = some (.slice x.aL x.ln.length x.cL) := pset_same h8
  have h9 : (((((((((w.setCell ⟨q, 0, none⟩ (.int .i64 x.id)).setCell ⟨q, 1, none⟩ (.int .i64 x.po)).setCell ⟨q, 2, none⟩ (.int .i64 x.rg.ep)).setCell ⟨q, 3, none⟩ (.int .i64 x.rg.ow)).setCell ⟨q, 4, none⟩ (.int .i64 x.rg.pa)).setCell ⟨q, 5, none⟩ (.slice x.aT x.two.length x.cT)).setCell ⟨q, 6, none⟩ (.slice x.aN x.net.length x.cN)).setCell ⟨q, 7, none⟩ (.slice x.aG x.ga.length x.cG)).setCell ⟨q, 8, none⟩ (.slice x.aL x.ln.length x.cL)).cell? ⟨q, 9, none⟩ = _ := (pset_else (by decide)).trans h9
  have h0 : ((((((((((w.setCell ⟨q, 0, none⟩ (.int .i64 x.id)).setCell ⟨q, 1, none⟩ (.int .i64 x.po)).setCell ⟨q, 2, none⟩ (.int .i64 x.rg.ep)).setCell ⟨q, 3, none⟩ (.int .i64 x.rg.ow)).setCell ⟨q, 4, none⟩ (.int .i64 x.rg.pa)).setCell ⟨q, 5, none⟩ (.slice x.aT x.two.length x.cT)).setCell ⟨q, 6, none⟩ (.slice x.aN x.net.length x.cN)).setCell ⟨q, 7, none⟩ (.slice x.aG x.ga.length x.cG)).setCell ⟨q, 8, none⟩ (.slice x.aL x.ln.length x.cL)).setCell ⟨q, 9, none⟩ (.slice x.aS x.sd.length x.cS)).cell? ⟨q, 0, none⟩ = _ := (pset_else (by decide)).trans h0
  have h1 : ((((((((((w.setCell ⟨q, 0, none⟩ (.int .i64 x.id)).setCell ⟨q, 1, none⟩ (.int .i64 x.po)).setCell ⟨q, 2, none⟩ (.int .i64 x.rg.ep)).setCell ⟨q, 3, none⟩ (.int .i64 x.rg.ow)).setCell ⟨q, 4, none⟩ (.int .i64 x.rg.pa)).setCell ⟨q, 5, none⟩ (.slice x.aT x.two.length x.cT)).setCell ⟨q, 6, none⟩ (.slice x.aN x.net.length x.cN)).setCell ⟨q, 7, none⟩ (.slice x.aG x.ga.length x.cG)).setCell ⟨q, 8, none⟩ (.slice x.aL x.ln.length x.cL)).setCell ⟨q, 9, none⟩ (.slice x.aS x.sd.length x.cS)).cell? ⟨q, 1, none⟩ = _ := (pset_else (by decide)).trans h1
  have h2 : ((((((((((w.setCell ⟨q, 0, none⟩ (.int .i64 x.id)).setCell ⟨q, 1, none⟩ (.int .i64 x.po)).setCell ⟨q, 2, none⟩ (.int .i64 x.rg.ep)).setCell ⟨q, 3, none⟩ (.int .i64 x.rg.ow)).setCell ⟨q, 4, none⟩ (.int .i64 x.rg.pa)).setCell ⟨q, 5, none⟩ (.slice x.aT x.two.length x.cT)).setCell ⟨q, 6, none⟩ (.slice x.aN x.net.length x.cN)).setCell ⟨q, 7, none⟩ (.slice x.aG x.ga.length x.cG)).setCell ⟨q, 8, none⟩ (.slice x.aL x.ln.length x.cL)).setCell ⟨q, 9, none⟩ (.slice x.aS x.sd.length x.cS)).cell? ⟨q, 2, none⟩ = _ := (pset_else (by decide)).trans h2
  have h3 : ((((((((((w.setCell ⟨q, 0, none⟩ (.int .i64 x.id)).setCell ⟨q, 1, none⟩ (.int .i64 x.po)).setCell ⟨q, 2, none⟩ (.int .i64 x.rg.ep)).setCell ⟨q, 3, none⟩ (.int .i64 x.rg.ow)).setCell ⟨q, 4, none⟩ (.int .i64 x.rg.pa)).setCell ⟨q, 5, none⟩ (.slice x.aT x.two.length x.cT)).setCell ⟨q, 6, none⟩ (.slice x.aN x.net.length x.cN)).setCell ⟨q, 7, none⟩ (.slice x.aG x.ga.length x.cG)).setCell ⟨q, 8, none⟩ (.slice x.aL x.ln.length x.cL)).setCell ⟨q, 9, none⟩ (.slice x.aS x.sd.length x.cS)).cell? ⟨q, 3, none⟩ = _ := (pset_else (by decide)).trans h3
  have h4 : ((((((((((w.setCell ⟨q, 0, none⟩ (.int .i64 x.id)).setCell ⟨q, 1, none⟩ (.int .i64 x.po)).setCell ⟨q, 2, none⟩ (.int .i64 x.rg.ep)).setCell ⟨q, 3, none⟩ (.int .i64 x.rg.ow)).setCell ⟨q, 4, none⟩ (.int .i64 x.rg.pa)).setCell ⟨q, 5, none⟩ (.slice x.aT x.two.length x.cT)).setCell ⟨q, 6, none⟩ (.slice x.aN x.net.length x.cN)).setCell ⟨q, 7, none⟩ (.slice x.aG x.ga.length x.cG)).setCell ⟨q, 8, none⟩ (.slice x.aL x.ln.length x.cL)).setCell ⟨q, 9, none⟩ (.slice x.aS x.sd.length x.cS)).cell? ⟨q, 4, none⟩ = _ := (pset_else (by decide)).trans h4
  have h5 : ((((((((((w.setCell ⟨q, 0, none⟩ (.int .i64 x.id)).setCell ⟨q, 1, none⟩ (.int .i64 x.po)).setCell ⟨q, 2, none⟩ (.int .i64 x.rg.ep)).setCell ⟨q, 3, none⟩ (.int .i64 x.rg.ow)).setCell ⟨q, 4, none⟩ (.int .i64 x.rg.pa)).setCell ⟨q, 5, none⟩ (.slice x.aT x.two.length x.cT)).setCell ⟨q, 6, none⟩ (.slice x.aN x.net.length x.cN)).setCell ⟨q, 7, none⟩ (.slice x.aG x.ga.length x.cG)).setCell ⟨q, 8, none⟩ (.slice x.aL x.ln.length x.cL)).setCell ⟨q, 9, none⟩ (.slice x.aS x.sd.length x.cS)).cell? ⟨q, 5, none⟩ = _ := (pset_else (by decide)).trans h5
  have h6 : ((((((((((w.setCell ⟨q, 0, none⟩ (.int .i64 x.id)).setCell ⟨q, 1, none⟩ (.int .i64 x.po)).setCell ⟨q, 2, none⟩ (.int .i64 x.rg.ep)).setCell ⟨q, 3, none⟩ (.int .i64 x.rg.ow)).setCell ⟨q, 4, none⟩ (.int .i64 x.rg.pa)).setCell ⟨q, 5, none⟩ (.slice x.aT x.two.length x.cT)).setCell ⟨q, 6, none⟩ (.slice x.aN x.net.length x.cN)).setCell ⟨q, 7, none⟩ (.slice x.aG x.ga.length x.cG)).setCell ⟨q, 8, none⟩ (.slice x.aL x.ln.length x.cL)).setCell ⟨q, 9, none⟩ (.slice x.aS x.sd.length x.cS)).cell? ⟨q, 6, none⟩ = _ := (pset_else (by decide)).trans h6
  have h7 : ((((((((((w.setCell ⟨q, 0, none⟩ (.int .i64 x.id)).setCell ⟨q, 1, none⟩ (.int .i64 x.po)).setCell ⟨q, 2, none⟩ (.int .i64 x.rg.ep)).setCell ⟨q, 3, none⟩ (.int .i64 x.rg.ow)).setCell ⟨q, 4, none⟩ (.int .i64 x.rg.pa)).setCell ⟨q, 5, none⟩ (.slice x.aT x.two.length x.cT)).setCell ⟨q, 6, none⟩ (.slice x.aN x.net.length x.cN)).setCell ⟨q, 7, none⟩ (.slice x.aG x.ga.length x.cG)).setCell ⟨q, 8, none⟩ (.slice x.aL x.ln.length x.cL)).setCell ⟨q, 9, none⟩ (.slice x.aS x.sd.length x.cS)).cell? ⟨q, 7, none⟩ = _ := (pset_else (by decide)).trans h7
  have h8 : ((((((((((w.setCell ⟨q, 0, none⟩ (.int .i64 x.id)).setCell ⟨q, 1, none⟩ (.int .i64 x.po)).setCell ⟨q, 2, none⟩ (.int .i64 x.rg.ep)).setCell ⟨q, 3, none⟩ (.int .i64 x.rg.ow)).setCell ⟨q, 4, none⟩ (.int .i64 x.rg.pa)).setCell ⟨q, 5, none⟩ (.slice x.aT x.two.length x.cT)).setCell ⟨q, 6, none⟩ (.slice x.aN x.net.length x.cN)).setCell ⟨q, 7, none⟩ (.slice x.aG x.ga.length x.cG)).setCell ⟨q, 8, none⟩ (.slice x.aL x.ln.length x.cL)).setCell ⟨q, 9, none⟩ (.slice x.aS x.sd.length x.cS)).cell? ⟨q, 8, none⟩ = _ := (pset_else (by decide)).trans h8
  have h9 : ((((((((((w.setCell ⟨q, 0, none⟩ (.int .i64 x.id)).setCell ⟨q, 1, none⟩ (.int .i64 x.po)).setCell ⟨q, 2, none⟩ (.int .i64 x.rg.ep)).setCell ⟨q, 3, none⟩ (.int .i64 x.rg.ow)).setCell ⟨q, 4, none⟩ (.int .i64 x.rg.pa)).setCell ⟨q, 5, none⟩ (.slice x.aT x.two.length x.cT)).setCell ⟨q, 6, none⟩ (.slice x.aN x.net.length x.cN)).setCell ⟨q, 7, none⟩ (.slice x.aG x.ga.length x.cG)).setCell ⟨q, 8, none⟩ (.slice x.aL x.ln.length x.cL)).setCell ⟨q, 9, none⟩ (.slice x.aS x.sd.length x.cS)).cell? ⟨q, 9, none⟩ = some (.slice x.aS x.sd.length x.cS) := pset_same h9
  refine ⟨⟨h0, h1, h2, h3, h4, h5, h6, h7, h8, h9⟩, fun i => ?_⟩
  rw [World.frozen?_setCell, World.frozen?_setCell, World.frozen?_setCell, World.frozen?_setCell, World.frozen?_setCell, World.frozen?_setCell, World.frozen?_setCell, World.frozen?_setCell, World.frozen?_setCell, World.frozen?_setCell]
  exact hf i

end Go.Proofs.YtnpiljegdiconaaGreat
namespace Go.Proofs.YtnpiljegdiconaaGreat
open Go.ChangeShapes Go.WideShapes Go.ChangeAt Go.RowKit
open Go.ChangeMaps (open_string shut_string)
set_option linter.unusedVariables false
set_option maxRecDepth 100000

theorem BxB.sT {w : World} {q : Nat} {x : BxD} (h : BxB w q x) (D : List MiD) (a : Option Addr) (n : Nat) (c : Nat) (hn : n = D.length) : BxB (w.setCell ⟨q, 5, none⟩ (.slice a n c)) q { x with two := D, aT := a, cT := c } := by
  subst hn
  obtain ⟨⟨h0, h1, h2, h3, h4, h5, h6, h7, h8, h9⟩, hf⟩ := h
  exact ⟨⟨(pset_else (by decide)).trans h0, (pset_else (by decide)).trans h1, (pset_else (by decide)).trans h2, (pset_else (by decide)).trans h3, (pset_else (by decide)).trans h4, pset_same h5, (pset_else (by decide)).trans h6, (pset_else (by decide)).trans h7, (pset_else (by decide)).trans h8, (pset_else (by decide)).trans h9⟩, fun i => by rw [World.frozen?_setCell]; exact hf i⟩
theorem BxB.sN {w : World} {q : Nat} {x : BxD} (h : BxB w q x) (D : List Wi) (a : Option Addr) (n : Nat) (c : Nat) (hn : n = D.length) : BxB (w.setCell ⟨q, 6, none⟩ (.slice a n c)) q { x with net := D, aN := a, cN := c } := by
  subst hn
  obtain ⟨⟨h0, h1, h2, h3, h4, h5, h6, h7, h8, h9⟩, hf⟩ := h
  exact ⟨⟨(pset_else (by decide)).trans h0, (pset_else (by decide)).trans h1, (pset_else (by decide)).trans h2, (pset_else (by decide)).trans h3, (pset_else (by decide)).trans h4, (pset_else (by decide)).trans h5, pset_same h6, (pset_else (by decide)).trans h7, (pset_else (by decide)).trans h8, (pset_else (by decide)).trans h9⟩, fun i => by rw [World.frozen?_setCell]; exact hf i⟩
theorem BxB.sG {w : World} {q : Nat} {x : BxD} (h : BxB w q x) (D : List Bool) (a : Option Addr) (n : Nat) (c : Nat) (hn : n = D.length) : BxB (w.setCell ⟨q, 7, none⟩ (.slice a n c)) q { x with ga := D, aG := a, cG := c } := by
  subst hn
  obtain ⟨⟨h0, h1, h2, h3, h4, h5, h6, h7, h8, h9⟩, hf⟩ := h
  exact ⟨⟨(pset_else (by decide)).trans h0, (pset_else (by decide)).trans h1, (pset_else (by decide)).trans h2, (pset_else (by decide)).trans h3, (pset_else (by decide)).trans h4, (pset_else (by decide)).trans h5, (pset_else (by decide)).trans h6, pset_same h7, (pset_else (by decide)).trans h8, (pset_else (by decide)).trans h9⟩, fun i => by rw [World.frozen?_setCell]; exact hf i⟩
theorem BxB.sL {w : World} {q : Nat} {x : BxD} (h : BxB w q x) (D : List Ik) (a : Option Addr) (n : Nat) (c : Nat) (hn : n = D.length) : BxB (w.setCell ⟨q, 8, none⟩ (.slice a n c)) q { x with ln := D, aL := a, cL := c } := by
  subst hn
  obtain ⟨⟨h0, h1, h2, h3, h4, h5, h6, h7, h8, h9⟩, hf⟩ := h
  exact ⟨⟨(pset_else (by decide)).trans h0, (pset_else (by decide)).trans h1, (pset_else (by decide)).trans h2, (pset_else (by decide)).trans h3, (pset_else (by decide)).trans h4, (pset_else (by decide)).trans h5, (pset_else (by decide)).trans h6, (pset_else (by decide)).trans h7, pset_same h8, (pset_else (by decide)).trans h9⟩, fun i => by rw [World.frozen?_setCell]; exact hf i⟩
theorem BxB.sS {w : World} {q : Nat} {x : BxD} (h : BxB w q x) (D : List Ou) (a : Option Addr) (n : Nat) (c : Nat) (hn : n = D.length) : BxB (w.setCell ⟨q, 9, none⟩ (.slice a n c)) q { x with sd := D, aS := a, cS := c } := by
  subst hn
  obtain ⟨⟨h0, h1, h2, h3, h4, h5, h6, h7, h8, h9⟩, hf⟩ := h
  exact ⟨⟨(pset_else (by decide)).trans h0, (pset_else (by decide)).trans h1, (pset_else (by decide)).trans h2, (pset_else (by decide)).trans h3, (pset_else (by decide)).trans h4, (pset_else (by decide)).trans h5, (pset_else (by decide)).trans h6, (pset_else (by decide)).trans h7, (pset_else (by decide)).trans h8, pset_same h9⟩, fun i => by rw [World.frozen?_setCell]; exact hf i⟩
theorem BxB.sR {w : World} {q : Nat} {x : BxD} (h : BxB w q x) (r : Rg) : BxB (((w.setCell ⟨q, 2, none⟩ (.int .i64 r.ep)).setCell ⟨q, 3, none⟩ (.int .i64 r.ow)).setCell ⟨q, 4, none⟩ (.int .i64 r.pa)) q { x with rg := r } := by
  obtain ⟨⟨h0, h1, h2, h3, h4, h5, h6, h7, h8, h9⟩, hf⟩ := h
  have h0 : (w.setCell ⟨q, 2, none⟩ (.int .i64 r.ep)).cell? ⟨q, 0, none⟩ = _ := (pset_else (by decide)).trans h0
  have h1 : (w.setCell ⟨q, 2, none⟩ (.int .i64 r.ep)).cell? ⟨q, 1, none⟩ = _ := (pset_else (by decide)).trans h1
  have h2 : (w.setCell ⟨q, 2, none⟩ (.int .i64 r.ep)).cell? ⟨q, 2, none⟩ = some (.int .i64 r.ep) := pset_same h2
  have h3 : (w.setCell ⟨q, 2, none⟩ (.int .i64 r.ep)).cell? ⟨q, 3, none⟩ = _ := (pset_else (by decide)).trans h3
  have h4 : (w.setCell ⟨q, 2, none⟩ (.int .i64 r.ep)).cell? ⟨q, 4, none⟩ = _ := (pset_else (by decide)).trans h4
  have h5 : (w.setCell ⟨q, 2, none⟩ (.int .i64 r.ep)).cell? ⟨q, 5, none⟩ = _ := (pset_else (by decide)).trans h5
  have h6 : (w.setCell ⟨q, 2, none⟩ (.int .i64 r.ep)).cell? ⟨q, 6, none⟩ = _ := (pset_else (by decide)).trans h6
  have h7 : (w.setCell ⟨q, 2, none⟩ (.int .i64 r.ep)).cell? ⟨q, 7, none⟩ = _ := (pset_else (by decide)).trans h7
  have h8 : (w.setCell ⟨q, 2, none⟩ (.int .i64 r.ep)).cell? ⟨q, 8, none⟩ = _ := (pset_else (by decide)).trans h8
  have h9 : (w.setCell ⟨q, 2, none⟩ (.int .i64 r.ep)).cell? ⟨q, 9, none⟩ = _ := (pset_else (by decide)).trans h9
  have h0 : ((w.setCell ⟨q, 2, none⟩ (.int .i64 r.ep)).setCell ⟨q, 3, none⟩ (.int .i64 r.ow)).cell? ⟨q, 0, none⟩ = _ := (pset_else (by decide)).trans h0
  have h1 : ((w.setCell ⟨q, 2, none⟩ (.int .i64 r.ep)).setCell ⟨q, 3, none⟩ (.int .i64 r.ow)).cell? ⟨q, 1, none⟩ = _ := (pset_else (by decide)).trans h1
  have h2 : ((w.setCell ⟨q, 2, none⟩ (.int .i64 r.ep)).setCell ⟨q, 3, none⟩ (.int .i64 r.ow)).cell? ⟨q, 2, none⟩ = _ := (pset_else (by decide)).trans h2
  have h3 : ((w.setCell ⟨q, 2, none⟩ (.int .i64 r.ep)).setCell ⟨q, 3, none⟩ (.int .i64 r.ow)).cell? ⟨q, 3, none⟩ = some (.int .i64 r.ow) := pset_same h3
  have h4 : ((w.setCell ⟨q, 2, none⟩ (.int .i64 r.ep)).setCell ⟨q, 3, none⟩ (.int .i64 r.ow)).cell? ⟨q, 4, none⟩ = _ := (pset_else (by decide)).trans h4
  have h5 : ((w.setCell ⟨q, 2, none⟩ (.int .i64 r.ep)).setCell ⟨q, 3, none⟩ (.int .i64 r.ow)).cell? ⟨q, 5, none⟩ = _ := (pset_else (by decide)).trans h5
  have h6 : ((w.setCell ⟨q, 2, none⟩ (.int .i64 r.ep)).setCell ⟨q, 3, none⟩ (.int .i64 r.ow)).cell? ⟨q, 6, none⟩ = _ := (pset_else (by decide)).trans h6
  have h7 : ((w.setCell ⟨q, 2, none⟩ (.int .i64 r.ep)).setCell ⟨q, 3, none⟩ (.int .i64 r.ow)).cell? ⟨q, 7, none⟩ = _ := (pset_else (by decide)).trans h7
  have h8 : ((w.setCell ⟨q, 2, none⟩ (.int .i64 r.ep)).setCell ⟨q, 3, none⟩ (.int .i64 r.ow)).cell? ⟨q, 8, none⟩ = _ := (pset_else (by decide)).trans h8
  have h9 : ((w.setCell ⟨q, 2, none⟩ (.int .i64 r.ep)).setCell ⟨q, 3, none⟩ (.int .i64 r.ow)).cell? ⟨q, 9, none⟩ = _ := (pset_else (by decide)).trans h9
  have h0 : (((w.setCell ⟨q, 2, none⟩ (.int .i64 r.ep)).setCell ⟨q, 3, none⟩ (.int .i64 r.ow)).setCell ⟨q, 4, none⟩ (.int .i64 r.pa)).cell? ⟨q, 0, none⟩ = _ := (pset_else (by decide)).trans h0
  have h1 : (((w.setCell ⟨q, 2, none⟩ (.int .i64 r.ep)).setCell ⟨q, 3, none⟩ (.int .i64 r.ow)).setCell ⟨q, 4, none⟩ (.int .i64 r.pa)).cell? ⟨q, 1, none⟩ = _ := (pset_else (by decide)).trans h1
  have h2 : (((w.setCell ⟨q, 2, none⟩ (.int .i64 r.ep)).setCell ⟨q, 3, none⟩ (.int .i64 r.ow)).setCell ⟨q, 4, none⟩ (.int .i64 r.pa)).cell? ⟨q, 2, none⟩ = _ := (pset_else (by decide)).trans h2
  have h3 : (((w.setCell ⟨q, 2, none⟩ (.int .i64 r.ep)).setCell ⟨q, 3, none⟩ (.int .i64 r.ow)).setCell ⟨q, 4, none⟩ (.int .i64 r.pa)).cell? ⟨q, 3, none⟩ = _ := (pset_else (by decide)).trans h3
  have h4 : (((w.setCell ⟨q, 2, none⟩ (.int .i64 r.ep)).setCell ⟨q, 3, none⟩ (.int .i64 r.ow)).setCell ⟨q, 4, none⟩ (.int .i64 r.pa)).cell? ⟨q, 4, none⟩ = some (.int .i64 r.pa) := pset_same h4
  have h5 : (((w.setCell ⟨q, 2, none⟩ (.int .i64 r.ep)).setCell ⟨q, 3, none⟩ (.int .i64 r.ow)).setCell ⟨q, 4, none⟩ (.int .i64 r.pa)).cell? ⟨q, 5, none⟩ = _ := (pset_else (by decide)).trans h5
  have h6 : (((w.setCell ⟨q, 2, none⟩ (.int .i64 r.ep)).setCell ⟨q, 3, none⟩ (.int .i64 r.ow)).setCell ⟨q, 4, none⟩ (.int .i64 r.pa)).cell? ⟨q, 6, none⟩ = _ := (pset_else (by decide)).trans h6
  have h7 : (((w.setCell ⟨q, 2, none⟩ (.int .i64 r.ep)).setCell ⟨q, 3, none⟩ (.int .i64 r.ow)).setCell ⟨q, 4, none⟩ (.int .i64 r.pa)).cell? ⟨q, 7, none⟩ = _ := (pset_else (by decide)).trans h7
  have h8 : (((w.setCell ⟨q, 2, none⟩ (.int .i64 r.ep)).setCell ⟨q, 3, none⟩ (.int .i64 r.ow)).setCell ⟨q, 4, none⟩ (.int .i64 r.pa)).cell? ⟨q, 8, none⟩ = _ := (pset_else (by decide)).trans h8
  have h9 : (((w.setCell ⟨q, 2, none⟩ (.int .i64 r.ep)).setCell ⟨q, 3, none⟩ (.int .i64 r.ow)).setCell ⟨q, 4, none⟩ (.int .i64 r.pa)).cell? ⟨q, 9, none⟩ = _ := (pset_else (by decide)).trans h9
  exact ⟨⟨h0, h1, h2, h3, h4, h5, h6, h7, h8, h9⟩, fun i => by rw [World.frozen?_setCell, World.frozen?_setCell, World.frozen?_setCell]; exact hf i⟩

end Go.Proofs.YtnpiljegdiconaaGreat
namespace Go.Proofs.YtnpiljegdiconaaGreat
open Go.ChangeShapes Go.WideShapes Go.ChangeAt Go.RowKit
open Go.ChangeMaps (open_string shut_string)
set_option linter.unusedVariables false
set_option maxRecDepth 100000

/-- The same, its list at the block n. -/
def MiD.to (m : MiD) (n : Nat) : MiD := ⟨m.m, some ⟨n, 0, none⟩, m.m.lg.length⟩
/-- The list of the copies. -/
def cpyM (Bs : List MiD) (Ns : Nat → Nat) : List MiD := (List.range Bs.length).map (fun j => (Bs.getD j MiD.nil).to (Ns j))
theorem cpyM_len (Bs : List MiD) (Ns : Nat → Nat) : (cpyM Bs Ns).length = Bs.length := by simp [cpyM]
theorem cpyM_get (Bs : List MiD) (Ns : Nat → Nat) {j : Nat} (h : j < Bs.length) : (cpyM Bs Ns).getD j MiD.nil = (Bs.getD j MiD.nil).to (Ns j) := by simp [cpyM, List.getD, h]
theorem cpyM_d (Bs : List MiD) (Ns : Nat → Nat) : (cpyM Bs Ns).map MiD.m = Bs.map MiD.m := by
  refine List.ext_getElem (by simp [cpyM]) fun i h1 h2 => ?_
  have hi : i < Bs.length := by simpa using h2
  simp [cpyM, MiD.to, List.getD, hi]
theorem FFill.congrM {X : Type} {enc : X → List Value} {n : Nat} (hn : ∀ x, (enc x).length = n) (h0 : 0 < n) (d : X) {T : TypeId} {base : Nat} {w : World} {g : Nat} {L M : List X} {k : Nat} (h : FFill enc n T base w g L k) (hk : k ≤ L.length) (hl : M.length = L.length) (e : ∀ i, i < k → M.getD i d = L.getD i d) : FFill enc n T base w g M k := by
  obtain ⟨xs, h1, h2⟩ := h
  refine ⟨xs, by rw [hl]; exact h1, fun j hj => ?_⟩
  rw [h2 j hj]
  have hq : j / n < k := Nat.div_lt_of_lt_mul (by rw [Nat.mul_comm]; exact hj)
  have hr : j % n < n := Nat.mod_lt _ h0
  have ej : j = j / n * n + j % n := by rw [Nat.mul_comm]; exact (Nat.div_add_mod j n).symm
  rw [ej, fcells_at hn d L _ _ (by omega) hr, fcells_at hn d M _ _ (by omega) hr, e _ hq]
/-- What a loop that fills the block B with minders has done behind k rounds; Ns: where their lists lie. -/
structure MF (B : Nat) (Bs : List MiD) (Ns : Nat → Nat) (k : Nat) (w wr : World) : Prop where
  bel : Below B w wr
  fill : FFill mdEnc 7 28 B wr B (cpyM Bs Ns) k
  nest : ∀ j, j < k → FOwn ikEnc 8 105 B wr (.slice (some ⟨Ns j, 0, none⟩) (Bs.getD j MiD.nil).m.lg.length (Bs.getD j MiD.nil).m.lg.length) (Bs.getD j MiD.nil).m.lg
  nb : ∀ j, j < k → B < Ns j ∧ Ns j < wr.heap.size
  inc : ∀ i j, i < j → j < k → Ns i < Ns j
theorem MF.later {B : Nat} {Bs : List MiD} {Ns : Nat → Nat} {k : Nat} {w wr w2 : World} (h : MF B Bs Ns k w wr) (b : Below wr.heap.size wr w2) : MF B Bs Ns k w w2 := by
  have hl := h.fill.lt
  have hs := b.size
  exact ⟨h.bel.trans (b.mono (by omega)), h.fill.keep (b.block _ hl.2), fun j hj => (h.nest j hj).later b, fun j hj => ⟨(h.nb j hj).1, by have := (h.nb j hj).2; omega⟩, h.inc⟩
theorem MF.step {B : Nat} {Bs : List MiD} {Ns : Nat → Nat} {k : Nat} {w wr : World} {N : Nat} (h : MF B Bs Ns k w wr) (hk : k < Bs.length) (hN : B < N ∧ N < wr.heap.size) (hi : ∀ j, j < k → Ns j < N)
    (hv : FOwn ikEnc 8 105 B wr (.slice (some ⟨N, 0, none⟩) (Bs.getD k MiD.nil).m.lg.length (Bs.getD k MiD.nil).m.lg.length) (Bs.getD k MiD.nil).m.lg) :
    MF B Bs (fun j => if j = k then N else Ns j) (k + 1) w (((((((wr.setCell ⟨B, k * 7, none⟩ (.bool (Bs.getD k MiD.nil).m.up)).setCell ⟨B, k * 7 + 1, none⟩ (.int .i64 (Bs.getD k MiD.nil).m.li)).setCell ⟨B, k * 7 + 2, none⟩ (.int .i64 (Bs.getD k MiD.nil).m.ep)).setCell ⟨B, k * 7 + 3, none⟩ (.slice (some ⟨N, 0, none⟩) (Bs.getD k MiD.nil).m.lg.length (Bs.getD k MiD.nil).m.lg.length)).setCell ⟨B, k * 7 + 4, none⟩ (.int .i64 (Bs.getD k MiD.nil).m.sd)).setCell ⟨B, k * 7 + 5, none⟩ (.int .i64 (Bs.getD k MiD.nil).m.ac)).setCell ⟨B, k * 7 + 6, none⟩ (.int .i64 (Bs.getD k MiD.nil).m.al)) := by
  have hb : ∀ g, g ≠ B → (((((((wr.setCell ⟨B, k * 7, none⟩ (.bool (Bs.getD k MiD.nil).m.up)).setCell ⟨B, k * 7 + 1, none⟩ (.int .i64 (Bs.getD k MiD.nil).m.li)).setCell ⟨B, k * 7 + 2, none⟩ (.int .i64 (Bs.getD k MiD.nil).m.ep)).setCell ⟨B, k * 7 + 3, none⟩ (.slice (some ⟨N, 0, none⟩) (Bs.getD k MiD.nil).m.lg.length (Bs.getD k MiD.nil).m.lg.length)).setCell ⟨B, k * 7 + 4, none⟩ (.int .i64 (Bs.getD k MiD.nil).m.sd)).setCell ⟨B, k * 7 + 5, none⟩ (.int .i64 (Bs.getD k MiD.nil).m.ac)).setCell ⟨B, k * 7 + 6, none⟩ (.int .i64 (Bs.getD k MiD.nil).m.al)).heap[g]? = wr.heap[g]? := fun g hg => by
    rw [Below.heap_setCell _ _ _ _ hg, Below.heap_setCell _ _ _ _ hg, Below.heap_setCell _ _ _ _ hg, Below.heap_setCell _ _ _ _ hg, Below.heap_setCell _ _ _ _ hg, Below.heap_setCell _ _ _ _ hg, Below.heap_setCell _ _ _ _ hg]
  have F : FFill mdEnc 7 28 B wr B (cpyM Bs (fun j => if j = k then N else Ns j)) k := h.fill.congrM mdEnc_len (by omega) MiD.nil (by rw [cpyM_len]; omega) (by rw [cpyM_len, cpyM_len]) (fun i hi => by
    rw [cpyM_get _ _ (by omega), cpyM_get _ _ (by omega)]
    have : i ≠ k := by omega
    simp only [this, if_false])
  have F1 := F.step mdEnc_len MiD.nil (by rw [cpyM_len]; exact hk)
  rw [cpyM_get _ _ hk, mdPut] at F1
  simp only [if_true, MiD.to] at F1
  refine ⟨(((((((h.bel.setCell (Nat.le_refl _) _).setCell (Nat.le_refl _) _).setCell (Nat.le_refl _) _).setCell (Nat.le_refl _) _).setCell (Nat.le_refl _) _).setCell (Nat.le_refl _) _).setCell (Nat.le_refl _) _), F1, fun j hj => ?_, fun j hj => ?_, fun i j hij hj => ?_⟩
  · by_cases e : j = k
    · subst e
      simp only [if_true]
      exact hv.keep (fun g q => hb _ (by have : N = g := by simpa [Value.ownBlock] using q
                                         omega))
    · simp only [e, if_false]
      exact (h.nest j (by omega)).keep (fun g q => hb _ (by have : Ns j = g := by simpa [Value.ownBlock] using q
                                                            have := (h.nb j (by omega)).1
                                                            omega))
  · by_cases e : j = k
    · simp only [e, if_true]; simpa using hN
    · simp only [e, if_false]; simpa using h.nb j (by omega)
  · by_cases e : j = k
    · have : i ≠ k := by omega
      simp only [e, this, if_true, if_false]
      exact hi i (by omega)
    · have : i ≠ k := by omega
      simp only [e, this, if_false]
      exact h.inc i j hij (by omega)
theorem MF.own {B : Nat} {Bs : List MiD} {Ns : Nat → Nat} {w wr : World} (h : MF B Bs Ns Bs.length w wr) : MOwn B wr.heap.size wr (.slice (some ⟨B, 0, none⟩) Bs.length Bs.length) (cpyM Bs Ns) := by
  have hl := cpyM_len Bs Ns
  have F := h.fill
  rw [← hl] at F
  have O := F.done mdEnc_len
  rw [hl] at O
  have hv : ∀ i, i < Bs.length → ((cpyM Bs Ns).getD i MiD.nil).v = .slice (some ⟨Ns i, 0, none⟩) (Bs.getD i MiD.nil).m.lg.length (Bs.getD i MiD.nil).m.lg.length := fun i hi => by rw [cpyM_get _ _ hi]; rfl
  have hb : ∀ i, i < Bs.length → ∀ g, ((cpyM Bs Ns).getD i MiD.nil).v.ownBlock = some g → Ns i = g := fun i hi g e => by
    rw [hv i hi] at e
    simpa [Value.ownBlock] using e
  refine ⟨O, fun i hi => ?_, fun g e => ?_, fun i hi g e => ?_, fun i hi g g' e e' => ?_, fun i j hij hj g g' e e' => ?_⟩
  · rw [hl] at hi
    rw [hv i hi, cpyM_get _ _ hi]
    exact h.nest i hi
  · obtain rfl : B = g := by simpa [Value.ownBlock] using e
    exact h.fill.lt.2
  · rw [hl] at hi
    have := hb i hi g e
    have := (h.nb i hi).2
    omega
  · rw [hl] at hi
    have := hb i hi g' e'
    have := (h.nb i hi).1
    obtain rfl : B = g := by simpa [Value.ownBlock] using e
    omega
  · rw [hl] at hj
    have := hb i (by omega) g e
    have := hb j hj g' e'
    have := h.inc i j hij hj
    omega
theorem mf_made {w w1 : World} {Bs : List MiD} {Ns : Nat → Nat} {xs : List Value} (hown : w1.ownsRow w.heap.size 28 7 (.slice (some ⟨w.heap.size, 0, none⟩) Bs.length Bs.length) Bs.length xs) (hgrow : w.grownBy w1 none) : MF w.heap.size Bs Ns 0 w w1 := by
  refine ⟨(Below.refl _ _).grown hgrow (Nat.le_refl _) (by simp), FFill.start (by rw [cpyM_len]; exact hown), fun j hj => by omega, fun j hj => by omega, fun i j _ hj => by omega⟩
theorem mdInfo2 : (Tryz.prog.info? 28).map (fun i => (i.zero, i.size, i.bytes)) = some (some (.agg #[.bool false, .int .i64 0, .int .i64 0, .slice none 0 0, .int .i64 0, .int .i64 0, .int .i64 0]), 7, 72) := by kernel_rfl
set_option maxHeartbeats 1000000 in
theorem mdTo (ad : Option Addr) (cap : Nat) (Bs : List MiD) (w : World) (hv : MV w ad Bs) (hl : Bs.length ≤ 1048576) (hls : ∀ i, i < Bs.length → (Bs.getD i MiD.nil).m.lg.length ≤ 1048576) :
    Calls Tryz.prog 111 #[.slice ad Bs.length cap] w fun e w' => ∃ Ns, e = .returned (.slice (some ⟨w.heap.size, 0, none⟩) Bs.length Bs.length) ∧ MF w.heap.size Bs Ns Bs.length w w' := by
  obtain ⟨i0, hi, hz0, hz1, hz2⟩ := info_parts mdInfo2
  go_enter Tryz.func111, Tryz.ntmps111
  go_wp2_with (first | (refine wpList_make_full _ rfl _ _ 43 rfl w.heap.size 28 i0 (.agg #[.bool false, .int .i64 0, .int .i64 0, .slice none 0 0, .int .i64 0, .int .i64 0, .int .i64 0]) 7 Tryz.underlying43 hi hz0 hz1 .i64 .i64 _ _ Bs.length rfl rfl rfl rfl ?c1 ?c2 ?c3 ?_))
  case c1 => rw [hz2]; omega
  case c2 => unfold maxLen; omega
  case c3 => exact Nat.le_refl _
  intro w1 hown hgrow
  have F0 : MF w.heap.size Bs (fun _ => 0) 0 w w1 := mf_made hown hgrow
  clear hown hgrow
  go_wp2
  go_loopw [4] (fun i wr => ∃ (k : Nat) (Ns : Nat → Nat), k ≤ Bs.length ∧ i = .int .i64 k ∧ MF w.heap.size Bs Ns k w wr) (fun i _ => Bs.length - (intOf i).toNat)
  case atStart => exact ⟨0, _, Nat.zero_le _, rfl, F0⟩
  case round =>
    obtain ⟨k, Ns, hk, rfl, F⟩ := hrel
    clear F0
    by_cases hlt : k < Bs.length
    · obtain ⟨b, off, rfl⟩ := hv.ad_ (by omega)
      have hck := (hv.below F.bel (Nat.le_refl _)).at_ hlt
      have hnk := (hv.below F.bel (Nat.le_refl _)).nest k hlt
      have hlk := hls k hlt
      have hs := F.bel.size
      have hfl := F.fill.lt
      have st := fun (w2 : World) (N : Nat) (G : MF w.heap.size Bs Ns k w w2) (h1 : wr.heap.size ≤ N) (h2 : N < w2.heap.size) => G.step (N := N) hlt ⟨by omega, h2⟩ (fun j hj => by have := (F.nb j hj).2; omega)
      obtain ⟨m, hh⟩ : ∃ m, Bs.getD k MiD.nil = m := ⟨_, rfl⟩
      rw [hh] at hck hnk hlk
      simp only [hh] at st
      obtain ⟨c0, c1, c2, c3, c4, c5, c6⟩ := hck
      clear hv hls hh
      go_wp2_with fail
      go_at_call 161
      refine (miTo m.m m.ad m.cap wr hnk hlk).mono ?_
      rintro e w2 ⟨N, rfl, n1, n2, o2, k2⟩
      have G := F.later k2
      have G1 := st w2 N G n1 n2 (o2.base hs)
      obtain ⟨u0, hu0⟩ := G.fill.cell (k * 7) (by rw [cpyM_len]; omega)
      obtain ⟨u1, hu1⟩ := G.fill.cell (k * 7 + 1) (by rw [cpyM_len]; omega)
      obtain ⟨u2, hu2⟩ := G.fill.cell (k * 7 + 2) (by rw [cpyM_len]; omega)
      obtain ⟨u3, hu3⟩ := G.fill.cell (k * 7 + 3) (by rw [cpyM_len]; omega)
      obtain ⟨u4, hu4⟩ := G.fill.cell (k * 7 + 4) (by rw [cpyM_len]; omega)
      obtain ⟨u5, hu5⟩ := G.fill.cell (k * 7 + 5) (by rw [cpyM_len]; omega)
      obtain ⟨u6, hu6⟩ := G.fill.cell (k * 7 + 6) (by rw [cpyM_len]; omega)
      have f0 := G.fill.frozen (k * 7)
      have f1 := G.fill.frozen (k * 7 + 1)
      have f2 := G.fill.frozen (k * 7 + 2)
      have f3 := G.fill.frozen (k * 7 + 3)
      have f4 := G.fill.frozen (k * 7 + 4)
      have f5 := G.fill.frozen (k * 7 + 5)
      have f6 := G.fill.frozen (k * 7 + 6)
      clear F G st o2 hnk hfl
      go_wp2
      go_roundw
      case rel => exact ⟨k + 1, _, by omega, by go_num, G1⟩
      case measure => simp [intOf]; omega
    · obtain rfl : k = Bs.length := by omega
      go_wp2
      go_ret
      exact ⟨Ns, rfl, F⟩

end Go.Proofs.YtnpiljegdiconaaGreat
namespace Go.Proofs.YtnpiljegdiconaaGreat
open Go.ChangeShapes Go.WideShapes Go.ChangeAt Go.RowKit
open Go.ChangeMaps (open_string shut_string)
set_option linter.unusedVariables false
set_option maxRecDepth 100000

set_option maxRecDepth 100000 in
theorem rgIn_open {H : Type} {enc : TypeId × Value → H} {w : World} {r : Reach} {b0 : Nat} {v : Value} {d : DataW H} {p : List MemPlace} (hv : Value.okWide Tryz.prog w r b0 64 v) (h : DataW.Trod enc Tryz.prog w 0 (fun _ => true) true 64 v d p) :
    ∃ r : Rg, v = .agg #[.int .i64 r.ep, .int .i64 r.ow, .int .i64 r.pa] ∧ True := by
  obtain ⟨v0, v1, v2, y0, y1, y2, n, rfl, _, _, h0, h1, h2⟩ := Go.Joins.open_agg3 Tryz.underlying64 (by kernel_rfl) (by kernel_rfl) hv h
  obtain ⟨a, ha, _, wa⟩ := DataW.trod_int Tryz.underlying3 h0
  obtain ⟨b, hb, _, wb⟩ := DataW.trod_int Tryz.underlying3 h1
  obtain ⟨c, hc, _, wc⟩ := DataW.trod_int Tryz.underlying3 h2
  simp at ha hb hc
  subst ha hb hc
  exact ⟨⟨a, b, c⟩, rfl, trivial⟩
theorem toRg (r : Rg) (w : World) :
    Calls Tryz.prog 110 #[.agg #[.int .i64 r.ep, .int .i64 r.ow, .int .i64 r.pa]] w fun e w' => e = .returned (.agg #[.int .i64 r.ep, .int .i64 r.ow, .int .i64 r.pa]) ∧ Below w.heap.size w w' := by
  go_enter Tryz.func110, Tryz.ntmps110
  go_wp2
  refine bodyPost_ret (v := .agg #[.int .i64 r.ep, .int .i64 r.ow, .int .i64 r.pa]) (by simp [results, Tryz.results110, go_sem]) rfl ⟨rfl, ?_⟩
  exact (((Below.refl _ _).alloc (Nat.le_refl _) _).alloc (by simp) _).alloc (by simp; omega) _
set_option maxHeartbeats 1000000 in
theorem eqRg (r : Rg) (w : World) :
    Calls Tryz.prog 116 #[.agg #[.int .i64 r.ep, .int .i64 r.ow, .int .i64 r.pa], .agg #[.int .i64 r.ep, .int .i64 r.ow, .int .i64 r.pa]] w fun e w' => e = .returned (.bool true) ∧ Below w.heap.size w w' := by
  have d1 : (r.ep != r.ep) = false := by simp
  have d2 : (r.ow != r.ow) = false := by simp
  have d3 : (r.pa != r.pa) = false := by simp
  go_enter Tryz.func116, Tryz.ntmps116
  go_wp2
  go_ret
  exact ⟨rfl, ((Below.refl _ _).alloc (Nat.le_refl _) _).alloc (by simp) _⟩

end Go.Proofs.YtnpiljegdiconaaGreat
namespace Go.Proofs.YtnpiljegdiconaaGreat
open Go.ChangeShapes Go.WideShapes Go.ChangeAt Go.RowKit
open Go.ChangeMaps (open_string shut_string)
set_option linter.unusedVariables false
set_option maxRecDepth 100000

/-- Where what a box reads lies. -/
structure BxLt (B : Nat) (x : BxD) : Prop where
  t : ∀ a, x.aT = some a → 0 < x.two.length → a.block < B
  l : ∀ i, i < x.two.length → ∀ a, (x.two.getD i MiD.nil).ad = some a → 0 < (x.two.getD i MiD.nil).m.lg.length → a.block < B
  n : ∀ a, x.aN = some a → 0 < x.net.length → a.block < B
  g : ∀ a, x.aG = some a → 0 < x.ga.length → a.block < B
  i : ∀ a, x.aL = some a → 0 < x.ln.length → a.block < B
  s : ∀ a, x.aS = some a → 0 < x.sd.length → a.block < B
theorem BxIn.lt {w : World} {x : BxD} (h : BxIn w x) : BxLt w.heap.size x :=
  ⟨h.t.row.lt mdEnc_len (by omega), fun i hi => (h.t.nest i hi).lt ikEnc_len (by omega), h.n.lt wiEnc_len (by omega), h.g.lt boEnc_len (by omega), h.i.lt ikEnc_len (by omega), h.s.lt ouEnc_len (by omega)⟩
theorem BxLt.mono {n m : Nat} {x : BxD} (h : BxLt n x) (k : n ≤ m) : BxLt m x :=
  ⟨fun a e p => Nat.lt_of_lt_of_le (h.t a e p) k, fun i hi a e p => Nat.lt_of_lt_of_le (h.l i hi a e p) k, fun a e p => Nat.lt_of_lt_of_le (h.n a e p) k, fun a e p => Nat.lt_of_lt_of_le (h.g a e p) k, fun a e p => Nat.lt_of_lt_of_le (h.i a e p) k, fun a e p => Nat.lt_of_lt_of_le (h.s a e p) k⟩
theorem BxIn.kept {w w' : World} {x : BxD} {n : Nat} (h : BxIn w x) (hin : BxLt n x) (k : ∀ g, g < n → w'.heap[g]? = w.heap[g]?) : BxIn w' x :=
  ⟨⟨h.t.row.carry (fun a e p => k _ (hin.t a e p)), fun i hi => (h.t.nest i hi).carry (fun a e p => k _ (hin.l i hi a e p)), h.t.nil0⟩, h.tm, h.ts, h.tc, h.tn, h.n.carry (fun a e p => k _ (hin.n a e p)), h.nm, h.nn, h.g.carry (fun a e p => k _ (hin.g a e p)), h.gm, h.gn, h.i.carry (fun a e p => k _ (hin.i a e p)), h.im, h.ic, h.s.carry (fun a e p => k _ (hin.s a e p)), h.sm, h.sn⟩
set_option maxHeartbeats 8000000 in
theorem bxTo (x : BxD) (w : World) (I : BxIn w x) (K : BxSm x) :
    Calls Tryz.prog 50 #[.agg #[.int .i64 x.id, .int .i64 x.po, .int .i64 x.rg.ep, .int .i64 x.rg.ow, .int .i64 x.rg.pa, .slice x.aT x.two.length x.cT, .slice x.aN x.net.length x.cN, .slice x.aG x.ga.length x.cG, .slice x.aL x.ln.length x.cL, .slice x.aS x.sd.length x.cS]] w fun e w' => ∃ x2 : BxD, e = .returned (.agg #[.int .i64 x2.id, .int .i64 x2.po, .int .i64 x2.rg.ep, .int .i64 x2.rg.ow, .int .i64 x2.rg.pa, .slice x2.aT x2.two.length x2.cT, .slice x2.aN x2.net.length x2.cN, .slice x2.aG x2.ga.length x2.cG, .slice x2.aL x2.ln.length x2.cL, .slice x2.aS x2.sd.length x2.cS]) ∧ x2.p = x.p ∧ BxM w.heap.size w'.heap.size w' x2 ∧ Below w.heap.size w w' := by
  have hin := I.lt
  obtain ⟨y, hy⟩ : ∃ y, y = ((w.alloc (Obj.cells #[.int .i64 x.id, .int .i64 x.po, .int .i64 x.rg.ep, .int .i64 x.rg.ow, .int .i64 x.rg.pa, .slice x.aT x.two.length x.cT, .slice x.aN x.net.length x.cN, .slice x.aG x.ga.length x.cG, .slice x.aL x.ln.length x.cL, .slice x.aS x.sd.length x.cS] 70)).alloc (Obj.cells #[.int .i64 0, .int .i64 0, .int .i64 0, .int .i64 0, .int .i64 0, .slice none 0 0, .slice none 0 0, .slice none 0 0, .slice none 0 0, .slice none 0 0] 48)).alloc (Obj.cells #[.int .i64 x.id, .int .i64 x.po, .int .i64 0, .int .i64 0, .int .i64 0, .slice none 0 0, .slice none 0 0, .slice none 0 0, .slice none 0 0, .slice none 0 0] 48) := ⟨_, rfl⟩
  have B0 : Below w.heap.size w y := by rw [hy]; exact (((Below.refl _ _).alloc (Nat.le_refl _) _).alloc (by simp) _).alloc (by simp; omega) _
  have A : BxAt y w.heap.size x := by rw [hy]; constructor <;> simp [go_sem]
  have Z : BxB y (w.heap.size + 1) BxD.zero := by rw [hy]; refine ⟨?_, fun i => ?_⟩; constructor <;> simp [go_sem, BxD.zero]; simp [go_sem]
  have Ob : BxB y (w.heap.size + 1 + 1) ⟨x.id, x.po, ⟨0, 0, 0⟩, [], none, 0, [], none, 0, [], none, 0, [], none, 0, [], none, 0⟩ := by rw [hy]; refine ⟨?_, fun i => ?_⟩; constructor <;> simp [go_sem]; simp [go_sem]
  have S0 := Ob.lt
  have I := I.below B0
  go_enter Tryz.func50, Tryz.ntmps50
  have cc := A
  obtain ⟨a0, a1, a2, a3, a4, a5, a6, a7, a8, a9⟩ := cc
  have cc := Ob
  obtain ⟨⟨o0, o1, o2, o3, o4, o5, o6, o7, o8, o9⟩, of⟩ := cc
  go_wp2_with fail
  go_at_call 110
  rw [← hy]
  clear a0 a1 a2 a3 a4 a5 a6 a7 a8 a9 o0 o1 o2 o3 o4 o5 o6 o7 o8 o9 of  hy
  refine (toRg x.rg y).mono ?_
  rintro e u0 ⟨rfl, k0⟩
  have A := A.below k0 A.lt
  have Z := Z.below k0 Z.lt
  have Ob := Ob.below k0 Ob.lt
  have I := I.below k0
  have B0 := B0.trans (k0.mono B0.size)
  have sk0 := k0.size
  clear k0
  obtain ⟨v0, hv0⟩ : ∃ v_, v_ = ((u0.setCell ⟨w.heap.size + 1 + 1, 2, none⟩ (.int .i64 x.rg.ep)).setCell ⟨w.heap.size + 1 + 1, 3, none⟩ (.int .i64 x.rg.ow)).setCell ⟨w.heap.size + 1 + 1, 4, none⟩ (.int .i64 x.rg.pa) := ⟨_, rfl⟩
  have kp : ∀ k, k ≠ w.heap.size + 1 + 1 → v0.heap[k]? = u0.heap[k]? := fun k hk => by rw [hv0, Below.heap_setCell _ _ _ _ hk, Below.heap_setCell _ _ _ _ hk, Below.heap_setCell _ _ _ _ hk]
  have sz : v0.heap.size = u0.heap.size := by rw [hv0]; simp
  have Ob2 : BxB v0 (w.heap.size + 1 + 1) ⟨x.id, x.po, x.rg, [], none, 0, [], none, 0, [], none, 0, [], none, 0, [], none, 0⟩ := by rw [hv0]; exact Ob.sR x.rg
  have BB : Below w.heap.size w v0 := by rw [hv0]; exact (((B0.setCell (p := ⟨w.heap.size + 1 + 1, _, none⟩) (by show _ ≤ w.heap.size + 1 + 1; omega) _).setCell (p := ⟨w.heap.size + 1 + 1, _, none⟩) (by show _ ≤ w.heap.size + 1 + 1; omega) _).setCell (p := ⟨w.heap.size + 1 + 1, _, none⟩) (by show _ ≤ w.heap.size + 1 + 1; omega) _)
  have A2 := A.keep (kp _ (by omega))
  have Z2 := Z.keep (kp _ (by omega))
  have I2 : BxIn v0 x := I.kept hin (fun g hg => kp g (by omega))
  have szl := Nat.le_of_eq sz.symm
  have szr := Nat.le_of_eq sz
  clear kp sz
  have cc := A
  obtain ⟨a0, a1, a2, a3, a4, a5, a6, a7, a8, a9⟩ := cc
  have cc := Ob
  obtain ⟨⟨o0, o1, o2, o3, o4, o5, o6, o7, o8, o9⟩, of⟩ := cc
  have f2 := of 2
  have f3 := of 3
  have f4 := of 4
  go_wp2_with fail
  go_at_call 111
  rw [← hv0]
  clear a0 a1 a2 a3 a4 a5 a6 a7 a8 a9 o0 o1 o2 o3 o4 o5 o6 o7 o8 o9 of f2 f3 f4 hv0
  clear A Z I Ob B0 
  have A := A2
  have Z := Z2
  have I := I2
  have Ob := Ob2
  have B0 := BB
  clear A2 Z2 I2 Ob2 BB 
  refine (mdTo x.aT x.cT x.two v0 I.t K.t K.ls).mono ?_
  rintro e u1 ⟨Ns, rfl, F⟩
  have k1 : Below v0.heap.size v0 u1 := F.bel
  have OT := F.own
  clear F
  have A := A.below k1 A.lt
  have Z := Z.below k1 Z.lt
  have Ob := Ob.below k1 Ob.lt
  have I := I.below k1
  have B0 := B0.trans (k1.mono B0.size)
  have sk1 := k1.size
  clear k1
  obtain ⟨gT, hgT⟩ : ∃ g_, g_ = v0.heap.size := ⟨_, rfl⟩
  rw [← hgT] at OT ⊢
  have qgT : w.heap.size + 1 + 1 < gT := by omega
  have rgT : gT ≤ u1.heap.size := by omega
  clear hgT
  have lOT : True := trivial
  obtain ⟨v1, hv1⟩ : ∃ v_, v_ = u1.setCell ⟨w.heap.size + 1 + 1, 5, none⟩ (.slice (some ⟨gT, 0, none⟩) x.two.length x.two.length) := ⟨_, rfl⟩
  have kp : ∀ k, k ≠ w.heap.size + 1 + 1 → v1.heap[k]? = u1.heap[k]? := fun k hk => by rw [hv1, Below.heap_setCell _ _ _ _ hk]
  have sz : v1.heap.size = u1.heap.size := by rw [hv1]; simp
  have Ob2 : BxB v1 (w.heap.size + 1 + 1) ⟨x.id, x.po, x.rg, (cpyM x.two Ns), some ⟨gT, 0, none⟩, x.two.length, [], none, 0, [], none, 0, [], none, 0, [], none, 0⟩ := by rw [hv1]; exact Ob.sT (cpyM x.two Ns) (some ⟨gT, 0, none⟩) x.two.length x.two.length (cpyM_len _ _).symm
  have BB : Below w.heap.size w v1 := by rw [hv1]; exact (B0.setCell (p := ⟨w.heap.size + 1 + 1, _, none⟩) (by show _ ≤ w.heap.size + 1 + 1; omega) _)
  have A2 := A.keep (kp _ (by omega))
  have Z2 := Z.keep (kp _ (by omega))
  have I2 : BxIn v1 x := I.kept hin (fun g hg => kp g (by omega))
  have OT2 := OT.keep (fun g h1 h2 => kp g (by omega))
  have szl := Nat.le_of_eq sz.symm
  have szr := Nat.le_of_eq sz
  clear kp sz
  have cc := A
  obtain ⟨a0, a1, a2, a3, a4, a5, a6, a7, a8, a9⟩ := cc
  have cc := Ob
  obtain ⟨⟨o0, o1, o2, o3, o4, o5, o6, o7, o8, o9⟩, of⟩ := cc
  have f5 := of 5
  go_wp2_with fail
  go_at_call 112
  rw [← hv1]
  clear a0 a1 a2 a3 a4 a5 a6 a7 a8 a9 o0 o1 o2 o3 o4 o5 o6 o7 o8 o9 of f5 hv1
  clear A Z I Ob B0 OT
  have A := A2
  have Z := Z2
  have I := I2
  have Ob := Ob2
  have OT := OT2
  have B0 := BB
  clear A2 Z2 I2 Ob2 BB OT2
  refine (wiToS x.aN x.cN x.net v1 I.n K.n).mono ?_
  rintro e u2 ⟨rfl, ON, k2⟩
  have A := A.below k2 A.lt
  have Z := Z.below k2 Z.lt
  have Ob := Ob.below k2 Ob.lt
  have I := I.below k2
  have OT := OT.below k2 (by omega)
  have B0 := B0.trans (k2.mono B0.size)
  have sk2 := k2.size
  clear k2
  obtain ⟨gN, hgN⟩ : ∃ g_, g_ = v1.heap.size := ⟨_, rfl⟩
  rw [← hgN] at ON ⊢
  have qgN : w.heap.size + 1 + 1 < gN := by omega
  have rgN : gN ≤ u2.heap.size := by omega
  have tgN : u1.heap.size ≤ gN := by omega
  clear hgN
  have lON : ∀ g, (Value.slice (some ⟨gN, 0, none⟩) x.net.length x.net.length).ownBlock = some g → w.heap.size + 1 + 1 < g ∧ g < u2.heap.size := fun g e => by have := ON.lt g e; omega
  obtain ⟨v2, hv2⟩ : ∃ v_, v_ = u2.setCell ⟨w.heap.size + 1 + 1, 6, none⟩ (.slice (some ⟨gN, 0, none⟩) x.net.length x.net.length) := ⟨_, rfl⟩
  have kp : ∀ k, k ≠ w.heap.size + 1 + 1 → v2.heap[k]? = u2.heap[k]? := fun k hk => by rw [hv2, Below.heap_setCell _ _ _ _ hk]
  have sz : v2.heap.size = u2.heap.size := by rw [hv2]; simp
  have Ob2 : BxB v2 (w.heap.size + 1 + 1) ⟨x.id, x.po, x.rg, (cpyM x.two Ns), some ⟨gT, 0, none⟩, x.two.length, x.net, some ⟨gN, 0, none⟩, x.net.length, [], none, 0, [], none, 0, [], none, 0⟩ := by rw [hv2]; exact Ob.sN x.net (some ⟨gN, 0, none⟩) x.net.length x.net.length rfl
  have BB : Below w.heap.size w v2 := by rw [hv2]; exact (B0.setCell (p := ⟨w.heap.size + 1 + 1, _, none⟩) (by show _ ≤ w.heap.size + 1 + 1; omega) _)
  have A2 := A.keep (kp _ (by omega))
  have Z2 := Z.keep (kp _ (by omega))
  have I2 : BxIn v2 x := I.kept hin (fun g hg => kp g (by omega))
  have OT2 := OT.keep (fun g h1 h2 => kp g (by omega))
  have ON2 := ON.keep (fun g e => kp g (by have := lON g e; omega))
  have szl := Nat.le_of_eq sz.symm
  have szr := Nat.le_of_eq sz
  clear kp sz
  have cc := A
  obtain ⟨a0, a1, a2, a3, a4, a5, a6, a7, a8, a9⟩ := cc
  have cc := Ob
  obtain ⟨⟨o0, o1, o2, o3, o4, o5, o6, o7, o8, o9⟩, of⟩ := cc
  have f6 := of 6
  go_wp2_with fail
  go_at_call 113
  rw [← hv2]
  clear a0 a1 a2 a3 a4 a5 a6 a7 a8 a9 o0 o1 o2 o3 o4 o5 o6 o7 o8 o9 of f6 hv2
  clear A Z I Ob B0 OT ON
  have A := A2
  have Z := Z2
  have I := I2
  have Ob := Ob2
  have OT := OT2
  have ON := ON2
  have B0 := BB
  clear A2 Z2 I2 Ob2 BB OT2 ON2
  refine (boToS x.aG x.cG x.ga v2 I.g K.g).mono ?_
  rintro e u3 ⟨rfl, OG, k3⟩
  have A := A.below k3 A.lt
  have Z := Z.below k3 Z.lt
  have Ob := Ob.below k3 Ob.lt
  have I := I.below k3
  have ON := ON.later k3
  have OT := OT.below k3 (by omega)
  have B0 := B0.trans (k3.mono B0.size)
  have sk3 := k3.size
  clear k3
  obtain ⟨gG, hgG⟩ : ∃ g_, g_ = v2.heap.size := ⟨_, rfl⟩
  rw [← hgG] at OG ⊢
  have qgG : w.heap.size + 1 + 1 < gG := by omega
  have rgG : gG ≤ u3.heap.size := by omega
  have tgG : u1.heap.size ≤ gG := by omega
  clear hgG
  have lOG : ∀ g, (Value.slice (some ⟨gG, 0, none⟩) x.ga.length x.ga.length).ownBlock = some g → w.heap.size + 1 + 1 < g ∧ g < u3.heap.size := fun g e => by have := OG.lt g e; omega
  obtain ⟨v3, hv3⟩ : ∃ v_, v_ = u3.setCell ⟨w.heap.size + 1 + 1, 7, none⟩ (.slice (some ⟨gG, 0, none⟩) x.ga.length x.ga.length) := ⟨_, rfl⟩
  have kp : ∀ k, k ≠ w.heap.size + 1 + 1 → v3.heap[k]? = u3.heap[k]? := fun k hk => by rw [hv3, Below.heap_setCell _ _ _ _ hk]
  have sz : v3.heap.size = u3.heap.size := by rw [hv3]; simp
  have Ob2 : BxB v3 (w.heap.size + 1 + 1) ⟨x.id, x.po, x.rg, (cpyM x.two Ns), some ⟨gT, 0, none⟩, x.two.length, x.net, some ⟨gN, 0, none⟩, x.net.length, x.ga, some ⟨gG, 0, none⟩, x.ga.length, [], none, 0, [], none, 0⟩ := by rw [hv3]; exact Ob.sG x.ga (some ⟨gG, 0, none⟩) x.ga.length x.ga.length rfl
  have BB : Below w.heap.size w v3 := by rw [hv3]; exact (B0.setCell (p := ⟨w.heap.size + 1 + 1, _, none⟩) (by show _ ≤ w.heap.size + 1 + 1; omega) _)
  have A2 := A.keep (kp _ (by omega))
  have Z2 := Z.keep (kp _ (by omega))
  have I2 : BxIn v3 x := I.kept hin (fun g hg => kp g (by omega))
  have OT2 := OT.keep (fun g h1 h2 => kp g (by omega))
  have ON2 := ON.keep (fun g e => kp g (by have := lON g e; omega))
  have OG2 := OG.keep (fun g e => kp g (by have := lOG g e; omega))
  have szl := Nat.le_of_eq sz.symm
  have szr := Nat.le_of_eq sz
  clear kp sz
  have cc := A
  obtain ⟨a0, a1, a2, a3, a4, a5, a6, a7, a8, a9⟩ := cc
  have cc := Ob
  obtain ⟨⟨o0, o1, o2, o3, o4, o5, o6, o7, o8, o9⟩, of⟩ := cc
  have f7 := of 7
  go_wp2_with fail
  go_at_call 114
  rw [← hv3]
  clear a0 a1 a2 a3 a4 a5 a6 a7 a8 a9 o0 o1 o2 o3 o4 o5 o6 o7 o8 o9 of f7 hv3
  clear A Z I Ob B0 OT ON OG
  have A := A2
  have Z := Z2
  have I := I2
  have Ob := Ob2
  have OT := OT2
  have ON := ON2
  have OG := OG2
  have B0 := BB
  clear A2 Z2 I2 Ob2 BB OT2 ON2 OG2
  refine (ikToS x.aL x.cL x.ln v3 I.i K.i).mono ?_
  rintro e u4 ⟨rfl, OL, k4⟩
  have A := A.below k4 A.lt
  have Z := Z.below k4 Z.lt
  have Ob := Ob.below k4 Ob.lt
  have I := I.below k4
  have ON := ON.later k4
  have OG := OG.later k4
  have OT := OT.below k4 (by omega)
  have B0 := B0.trans (k4.mono B0.size)
  have sk4 := k4.size
  clear k4
  obtain ⟨gL, hgL⟩ : ∃ g_, g_ = v3.heap.size := ⟨_, rfl⟩
  rw [← hgL] at OL ⊢
  have qgL : w.heap.size + 1 + 1 < gL := by omega
  have rgL : gL ≤ u4.heap.size := by omega
  have tgL : u1.heap.size ≤ gL := by omega
  clear hgL
  have lOL : ∀ g, (Value.slice (some ⟨gL, 0, none⟩) x.ln.length x.ln.length).ownBlock = some g → w.heap.size + 1 + 1 < g ∧ g < u4.heap.size := fun g e => by have := OL.lt g e; omega
  obtain ⟨v4, hv4⟩ : ∃ v_, v_ = u4.setCell ⟨w.heap.size + 1 + 1, 8, none⟩ (.slice (some ⟨gL, 0, none⟩) x.ln.length x.ln.length) := ⟨_, rfl⟩
  have kp : ∀ k, k ≠ w.heap.size + 1 + 1 → v4.heap[k]? = u4.heap[k]? := fun k hk => by rw [hv4, Below.heap_setCell _ _ _ _ hk]
  have sz : v4.heap.size = u4.heap.size := by rw [hv4]; simp
  have Ob2 : BxB v4 (w.heap.size + 1 + 1) ⟨x.id, x.po, x.rg, (cpyM x.two Ns), some ⟨gT, 0, none⟩, x.two.length, x.net, some ⟨gN, 0, none⟩, x.net.length, x.ga, some ⟨gG, 0, none⟩, x.ga.length, x.ln, some ⟨gL, 0, none⟩, x.ln.length, [], none, 0⟩ := by rw [hv4]; exact Ob.sL x.ln (some ⟨gL, 0, none⟩) x.ln.length x.ln.length rfl
  have BB : Below w.heap.size w v4 := by rw [hv4]; exact (B0.setCell (p := ⟨w.heap.size + 1 + 1, _, none⟩) (by show _ ≤ w.heap.size + 1 + 1; omega) _)
  have A2 := A.keep (kp _ (by omega))
  have Z2 := Z.keep (kp _ (by omega))
  have I2 : BxIn v4 x := I.kept hin (fun g hg => kp g (by omega))
  have OT2 := OT.keep (fun g h1 h2 => kp g (by omega))
  have ON2 := ON.keep (fun g e => kp g (by have := lON g e; omega))
  have OG2 := OG.keep (fun g e => kp g (by have := lOG g e; omega))
  have OL2 := OL.keep (fun g e => kp g (by have := lOL g e; omega))
  have szl := Nat.le_of_eq sz.symm
  have szr := Nat.le_of_eq sz
  clear kp sz
  have cc := A
  obtain ⟨a0, a1, a2, a3, a4, a5, a6, a7, a8, a9⟩ := cc
  have cc := Ob
  obtain ⟨⟨o0, o1, o2, o3, o4, o5, o6, o7, o8, o9⟩, of⟩ := cc
  have f8 := of 8
  go_wp2_with fail
  go_at_call 115
  rw [← hv4]
  clear a0 a1 a2 a3 a4 a5 a6 a7 a8 a9 o0 o1 o2 o3 o4 o5 o6 o7 o8 o9 of f8 hv4
  clear A Z I Ob B0 OT ON OG OL
  have A := A2
  have Z := Z2
  have I := I2
  have Ob := Ob2
  have OT := OT2
  have ON := ON2
  have OG := OG2
  have OL := OL2
  have B0 := BB
  clear A2 Z2 I2 Ob2 BB OT2 ON2 OG2 OL2
  refine (ouToS x.aS x.cS x.sd v4 I.s K.s).mono ?_
  rintro e u5 ⟨rfl, OS, k5⟩
  have A := A.below k5 A.lt
  have Z := Z.below k5 Z.lt
  have Ob := Ob.below k5 Ob.lt
  have I := I.below k5
  have ON := ON.later k5
  have OG := OG.later k5
  have OL := OL.later k5
  have OT := OT.below k5 (by omega)
  have B0 := B0.trans (k5.mono B0.size)
  have sk5 := k5.size
  clear k5
  obtain ⟨gS, hgS⟩ : ∃ g_, g_ = v4.heap.size := ⟨_, rfl⟩
  rw [← hgS] at OS ⊢
  have qgS : w.heap.size + 1 + 1 < gS := by omega
  have rgS : gS ≤ u5.heap.size := by omega
  have tgS : u1.heap.size ≤ gS := by omega
  clear hgS
  have lOS : ∀ g, (Value.slice (some ⟨gS, 0, none⟩) x.sd.length x.sd.length).ownBlock = some g → w.heap.size + 1 + 1 < g ∧ g < u5.heap.size := fun g e => by have := OS.lt g e; omega
  obtain ⟨v5, hv5⟩ : ∃ v_, v_ = u5.setCell ⟨w.heap.size + 1 + 1, 9, none⟩ (.slice (some ⟨gS, 0, none⟩) x.sd.length x.sd.length) := ⟨_, rfl⟩
  have kp : ∀ k, k ≠ w.heap.size + 1 + 1 → v5.heap[k]? = u5.heap[k]? := fun k hk => by rw [hv5, Below.heap_setCell _ _ _ _ hk]
  have sz : v5.heap.size = u5.heap.size := by rw [hv5]; simp
  have Ob2 : BxB v5 (w.heap.size + 1 + 1) ⟨x.id, x.po, x.rg, (cpyM x.two Ns), some ⟨gT, 0, none⟩, x.two.length, x.net, some ⟨gN, 0, none⟩, x.net.length, x.ga, some ⟨gG, 0, none⟩, x.ga.length, x.ln, some ⟨gL, 0, none⟩, x.ln.length, x.sd, some ⟨gS, 0, none⟩, x.sd.length⟩ := by rw [hv5]; exact Ob.sS x.sd (some ⟨gS, 0, none⟩) x.sd.length x.sd.length rfl
  have BB : Below w.heap.size w v5 := by rw [hv5]; exact (B0.setCell (p := ⟨w.heap.size + 1 + 1, _, none⟩) (by show _ ≤ w.heap.size + 1 + 1; omega) _)
  have A2 := A.keep (kp _ (by omega))
  have Z2 := Z.keep (kp _ (by omega))
  have I2 : BxIn v5 x := I.kept hin (fun g hg => kp g (by omega))
  have OT2 := OT.keep (fun g h1 h2 => kp g (by omega))
  have ON2 := ON.keep (fun g e => kp g (by have := lON g e; omega))
  have OG2 := OG.keep (fun g e => kp g (by have := lOG g e; omega))
  have OL2 := OL.keep (fun g e => kp g (by have := lOL g e; omega))
  have OS2 := OS.keep (fun g e => kp g (by have := lOS g e; omega))
  have szl := Nat.le_of_eq sz.symm
  have szr := Nat.le_of_eq sz
  clear kp sz
  obtain ⟨X2, hX2⟩ : ∃ X2 : BxD, X2 = ⟨x.id, x.po, x.rg, (cpyM x.two Ns), some ⟨gT, 0, none⟩, x.two.length, x.net, some ⟨gN, 0, none⟩, x.net.length, x.ga, some ⟨gG, 0, none⟩, x.ga.length, x.ln, some ⟨gL, 0, none⟩, x.ln.length, x.sd, some ⟨gS, 0, none⟩, x.sd.length⟩ := ⟨_, rfl⟩
  have hV2 : (.agg #[.int .i64 X2.id, .int .i64 X2.po, .int .i64 X2.rg.ep, .int .i64 X2.rg.ow, .int .i64 X2.rg.pa, .slice X2.aT X2.two.length X2.cT, .slice X2.aN X2.net.length X2.cN, .slice X2.aG X2.ga.length X2.cG, .slice X2.aL X2.ln.length X2.cL, .slice X2.aS X2.sd.length X2.cS] : Value) = .agg #[.int .i64 x.id, .int .i64 x.po, .int .i64 x.rg.ep, .int .i64 x.rg.ow, .int .i64 x.rg.pa, .slice (some ⟨gT, 0, none⟩) x.two.length x.two.length, .slice (some ⟨gN, 0, none⟩) x.net.length x.net.length, .slice (some ⟨gG, 0, none⟩) x.ga.length x.ga.length, .slice (some ⟨gL, 0, none⟩) x.ln.length x.ln.length, .slice (some ⟨gS, 0, none⟩) x.sd.length x.sd.length] := by rw [hX2]; show Value.agg _ = _; rw [cpyM_len]
  have hP2 : X2.p = x.p := by rw [hX2]; unfold BxD.p; dsimp only; rw [cpyM_d]
  have cc := Z2
  obtain ⟨⟨z0, z1, z2, z3, z4, z5, z6, z7, z8, z9⟩, zf⟩ := cc
  have e0 := zf 0
  have e1 := zf 1
  have e2 := zf 2
  have e3 := zf 3
  have e4 := zf 4
  have e5 := zf 5
  have e6 := zf 6
  have e7 := zf 7
  have e8 := zf 8
  have e9 := zf 9
  have cc := Ob2
  obtain ⟨⟨o0, o1, o2, o3, o4, o5, o6, o7, o8, o9⟩, of⟩ := cc
  rw [← hX2] at Ob2
  have cc := Ob
  obtain ⟨⟨p0, p1, p2, p3, p4, p5, p6, p7, p8, p9⟩, pf⟩ := cc
  have f9 := pf 9
  dsimp only at o0 o1 o2 o3 o4 o5 o6 o7 o8 o9
  rw [cpyM_len] at o5
  go_upto_region 10 with fail
  rw [← hv5]
  clear hv5 p0 p1 p2 p3 p4 p5 p6 p7 p8 p9 pf f9
  obtain ⟨v6, hv6⟩ : ∃ v_, v_ = ((((((((((v5.setCell ⟨w.heap.size + 1, 0, none⟩ (.int .i64 x.id)).setCell ⟨w.heap.size + 1, 1, none⟩ (.int .i64 x.po)).setCell ⟨w.heap.size + 1, 2, none⟩ (.int .i64 x.rg.ep)).setCell ⟨w.heap.size + 1, 3, none⟩ (.int .i64 x.rg.ow)).setCell ⟨w.heap.size + 1, 4, none⟩ (.int .i64 x.rg.pa)).setCell ⟨w.heap.size + 1, 5, none⟩ (.slice (some ⟨gT, 0, none⟩) x.two.length x.two.length)).setCell ⟨w.heap.size + 1, 6, none⟩ (.slice (some ⟨gN, 0, none⟩) x.net.length x.net.length)).setCell ⟨w.heap.size + 1, 7, none⟩ (.slice (some ⟨gG, 0, none⟩) x.ga.length x.ga.length)).setCell ⟨w.heap.size + 1, 8, none⟩ (.slice (some ⟨gL, 0, none⟩) x.ln.length x.ln.length)).setCell ⟨w.heap.size + 1, 9, none⟩ (.slice (some ⟨gS, 0, none⟩) x.sd.length x.sd.length)) := ⟨_, rfl⟩
  have ZZ := Z2.put X2
  have kp : ∀ k, k ≠ w.heap.size + 1 → v6.heap[k]? = v5.heap[k]? := fun k hk => by rw [hv6, Below.heap_setCell _ _ _ _ hk, Below.heap_setCell _ _ _ _ hk, Below.heap_setCell _ _ _ _ hk, Below.heap_setCell _ _ _ _ hk, Below.heap_setCell _ _ _ _ hk, Below.heap_setCell _ _ _ _ hk, Below.heap_setCell _ _ _ _ hk, Below.heap_setCell _ _ _ _ hk, Below.heap_setCell _ _ _ _ hk, Below.heap_setCell _ _ _ _ hk]
  have B6 : Below w.heap.size w v6 := by rw [hv6]; exact ((((((((((BB.setCell (p := ⟨w.heap.size + 1, 0, none⟩) (by show _ ≤ w.heap.size + 1; omega) _).setCell (p := ⟨w.heap.size + 1, 1, none⟩) (by show _ ≤ w.heap.size + 1; omega) _).setCell (p := ⟨w.heap.size + 1, 2, none⟩) (by show _ ≤ w.heap.size + 1; omega) _).setCell (p := ⟨w.heap.size + 1, 3, none⟩) (by show _ ≤ w.heap.size + 1; omega) _).setCell (p := ⟨w.heap.size + 1, 4, none⟩) (by show _ ≤ w.heap.size + 1; omega) _).setCell (p := ⟨w.heap.size + 1, 5, none⟩) (by show _ ≤ w.heap.size + 1; omega) _).setCell (p := ⟨w.heap.size + 1, 6, none⟩) (by show _ ≤ w.heap.size + 1; omega) _).setCell (p := ⟨w.heap.size + 1, 7, none⟩) (by show _ ≤ w.heap.size + 1; omega) _).setCell (p := ⟨w.heap.size + 1, 8, none⟩) (by show _ ≤ w.heap.size + 1; omega) _).setCell (p := ⟨w.heap.size + 1, 9, none⟩) (by show _ ≤ w.heap.size + 1; omega) _)
  have s6 : v6.heap.size = v5.heap.size := by rw [hv6]; simp
  have OT2 := OT2.keep (w' := v6) (fun g h1 h2 => kp g (by omega))
  have ON2 := ON2.keep (w' := v6) (fun g e => kp g (by have := lON g e; omega))
  have OG2 := OG2.keep (w' := v6) (fun g e => kp g (by have := lOG g e; omega))
  have OL2 := OL2.keep (w' := v6) (fun g e => kp g (by have := lOL g e; omega))
  have OS2 := OS2.keep (w' := v6) (fun g e => kp g (by have := lOS g e; omega))
  have hM : BxM w.heap.size v6.heap.size v6 X2 := by
    rw [hX2]
    refine ⟨?_, ON2.base (by omega), OG2.base (by omega), OL2.base (by omega), OS2.base (by omega), fun b e => (by have := lON b e; omega), fun b e => (by have := lOG b e; omega), fun b e => (by have := lOL b e; omega), fun b e => (by have := lOS b e; omega), fun j hj b e e2 => ?_⟩
    · show MOwn _ _ _ (.slice _ (cpyM x.two Ns).length _) _
      rw [cpyM_len]
      exact OT2.wide (by omega) (by omega)
    · have h1 := OT2.nhi j hj b e
      have h2 := (OL2.lt b e2).1
      omega
  obtain ⟨⟨t0, t1, t2, t3, t4, t5, t6, t7, t8, t9⟩, tf⟩ : BxB v6 (w.heap.size + 1) X2 := by rw [hv6]; have := Z2.put X2; rw [hX2] at this; dsimp only at this; rw [cpyM_len] at this; rw [hX2]; exact this
  rw [hX2] at t0 t1 t2 t3 t4 t5 t6 t7 t8 t9
  dsimp only at t0 t1 t2 t3 t4 t5 t6 t7 t8 t9
  rw [cpyM_len] at t5
  clear tf
  go_wp2
  refine bodyPost_ret (v := .agg #[.int .i64 x.id, .int .i64 x.po, .int .i64 x.rg.ep, .int .i64 x.rg.ow, .int .i64 x.rg.pa, .slice (some ⟨gT, 0, none⟩) x.two.length x.two.length, .slice (some ⟨gN, 0, none⟩) x.net.length x.net.length, .slice (some ⟨gG, 0, none⟩) x.ga.length x.ga.length, .slice (some ⟨gL, 0, none⟩) x.ln.length x.ln.length, .slice (some ⟨gS, 0, none⟩) x.sd.length x.sd.length]) (by simp [results, Tryz.results50, go_sem, *]) rfl ⟨X2, by rw [hV2], hP2, by rw [← hv6]; exact hM, by rw [← hv6]; exact B6⟩

end Go.Proofs.YtnpiljegdiconaaGreat
namespace Go.Proofs.YtnpiljegdiconaaGreat
open Go.ChangeShapes Go.WideShapes Go.ChangeAt Go.RowKit
open Go.ChangeMaps (open_string shut_string)
set_option linter.unusedVariables false
set_option maxRecDepth 100000

set_option maxHeartbeats 1000000 in
theorem mdEq (ad ad' : Option Addr) (cap cap' : Nat) (Bs Bs' : List MiD) (w : World) (hv : MV w ad Bs) (hv' : MV w ad' Bs') (hd : Bs'.map MiD.m = Bs.map MiD.m) (hl : Bs.length ≤ 1048576) (hls : ∀ i, i < Bs.length → (Bs.getD i MiD.nil).m.lg.length ≤ 1048576) :
    Calls Tryz.prog 117 #[.slice ad Bs.length cap, .slice ad' Bs'.length cap'] w fun e w' => e = .returned (.bool true) ∧ Below w.heap.size w w' := by
  have hlen : Bs'.length = Bs.length := by have := congrArg List.length hd; simpa using this
  have hsame : ∀ i, (Bs'.getD i MiD.nil).m = (Bs.getD i MiD.nil).m := fun i => by
    have := congrArg (fun D => D.getD i Mi.nil) hd
    simpa only [md_get] using this
  rw [hlen]
  go_enter Tryz.func117, Tryz.ntmps117
  go_wp2
  go_loopw [5] (fun i wr => ∃ k : Nat, k ≤ Bs.length ∧ i = .int .i64 k ∧ Below w.heap.size w wr) (fun i _ => Bs.length - (intOf i).toNat)
  case atStart => exact ⟨0, Nat.zero_le _, rfl, Below.refl _ _⟩
  case round =>
    obtain ⟨k, hk, rfl, hb⟩ := hrel
    by_cases hlt : k < Bs.length
    · obtain ⟨b, off, rfl⟩ := hv.ad_ (by omega)
      obtain ⟨b', off', rfl⟩ := hv'.ad_ (by omega)
      have hlk := hls k hlt
      have hn : ∀ Y, Below w.heap.size w Y → FView ikEnc Y (Bs.getD k MiD.nil).ad (Bs.getD k MiD.nil).m.lg := fun Y hY => (hv.below hY (Nat.le_refl _)).nest k hlt
      have hn' : ∀ Y, Below w.heap.size w Y → FView ikEnc Y (Bs'.getD k MiD.nil).ad (Bs'.getD k MiD.nil).m.lg := fun Y hY => (hv'.below hY (Nat.le_refl _)).nest k (by omega)
      have hc : ∀ Y, Below w.heap.size w Y → MdAtO Y b (off + k * 7) (Bs.getD k MiD.nil) := fun Y hY => (hv.below hY (Nat.le_refl _)).at_ hlt
      have hc' : ∀ Y, Below w.heap.size w Y → MdAtO Y b' (off' + k * 7) (Bs'.getD k MiD.nil) := fun Y hY => (hv'.below hY (Nat.le_refl _)).at_ (by omega)
      have e1 := hsame k
      obtain ⟨⟨m1, a1, c1⟩, hh⟩ : ∃ m, Bs.getD k MiD.nil = m := ⟨_, rfl⟩
      obtain ⟨⟨m2, a2, c2⟩, hh'⟩ : ∃ m, Bs'.getD k MiD.nil = m := ⟨_, rfl⟩
      rw [hh] at e1 hlk
      rw [hh'] at e1
      simp only [hh] at hn hc
      simp only [hh'] at hn' hc'
      dsimp only at e1 hlk hn hn'
      subst e1
      clear hh hh' hv hv' hsame hls hd hlen
      go_wp2_with fail
      refine wp_region_held (S := fun Y => Below w.heap.size w Y) (by kernel_rfl) ?_
      change wpAnyH _ _ _ _ _ _ _ _ (World.drew _)
      have hb0 : Below w.heap.size w wr.drew := hb.drew
      refine takeW 0 17 (.slice (some ⟨b, off, none⟩) Bs.length cap) rfl rfl (by kernel_rfl) (by kernel_rfl) (by kernel_rfl) (fun _ _ _ h => h) (by kernel_rfl) (by (intro w hSw; go_simp)) (by assumption) ?_
      simp only [List.set_cons_zero, List.set_cons_succ]
      refine takeW 1 18 (.int .i64 k) rfl rfl (by kernel_rfl) (by kernel_rfl) (by kernel_rfl) (fun _ _ _ h => h) (by kernel_rfl) (by (intro w hSw; go_simp)) (by assumption) ?_
      simp only [List.set_cons_zero, List.set_cons_succ]
      refine takeW 2 19 (.pointer (some ⟨b, off + k * 7, none⟩)) rfl rfl (by kernel_rfl) (by kernel_rfl) (by kernel_rfl) (fun _ _ _ h => h) (by kernel_rfl) (by (intro Y hSw; go_simp; try omega)) (by assumption) ?_
      simp only [List.set_cons_zero, List.set_cons_succ]
      refine takeW 3 20 (.agg #[.bool m2.up, .int .i64 m2.li, .int .i64 m2.ep, .slice a1 m2.lg.length c1, .int .i64 m2.sd, .int .i64 m2.ac, .int .i64 m2.al]) rfl rfl (by kernel_rfl) (by kernel_rfl) (by kernel_rfl) (fun _ _ _ h => h) (by kernel_rfl) (by (intro Y hSw; obtain ⟨X0, X1, X2, X3, X4, X5, X6⟩ := hc Y hSw; go_simp)) (by assumption) ?_
      simp only [List.set_cons_zero, List.set_cons_succ]
      refine takeW 4 21 (.slice (some ⟨b', off', none⟩) Bs.length cap') rfl rfl (by kernel_rfl) (by kernel_rfl) (by kernel_rfl) (fun _ _ _ h => h) (by kernel_rfl) (by (intro w hSw; go_simp)) (by assumption) ?_
      simp only [List.set_cons_zero, List.set_cons_succ]
      refine takeW 5 22 (.int .i64 k) rfl rfl (by kernel_rfl) (by kernel_rfl) (by kernel_rfl) (fun _ _ _ h => h) (by kernel_rfl) (by (intro w hSw; go_simp)) (by assumption) ?_
      simp only [List.set_cons_zero, List.set_cons_succ]
      refine takeW 6 23 (.pointer (some ⟨b', off' + k * 7, none⟩)) rfl rfl (by kernel_rfl) (by kernel_rfl) (by kernel_rfl) (fun _ _ _ h => h) (by kernel_rfl) (by (intro Y hSw; go_simp; try omega)) (by assumption) ?_
      simp only [List.set_cons_zero, List.set_cons_succ]
      refine takeW 7 24 (.agg #[.bool m2.up, .int .i64 m2.li, .int .i64 m2.ep, .slice a2 m2.lg.length c2, .int .i64 m2.sd, .int .i64 m2.ac, .int .i64 m2.al]) rfl rfl (by kernel_rfl) (by kernel_rfl) (by kernel_rfl) (fun _ _ _ h => h) (by kernel_rfl) (by (intro Y hSw; obtain ⟨X0, X1, X2, X3, X4, X5, X6⟩ := hc' Y hSw; go_simp)) (by assumption) ?_
      simp only [List.set_cons_zero, List.set_cons_succ]
      refine wpAnyH_all (rs := [8]) (by kernel_rfl) (by simp) ?_
      intro i hi; obtain rfl : i = 8 := by simpa using hi
      refine wpOp_step rfl (fun K hK => ?_)
      rw [if_pos (by kernel_rfl)]
      go_simp
      go_at_call 165
      refine (miEq m2 a1 a2 c1 c2 _ (hn _ hb0) (hn' _ hb0) hlk).mono ?_
      rintro e y1 ⟨rfl, j1⟩
      have hb1 : Below w.heap.size w y1 := hb0.trans (j1.mono hb0.size)
      refine hK _ _ ⟨hb1, ?_⟩
      clear hK K hi
      refine takeW 9 26 (.bool false) rfl rfl (by kernel_rfl) (by kernel_rfl) (by kernel_rfl) (fun _ _ _ h => h) (by kernel_rfl) (by (intro w hSw; go_simp)) (by assumption) ?_
      simp only [List.set_cons_zero, List.set_cons_succ]
      refine wpAnyH_done (by kernel_rfl) ?_ _
      go_wp2
      go_roundw
      case rel => exact ⟨k + 1, by omega, by go_num, hb1⟩
      case measure => simp [intOf]; omega
    · obtain rfl : k = Bs.length := by omega
      go_wp2
      go_ret
      exact ⟨rfl, hb⟩

end Go.Proofs.YtnpiljegdiconaaGreat
namespace Go.Proofs.YtnpiljegdiconaaGreat
open Go.ChangeShapes Go.WideShapes Go.ChangeAt Go.RowKit
open Go.ChangeMaps (open_string shut_string)
set_option linter.unusedVariables false
set_option maxRecDepth 100000

set_option maxHeartbeats 2000000 in
theorem wiEqS (ad ad' : Option Addr) (cap cap' : Nat) (L : List Wi) (w : World) (hv : FView wiEnc w ad L) (hv' : FView wiEnc w ad' L) (hl : L.length ≤ 1048576) :
    Calls Tryz.prog 118 #[.slice ad L.length cap, .slice ad' L.length cap'] w fun e w' => e = .returned (.bool true) ∧ Below w.heap.size w w' := by
  have hB := hv.lt wiEnc_len (by omega)
  have hB' := hv'.lt wiEnc_len (by omega)
  go_enter Tryz.func118, Tryz.ntmps118
  go_wp2
  go_loopw [5] (fun i wr => ∃ k : Nat, k ≤ L.length ∧ i = .int .i64 k ∧ Below w.heap.size w wr) (fun i _ => L.length - (intOf i).toNat)
  case atStart => exact ⟨0, Nat.zero_le _, rfl, Below.refl _ _⟩
  case round =>
    obtain ⟨k, hk, rfl, hb⟩ := hrel
    by_cases hlt : k < L.length
    · obtain ⟨b, off, rfl, _⟩ := hv (by omega)
      obtain ⟨b', off', rfl, _⟩ := hv' (by omega)
      obtain ⟨h, hh⟩ : ∃ h, L.getD k Wi.nil = h := ⟨_, rfl⟩
      have hc : ∀ Y, Below w.heap.size w Y → WiAtO Y b (off + k * 12) h := fun Y hY => by rw [← hh]; exact wiAtO_of ((hv.below hY hB).at_ wiEnc_len Wi.nil hlt)
      have hc' : ∀ Y, Below w.heap.size w Y → WiAtO Y b' (off' + k * 12) h := fun Y hY => by rw [← hh]; exact wiAtO_of ((hv'.below hY hB').at_ wiEnc_len Wi.nil hlt)
      clear hh hv hv' hB hB'
      go_wp2_with fail
      refine wp_region_held (S := fun Y => Below w.heap.size w Y) (by kernel_rfl) ?_
      change wpAnyH _ _ _ _ _ _ _ _ (World.drew _)
      have hb0 : Below w.heap.size w wr.drew := hb.drew
      refine takeW 0 17 (.slice (some ⟨b, off, none⟩) L.length cap) rfl rfl (by kernel_rfl) (by kernel_rfl) (by kernel_rfl) (fun _ _ _ h => h) (by kernel_rfl) (by (intro w hSw; go_simp)) (by assumption) ?_
      simp only [List.set_cons_zero, List.set_cons_succ]
      refine takeW 1 18 (.int .i64 k) rfl rfl (by kernel_rfl) (by kernel_rfl) (by kernel_rfl) (fun _ _ _ h => h) (by kernel_rfl) (by (intro w hSw; go_simp)) (by assumption) ?_
      simp only [List.set_cons_zero, List.set_cons_succ]
      refine takeW 2 19 (.pointer (some ⟨b, off + k * 12, none⟩)) rfl rfl (by kernel_rfl) (by kernel_rfl) (by kernel_rfl) (fun _ _ _ h => h) (by kernel_rfl) (by (intro Y hSw; go_simp; try omega)) (by assumption) ?_
      simp only [List.set_cons_zero, List.set_cons_succ]
      refine takeW 3 20 (.agg #[.int .i64 h.fr, .bool h.ak, .int .i64 h.li, .int .i64 h.n, .int .i64 h.x.k, .int .i64 h.x.q, .int .i64 h.x.r, .int .i64 h.x.c, .int .i64 h.x.b, .int .i64 h.x.p, .int .i64 h.x.h, .bool h.x.up]) rfl rfl (by kernel_rfl) (by kernel_rfl) (by kernel_rfl) (fun _ _ _ h => h) (by kernel_rfl) (by (intro Y hSw; obtain ⟨X0, X1, X2, X3, X4, X5, X6, X7, X8, X9, X10, X11⟩ := hc Y hSw; go_simp)) (by assumption) ?_
      simp only [List.set_cons_zero, List.set_cons_succ]
      refine takeW 4 21 (.slice (some ⟨b', off', none⟩) L.length cap') rfl rfl (by kernel_rfl) (by kernel_rfl) (by kernel_rfl) (fun _ _ _ h => h) (by kernel_rfl) (by (intro w hSw; go_simp)) (by assumption) ?_
      simp only [List.set_cons_zero, List.set_cons_succ]
      refine takeW 5 22 (.int .i64 k) rfl rfl (by kernel_rfl) (by kernel_rfl) (by kernel_rfl) (fun _ _ _ h => h) (by kernel_rfl) (by (intro w hSw; go_simp)) (by assumption) ?_
      simp only [List.set_cons_zero, List.set_cons_succ]
      refine takeW 6 23 (.pointer (some ⟨b', off' + k * 12, none⟩)) rfl rfl (by kernel_rfl) (by kernel_rfl) (by kernel_rfl) (fun _ _ _ h => h) (by kernel_rfl) (by (intro Y hSw; go_simp; try omega)) (by assumption) ?_
      simp only [List.set_cons_zero, List.set_cons_succ]
      refine takeW 7 24 (.agg #[.int .i64 h.fr, .bool h.ak, .int .i64 h.li, .int .i64 h.n, .int .i64 h.x.k, .int .i64 h.x.q, .int .i64 h.x.r, .int .i64 h.x.c, .int .i64 h.x.b, .int .i64 h.x.p, .int .i64 h.x.h, .bool h.x.up]) rfl rfl (by kernel_rfl) (by kernel_rfl) (by kernel_rfl) (fun _ _ _ h => h) (by kernel_rfl) (by (intro Y hSw; obtain ⟨X0, X1, X2, X3, X4, X5, X6, X7, X8, X9, X10, X11⟩ := hc' Y hSw; go_simp)) (by assumption) ?_
      simp only [List.set_cons_zero, List.set_cons_succ]
      refine wpAnyH_all (rs := [8]) (by kernel_rfl) (by simp) ?_
      intro i hi; obtain rfl : i = 8 := by simpa using hi
      refine wpOp_step rfl (fun Kz hKz => ?_)
      rw [if_pos (by kernel_rfl)]
      go_simp
      go_at_call 166
      refine (eqWiI h _).mono ?_
      rintro e y1 ⟨rfl, j1⟩
      have hb1 : Below w.heap.size w y1 := hb0.trans (j1.mono hb0.size)
      refine hKz _ _ ⟨hb1, ?_⟩
      clear hKz Kz hi
      refine takeW 9 26 (.bool false) rfl rfl (by kernel_rfl) (by kernel_rfl) (by kernel_rfl) (fun _ _ _ h => h) (by kernel_rfl) (by (intro w hSw; go_simp)) (by assumption) ?_
      simp only [List.set_cons_zero, List.set_cons_succ]
      refine wpAnyH_done (by kernel_rfl) ?_ _
      go_wp2
      go_roundw
      case rel => exact ⟨k + 1, by omega, by go_num, hb1⟩
      case measure => simp [intOf]; omega
    · obtain rfl : k = L.length := by omega
      go_wp2
      go_ret
      exact ⟨rfl, hb⟩

end Go.Proofs.YtnpiljegdiconaaGreat
namespace Go.Proofs.YtnpiljegdiconaaGreat
open Go.ChangeShapes Go.WideShapes Go.ChangeAt Go.RowKit
open Go.ChangeMaps (open_string shut_string)
set_option linter.unusedVariables false
set_option maxRecDepth 100000

/-- A list of flags that was marked from 1 on. -/
structure MRowB (w : World) (ad : Option Addr) (n : Nat) : Prop where
  v : ViewB w ad n (fun i => mkB (1 + (i : Int)))
  lt : ∀ a, ad = some a → 0 < n → a.block < w.heap.size
theorem MRowB.later {w w' : World} {ad : Option Addr} {n : Nat} (h : MRowB w ad n) (k : Below w.heap.size w w') : MRowB w' ad n :=
  ⟨h.v.carry (fun a e p => k.block _ (h.lt a e p)), fun a e p => Nat.lt_of_lt_of_le (h.lt a e p) k.size⟩
theorem FOwn.roomB {base : Nat} {w : World} {ad : Option Addr} {n cap : Nat} {L : List Bool} (h : FOwn boEnc 1 4 base w (.slice ad n cap) L) : Room w ad L.length := by
  intro hp
  have hn := h.view.1
  subst hn
  obtain ⟨b, off, rfl, hc⟩ := h.view.2.toB hp
  have h0 : off = 0 := by
    rcases h.2 with ⟨q, e⟩ | ⟨g, c, cur, q, _⟩
    · cases q
    · simp only [Value.slice.injEq, Option.some.injEq, Addr.mk.injEq] at q
      exact q.1.2.1
  subst h0
  exact ⟨b, 0, rfl, fun i hi => ⟨⟨_, hc i hi⟩, by rw [Nat.zero_add]; exact h.frozen i⟩⟩
theorem boEq (ad ad' : Option Addr) (cap cap' : Nat) (L : List Bool) (w : World) (h : FView boEnc w ad L) (h' : FView boEnc w ad' L) (hl : L.length ≤ 1048576) :
    Calls Tryz.prog 119 #[.slice ad L.length cap, .slice ad' L.length cap'] w fun e w' => e = .returned (.bool true) ∧ Below w.heap.size w w' := by
  refine (eqBools ad ad' L.length cap cap' _ w h.toB h'.toB hl).mono ?_
  rintro e w' ⟨rfl, n, rfl⟩
  exact ⟨rfl, ⟨rfl, rfl, rfl, Nat.le_refl _, fun _ _ => rfl⟩⟩


end Go.Proofs.YtnpiljegdiconaaGreat
