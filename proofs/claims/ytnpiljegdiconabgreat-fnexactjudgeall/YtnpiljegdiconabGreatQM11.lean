import Derived.Test.YtnpiljegdiconabGreatQM9
import Derived.Deep.Grids
namespace Go.Proofs.YtnpiljegdiconabGreat
open Go.ChangeShapes Go.WideShapes Go.ChangeAt Go.RowKit
open Go.ChangeMaps (open_string shut_string)
set_option linter.unusedVariables false
set_option maxRecDepth 100000
theorem miSz (m : Mi) (ad : Option Addr) (cap : Nat) (left : Int) (w : World) (h0 : 0 ≤ left) (h1 : left ≤ 1048576) (hm : m.lg.length ≤ maxLen) :
  Calls Tryz.prog 40 #[.agg #[.bool m.up, .int .i64 m.li, .int .i64 m.ep, .slice ad m.lg.length cap, .int .i64 m.sd, .int .i64 m.ac, .int .i64 m.al], .int .i64 left] w fun e w' => e = .returned (.int .i64 (if (m.lg.length : Int) ≤ left then left - m.lg.length else -1)) ∧ Below w.heap.size w w' := by
 have B0 := below_new (w := w) (Obj.cells #[.bool m.up, .int .i64 m.li, .int .i64 m.ep, .slice ad m.lg.length cap, .int .i64 m.sd, .int .i64 m.ac, .int .i64 m.al] 66)
 by_cases h : (m.lg.length : Int) ≤ left
 ·
  rw [if_pos h]
  have h2 : 0 ≤ left - (m.lg.length : Int) := by omega
  go_enter Tryz.func40, Tryz.ntmps40
  go_wp2_with fail
  go_at_call 15
  refine (ikSz ad m.lg.length cap left _ h0 h1 hm).mono ?_
  rintro e w1 ⟨rfl, rfl⟩
  rw [if_pos h]
  go_wp2
  go_ret
  exact ⟨rfl, B0⟩
 ·
  rw [if_neg h]
  go_enter Tryz.func40, Tryz.ntmps40
  go_wp2_with fail
  go_at_call 15
  refine (ikSz ad m.lg.length cap left _ h0 h1 hm).mono ?_
  rintro e w1 ⟨rfl, rfl⟩
  rw [if_neg (by omega)]
  go_wp2
  go_ret
  exact ⟨rfl, B0⟩
set_option maxHeartbeats 2000000 in
theorem miTo (m : Mi) (ad : Option Addr) (cap : Nat) (w : World) (hv : FView ikEnc w ad m.lg) (hl : m.lg.length ≤ 1048576) :
  Calls Tryz.prog 48 #[.agg #[.bool m.up, .int .i64 m.li, .int .i64 m.ep, .slice ad m.lg.length cap, .int .i64 m.sd, .int .i64 m.ac, .int .i64 m.al]] w fun e w' => ∃ g, e = .returned (.agg #[.bool m.up, .int .i64 m.li, .int .i64 m.ep, .slice (some ⟨g, 0, none⟩) m.lg.length m.lg.length, .int .i64 m.sd, .int .i64 m.ac, .int .i64 m.al]) ∧ w.heap.size ≤ g ∧ g < w'.heap.size ∧ FOwn ikEnc 8 80 w.heap.size w' (.slice (some ⟨g, 0, none⟩) m.lg.length m.lg.length) m.lg ∧ Below w.heap.size w w' := by
 have hB := hv.lt ikEnc_len (by omega)
 obtain ⟨y, hy⟩ := mk_ (((w.alloc (Obj.cells #[.bool m.up, .int .i64 m.li, .int .i64 m.ep, .slice ad m.lg.length cap, .int .i64 m.sd, .int .i64 m.ac, .int .i64 m.al] 66)).alloc (Obj.cells #[.bool false, .int .i64 0, .int .i64 0, .slice none 0 0, .int .i64 0, .int .i64 0, .int .i64 0] 49)).alloc (Obj.cells #[.bool m.up, .int .i64 m.li, .int .i64 m.ep, .slice none 0 0, .int .i64 0, .int .i64 0, .int .i64 0] 49))
 have B0 : Below w.heap.size w y := by rw [hy]; exact (((Below.refl _ _).alloc (Nat.le_refl _) _).alloc (by simp) _).alloc (by simp; omega) _
 have A0 : MiAt y w.heap.size m (.slice ad m.lg.length cap) := by rw [hy]; constructor <;> simp [go_sem]
 have A1 : MiBox y (w.heap.size + 1) ⟨false, 0, 0, [], 0, 0, 0⟩ (.slice none 0 0) := by rw [hy]; constructor <;> simp [go_sem]
 have A2 : MiBox y (w.heap.size + 1 + 1) ⟨m.up, m.li, m.ep, [], 0, 0, 0⟩ (.slice none 0 0) := by rw [hy]; constructor <;> simp [go_sem]
 have S0 := A2.lt
 go_enter Tryz.func48, Tryz.ntmps48
 go_wp2_with fail
 go_at_call 25
 rw [← hy]
 clear hy
 refine (ikToS ad cap m.lg y (hv.below B0 hB) hl).mono ?_
 rintro e w1 ⟨rfl, O1, k1⟩
 generalize hg : y.heap.size = g at O1 k1 S0 ⊢
 have hgs : g < w1.heap.size := (O1.lt g rfl).2
 have B1 := B0.trans (k1.mono (by omega))
 have A0 := A0.below k1 (by omega)
 have A1 := A1.below k1 (by omega)
 have A2 := A2.below k1 (by omega)
 have hg' : w.heap.size + 1 + 1 < g := S0
 have O1 : FOwn ikEnc 8 80 w.heap.size w1 (.slice (some ⟨g, 0, none⟩) m.lg.length m.lg.length) m.lg := O1.base (by omega)
 clear hg k1 B0 hv hB
 obtain ⟨z0, z1, z2, z3, z4, z5, z6⟩ := A0
 obtain ⟨a0, a1, a2, a3, a4, a5, a6, F1⟩ := A1
 obtain ⟨c0, c1, c2, c3, c4, c5, c6, F2⟩ := A2
 dsimp only at a0 a1 a2 a4 a5 a6 c0 c1 c2 c4 c5 c6
 have f10 := F1 0
 have f11 := F1 1
 have f12 := F1 2
 have f13 := F1 3
 have f14 := F1 4
 have f15 := F1 5
 have f16 := F1 6
 have f23 := F2 3
 have f24 := F2 4
 have f25 := F2 5
 have f26 := F2 6
 have B3 : Below w.heap.size w ((((((((((((w1.setCell ⟨w.heap.size + 1 + 1, 3, none⟩ (.slice (some ⟨g, 0, none⟩) m.lg.length m.lg.length)).setCell ⟨w.heap.size + 1 + 1, 4, none⟩ (.int .i64 m.sd)).setCell ⟨w.heap.size + 1 + 1, 5, none⟩ (.int .i64 m.ac)).setCell ⟨w.heap.size + 1 + 1, 6, none⟩ (.int .i64 m.al)).setCell ⟨w.heap.size + 1, 0, none⟩ (.bool m.up)).setCell ⟨w.heap.size + 1, 1, none⟩ (.int .i64 m.li)).setCell ⟨w.heap.size + 1, 2, none⟩ (.int .i64 m.ep)).setCell ⟨w.heap.size + 1, 3, none⟩ (.slice (some ⟨g, 0, none⟩) m.lg.length m.lg.length)).setCell ⟨w.heap.size + 1, 4, none⟩ (.int .i64 m.sd)).setCell ⟨w.heap.size + 1, 5, none⟩ (.int .i64 m.ac)).setCell ⟨w.heap.size + 1, 6, none⟩ (.int .i64 m.al))) := (((((((((((B1.setCell (by show _ ≤ w.heap.size + 1 + 1; omega) _).setCell (by show _ ≤ w.heap.size + 1 + 1; omega) _).setCell (by show _ ≤ w.heap.size + 1 + 1; omega) _).setCell (by show _ ≤ w.heap.size + 1 + 1; omega) _).setCell (by show _ ≤ w.heap.size + 1; omega) _).setCell (by show _ ≤ w.heap.size + 1; omega) _).setCell (by show _ ≤ w.heap.size + 1; omega) _).setCell (by show _ ≤ w.heap.size + 1; omega) _).setCell (by show _ ≤ w.heap.size + 1; omega) _).setCell (by show _ ≤ w.heap.size + 1; omega) _).setCell (by show _ ≤ w.heap.size + 1; omega) _)
 have O3 : FOwn ikEnc 8 80 w.heap.size ((((((((((((w1.setCell ⟨w.heap.size + 1 + 1, 3, none⟩ (.slice (some ⟨g, 0, none⟩) m.lg.length m.lg.length)).setCell ⟨w.heap.size + 1 + 1, 4, none⟩ (.int .i64 m.sd)).setCell ⟨w.heap.size + 1 + 1, 5, none⟩ (.int .i64 m.ac)).setCell ⟨w.heap.size + 1 + 1, 6, none⟩ (.int .i64 m.al)).setCell ⟨w.heap.size + 1, 0, none⟩ (.bool m.up)).setCell ⟨w.heap.size + 1, 1, none⟩ (.int .i64 m.li)).setCell ⟨w.heap.size + 1, 2, none⟩ (.int .i64 m.ep)).setCell ⟨w.heap.size + 1, 3, none⟩ (.slice (some ⟨g, 0, none⟩) m.lg.length m.lg.length)).setCell ⟨w.heap.size + 1, 4, none⟩ (.int .i64 m.sd)).setCell ⟨w.heap.size + 1, 5, none⟩ (.int .i64 m.ac)).setCell ⟨w.heap.size + 1, 6, none⟩ (.int .i64 m.al))) (.slice (some ⟨g, 0, none⟩) m.lg.length m.lg.length) m.lg := O1.keep fun g' e => by
  obtain rfl : g = g' := by simpa [Value.ownBlock] using e
  rw [Below.heap_setCell _ _ _ _ (by show g ≠ w.heap.size + 1; omega), Below.heap_setCell _ _ _ _ (by show g ≠ w.heap.size + 1; omega), Below.heap_setCell _ _ _ _ (by show g ≠ w.heap.size + 1; omega), Below.heap_setCell _ _ _ _ (by show g ≠ w.heap.size + 1; omega), Below.heap_setCell _ _ _ _ (by show g ≠ w.heap.size + 1; omega), Below.heap_setCell _ _ _ _ (by show g ≠ w.heap.size + 1; omega), Below.heap_setCell _ _ _ _ (by show g ≠ w.heap.size + 1; omega), Below.heap_setCell _ _ _ _ (by show g ≠ w.heap.size + 1 + 1; omega), Below.heap_setCell _ _ _ _ (by show g ≠ w.heap.size + 1 + 1; omega), Below.heap_setCell _ _ _ _ (by show g ≠ w.heap.size + 1 + 1; omega), Below.heap_setCell _ _ _ _ (by show g ≠ w.heap.size + 1 + 1; omega)]
 clear F1 F2
 go_wp2
 refine bodyPost_ret (v := .agg #[.bool m.up, .int .i64 m.li, .int .i64 m.ep, .slice (some ⟨g, 0, none⟩) m.lg.length m.lg.length, .int .i64 m.sd, .int .i64 m.ac, .int .i64 m.al]) (by simp [results, Tryz.results48, go_sem, *]) rfl ⟨g, rfl, by omega, by simpa using hgs, O3, B3⟩
theorem miEq (m : Mi) (ad ad' : Option Addr) (cap cap' : Nat) (w : World) (hv : FView ikEnc w ad m.lg) (hv' : FView ikEnc w ad' m.lg) (hl : m.lg.length ≤ 1048576) :
  Calls Tryz.prog 58 #[.agg #[.bool m.up, .int .i64 m.li, .int .i64 m.ep, .slice ad m.lg.length cap, .int .i64 m.sd, .int .i64 m.ac, .int .i64 m.al], .agg #[.bool m.up, .int .i64 m.li, .int .i64 m.ep, .slice ad' m.lg.length cap', .int .i64 m.sd, .int .i64 m.ac, .int .i64 m.al]] w fun e w' => e = .returned (.bool true) ∧ Below w.heap.size w w' := by
 have hB := hv.lt ikEnc_len (by omega)
 have hB' := hv'.lt ikEnc_len (by omega)
 obtain ⟨y, hy⟩ := mk_ ((w.alloc (Obj.cells #[.bool m.up, .int .i64 m.li, .int .i64 m.ep, .slice ad m.lg.length cap, .int .i64 m.sd, .int .i64 m.ac, .int .i64 m.al] 49)).alloc (Obj.cells #[.bool m.up, .int .i64 m.li, .int .i64 m.ep, .slice ad' m.lg.length cap', .int .i64 m.sd, .int .i64 m.ac, .int .i64 m.al] 49))
 have B0 : Below w.heap.size w y := by rw [hy]; exact ((Below.refl _ _).alloc (Nat.le_refl _) _).alloc (by simp) _
 have A0 : MiAt y w.heap.size m (.slice ad m.lg.length cap) := by rw [hy]; constructor <;> simp [go_sem]
 have A1 : MiAt y (w.heap.size + 1) m (.slice ad' m.lg.length cap') := by rw [hy]; constructor <;> simp [go_sem]
 have S1 := A1.lt
 go_enter Tryz.func58, Tryz.ntmps58
 go_wp2_with fail
 go_at_call 34
 rw [← hy]
 clear hy
 refine (ikEqS ad ad' cap cap' m.lg y (hv.below B0 hB) (hv'.below B0 hB') hl).mono ?_
 rintro e w1 ⟨rfl, k1⟩
 have B1 := B0.trans (k1.mono B0.size)
 have A0 := A0.below k1 (by omega)
 have A1 := A1.below k1 (by omega)
 clear k1 B0
 obtain ⟨a0, a1, a2, a3, a4, a5, a6⟩ := A0
 obtain ⟨b0, b1, b2, b3, b4, b5, b6⟩ := A1
 go_wp2
 go_ret
 exact ⟨rfl, B1⟩
set_option maxRecDepth 100000 in
theorem mdRow_open {H : Type} {enc : TypeId × Value → H} {w : World} {n0 : Nat} {v : Value} {x : DataW H × List MemPlace} (hn : DataW.trod enc Tryz.prog w 0 (fun _ => true) true n0 24 [v] = some x) :
  ∃ ad cap, ∃ Bs : List MiD, v = .slice ad Bs.length cap ∧ Bs.length ≤ maxLen ∧ MV w ad Bs ∧ (∀ i, i < Bs.length → (Bs.getD i MiD.nil).m.lg.length ≤ maxLen) ∧ (ad = none → cap = 0) ∧ Bs.length ≤ cap := by
 have hs := Go.Deep.open_slice Tryz.underlying24 hn
 have hcell : ∀ x, [v] = [x] → v = x := fun x h => by simpa using h
 rcases hs with ⟨hcs, _⟩ | ⟨a, len, cap, m, n, D, Pl, hcs, _, hl, hm, hmm, _, hx⟩
 ·
  exact ⟨none, 0, [], hcell _ hcs, by simp, MV.nil, fun i h => absurd h (by simp), fun _ => rfl, Nat.le_refl _⟩
 ·
  simp at hmm
  subst hmm
  have each : ∀ i, i < m → ∃ q : MiD, w.cell? (a.add (i * 7)) = some (.bool q.m.up) ∧ w.cell? (a.add (i * 7 + 1)) = some (.int .i64 q.m.li) ∧ w.cell? (a.add (i * 7 + 2)) = some (.int .i64 q.m.ep) ∧ w.cell? (a.add (i * 7 + 3)) = some (.slice q.ad q.m.lg.length q.cap) ∧ w.cell? (a.add (i * 7 + 4)) = some (.int .i64 q.m.sd) ∧ w.cell? (a.add (i * 7 + 5)) = some (.int .i64 q.m.ac) ∧ w.cell? (a.add (i * 7 + 6)) = some (.int .i64 q.m.al) ∧ FView ikEnc w q.ad q.m.lg ∧ q.m.lg.length ≤ maxLen ∧ (q.ad = none → q.cap = 0) := by
   intro i hi
   obtain ⟨cs', h1, h2⟩ := hx i hi
   rw [(by kernel_rfl : Tryz.prog.cellsOf 66 = 7)] at h1
   obtain ⟨_, hlen, hc⟩ := World.cells?_some h1
   obtain ⟨xs, k, hk, hxy, _, hxl, hf⟩ := DataW.trod_struct Tryz.underlying66 h2
   match xs, hxl, cs', hlen with
   | [y0, y1, y2, y3, y4, y5, y6], _, [c0, c1, c2, c3, c4, c5, c6], _ =>
    have g0 : DataW.trod enc Tryz.prog w 0 (fun _ => true) true k 4 ((List.drop 0 [c0, c1, c2, c3, c4, c5, c6]).take (Tryz.prog.cellsOf 4)) = some y0 := hf 0 _ rfl
    rw [(by kernel_rfl : Tryz.prog.cellsOf 4 = 1)] at g0
    have g1 : DataW.trod enc Tryz.prog w 0 (fun _ => true) true k 3 ((List.drop 1 [c0, c1, c2, c3, c4, c5, c6]).take (Tryz.prog.cellsOf 3)) = some y1 := hf 1 _ rfl
    rw [(by kernel_rfl : Tryz.prog.cellsOf 3 = 1)] at g1
    have g2 : DataW.trod enc Tryz.prog w 0 (fun _ => true) true k 3 ((List.drop 2 [c0, c1, c2, c3, c4, c5, c6]).take (Tryz.prog.cellsOf 3)) = some y2 := hf 2 _ rfl
    rw [(by kernel_rfl : Tryz.prog.cellsOf 3 = 1)] at g2
    have g3 : DataW.trod enc Tryz.prog w 0 (fun _ => true) true k 27 ((List.drop 3 [c0, c1, c2, c3, c4, c5, c6]).take (Tryz.prog.cellsOf 27)) = some y3 := hf 3 _ rfl
    rw [(by kernel_rfl : Tryz.prog.cellsOf 27 = 1)] at g3
    have g4 : DataW.trod enc Tryz.prog w 0 (fun _ => true) true k 3 ((List.drop 4 [c0, c1, c2, c3, c4, c5, c6]).take (Tryz.prog.cellsOf 3)) = some y4 := hf 4 _ rfl
    rw [(by kernel_rfl : Tryz.prog.cellsOf 3 = 1)] at g4
    have g5 : DataW.trod enc Tryz.prog w 0 (fun _ => true) true k 3 ((List.drop 5 [c0, c1, c2, c3, c4, c5, c6]).take (Tryz.prog.cellsOf 3)) = some y5 := hf 5 _ rfl
    rw [(by kernel_rfl : Tryz.prog.cellsOf 3 = 1)] at g5
    have g6 : DataW.trod enc Tryz.prog w 0 (fun _ => true) true k 3 ((List.drop 6 [c0, c1, c2, c3, c4, c5, c6]).take (Tryz.prog.cellsOf 3)) = some y6 := hf 6 _ rfl
    rw [(by kernel_rfl : Tryz.prog.cellsOf 3 = 1)] at g6
    obtain ⟨z0, e0, _⟩ := DataW.trod_bool Tryz.underlying4 g0
    obtain ⟨z1, e1, _, _⟩ := DataW.trod_int Tryz.underlying3 g1
    obtain ⟨z2, e2, _, _⟩ := DataW.trod_int Tryz.underlying3 g2
    obtain ⟨z4, e4, _, _⟩ := DataW.trod_int Tryz.underlying3 g4
    obtain ⟨z5, e5, _, _⟩ := DataW.trod_int Tryz.underlying3 g5
    obtain ⟨z6, e6, _, _⟩ := DataW.trod_int Tryz.underlying3 g6
    simp at e0 e1 e2 e4 e5 e6
    subst e0 e1 e2 e4 e5 e6
    have k0 := hc 0 (by omega)
    have k1 := hc 1 (by omega)
    have k2 := hc 2 (by omega)
    have k3 := hc 3 (by omega)
    have k4 := hc 4 (by omega)
    have k5 := hc 5 (by omega)
    have k6 := hc 6 (by omega)
    rw [Go.Deep.add_add] at k0 k1 k2 k3 k4 k5 k6
    obtain ⟨ad, cp, L, e3, hm, hV, hz⟩ := ikRow_open (by simpa using g3)
    subst e3
    exact ⟨⟨⟨z0, z1, z2, L, z4, z5, z6⟩, ad, cp⟩, by simpa using k0, by simpa using k1, by simpa using k2, by simpa using k3, by simpa using k4, by simpa using k5, by simpa using k6, hV, hm, hz⟩
  haveI : Inhabited MiD := ⟨MiD.nil⟩
  obtain ⟨q, hq⟩ := Go.Deep.choose_lt each
  have hg : ∀ i, i < len → ((List.range len).map q).getD i MiD.nil = q i := fun i hi => by simp [List.getD, hi]
  refine ⟨some a, m, (List.range len).map q, by simpa using hcell _ hcs, by simpa using Nat.le_trans hl hm, ⟨fun hp => ?_, fun i hi => ?_, fun i hi => ?_⟩, fun i hi => ?_, (fun e => by cases e), by simpa using hl⟩
  ·
   simp at hp
   obtain ⟨b, off, spot⟩ := a
   have hspot : spot = none := by simpa [Addr.add] using World.cell?_spot (hq 0 (by omega)).1
   subst hspot
   refine ⟨b, off, rfl, fun j v hv => ?_⟩
   have hjl : j < len * 7 := by
    have := (List.getElem?_eq_some_iff.1 hv).1
    rw [fcells_len mdEnc_len] at this
    simpa using this
   have hi : j / 7 < len := by omega
   have hr : j % 7 < 7 := Nat.mod_lt _ (by omega)
   have e : j = j / 7 * 7 + j % 7 := by omega
   rw [e, fcells_at mdEnc_len MiD.nil _ _ _ (by simpa using hi) hr, hg _ hi] at hv
   obtain ⟨k0, k1, k2, k3, k4, k5, k6, _⟩ := hq (j / 7) (by omega)
   simp only [add_plain] at k0 k1 k2 k3 k4 k5 k6
   rw [e]
   generalize j % 7 = r at hv hr
   have hcase : r = 0 ∨ r = 1 ∨ r = 2 ∨ r = 3 ∨ r = 4 ∨ r = 5 ∨ r = 6 := by omega
   rcases hcase with rfl | rfl | rfl | rfl | rfl | rfl | rfl
   ·
    cases hv; simpa [Nat.add_assoc] using k0
   ·
    cases hv; simpa [Nat.add_assoc] using k1
   ·
    cases hv; simpa [Nat.add_assoc] using k2
   ·
    cases hv; simpa [Nat.add_assoc] using k3
   ·
    cases hv; simpa [Nat.add_assoc] using k4
   ·
    cases hv; simpa [Nat.add_assoc] using k5
   ·
    cases hv; simpa [Nat.add_assoc] using k6
  ·
   simp at hi
   rw [hg i hi]
   exact (hq i (by omega)).2.2.2.2.2.2.2.1
  ·
   simp at hi
   rw [hg i hi]
   exact (hq i (by omega)).2.2.2.2.2.2.2.2.2
  ·
   simp at hi
   rw [hg i hi]
   exact (hq i (by omega)).2.2.2.2.2.2.2.2.1
def lToM (Bs : List MiD) : Nat → Nat
 | 0 => 0
 | j + 1 => lToM Bs j + (Bs.getD j MiD.nil).m.lg.length
theorem lToM_mono (Bs : List MiD) {i j : Nat} (h : i ≤ j) : lToM Bs i ≤ lToM Bs j := by
 induction h with
 | refl => exact Nat.le_refl _
 | step _ ih => exact Nat.le_trans ih (by show _ ≤ lToM Bs _ + _; omega)
theorem getLM_le (Bs : List MiD) {k : Nat} (h : k < Bs.length) : (Bs.getD k MiD.nil).m.lg.length ≤ lToM Bs Bs.length :=
 Nat.le_trans (by show _ ≤ lToM Bs k + (Bs.getD k MiD.nil).m.lg.length; omega) (lToM_mono Bs (i := k + 1) h)
set_option maxHeartbeats 1000000 in
theorem mdSz (ad : Option Addr) (cap : Nat) (Bs : List MiD) (l : Int) (w : World) (hv : MV w ad Bs) (hl0 : 0 ≤ l) (hl1 : l ≤ 1048576) (hm : Bs.length ≤ maxLen) (hms : ∀ i, i < Bs.length → (Bs.getD i MiD.nil).m.lg.length ≤ maxLen) :
  Calls Tryz.prog 12 #[.slice ad Bs.length cap, .int .i64 l] w fun e w' => e = .returned (.int .i64 (if ((Bs.length + lToM Bs Bs.length : Nat) : Int) ≤ l then l - ((Bs.length + lToM Bs Bs.length : Nat) : Int) else -1)) ∧ Below w.heap.size w w' := by
 unfold maxLen at hm
 by_cases h0 : (Bs.length : Int) ≤ l
 rotate_left
 ·
  have h1 : l - (Bs.length : Int) < 0 := by omega
  have hr : Hid ((if ((Bs.length + lToM Bs Bs.length : Nat) : Int) ≤ l then l - ((Bs.length + lToM Bs Bs.length : Nat) : Int) else -1) = (-1 : Int)) := if_neg (by omega)
  rw [hr.out]
  clear hr
  go_enter Tryz.func12, Tryz.ntmps12
  go_wp2
  go_ret
  exact ⟨rfl, Below.refl _ _⟩
 ·
  have h1 : 0 ≤ l - (Bs.length : Int) := by omega
  have h1' : ¬ l - (Bs.length : Int) < 0 := by omega
  obtain ⟨R, hR⟩ : ∃ R, Hid ((if ((Bs.length + lToM Bs Bs.length : Nat) : Int) ≤ l then l - ((Bs.length + lToM Bs Bs.length : Nat) : Int) else -1) = R) := ⟨_, rfl⟩
  rw [hR.out]
  go_enter Tryz.func12, Tryz.ntmps12
  go_wp2
  go_loopw [1, 5] (fun q i wr => ∃ (k : Nat) (x : Int), k ≤ Bs.length ∧ i = .int .i64 k ∧ q = .int .i64 x ∧ Hid (x = l - (Bs.length : Int) - (lToM Bs k : Int)) ∧ 0 ≤ x ∧ x ≤ 1048576 ∧ Below w.heap.size w wr) (fun _ i _ => Bs.length - (intOf i).toNat)
  case atStart => exact ⟨0, l - (Bs.length : Int), Nat.zero_le _, rfl, rfl, by unfold Hid; simp [lToM], h1, by omega, Below.refl _ _⟩
  case round =>
   obtain ⟨k, x, hk, rfl, rfl, hx, hx0, hx1, hb⟩ := hrel
   clear h0 h1 h1'
   by_cases hlt : k < Bs.length
   ·
    obtain ⟨b, off, rfl⟩ := hv.ad_ (by omega)
    have hck := (hv.below hb (Nat.le_refl _)).at_ hlt
    have hmk := hms k hlt
    have hnx : Hid (lToM Bs (k + 1) = lToM Bs k + (Bs.getD k MiD.nil).m.lg.length) := rfl
    have hmo : Hid (lToM Bs (k + 1) ≤ lToM Bs Bs.length) := lToM_mono Bs (by omega)
    obtain ⟨m, hh⟩ : ∃ m, Bs.getD k MiD.nil = m := ⟨_, rfl⟩
    rw [hh] at hck hmk hnx
    obtain ⟨c0, c1, c2, c3, c4, c5, c6⟩ := hck
    clear hv hms hh
    go_wp2_with fail
    go_at_call 40
    refine (miSz m.m m.ad m.cap x wr hx0 hx1 hmk).mono ?_
    rintro e w2 ⟨rfl, k2⟩
    have b2 := hb.trans (k2.mono hb.size)
    by_cases hy : (m.m.lg.length : Int) ≤ x
    ·
     rw [if_pos hy]
     have hz : 0 ≤ x - (m.m.lg.length : Int) := by omega
     have hz' : ¬ x - (m.m.lg.length : Int) < 0 := by omega
     go_wp2
     go_roundw
     case rel => exact ⟨k + 1, x - (m.m.lg.length : Int), by omega, by go_num, rfl, by have := hx.out; have := hnx.out; unfold Hid; omega, hz, by omega, b2⟩
     case measure => simp [intOf]; omega
    ·
     rw [if_neg hy]
     go_wp2
     go_ret
     refine ⟨?_, b2⟩
     have h1 := hx.out
     have h2 := hnx.out
     have h3 := hmo.out
     rw [← hR.out, if_neg (by omega)]
     rfl
   ·
    obtain rfl : k = Bs.length := by omega
    go_wp2
    go_ret
    refine ⟨?_, hb⟩
    have h1 := hx.out
    have h2 : x = l - ((Bs.length + lToM Bs Bs.length : Nat) : Int) := by omega
    rw [← hR.out, if_pos (by omega), ← h2]
    rfl
set_option maxRecDepth 100000 in
theorem wiRow_open {H : Type} {enc : TypeId × Value → H} {w : World} {n0 : Nat} {v : Value} {x : DataW H × List MemPlace} (hn : DataW.trod enc Tryz.prog w 0 (fun _ => true) true n0 25 [v] = some x) :
  ∃ ad cap L, v = .slice ad L.length cap ∧ L.length ≤ maxLen ∧ FView wiEnc w ad L ∧ (ad = none → cap = 0) := by
 have hs := Go.Deep.open_slice Tryz.underlying25 hn
 have hcell : ∀ x, [v] = [x] → v = x := fun x h => by simpa using h
 rcases hs with ⟨hcs, _⟩ | ⟨a, len, cap, m, n, D, Pl, hcs, _, hl, hm, hmm, _, hx⟩
 ·
  exact ⟨none, 0, [], hcell _ hcs, by simp, FView.nil, fun _ => rfl⟩
 ·
  simp at hmm
  subst hmm
  have each : ∀ i, i < m → ∃ q : Wi, w.cell? (a.add (i * 12)) = some (.int .i64 q.fr) ∧ w.cell? (a.add (i * 12 + 1)) = some (.bool q.ak) ∧ w.cell? (a.add (i * 12 + 2)) = some (.int .i64 q.li) ∧ w.cell? (a.add (i * 12 + 3)) = some (.int .i64 q.n) ∧ w.cell? (a.add (i * 12 + 4)) = some (.int .i64 q.x.k) ∧ w.cell? (a.add (i * 12 + 5)) = some (.int .i64 q.x.q) ∧ w.cell? (a.add (i * 12 + 6)) = some (.int .i64 q.x.r) ∧ w.cell? (a.add (i * 12 + 7)) = some (.int .i64 q.x.c) ∧ w.cell? (a.add (i * 12 + 8)) = some (.int .i64 q.x.b) ∧ w.cell? (a.add (i * 12 + 9)) = some (.int .i64 q.x.p) ∧ w.cell? (a.add (i * 12 + 10)) = some (.int .i64 q.x.h) ∧ w.cell? (a.add (i * 12 + 11)) = some (.bool q.x.up) := by
   intro i hi
   obtain ⟨cs', h1, h2⟩ := hx i hi
   rw [(by kernel_rfl : Tryz.prog.cellsOf 89 = 12)] at h1
   obtain ⟨_, hlen, hc⟩ := World.cells?_some h1
   obtain ⟨xs, k, hk, hxy, _, hxl, hf⟩ := DataW.trod_struct Tryz.underlying89 h2
   match xs, hxl, cs', hlen with
   | [y0, y1, y2, y3, y4], _, [c0, c1, c2, c3, c4, c5, c6, c7, c8, c9, c10, c11], _ =>
    have g0 : DataW.trod enc Tryz.prog w 0 (fun _ => true) true k 3 ((List.drop 0 [c0, c1, c2, c3, c4, c5, c6, c7, c8, c9, c10, c11]).take (Tryz.prog.cellsOf 3)) = some y0 := hf 0 _ rfl
    rw [(by kernel_rfl : Tryz.prog.cellsOf 3 = 1)] at g0
    have g1 : DataW.trod enc Tryz.prog w 0 (fun _ => true) true k 4 ((List.drop 1 [c0, c1, c2, c3, c4, c5, c6, c7, c8, c9, c10, c11]).take (Tryz.prog.cellsOf 4)) = some y1 := hf 1 _ rfl
    rw [(by kernel_rfl : Tryz.prog.cellsOf 4 = 1)] at g1
    have g2 : DataW.trod enc Tryz.prog w 0 (fun _ => true) true k 3 ((List.drop 2 [c0, c1, c2, c3, c4, c5, c6, c7, c8, c9, c10, c11]).take (Tryz.prog.cellsOf 3)) = some y2 := hf 2 _ rfl
    rw [(by kernel_rfl : Tryz.prog.cellsOf 3 = 1)] at g2
    have g3 : DataW.trod enc Tryz.prog w 0 (fun _ => true) true k 3 ((List.drop 3 [c0, c1, c2, c3, c4, c5, c6, c7, c8, c9, c10, c11]).take (Tryz.prog.cellsOf 3)) = some y3 := hf 3 _ rfl
    rw [(by kernel_rfl : Tryz.prog.cellsOf 3 = 1)] at g3
    have g4 : DataW.trod enc Tryz.prog w 0 (fun _ => true) true k 87 ((List.drop 4 [c0, c1, c2, c3, c4, c5, c6, c7, c8, c9, c10, c11]).take (Tryz.prog.cellsOf 87)) = some y4 := hf 4 _ rfl
    rw [(by kernel_rfl : Tryz.prog.cellsOf 87 = 8)] at g4
    obtain ⟨us4_, k4_, hk4_, hxy4_, _, hul4_, hg4_⟩ := DataW.trod_struct Tryz.underlying87 g4
    match us4_, hul4_ with
    | [u4_0, u4_1, u4_2, u4_3, u4_4], _ =>
     have g4_0 : DataW.trod enc Tryz.prog w 0 (fun _ => true) true k4_ 3 ((List.drop 0 [c4, c5, c6, c7, c8, c9, c10, c11]).take (Tryz.prog.cellsOf 3)) = some u4_0 := hg4_ 0 _ rfl
     rw [(by kernel_rfl : Tryz.prog.cellsOf 3 = 1)] at g4_0
     have g4_1 : DataW.trod enc Tryz.prog w 0 (fun _ => true) true k4_ 3 ((List.drop 1 [c4, c5, c6, c7, c8, c9, c10, c11]).take (Tryz.prog.cellsOf 3)) = some u4_1 := hg4_ 1 _ rfl
     rw [(by kernel_rfl : Tryz.prog.cellsOf 3 = 1)] at g4_1
     have g4_2 : DataW.trod enc Tryz.prog w 0 (fun _ => true) true k4_ 85 ((List.drop 2 [c4, c5, c6, c7, c8, c9, c10, c11]).take (Tryz.prog.cellsOf 85)) = some u4_2 := hg4_ 2 _ rfl
     rw [(by kernel_rfl : Tryz.prog.cellsOf 85 = 4)] at g4_2
     have g4_3 : DataW.trod enc Tryz.prog w 0 (fun _ => true) true k4_ 3 ((List.drop 6 [c4, c5, c6, c7, c8, c9, c10, c11]).take (Tryz.prog.cellsOf 3)) = some u4_3 := hg4_ 3 _ rfl
     rw [(by kernel_rfl : Tryz.prog.cellsOf 3 = 1)] at g4_3
     have g4_4 : DataW.trod enc Tryz.prog w 0 (fun _ => true) true k4_ 4 ((List.drop 7 [c4, c5, c6, c7, c8, c9, c10, c11]).take (Tryz.prog.cellsOf 4)) = some u4_4 := hg4_ 4 _ rfl
     rw [(by kernel_rfl : Tryz.prog.cellsOf 4 = 1)] at g4_4
     obtain ⟨us4_2_, k4_2_, hk4_2_, hxy4_2_, _, hul4_2_, hg4_2_⟩ := DataW.trod_struct Tryz.underlying85 g4_2
     match us4_2_, hul4_2_ with
     | [u4_2_0, u4_2_1, u4_2_2, u4_2_3], _ =>
      have g4_2_0 : DataW.trod enc Tryz.prog w 0 (fun _ => true) true k4_2_ 3 ((List.drop 0 [c6, c7, c8, c9]).take (Tryz.prog.cellsOf 3)) = some u4_2_0 := hg4_2_ 0 _ rfl
      rw [(by kernel_rfl : Tryz.prog.cellsOf 3 = 1)] at g4_2_0
      have g4_2_1 : DataW.trod enc Tryz.prog w 0 (fun _ => true) true k4_2_ 3 ((List.drop 1 [c6, c7, c8, c9]).take (Tryz.prog.cellsOf 3)) = some u4_2_1 := hg4_2_ 1 _ rfl
      rw [(by kernel_rfl : Tryz.prog.cellsOf 3 = 1)] at g4_2_1
      have g4_2_2 : DataW.trod enc Tryz.prog w 0 (fun _ => true) true k4_2_ 3 ((List.drop 2 [c6, c7, c8, c9]).take (Tryz.prog.cellsOf 3)) = some u4_2_2 := hg4_2_ 2 _ rfl
      rw [(by kernel_rfl : Tryz.prog.cellsOf 3 = 1)] at g4_2_2
      have g4_2_3 : DataW.trod enc Tryz.prog w 0 (fun _ => true) true k4_2_ 3 ((List.drop 3 [c6, c7, c8, c9]).take (Tryz.prog.cellsOf 3)) = some u4_2_3 := hg4_2_ 3 _ rfl
      rw [(by kernel_rfl : Tryz.prog.cellsOf 3 = 1)] at g4_2_3
      obtain ⟨z0, e0, _, _⟩ := DataW.trod_int Tryz.underlying3 g0
      obtain ⟨z1, e1, _⟩ := DataW.trod_bool Tryz.underlying4 g1
      obtain ⟨z2, e2, _, _⟩ := DataW.trod_int Tryz.underlying3 g2
      obtain ⟨z3, e3, _, _⟩ := DataW.trod_int Tryz.underlying3 g3
      obtain ⟨z4, e4, _, _⟩ := DataW.trod_int Tryz.underlying3 g4_0
      obtain ⟨z5, e5, _, _⟩ := DataW.trod_int Tryz.underlying3 g4_1
      obtain ⟨z6, e6, _, _⟩ := DataW.trod_int Tryz.underlying3 g4_2_0
      obtain ⟨z7, e7, _, _⟩ := DataW.trod_int Tryz.underlying3 g4_2_1
      obtain ⟨z8, e8, _, _⟩ := DataW.trod_int Tryz.underlying3 g4_2_2
      obtain ⟨z9, e9, _, _⟩ := DataW.trod_int Tryz.underlying3 g4_2_3
      obtain ⟨z10, e10, _, _⟩ := DataW.trod_int Tryz.underlying3 g4_3
      obtain ⟨z11, e11, _⟩ := DataW.trod_bool Tryz.underlying4 g4_4
      simp at e0 e1 e2 e3 e4 e5 e6 e7 e8 e9 e10 e11
      subst e0 e1 e2 e3 e4 e5 e6 e7 e8 e9 e10 e11
      have k_0 := hc 0 (by omega)
      have k_1 := hc 1 (by omega)
      have k_2 := hc 2 (by omega)
      have k_3 := hc 3 (by omega)
      have k_4 := hc 4 (by omega)
      have k_5 := hc 5 (by omega)
      have k_6 := hc 6 (by omega)
      have k_7 := hc 7 (by omega)
      have k_8 := hc 8 (by omega)
      have k_9 := hc 9 (by omega)
      have k_10 := hc 10 (by omega)
      have k_11 := hc 11 (by omega)
      rw [Go.Deep.add_add] at k_0 k_1 k_2 k_3 k_4 k_5 k_6 k_7 k_8 k_9 k_10 k_11
      exact ⟨⟨z0, z1, z2, z3, z4, z5, z6, z7, z8, z9, z10, z11⟩, by simpa using k_0, by simpa using k_1, by simpa using k_2, by simpa using k_3, by simpa using k_4, by simpa using k_5, by simpa using k_6, by simpa using k_7, by simpa using k_8, by simpa using k_9, by simpa using k_10, by simpa using k_11⟩
  haveI : Inhabited Wi := ⟨Wi.nil⟩
  obtain ⟨q, hq⟩ := Go.Deep.choose_lt each
  refine ⟨some a, m, (List.range len).map q, by simpa using hcell _ hcs, by simpa using Nat.le_trans hl hm, fun hp => ?_, fun e => by cases e⟩
  simp at hp
  obtain ⟨b, off, spot⟩ := a
  have hspot : spot = none := by simpa [Addr.add] using World.cell?_spot (hq 0 (by omega)).1
  subst hspot
  refine ⟨b, off, rfl, fun j v hv => ?_⟩
  have hjl : j < len * 12 := by
   have := (List.getElem?_eq_some_iff.1 hv).1
   rw [fcells_len wiEnc_len] at this
   simpa using this
  have hi : j / 12 < len := by omega
  have hr : j % 12 < 12 := Nat.mod_lt _ (by omega)
  have e : j = j / 12 * 12 + j % 12 := by omega
  rw [e, fcells_at wiEnc_len Wi.nil _ _ _ (by simpa using hi) hr, show ((List.range len).map q).getD (j / 12) Wi.nil = q (j / 12) by simp [List.getD, hi]] at hv
  obtain ⟨k0, k1, k2, k3, k4, k5, k6, k7, k8, k9, k10, k11⟩ := hq (j / 12) (by omega)
  simp only [add_plain] at k0 k1 k2 k3 k4 k5 k6 k7 k8 k9 k10 k11
  rw [e]
  generalize j % 12 = r at hv hr
  have hcase : r = 0 ∨ r = 1 ∨ r = 2 ∨ r = 3 ∨ r = 4 ∨ r = 5 ∨ r = 6 ∨ r = 7 ∨ r = 8 ∨ r = 9 ∨ r = 10 ∨ r = 11 := by omega
  rcases hcase with rfl | rfl | rfl | rfl | rfl | rfl | rfl | rfl | rfl | rfl | rfl | rfl
  ·
   cases hv; simpa [Nat.add_assoc] using k0
  ·
   cases hv; simpa [Nat.add_assoc] using k1
  ·
   cases hv; simpa [Nat.add_assoc] using k2
  ·
   cases hv; simpa [Nat.add_assoc] using k3
  ·
   cases hv; simpa [Nat.add_assoc] using k4
  ·
   cases hv; simpa [Nat.add_assoc] using k5
  ·
   cases hv; simpa [Nat.add_assoc] using k6
  ·
   cases hv; simpa [Nat.add_assoc] using k7
  ·
   cases hv; simpa [Nat.add_assoc] using k8
  ·
   cases hv; simpa [Nat.add_assoc] using k9
  ·
   cases hv; simpa [Nat.add_assoc] using k10
  ·
   cases hv; simpa [Nat.add_assoc] using k11
theorem wiSz (ad : Option Addr) (len cap : Nat) (left : Int) (w : World) (h0 : 0 ≤ left) (h1 : left ≤ 1048576) (hm : len ≤ maxLen) :
  Calls Tryz.prog 13 #[.slice ad len cap, .int .i64 left] w fun e w' => e = .returned (.int .i64 (if (len : Int) ≤ left then left - len else -1)) ∧ w' = w := by
 unfold maxLen at hm
 by_cases h : (len : Int) ≤ left
 ·
  rw [if_pos h]
  have h2 : 0 ≤ left - (len : Int) := by omega
  go_enter Tryz.func13, Tryz.ntmps13
  go_wp2
  go_ret
  exact ⟨rfl, rfl⟩
 ·
  rw [if_neg h]
  have h2 : left - (len : Int) < 0 := by omega
  go_enter Tryz.func13, Tryz.ntmps13
  go_wp2
  go_ret
  exact ⟨rfl, rfl⟩
theorem wiInfo2 : (Tryz.prog.info? 83).map (fun i => (i.zero, i.size, i.bytes)) = some (some (.agg #[.int .i64 0, .bool false, .int .i64 0, .int .i64 0, .int .i64 0, .int .i64 0, .int .i64 0, .int .i64 0, .int .i64 0, .int .i64 0, .int .i64 0, .bool false]), 12, 96) := by kernel_rfl
set_option maxHeartbeats 2000000 in
theorem wiToS (ad : Option Addr) (cap : Nat) (L : List Wi) (w : World) (hv : FView wiEnc w ad L) (hl : L.length ≤ 1048576) :
  Calls Tryz.prog 23 #[.slice ad L.length cap] w fun e w' => e = .returned (.slice (some ⟨w.heap.size, 0, none⟩) L.length L.length) ∧ FOwn wiEnc 12 83 w.heap.size w' (.slice (some ⟨w.heap.size, 0, none⟩) L.length L.length) L ∧ Below w.heap.size w w' := by
 obtain ⟨i0, hi, hz0, hz1, hz2⟩ := info_parts wiInfo2
 have hB := hv.lt wiEnc_len (by omega)
 go_enter Tryz.func23, Tryz.ntmps23
 go_wp2_with (first | (refine wpList_make_full _ rfl _ _ 35 rfl w.heap.size 83 i0 (.agg #[.int .i64 0, .bool false, .int .i64 0, .int .i64 0, .int .i64 0, .int .i64 0, .int .i64 0, .int .i64 0, .int .i64 0, .int .i64 0, .int .i64 0, .bool false]) 12 Tryz.underlying35 hi hz0 hz1 .i64 .i64 _ _ L.length rfl rfl rfl rfl ?c1 ?c2 ?c3 ?_))
 case c1 => rw [hz2]; omega
 case c2 => unfold maxLen; omega
 case c3 => exact Nat.le_refl _
 intro w1 hown hgrow
 have F0 : FFill wiEnc 12 83 w.heap.size w1 w.heap.size L 0 := FFill.start hown
 have B0 : Below w.heap.size w w1 := (Below.refl _ _).grown hgrow (Nat.le_refl _) (by simp)
 clear hown hgrow
 go_wp2
 go_loopw [4] (fun i wr => ∃ k : Nat, k ≤ L.length ∧ i = .int .i64 k ∧ FFill wiEnc 12 83 w.heap.size wr w.heap.size L k ∧ Below w.heap.size w wr) (fun i _ => L.length - (intOf i).toNat)
 case atStart => exact ⟨0, Nat.zero_le _, rfl, F0, B0⟩
 case round =>
  obtain ⟨k, hk, rfl, F, B⟩ := hrel
  clear F0 B0
  by_cases hlt : k < L.length
  ·
   obtain ⟨b, off, rfl, _⟩ := hv (by omega)
   obtain ⟨h, hh⟩ : ∃ h, L.getD k Wi.nil = h := ⟨_, rfl⟩
   have hck : WiAtO wr b (off + k * 12) h := by
    rw [← hh]
    exact wiAtO_of ((hv.below B hB).at_ wiEnc_len Wi.nil hlt)
   obtain ⟨c0, c1, c2, c3, c4, c5, c6, c7, c8, c9, c10, c11⟩ := hck
   have hsz := F.lt
   go_wp2_with fail
   go_at_call 49
   refine (toWiI h wr).mono ?_
   rintro e w2 ⟨rfl, k2⟩
   have G := F.keep (k2.block _ hsz.2)
   have B2 := B.trans (k2.mono (Nat.le_of_lt hsz.2))
   obtain ⟨u0, hu0⟩ := G.cell (k * 12) (by omega)
   obtain ⟨u1, hu1⟩ := G.cell (k * 12 + 1) (by omega)
   obtain ⟨u2, hu2⟩ := G.cell (k * 12 + 2) (by omega)
   obtain ⟨u3, hu3⟩ := G.cell (k * 12 + 3) (by omega)
   obtain ⟨u4, hu4⟩ := G.cell (k * 12 + 4) (by omega)
   obtain ⟨u5, hu5⟩ := G.cell (k * 12 + 5) (by omega)
   obtain ⟨u6, hu6⟩ := G.cell (k * 12 + 6) (by omega)
   obtain ⟨u7, hu7⟩ := G.cell (k * 12 + 7) (by omega)
   obtain ⟨u8, hu8⟩ := G.cell (k * 12 + 8) (by omega)
   obtain ⟨u9, hu9⟩ := G.cell (k * 12 + 9) (by omega)
   obtain ⟨u10, hu10⟩ := G.cell (k * 12 + 10) (by omega)
   obtain ⟨u11, hu11⟩ := G.cell (k * 12 + 11) (by omega)
   have f0 := G.frozen (k * 12)
   have f1 := G.frozen (k * 12 + 1)
   have f2 := G.frozen (k * 12 + 2)
   have f3 := G.frozen (k * 12 + 3)
   have f4 := G.frozen (k * 12 + 4)
   have f5 := G.frozen (k * 12 + 5)
   have f6 := G.frozen (k * 12 + 6)
   have f7 := G.frozen (k * 12 + 7)
   have f8 := G.frozen (k * 12 + 8)
   have f9 := G.frozen (k * 12 + 9)
   have f10 := G.frozen (k * 12 + 10)
   have f11 := G.frozen (k * 12 + 11)
   have G1 := G.step wiEnc_len Wi.nil hlt
   have B3 := below_putAll (Nat.le_refl _) (wiEnc h) (k * 12) B2
   rw [hh, wiPut] at G1
   rw [wiPut] at B3
   clear F G B B2 hh hsz
   go_wp2
   go_roundw
   case rel => exact ⟨k + 1, by omega, by go_num, G1, B3⟩
   case measure => simp [intOf]; omega
  ·
   obtain rfl : k = L.length := by omega
   go_wp2
   go_ret
   exact ⟨rfl, F.done wiEnc_len, B⟩
theorem FView.ofB {w : World} {ad : Option Addr} {L : List Bool} (h : ViewB w ad L.length (fun i => L.getD i false)) : FView boEnc w ad L := fun hp => by
 obtain ⟨b, off, e, hc⟩ := h hp
 refine ⟨b, off, e, fun j v hv => ?_⟩
 have hj : j < L.length := by
  have := (List.getElem?_eq_some_iff.1 hv).1
  rw [fcells_len boEnc_len] at this
  omega
 have e2 : (fcells boEnc L)[j]? = some (.bool (L.getD j false)) := by
  have := fcells_at boEnc_len false L j 0 hj (by omega)
  rw [Nat.mul_one, Nat.add_zero] at this
  exact this
 rw [e2] at hv
 cases hv
 exact hc j hj
set_option maxRecDepth 100000 in
theorem boRow_open {H : Type} {enc : TypeId × Value → H} {w : World} {n0 : Nat} {v : Value} {x : DataW H × List MemPlace} (hn : DataW.trod enc Tryz.prog w 0 (fun _ => true) true n0 26 [v] = some x) :
  ∃ ad cap L, v = .slice ad L.length cap ∧ L.length ≤ maxLen ∧ FView boEnc w ad L ∧ (ad = none → cap = 0) := by
 rcases Go.Deep.open_bools Tryz.underlying26 Tryz.underlying4 (by kernel_rfl) hn with ⟨hcs, _⟩ | ⟨a, len, cap, B, hcs, _, hl, hm, _, hc⟩
 ·
  exact ⟨none, 0, [], by simpa using hcs, by simp, FView.nil, fun _ => rfl⟩
 ·
  refine ⟨some a, cap, (List.range len).map B, by simpa using hcs, by simpa using Nat.le_trans hl hm, FView.ofB (fun hp => ?_), fun e => by cases e⟩
  simp at hp
  obtain ⟨b, off, spot⟩ := a
  have hspot : spot = none := by simpa [Addr.add] using World.cell?_spot (hc 0 (by omega))
  subst hspot
  refine ⟨b, off, rfl, fun i hi => ?_⟩
  simp at hi
  have := hc i (by omega)
  rw [add_plain] at this
  rw [this]
  simp [List.getD, hi]
theorem boPut (w : World) (g o : Nat) (x : Bool) : putAll w g o (boEnc x) = w.setCell ⟨g, o, none⟩ (.bool x) := rfl
set_option maxHeartbeats 1000000 in
theorem boToS (ad : Option Addr) (cap : Nat) (L : List Bool) (w : World) (hv : FView boEnc w ad L) (hl : L.length ≤ 1048576) :
  Calls Tryz.prog 24 #[.slice ad L.length cap] w fun e w' => e = .returned (.slice (some ⟨w.heap.size, 0, none⟩) L.length L.length) ∧ FOwn boEnc 1 4 w.heap.size w' (.slice (some ⟨w.heap.size, 0, none⟩) L.length L.length) L ∧ Below w.heap.size w w' := by
 obtain ⟨i0, hi, hz0, hz1, hz2⟩ := info_parts boInfo
 have hB := hv.lt boEnc_len (by omega)
 go_enter Tryz.func24, Tryz.ntmps24
 go_wp2_with (first | (refine wpList_make_full _ rfl _ _ 26 rfl w.heap.size 4 i0 (.bool false) 1 Tryz.underlying26 hi hz0 hz1 .i64 .i64 _ _ L.length rfl rfl rfl rfl ?c1 ?c2 ?c3 ?_))
 case c1 => rw [hz2]; omega
 case c2 => unfold maxLen; omega
 case c3 => exact Nat.le_refl _
 intro w1 hown hgrow
 have F0 : FFill boEnc 1 4 w.heap.size w1 w.heap.size L 0 := FFill.start hown
 have B0 : Below w.heap.size w w1 := (Below.refl _ _).grown hgrow (Nat.le_refl _) (by simp)
 clear hown hgrow
 go_wp2
 go_loopw [4] (fun i wr => ∃ k : Nat, k ≤ L.length ∧ i = .int .i64 k ∧ FFill boEnc 1 4 w.heap.size wr w.heap.size L k ∧ Below w.heap.size w wr) (fun i _ => L.length - (intOf i).toNat)
 case atStart => exact ⟨0, Nat.zero_le _, rfl, F0, B0⟩
 case round =>
  obtain ⟨k, hk, rfl, F, B⟩ := hrel
  clear F0 B0
  by_cases hlt : k < L.length
  ·
   obtain ⟨b, off, rfl, _⟩ := hv (by omega)
   obtain ⟨h, hh⟩ : ∃ h, L.getD k false = h := ⟨_, rfl⟩
   have hck : wr.cell? ⟨b, off + k, none⟩ = some (.bool h) := by
    have := (hv.below B hB).at_ boEnc_len false hlt 0 _ rfl
    rw [hh] at this
    simpa using this
   have hsz := F.lt
   obtain ⟨u0, hu0⟩ := F.cell (k * 1) (by omega)
   have f0 := F.frozen (k * 1)
   have G1 := F.step boEnc_len false hlt
   have B3 := below_putAll (Nat.le_refl _) (boEnc h) (k * 1) B
   rw [hh, boPut] at G1
   rw [boPut] at B3
   rw [Nat.mul_one] at hu0 f0 G1 B3
   clear F B hh hsz
   go_wp2
   go_roundw
   case rel => exact ⟨k + 1, by omega, by go_num, G1, B3⟩
   case measure => simp [intOf]; omega
  ·
   obtain rfl : k = L.length := by omega
   go_wp2
   go_ret
   exact ⟨rfl, F.done boEnc_len, B⟩
structure BxIn (w : World) (x : BxD) : Prop where
 t : MV w x.aT x.two
 tm : x.two.length ≤ maxLen
 ts : ∀ i, i < x.two.length → (x.two.getD i MiD.nil).m.lg.length ≤ maxLen
 tc : x.two.length ≤ x.cT
 tn : x.aT = none → x.cT = 0
 n : FView wiEnc w x.aN x.net
 nm : x.net.length ≤ maxLen
 nn : x.aN = none → x.cN = 0
 g : FView boEnc w x.aG x.ga
 gm : x.ga.length ≤ maxLen
 gn : x.aG = none → x.cG = 0
 i : FView ikEnc w x.aL x.ln
 im : x.ln.length ≤ maxLen
 ic : x.aL = none → x.cL = 0
 s : FView ouEnc w x.aS x.sd
 sm : x.sd.length ≤ maxLen
 sn : x.aS = none → x.cS = 0
set_option maxRecDepth 100000 in
theorem bxIn_open {H : Type} {enc : TypeId × Value → H} {w : World} {r : Reach} {b0 : Nat} {v : Value} {d : DataW H} {p : List MemPlace} (hv : Value.okWide Tryz.prog w r b0 30 v) (h : DataW.Trod enc Tryz.prog w 0 (fun _ => true) true 30 v d p) :
  ∃ x : BxD, v = .agg #[.int .i64 x.id, .int .i64 x.po, .int .i64 x.rg.ep, .int .i64 x.rg.ow, .int .i64 x.rg.pa, .slice x.aT x.two.length x.cT, .slice x.aN x.net.length x.cN, .slice x.aG x.ga.length x.cG, .slice x.aL x.ln.length x.cL, .slice x.aS x.sd.length x.cS] ∧ BxIn w x := by
 obtain ⟨cs, rfl, hsz⟩ := okWide_struct Tryz.underlying30 hv
 rw [(by kernel_rfl : Tryz.prog.cellsOf 30 = 10)] at hsz
 obtain ⟨cs⟩ := cs
 obtain ⟨fuel, hf0⟩ := h
 simp only [Value.cells] at hf0
 have hlen : cs.length = 10 := by simpa using hsz
 obtain ⟨xs, k, hk, hxy, _, hxl, hf⟩ := DataW.trod_struct Tryz.underlying30 hf0
 match xs, hxl, cs, hlen with
 | [y0, y1, y2, y3, y4, y5, y6, y7], _, [c0, c1, c2, c3, c4, c5, c6, c7, c8, c9], _ =>
  have g0 : DataW.trod enc Tryz.prog w 0 (fun _ => true) true k 3 ((List.drop 0 [c0, c1, c2, c3, c4, c5, c6, c7, c8, c9]).take (Tryz.prog.cellsOf 3)) = some y0 := hf 0 _ rfl
  rw [(by kernel_rfl : Tryz.prog.cellsOf 3 = 1)] at g0
  have g1 : DataW.trod enc Tryz.prog w 0 (fun _ => true) true k 3 ((List.drop 1 [c0, c1, c2, c3, c4, c5, c6, c7, c8, c9]).take (Tryz.prog.cellsOf 3)) = some y1 := hf 1 _ rfl
  rw [(by kernel_rfl : Tryz.prog.cellsOf 3 = 1)] at g1
  have g2 : DataW.trod enc Tryz.prog w 0 (fun _ => true) true k 23 ((List.drop 2 [c0, c1, c2, c3, c4, c5, c6, c7, c8, c9]).take (Tryz.prog.cellsOf 23)) = some y2 := hf 2 _ rfl
  rw [(by kernel_rfl : Tryz.prog.cellsOf 23 = 3)] at g2
  have g3 : DataW.trod enc Tryz.prog w 0 (fun _ => true) true k 24 ((List.drop 5 [c0, c1, c2, c3, c4, c5, c6, c7, c8, c9]).take (Tryz.prog.cellsOf 24)) = some y3 := hf 3 _ rfl
  rw [(by kernel_rfl : Tryz.prog.cellsOf 24 = 1)] at g3
  have g4 : DataW.trod enc Tryz.prog w 0 (fun _ => true) true k 25 ((List.drop 6 [c0, c1, c2, c3, c4, c5, c6, c7, c8, c9]).take (Tryz.prog.cellsOf 25)) = some y4 := hf 4 _ rfl
  rw [(by kernel_rfl : Tryz.prog.cellsOf 25 = 1)] at g4
  have g5 : DataW.trod enc Tryz.prog w 0 (fun _ => true) true k 26 ((List.drop 7 [c0, c1, c2, c3, c4, c5, c6, c7, c8, c9]).take (Tryz.prog.cellsOf 26)) = some y5 := hf 5 _ rfl
  rw [(by kernel_rfl : Tryz.prog.cellsOf 26 = 1)] at g5
  have g6 : DataW.trod enc Tryz.prog w 0 (fun _ => true) true k 27 ((List.drop 8 [c0, c1, c2, c3, c4, c5, c6, c7, c8, c9]).take (Tryz.prog.cellsOf 27)) = some y6 := hf 6 _ rfl
  rw [(by kernel_rfl : Tryz.prog.cellsOf 27 = 1)] at g6
  have g7 : DataW.trod enc Tryz.prog w 0 (fun _ => true) true k 28 ((List.drop 9 [c0, c1, c2, c3, c4, c5, c6, c7, c8, c9]).take (Tryz.prog.cellsOf 28)) = some y7 := hf 7 _ rfl
  rw [(by kernel_rfl : Tryz.prog.cellsOf 28 = 1)] at g7
  obtain ⟨us, k2, hk2, hxy2, _, hul, hg⟩ := DataW.trod_struct Tryz.underlying23 g2
  match us, hul with
  | [u0, u1, u2], _ =>
   have q0 : DataW.trod enc Tryz.prog w 0 (fun _ => true) true k2 3 ((List.drop 0 [c2, c3, c4]).take (Tryz.prog.cellsOf 3)) = some u0 := hg 0 _ rfl
   rw [(by kernel_rfl : Tryz.prog.cellsOf 3 = 1)] at q0
   have q1 : DataW.trod enc Tryz.prog w 0 (fun _ => true) true k2 3 ((List.drop 1 [c2, c3, c4]).take (Tryz.prog.cellsOf 3)) = some u1 := hg 1 _ rfl
   rw [(by kernel_rfl : Tryz.prog.cellsOf 3 = 1)] at q1
   have q2 : DataW.trod enc Tryz.prog w 0 (fun _ => true) true k2 3 ((List.drop 2 [c2, c3, c4]).take (Tryz.prog.cellsOf 3)) = some u2 := hg 2 _ rfl
   rw [(by kernel_rfl : Tryz.prog.cellsOf 3 = 1)] at q2
   obtain ⟨z0, e0, _, _⟩ := DataW.trod_int Tryz.underlying3 g0
   obtain ⟨z1, e1, _, _⟩ := DataW.trod_int Tryz.underlying3 g1
   obtain ⟨z2, e2, _, _⟩ := DataW.trod_int Tryz.underlying3 q0
   obtain ⟨z3, e3, _, _⟩ := DataW.trod_int Tryz.underlying3 q1
   obtain ⟨z4, e4, _, _⟩ := DataW.trod_int Tryz.underlying3 q2
   simp at e0 e1 e2 e3 e4
   subst e0 e1 e2 e3 e4
   obtain ⟨aT, cT, D, d3, tm, t, ts, tn, tc⟩ := mdRow_open (by simpa using g3)
   obtain ⟨aN, cN, N, d4, nm, n, nn⟩ := wiRow_open (by simpa using g4)
   obtain ⟨aG, cG, G, d5, gm, g, gn⟩ := boRow_open (by simpa using g5)
   obtain ⟨aL, cL, L, d6, im, i, ic⟩ := ikRow_open (by simpa using g6)
   obtain ⟨aS, cS, S, d7, sm, s, sn⟩ := ouRow_open (by simpa using g7)
   subst d3 d4 d5 d6 d7
   exact ⟨⟨z0, z1, ⟨z2, z3, z4⟩, D, aT, cT, N, aN, cN, G, aG, cG, L, aL, cL, S, aS, cS⟩, rfl, t, tm, ts, tc, tn, n, nm, nn, g, gm, gn, i, im, ic, s, sm, sn⟩
theorem BxIn.below {w w' : World} {x : BxD} (h : BxIn w x) (k : Below w.heap.size w w') : BxIn w' x :=
 ⟨h.t.below k (Nat.le_refl _), h.tm, h.ts, h.tc, h.tn, h.n.below k (h.n.lt wiEnc_len (by omega)), h.nm, h.nn, h.g.below k (h.g.lt boEnc_len (by omega)), h.gm, h.gn, h.i.below k (h.i.lt ikEnc_len (by omega)), h.im, h.ic, h.s.below k (h.s.lt ouEnc_len (by omega)), h.sm, h.sn⟩
structure BxSm (x : BxD) : Prop where
 t : x.two.length ≤ 1048576
 l : lToM x.two x.two.length ≤ 1048576
 n : x.net.length ≤ 1048576
 g : x.ga.length ≤ 1048576
 i : x.ln.length ≤ 1048576
 s : x.sd.length ≤ 1048576
theorem BxSm.ls {x : BxD} (h : BxSm x) : ∀ i, i < x.two.length → (x.two.getD i MiD.nil).m.lg.length ≤ 1048576 := fun i hi => Nat.le_trans (getLM_le x.two hi) h.l
theorem BxIn.v {w : World} {x : BxD} (h : BxIn w x) (k : BxSm x) : BxV w x :=
 ⟨h.t.row, h.t.nest, h.n, h.g, h.i, h.s, k.t, k.ls, k.n, k.g, k.i, k.s, h.tc⟩
structure BxM (lo hi : Nat) (w : World) (x : BxD) : Prop where
 t : MOwn lo hi w (.slice x.aT x.two.length x.cT) x.two
 n : FOwn wiEnc 12 83 lo w (.slice x.aN x.net.length x.cN) x.net
 g : FOwn boEnc 1 4 lo w (.slice x.aG x.ga.length x.cG) x.ga
 i : FOwn ikEnc 8 80 lo w (.slice x.aL x.ln.length x.cL) x.ln
 s : FOwn ouEnc 8 92 lo w (.slice x.aS x.sd.length x.cS) x.sd
 nh : ∀ b, (Value.slice x.aN x.net.length x.cN).ownBlock = some b → b < hi
 gh : ∀ b, (Value.slice x.aG x.ga.length x.cG).ownBlock = some b → b < hi
 ih : ∀ b, (Value.slice x.aL x.ln.length x.cL).ownBlock = some b → b < hi
 sh : ∀ b, (Value.slice x.aS x.sd.length x.cS).ownBlock = some b → b < hi
 ap : ∀ j, j < x.two.length → ∀ b, (x.two.getD j MiD.nil).v.ownBlock = some b → (Value.slice x.aL x.ln.length x.cL).ownBlock ≠ some b
theorem BxM.keep {lo hi : Nat} {w w' : World} {x : BxD} (h : BxM lo hi w x) (k : ∀ g, lo ≤ g → g < hi → w'.heap[g]? = w.heap[g]?) : BxM lo hi w' x :=
 ⟨h.t.keep k, h.n.keep (fun g e => k g (h.n.lt g e).1 (h.nh g e)), h.g.keep (fun g e => k g (h.g.lt g e).1 (h.gh g e)), h.i.keep (fun g e => k g (h.i.lt g e).1 (h.ih g e)), h.s.keep (fun g e => k g (h.s.lt g e).1 (h.sh g e)), h.nh, h.gh, h.ih, h.sh, h.ap⟩
theorem BxM.below {lo hi B : Nat} {w w' : World} {x : BxD} (h : BxM lo hi w x) (k : Below B w w') (hB : hi ≤ B) : BxM lo hi w' x := h.keep fun g _ hg => k.block _ (by omega)
theorem BxM.in_ {lo hi : Nat} {w : World} {x : BxD} (h : BxM lo hi w x) (k : BxSm x) : BxIn w x := by
 have hm : (1048576 : Nat) ≤ maxLen := by unfold maxLen; omega
 exact ⟨h.t.view.2, Nat.le_trans k.t hm, fun i hi => Nat.le_trans (k.ls i hi) hm, h.t.row.capM, fun e => own_noneM (by have := h.t.row; rw [e] at this; exact this), h.n.view.2, Nat.le_trans k.n hm, fun e => own_noneM (by have := h.n; rw [e] at this; exact this), h.g.view.2, Nat.le_trans k.g hm, fun e => own_noneM (by have := h.g; rw [e] at this; exact this), h.i.view.2, Nat.le_trans k.i hm, fun e => own_noneM (by have := h.i; rw [e] at this; exact this), h.s.view.2, Nat.le_trans k.s hm, fun e => own_noneM (by have := h.s; rw [e] at this; exact this)⟩
set_option maxHeartbeats 1000000 in
theorem mdEq (ad ad' : Option Addr) (cap cap' : Nat) (Bs Bs' : List MiD) (w : World) (hv : MV w ad Bs) (hv' : MV w ad' Bs') (hd : Bs'.map MiD.m = Bs.map MiD.m) (hl : Bs.length ≤ 1048576) (hls : ∀ i, i < Bs.length → (Bs.getD i MiD.nil).m.lg.length ≤ 1048576) :
  Calls Tryz.prog 31 #[.slice ad Bs.length cap, .slice ad' Bs'.length cap'] w fun e w' => e = .returned (.bool true) ∧ Below w.heap.size w w' := by
 have hlen : Bs'.length = Bs.length := by have := congrArg List.length hd; simpa using this
 have hsame : ∀ i, (Bs'.getD i MiD.nil).m = (Bs.getD i MiD.nil).m := fun i => by
  have := congrArg (fun D => D.getD i Mi.nil) hd
  simpa only [md_get] using this
 rw [hlen]
 go_enter Tryz.func31, Tryz.ntmps31
 go_wp2
 go_loopw [5] (fun i wr => ∃ k : Nat, k ≤ Bs.length ∧ i = .int .i64 k ∧ Below w.heap.size w wr) (fun i _ => Bs.length - (intOf i).toNat)
 case atStart => exact ⟨0, Nat.zero_le _, rfl, Below.refl _ _⟩
 case round =>
  obtain ⟨k, hk, rfl, hb⟩ := hrel
  by_cases hlt : k < Bs.length
  ·
   obtain ⟨b, off, rfl⟩ := hv.ad_ (by omega)
   obtain ⟨b', off', rfl⟩ := hv'.ad_ (by omega)
   have hlk := hls k hlt
   have hn : ∀ Y, Below w.heap.size w Y → FView ikEnc Y (Bs.getD k MiD.nil).ad (Bs.getD k MiD.nil).m.lg := fun Y hY => (hv.below hY (Nat.le_refl _)).nest k hlt
   have hn' : ∀ Y, Below w.heap.size w Y → FView ikEnc Y (Bs'.getD k MiD.nil).ad (Bs'.getD k MiD.nil).m.lg := fun Y hY => (hv'.below hY (Nat.le_refl _)).nest k (by omega)
   have hc : ∀ Y, Below w.heap.size w Y → MdAtO Y b (off + k * 7) (Bs.getD k MiD.nil) := fun Y hY => (hv.below hY (Nat.le_refl _)).at_ hlt
   have hc' : ∀ Y, Below w.heap.size w Y → MdAtO Y b' (off' + k * 7) (Bs'.getD k MiD.nil) := fun Y hY => (hv'.below hY (Nat.le_refl _)).at_ (by omega)
   have e1 := hsame k
   obtain ⟨⟨m1, a1, c1⟩, hh⟩ : ∃ m, Bs.getD k MiD.nil = m := ⟨_, rfl⟩
   obtain ⟨⟨m2, a2, c2⟩, hh'⟩ : ∃ m, Bs'.getD k MiD.nil = m := ⟨_, rfl⟩
   rw [hh] at e1 hlk
   rw [hh'] at e1
   simp only [hh] at hn hc
   simp only [hh'] at hn' hc'
   dsimp only at e1 hlk hn hn'
   subst e1
   clear hh hh' hv hv' hsame hls hd hlen
   go_wp2_with fail
   refine wp_region_held (S := fun Y => Below w.heap.size w Y) (by kernel_rfl) ?_
   change wpAnyH _ _ _ _ _ _ _ _ (World.drew _)
   have hb0 : Below w.heap.size w wr.drew := hb.drew
   refine tw 0 17 (.slice (some ⟨b, off, none⟩) Bs.length cap) ?_
   refine tw 1 18 (.int .i64 k) ?_
   refine tw 2 19 (.pointer (some ⟨b, off + k * 7, none⟩)) ?_ (hy := by intro Y hSw; go_simp; try omega)
   refine tw 3 20 (.agg #[.bool m2.up, .int .i64 m2.li, .int .i64 m2.ep, .slice a1 m2.lg.length c1, .int .i64 m2.sd, .int .i64 m2.ac, .int .i64 m2.al]) ?_ (hy := by intro Y hSw; obtain ⟨X0, X1, X2, X3, X4, X5, X6⟩ := hc Y hSw; go_simp)
   refine tw 4 21 (.slice (some ⟨b', off', none⟩) Bs.length cap') ?_
   refine tw 5 22 (.int .i64 k) ?_
   refine tw 6 23 (.pointer (some ⟨b', off' + k * 7, none⟩)) ?_ (hy := by intro Y hSw; go_simp; try omega)
   refine tw 7 24 (.agg #[.bool m2.up, .int .i64 m2.li, .int .i64 m2.ep, .slice a2 m2.lg.length c2, .int .i64 m2.sd, .int .i64 m2.ac, .int .i64 m2.al]) ?_ (hy := by intro Y hSw; obtain ⟨X0, X1, X2, X3, X4, X5, X6⟩ := hc' Y hSw; go_simp)
   refine wpAnyH_all (rs := [8]) (by kernel_rfl) (by simp) ?_
   intro i hi; obtain rfl : i = 8 := by simpa using hi
   refine wpOp_step rfl (fun K hK => ?_)
   rw [if_pos (by kernel_rfl)]
   go_simp
   go_at_call 58
   refine (miEq m2 a1 a2 c1 c2 _ (hn _ hb0) (hn' _ hb0) hlk).mono ?_
   rintro e y1 ⟨rfl, j1⟩
   have hb1 : Below w.heap.size w y1 := hb0.trans (j1.mono hb0.size)
   refine hK _ _ ⟨hb1, ?_⟩
   clear hK K hi
   refine tw 9 26 (.bool false) ?_
   refine wpAnyH_done (by kernel_rfl) ?_ _
   go_wp2
   go_roundw
   case rel => exact ⟨k + 1, by omega, by go_num, hb1⟩
   case measure => simp [intOf]; omega
  ·
   obtain rfl : k = Bs.length := by omega
   go_wp2
   go_ret
   exact ⟨rfl, hb⟩
theorem lToM_congr {D E : List MiD} (h : E.map MiD.m = D.map MiD.m) : ∀ n, lToM E n = lToM D n
 | 0 => rfl
 | n + 1 => by
  have e : (E.getD n MiD.nil).m = (D.getD n MiD.nil).m := by
   have := congrArg (fun L => L.getD n Mi.nil) h
   simpa only [md_get] using this
  show lToM E n + _ = lToM D n + _
  rw [lToM_congr h n, e]
theorem BxSm.of {x z : BxD} (k : BxSm x) (h : z.p = x.p) : BxSm z := by
 unfold BxD.p at h
 simp only [Bx.mk.injEq] at h
 obtain ⟨_, _, _, ht, hn, hg, hl, hs⟩ := h
 have hlen : z.two.length = x.two.length := by have := congrArg List.length ht; simpa using this
 exact ⟨by rw [hlen]; exact k.t, by rw [hlen, lToM_congr ht]; exact k.l, by rw [hn]; exact k.n, by rw [hg]; exact k.g, by rw [hl]; exact k.i, by rw [hs]; exact k.s⟩
theorem relI (x : BxD) (w : World) (hl : x.ln.length ≤ 1048576) :
  Calls Tryz.prog 56 #[.agg #[.int .i64 x.id, .int .i64 x.po, .int .i64 x.rg.ep, .int .i64 x.rg.ow, .int .i64 x.rg.pa, .slice x.aT x.two.length x.cT, .slice x.aN x.net.length x.cN, .slice x.aG x.ga.length x.cG, .slice x.aL x.ln.length x.cL, .slice x.aS x.sd.length x.cS]] w fun e w' => e = .returned (.int .i64 (x.ln.length : Int)) ∧ Below w.heap.size w w' := by
 go_enter Tryz.func56, Tryz.ntmps56
 go_wp2
 go_ret
 exact ⟨rfl, below_new _⟩
end Go.Proofs.YtnpiljegdiconabGreat
