import Derived.Test.YtnpiljegdiconaaGreatQM15
import Derived.Test.YtnpiljegdiconaaGreatQKWBxd9
namespace Go.Proofs.YtnpiljegdiconaaGreat
open Go.ChangeShapes Go.WideShapes Go.ChangeAt Go.RowKit
open Go.ChangeMaps (open_string shut_string)
set_option linter.unusedVariables false
set_option maxRecDepth 100000
theorem MdAtO.below {w w' : World} {q o n : Nat} {x : MiD} (h : MdAtO w q o x) (k : Below n w w') (hq : q < n) : MdAtO w' q o x :=
 ⟨(World.cell?_of_block (a := ⟨q, o, none⟩) (k.block q hq)).trans h.c0, (World.cell?_of_block (a := ⟨q, o + 1, none⟩) (k.block q hq)).trans h.c1, (World.cell?_of_block (a := ⟨q, o + 2, none⟩) (k.block q hq)).trans h.c2, (World.cell?_of_block (a := ⟨q, o + 3, none⟩) (k.block q hq)).trans h.c3, (World.cell?_of_block (a := ⟨q, o + 4, none⟩) (k.block q hq)).trans h.c4, (World.cell?_of_block (a := ⟨q, o + 5, none⟩) (k.block q hq)).trans h.c5, (World.cell?_of_block (a := ⟨q, o + 6, none⟩) (k.block q hq)).trans h.c6⟩
theorem dec40 (n : Nat) : (true && (true && (true && (true && (true && (true && decide (n ≤ 40))))))) = decide ((n : Int) ≤ 40) := by
 by_cases h : n ≤ 40
 ·
  rw [decide_eq_true h, decide_eq_true (show (n : Int) ≤ 40 by omega)]; rfl
 rw [decide_eq_false h, decide_eq_false (show ¬ (n : Int) ≤ 40 by omega)]; rfl
set_option maxHeartbeats 8000000 in
theorem boxOkS (x : BxD) (w : World) (hV : BxV w x) :
  Calls Tryz.prog 33 #[.agg #[.int .i64 x.id, .int .i64 x.po, .int .i64 x.rg.ep, .int .i64 x.rg.ow, .int .i64 x.rg.pa, .slice x.aT x.two.length x.cT, .slice x.aN x.net.length x.cN, .slice x.aG x.ga.length x.cG, .slice x.aL x.ln.length x.cL, .slice x.aS x.sd.length x.cS]] w fun e w' => e = .returned (.bool (bxOk x.p)) ∧ Below w.heap.size w w' := by
 obtain ⟨R, hR⟩ := mk_ (bxOk x.p);rw [← hR];replace hR : Hid _ := hR;obtain ⟨y, hy⟩ := mk_ (w.alloc (Obj.cells #[.int .i64 x.id, .int .i64 x.po, .int .i64 x.rg.ep, .int .i64 x.rg.ow, .int .i64 x.rg.pa, .slice x.aT x.two.length x.cT, .slice x.aN x.net.length x.cN, .slice x.aG x.ga.length x.cG, .slice x.aL x.ln.length x.cL, .slice x.aS x.sd.length x.cS] 48));have B0 : Below w.heap.size w y := by rw [hy]; exact below_new _
 have A : BxAt y w.heap.size x := by rw [hy]; exact BxAt.new w _ x
 have V := hV.later B0;go_enter Tryz.func33, Tryz.ntmps33
 obtain ⟨a0, a1, a2, a3, a4, a5, a6, a7, a8, a9⟩ := id A;go_wp2_with fail
 go_at_call 30
 rw [← hy];clear hy hV a0 a1 a2 a3 a4 a5 a6 a7 a8 a9;refine (newBS x.id x.po y).mono ?_;rintro e u1 ⟨ab, cb, rfl, _, k1⟩;have A := A.below k1 A.lt;have V := V.later k1;have B1 := B0.trans (k1.mono B0.size);clear k1 B0;obtain ⟨u2, hu2⟩ := mk_ (u1.alloc (Obj.cells #[.int .i64 (newI x.id x.po), .slice ab (newL x.id x.po).length cb] 56));have k2 : Below u1.heap.size u1 u2 := by rw [hu2]; exact below_new _
 have A := A.below k2 A.lt;have V := V.later k2;have B2 := B1.trans (k2.mono B1.size);go_upto_region 2 with fail
 rw [← hu2];clear hu2 k2 B1;cases h1 : nOk x.id x.po
 ·
  have hN : Hid (R = false) := by unfold Hid; rw [hR.out]; unfold bxOk; rw [show nOk x.p.id x.p.po = _ from h1]; rfl
  go_wp2
  go_ret
  exact ⟨by rw [hN.out]; rfl, B2⟩
 replace h1 : Hid _ := h1;obtain ⟨a0, a1, a2, a3, a4, a5, a6, a7, a8, a9⟩ := id A;go_wp2_with fail
 go_at_call 21
 clear a0 a1 a2 a3 a4 a5 a6 a7 a8 a9;refine (regOkS x.rg u2).mono ?_;rintro e u3 ⟨rfl, k3⟩;have A := A.below k3 A.lt;have V := V.later k3;have B3 := B2.trans (k3.mono B2.size);clear k3 B2;cases h2 : rgOk x.rg
 ·
  have hN : Hid (R = false) := by unfold Hid; rw [hR.out]; unfold bxOk; rw [show nOk x.p.id x.p.po = _ from h1.out, show rgOk x.p.rg = _ from h2]; rfl
  clear h2;go_wp2
  go_ret
  exact ⟨by rw [hN.out]; rfl, B3⟩
 replace h2 : Hid _ := h2;by_cases h3 : x.two.length = 2
 ·
  have d3 : ((x.two.length : Int) != 2) = false := by rw [bne_eq_false_iff_eq]; omega
  have h3' : Hid (decide (x.two.length = 2) = true) := decide_eq_true h3;replace h3 : Hid (decide (x.p.two.length = 2) = true) := decide_eq_true (by rw [p_two_len]; exact of_decide_eq_true h3'.out);have h3n : 1 < x.two.length := by have := of_decide_eq_true h3'.out; omega
  clear h3';obtain ⟨d, hd⟩ : ∃ d, x.two.getD 0 MiD.nil = d := ⟨_, rfl⟩;obtain ⟨d2, hd2⟩ : ∃ d, x.two.getD 1 MiD.nil = d := ⟨_, rfl⟩;have vl1 := V.l 0 (by omega);have vl2 := V.l 1 h3n;have ll1 := V.bl 0 (by omega);have ll2 := V.bl 1 h3n;rw [hd] at vl1 ll1;rw [hd2] at vl2 ll2;have m0 : Hid (mOf x.p 0 = d.m) := by unfold Hid; rw [mOf_p]; show (x.two.getD 0 MiD.nil).m = _; rw [hd]
  have m1 : Hid (mOf x.p 1 = d2.m) := by unfold Hid; rw [mOf_p]; show (x.two.getD 1 MiD.nil).m = _; rw [hd2]
  obtain ⟨b, off, hat, _⟩ := V.t (by omega);have hc0 : MdAtO u3 b off d := by have ht := V.t; rw [hat] at ht; have := mdAtO_of (ht.at_ mdEnc_len MiD.nil (show 0 < x.two.length by omega)); rw [hd, Nat.zero_mul, Nat.add_zero] at this; exact this
  have hc1 : MdAtO u3 b (off + 7) d2 := by have ht := V.t; rw [hat] at ht; have := mdAtO_of (ht.at_ mdEnc_len MiD.nil h3n); rw [hd2, Nat.one_mul] at this; exact this
  have hbl : b < u3.heap.size := World.block_lt_of_cell? _ _ hc0.c0;replace hat : Hid _ := hat;replace hd : Hid _ := hd;replace hd2 : Hid _ := hd2;obtain ⟨a0, a1, a2, a3, a4, a5, a6, a7, a8, a9⟩ := id A;rw [hat.out] at a5;obtain ⟨e0, e1, e2, e3, e4, e5, e6⟩ := id hc0;go_wp2_with fail
  go_at_call 64
  clear a0 a1 a2 a3 a4 a5 a6 a7 a8 a9 e0 e1 e2 e3 e4 e5 e6 d3;refine (miOkS d.m d.ad d.cap u3 vl1 (by omega)).mono ?_;rintro e u5 ⟨rfl, k5⟩;have vl2 := vl2.below k5 (vl2.lt ikEnc_len (by omega));have hc1 : MdAtO u5 b (off + 7) d2 := hc1.below k5 hbl;have A := A.below k5 A.lt;have V := V.later k5;have B5 := B3.trans (k5.mono B3.size);clear k5 B3;cases h4 : miOk d.m
  ·
   have hN : Hid (R = false) := by unfold Hid; rw [hR.out]; unfold bxOk; rw [show nOk x.p.id x.p.po = _ from h1.out, show rgOk x.p.rg = _ from h2.out, h3.out, show miOk (mOf x.p 0) = false by rw [m0.out]; exact h4]; rfl
   clear h4;go_wp2
   go_ret
   exact ⟨by rw [hN.out]; rfl, B5⟩
  replace h4 : Hid (miOk (mOf x.p 0) = true) := by unfold Hid; rw [m0.out]; exact h4
  obtain ⟨a0, a1, a2, a3, a4, a5, a6, a7, a8, a9⟩ := id A;rw [hat.out] at a5;obtain ⟨e0, e1, e2, e3, e4, e5, e6⟩ := id hc1;go_wp2_with fail
  go_at_call 64
  clear a0 a1 a2 a3 a4 a5 a6 a7 a8 a9 e0 e1 e2 e3 e4 e5 e6;refine (miOkS d2.m d2.ad d2.cap u5 vl2 (by omega)).mono ?_;rintro e u6 ⟨rfl, k6⟩;have A := A.below k6 A.lt;have V := V.later k6;have B6 := B5.trans (k6.mono B5.size);clear k6 B5;cases h5 : miOk d2.m
  ·
   have hN : Hid (R = false) := by unfold Hid; rw [hR.out]; unfold bxOk; rw [show nOk x.p.id x.p.po = _ from h1.out, show rgOk x.p.rg = _ from h2.out, h3.out, h4.out, show miOk (mOf x.p 1) = false by rw [m1.out]; exact h5]; rfl
   clear h5;go_wp2
   go_ret
   exact ⟨by rw [hN.out]; rfl, B6⟩
  replace h5 : Hid (miOk (mOf x.p 1) = true) := by unfold Hid; rw [m1.out]; exact h5
  obtain ⟨a0, a1, a2, a3, a4, a5, a6, a7, a8, a9⟩ := id A;go_wp2_with fail
  go_at_call 89
  clear a0 a1 a2 a3 a4 a5 a6 a7 a8 a9;refine (netS x u6 V).mono ?_;rintro e u7 ⟨rfl, k7⟩;have A := A.below k7 A.lt;have V := V.later k7;have B7 := B6.trans (k7.mono B6.size);clear k7 B6;cases h6 : x.net.all wiOk && decide (x.net.length ≤ 20)
  ·
   have h6' : (x.p.net.all wiOk && (decide (x.p.net.length ≤ 20) && (decide ((x.p.ga.length : Int) = x.p.po) && (insB x.p.ln && decide (x.p.sd.length ≤ 40))))) = false := by rw [← Bool.and_assoc, show (x.p.net.all wiOk && decide (x.p.net.length ≤ 20)) = false from h6]; rfl
   have hN : Hid (R = false) := by unfold Hid; rw [hR.out]; unfold bxOk; rw [show nOk x.p.id x.p.po = _ from h1.out, show rgOk x.p.rg = _ from h2.out, show decide (x.p.two.length = 2) = _ from h3.out, h4.out, h5.out, h6']; rfl
   clear h6 h6';go_wp2
   go_ret
   exact ⟨by rw [hN.out]; rfl, B7⟩
  replace h6 : Hid _ := h6;have h6' : Hid (∀ t, (x.p.net.all wiOk && (decide (x.p.net.length ≤ 20) && t)) = t) := fun t => by rw [← Bool.and_assoc, show (x.p.net.all wiOk && decide (x.p.net.length ≤ 20)) = true from h6.out]; rfl
  by_cases h7 : (x.ga.length : Int) = x.po
  ·
   have d7 : ((x.ga.length : Int) == x.po) = true := by simpa using h7
   have h7' : Hid (decide ((x.p.ga.length : Int) = x.p.po) = true) := decide_eq_true h7;replace h7 : Hid _ := h7;obtain ⟨a0, a1, a2, a3, a4, a5, a6, a7, a8, a9⟩ := id A;go_wp2_with fail
   go_at_call 90
   clear a0 a1 a2 a3 a4 a5 a6 a7 a8 a9;refine (insS x.aL x.cL x.ln u7 V.i (by have := V.bi; omega)).mono ?_;rintro e u8 ⟨rfl, k8⟩;have bs := V.bs;have A := A.below k8 A.lt;have V := V.later k8;have B8 := B7.trans (k8.mono B7.size);clear k8 B7;cases h8 : insB x.ln
   ·
    have hN : Hid (R = false) := by unfold Hid; rw [hR.out]; unfold bxOk; rw [show nOk x.p.id x.p.po = _ from h1.out, show rgOk x.p.rg = _ from h2.out, show decide (x.p.two.length = 2) = _ from h3.out, h4.out, h5.out, h6'.out, h7'.out, show insB x.p.ln = _ from h8]; rfl
    clear h8;go_wp2
    go_ret
    exact ⟨by rw [hN.out]; rfl, B8⟩
   replace h8 : Hid _ := h8;obtain ⟨a0, a1, a2, a3, a4, a5, a6, a7, a8, a9⟩ := id A;have hN : Hid (R = decide ((x.sd.length : Int) ≤ 40)) := by unfold Hid; rw [hR.out]; unfold bxOk; rw [show nOk x.p.id x.p.po = _ from h1.out, show rgOk x.p.rg = _ from h2.out, show decide (x.p.two.length = 2) = _ from h3.out, h4.out, h5.out, h6'.out, h7'.out, show insB x.p.ln = _ from h8.out]; exact dec40 x.sd.length
   go_wp2
   go_ret
   exact ⟨by rw [hN.out]; rfl, B8⟩
  have d7 : ((x.ga.length : Int) == x.po) = false := by rw [beq_eq_false_iff_ne]; exact h7
  obtain ⟨a0, a1, a2, a3, a4, a5, a6, a7, a8, a9⟩ := id A;have hN : Hid (R = false) := by unfold Hid; rw [hR.out]; unfold bxOk; rw [show nOk x.p.id x.p.po = _ from h1.out, show rgOk x.p.rg = _ from h2.out, show decide (x.p.two.length = 2) = _ from h3.out, h4.out, h5.out, h6'.out, show decide ((x.p.ga.length : Int) = x.p.po) = false from decide_eq_false h7]; rfl
  clear h7;go_wp2
  go_ret
  exact ⟨by rw [hN.out]; rfl, B7⟩
 have d3 : ((x.two.length : Int) != 2) = true := by rw [bne_iff_ne]; omega
 obtain ⟨a0, a1, a2, a3, a4, a5, a6, a7, a8, a9⟩ := id A;have hN : Hid (R = false) := by unfold Hid; rw [hR.out]; unfold bxOk; rw [show nOk x.p.id x.p.po = _ from h1.out, show rgOk x.p.rg = _ from h2.out, show decide (x.p.two.length = 2) = false from decide_eq_false (by rw [p_two_len]; exact h3)]; rfl
 clear h3;go_wp2
 go_ret
 exact ⟨by rw [hN.out]; rfl, B3⟩
theorem FView.oneJ (w : World) (t : TypeId) (x : Ik) : FView ikEnc (w.alloc (Obj.cells #[.int .i64 x.k, .int .i64 x.q, .int .i64 x.r, .int .i64 x.c, .int .i64 x.b, .int .i64 x.p, .int .i64 x.h, .bool x.up] t)) (some ⟨w.heap.size, 0, none⟩) [x] := by
 intro _;refine ⟨w.heap.size, 0, rfl, fun j v hv => ?_⟩;simp only [fcells, ikEnc, List.append_nil] at hv;have hj : j < 8 := (List.getElem?_eq_some_iff.1 hv).1;rcases (by omega : j = 0 ∨ j = 1 ∨ j = 2 ∨ j = 3 ∨ j = 4 ∨ j = 5 ∨ j = 6 ∨ j = 7) with rfl | rfl | rfl | rfl | rfl | rfl | rfl | rfl <;> (cases hv; simp [go_sem])
theorem grown_row {w y z : World} {cb : Nat} {v : Value} (h : w.grownBy y (some cb)) (g : y.grownBy z v.ownBlock) (ho : ∀ k, v.ownBlock = some k → w.heap.size ≤ k) : w.grownBy z (some cb) :=
 ⟨g.os.trans h.os, g.tape.trans h.tape, g.output.trans h.output, Nat.le_trans h.size g.size, fun j hj hne => (g.block j (Nat.lt_of_lt_of_le hj h.size) (fun e => by have := ho j e.symm; omega)).trans (h.block j hj hne)⟩
theorem MdAtO.keep {w w' : World} {q o : Nat} {x : MiD} (h : MdAtO w q o x) (k : w'.heap[q]? = w.heap[q]?) : MdAtO w' q o x :=
 ⟨(World.cell?_of_block (a := ⟨q, _, none⟩) k).trans h.1, (World.cell?_of_block (a := ⟨q, _, none⟩) k).trans h.2, (World.cell?_of_block (a := ⟨q, _, none⟩) k).trans h.3, (World.cell?_of_block (a := ⟨q, _, none⟩) k).trans h.4, (World.cell?_of_block (a := ⟨q, _, none⟩) k).trans h.5, (World.cell?_of_block (a := ⟨q, _, none⟩) k).trans h.6, (World.cell?_of_block (a := ⟨q, _, none⟩) k).trans h.7⟩
set_option maxHeartbeats 4000000 in
theorem riseS (x : BxD) (w : World) (hV : BxV w x) (h2 : x.two.length = 2) (b0 : 0 ≤ (x.two.getD 0 MiD.nil).m.li ∧ (x.two.getD 0 MiD.nil).m.li ≤ 1000000000) (b1 : 0 ≤ (x.two.getD 1 MiD.nil).m.li ∧ (x.two.getD 1 MiD.nil).m.li ≤ 1000000000) :
  Calls Tryz.prog 250 #[.agg #[.int .i64 x.id, .int .i64 x.po, .int .i64 x.rg.ep, .int .i64 x.rg.ow, .int .i64 x.rg.pa, .slice x.aT x.two.length x.cT, .slice x.aN x.net.length x.cN, .slice x.aG x.ga.length x.cG, .slice x.aL x.ln.length x.cL, .slice x.aS x.sd.length x.cS]] w fun e w' => e = .returned (.agg #[.bool true, .int .i64 (max (x.two.getD 0 MiD.nil).m.li (x.two.getD 1 MiD.nil).m.li + 1), .int .i64 0, .slice none 0 0, .int .i64 0, .int .i64 0, .int .i64 0]) ∧ Below w.heap.size w w' := by
 have hbw : ∀ b off, x.aT = some ⟨b, off, none⟩ → b < w.heap.size := fun b off e => hV.t.lt mdEnc_len (by omega) _ e (by omega)
 obtain ⟨y, hy⟩ := mk_ ((w.alloc (Obj.cells #[.int .i64 x.id, .int .i64 x.po, .int .i64 x.rg.ep, .int .i64 x.rg.ow, .int .i64 x.rg.pa, .slice x.aT x.two.length x.cT, .slice x.aN x.net.length x.cN, .slice x.aG x.ga.length x.cG, .slice x.aL x.ln.length x.cL, .slice x.aS x.sd.length x.cS] 48)).alloc (Obj.cells #[.bool false, .int .i64 0, .int .i64 0, .slice none 0 0, .int .i64 0, .int .i64 0, .int .i64 0] 28));have k1 : Below w.heap.size w (w.alloc (Obj.cells #[.int .i64 x.id, .int .i64 x.po, .int .i64 x.rg.ep, .int .i64 x.rg.ow, .int .i64 x.rg.pa, .slice x.aT x.two.length x.cT, .slice x.aN x.net.length x.cN, .slice x.aG x.ga.length x.cG, .slice x.aL x.ln.length x.cL, .slice x.aS x.sd.length x.cS] 48)) := below_new _;have k2 : Below (w.alloc (Obj.cells #[.int .i64 x.id, .int .i64 x.po, .int .i64 x.rg.ep, .int .i64 x.rg.ow, .int .i64 x.rg.pa, .slice x.aT x.two.length x.cT, .slice x.aN x.net.length x.cN, .slice x.aG x.ga.length x.cG, .slice x.aL x.ln.length x.cL, .slice x.aS x.sd.length x.cS] 48)).heap.size (w.alloc (Obj.cells #[.int .i64 x.id, .int .i64 x.po, .int .i64 x.rg.ep, .int .i64 x.rg.ow, .int .i64 x.rg.pa, .slice x.aT x.two.length x.cT, .slice x.aN x.net.length x.cN, .slice x.aG x.ga.length x.cG, .slice x.aL x.ln.length x.cL, .slice x.aS x.sd.length x.cS] 48)) y := by rw [hy]; exact below_new _
 have B0 : Below w.heap.size w y := k1.trans (k2.mono k1.size);have A : BxAt y w.heap.size x := (BxAt.new w _ x).below k2 (BxAt.new w _ x).lt;have Z : MiBox y (w.heap.size + 1) (⟨false, 0, 0, [], 0, 0, 0⟩ : Mi) (.slice none 0 0) := by have := MiBox.new (w.alloc (Obj.cells #[.int .i64 x.id, .int .i64 x.po, .int .i64 x.rg.ep, .int .i64 x.rg.ow, .int .i64 x.rg.pa, .slice x.aT x.two.length x.cT, .slice x.aN x.net.length x.cN, .slice x.aG x.ga.length x.cG, .slice x.aL x.ln.length x.cL, .slice x.aS x.sd.length x.cS] 48)) 28 (⟨false, 0, 0, [], 0, 0, 0⟩ : Mi) (.slice none 0 0); rw [hy]; simpa using this
 have V := hV.later B0;clear k1 k2 hV;obtain ⟨b, off, hat, _⟩ := V.t (by omega);have vt := V.t;rw [hat] at vt;obtain ⟨d0, hd0⟩ : ∃ d, x.two.getD 0 MiD.nil = d := ⟨_, rfl⟩;obtain ⟨d1, hd1⟩ : ∃ d, x.two.getD 1 MiD.nil = d := ⟨_, rfl⟩;rw [hd0] at b0;rw [hd1] at b1;rw [hd0, hd1];have m0 : MdAtO y b off d0 := by have := mdAtO_of (vt.at_ mdEnc_len MiD.nil (i := 0) (by omega)); rw [hd0] at this; simpa using this
 have m1 : MdAtO y b (off + 7) d1 := by have := mdAtO_of (vt.at_ mdEnc_len MiD.nil (i := 1) (by omega)); rw [hd1] at this; simpa using this
 have hbl : b < w.heap.size := hbw b off hat;have hct := V.ct;rw [h2] at hct;replace hat : Hid _ := hat;replace h2 : Hid _ := h2;clear vt V hd0 hd1;go_enter Tryz.func250, Tryz.ntmps250
 go_upto_region 1 with fail
 rw [← hy];clear hy;refine wp_region_held (S := fun Y => BxAt Y w.heap.size x ∧ MdAtO Y b off d0 ∧ MdAtO Y b (off + 7) d1) (by kernel_rfl) ?_;change wpAnyH _ _ _ _ _ _ _ _ (World.drew _);have kd : Below y.heap.size y y.drew := (Below.refl _ _).drew;obtain ⟨u0, hu0⟩ := mk_ y.drew;rw [← hu0] at kd ⊢;clear hu0;have bz := B0.size;have hs0 : BxAt u0 w.heap.size x ∧ MdAtO u0 b off d0 ∧ MdAtO u0 b (off + 7) d1 := ⟨A.below kd A.lt, m0.below kd (by omega), m1.below kd (by omega)⟩;have Z := Z.below kd Z.lt;have Bd := B0.trans (kd.mono B0.size);clear kd A m0 m1;refine tw 0 3 (.pointer (some ⟨w.heap.size, 5, none⟩)) ?_;refine tw 1 4 (.slice (some ⟨b, off, none⟩) 2 x.cT) ?_ (hy := by intro Y hSw; obtain ⟨⟨X0, X1, X2, X3, X4, X5, X6, X7, X8, X9⟩, _, _⟩ := hSw; rw [hat.out, h2.out] at X5; go_simp);refine tw 2 5 (.pointer (some ⟨b, off, none⟩)) ?_ (hy := by intro Y hSw; go_simp; try omega);refine tw 3 6 (.pointer (some ⟨b, off + 1, none⟩)) ?_;refine tw 4 7 (.int .i64 d0.m.li) ?_ (hy := by intro Y hSw; obtain ⟨_, ⟨X0, X1, X2, X3, X4, X5, X6⟩, _⟩ := hSw; go_simp);refine tw 5 8 (.pointer (some ⟨w.heap.size, 5, none⟩)) ?_;refine tw 6 9 (.slice (some ⟨b, off, none⟩) 2 x.cT) ?_ (hy := by intro Y hSw; obtain ⟨⟨X0, X1, X2, X3, X4, X5, X6, X7, X8, X9⟩, _, _⟩ := hSw; rw [hat.out, h2.out] at X5; go_simp);refine tw 7 10 (.pointer (some ⟨b, off + 7, none⟩)) ?_ (hy := by intro Y hSw; go_simp; try omega);refine tw 8 11 (.pointer (some ⟨b, off + 7 + 1, none⟩)) ?_;refine tw 9 12 (.int .i64 d1.m.li) ?_ (hy := by intro Y hSw; obtain ⟨_, _, ⟨X0, X1, X2, X3, X4, X5, X6⟩⟩ := hSw; go_simp);refine w1 10 fun Kz hKz => ?_
 go_simp
 go_at_call 223
 refine (maxS d0.m.li d1.m.li u0).mono ?_;rintro e u1 ⟨rfl, rfl⟩;rw [show (if d1.m.li < d0.m.li then d0.m.li else d1.m.li) = max d0.m.li d1.m.li by split <;> omega];refine hKz _ _ ⟨hs0, ?_⟩;clear hKz Kz;obtain ⟨t, ht⟩ : ∃ t : Int, t = max d0.m.li d1.m.li := ⟨_, rfl⟩;rw [← ht];have htb : 0 ≤ t ∧ t ≤ 1000000000 := by omega
 replace ht : Hid _ := ht;have hwr : IntKind.i64.wrap (t + 1) = t + 1 := by rw [IntKind.wrap_i64]; omega
 refine tw 11 14 (.int .i64 (t + 1)) ?_ (hy := by intro Y hSw; go_simp; try omega);refine tw 12 15 (.agg #[.bool true, .int .i64 (t + 1), .int .i64 0, .slice none 0 0, .int .i64 0, .int .i64 0, .int .i64 0]) ?_;refine w1 13 fun Kz hKz => ?_
 obtain ⟨z0, z1, z2, z3, z4, z5, z6, zf⟩ := id Z;have g0 := zf 0;have g1 := zf 1;have g2 := zf 2;have g3 := zf 3;have g4 := zf 4;have g5 := zf 5;have g6 := zf 6;go_simp
 clear z0 z1 z2 z3 z4 z5 z6 zf g0 g1 g2 g3 g4 g5 g6;obtain ⟨u3, hu3⟩ := mk_ (((((((u1.setCell ⟨w.heap.size + 1, 0, none⟩ (.bool true)).setCell ⟨w.heap.size + 1, 1, none⟩ (.int .i64 (t + 1))).setCell ⟨w.heap.size + 1, 2, none⟩ (.int .i64 0)).setCell ⟨w.heap.size + 1, 3, none⟩ (.slice none 0 0)).setCell ⟨w.heap.size + 1, 4, none⟩ (.int .i64 0)).setCell ⟨w.heap.size + 1, 5, none⟩ (.int .i64 0)).setCell ⟨w.heap.size + 1, 6, none⟩ (.int .i64 0));have Q3 : MiBox u3 (w.heap.size + 1) (⟨true, t + 1, 0, [], 0, 0, 0⟩ : Mi) (.slice none 0 0) := by rw [hu3]; exact Z.put (⟨true, t + 1, 0, [], 0, 0, 0⟩ : Mi) _
 have kp : ∀ k, k ≠ w.heap.size + 1 → u3.heap[k]? = u1.heap[k]? := fun k hk => by rw [hu3]; exact heap_put7 _ _ _ (⟨true, t + 1, 0, [], 0, 0, 0⟩ : Mi) _ hk
 have hs3 : BxAt u3 w.heap.size x ∧ MdAtO u3 b off d0 ∧ MdAtO u3 b (off + 7) d1 := ⟨hs0.1.keep (kp _ (by omega)), hs0.2.1.keep (kp _ (by omega)), hs0.2.2.keep (kp _ (by omega))⟩;have Bd : Below w.heap.size w u3 := by rw [hu3]; exact below_put7 (⟨true, t + 1, 0, [], 0, 0, 0⟩ : Mi) _ Bd (by omega)
 rw [← hu3];clear hu3 kp;refine hKz _ _ ⟨hs3, ?_⟩;clear hKz Kz;refine wpAnyH_done (by kernel_rfl) ?_ _;clear hs3 hs0 Z;obtain ⟨p0, p1, p2, p3, p4, p5, p6, pf⟩ := Q3;clear pf;go_wp2
 refine bodyPost_ret (v := .agg #[.bool true, .int .i64 (t + 1), .int .i64 0, .slice none 0 0, .int .i64 0, .int .i64 0, .int .i64 0]) (by simp [results, Tryz.results250, go_sem, *]) rfl ⟨by rw [ht.out], Bd⟩
theorem ownB {a : Option Addr} {g g' n c : Nat} (h : a = some ⟨g, 0, none⟩) (e : g' = g) : (Value.slice a n c).ownBlock = some g' := by subst h; subst e; rfl
theorem getD_set_md (L : List MiD) (k : Nat) (d : MiD) (F : MiD → Prop) (h1 : ∀ j, j < L.length → F (L.getD j MiD.nil)) (h2 : F d) : ∀ j, j < (L.set k d).length → F ((L.set k d).getD j MiD.nil) := by
 intro j hj;have hj' : j < L.length := by simpa using hj
 by_cases e : j = k
 ·
  subst e;simpa [List.getD, List.getElem?_set, hj'] using h2
 have := h1 j hj';have e' : ¬ k = j := fun z => e z.symm
 simpa [List.getD, List.getElem?_set, e'] using this
def BxD.setT (x : BxD) (k : Nat) (d : MiD) : BxD := { x with two := x.two.set k d }
theorem BxD.setT_p (x : BxD) (k : Nat) (d : MiD) : (x.setT k d).p = setM x.p (k : Int) d.m := by
 unfold BxD.setT BxD.p setM;simp [List.map_set]
theorem BxO.setT {base : Nat} {w : World} {x : BxD} (h : BxO base w x) {g k : Nat} (hat : x.aT = some ⟨g, 0, none⟩) (hk : k < x.two.length) (d : MiD) (hd : FOwn ikEnc 8 105 base w (.slice d.ad d.m.lg.length d.cap) d.m.lg) (hap : ∀ g_, (Value.slice d.ad d.m.lg.length d.cap).ownBlock = some g_ → (Value.slice x.aL x.ln.length x.cL).ownBlock ≠ some g_) :
  BxO base (putAll w g (k * 7) (mdEnc d)) (x.setT k d) := by
 have ht : FOwn mdEnc 7 28 base (putAll w g (k * 7) (mdEnc d)) (.slice x.aT (x.two.set k d).length x.cT) (x.two.set k d) := by
  have h1 := h.t;rw [hat] at h1 ⊢;have := h1.set mdEnc_len (by omega) hk d;rw [List.length_set]; exact this
 refine ⟨ht, ?_, (h.n.keep (fun g_ e => heap_putAll _ _ _ _ (fun e2 => h.t.apart h.n (by decide) (ownB hat e2) e))), (h.g.keep (fun g_ e => heap_putAll _ _ _ _ (fun e2 => h.t.apart h.g (by decide) (ownB hat e2) e))), (h.i.keep (fun g_ e => heap_putAll _ _ _ _ (fun e2 => h.t.apart h.i (by decide) (ownB hat e2) e))), (h.s.keep (fun g_ e => heap_putAll _ _ _ _ (fun e2 => h.t.apart h.s (by decide) (ownB hat e2) e))), ?_⟩
 ·
  exact getD_set_md x.two k d (fun z => FOwn ikEnc 8 105 base (putAll w g (k * 7) (mdEnc d)) (.slice z.ad z.m.lg.length z.cap) z.m.lg) (fun j hj => (h.l j hj).keep (fun g_ e => heap_putAll _ _ _ _ (fun e2 => h.t.apart (h.l j hj) (by decide) (ownB hat e2) e))) (hd.keep (fun g_ e => heap_putAll _ _ _ _ (fun e2 => h.t.apart hd (by decide) (ownB hat e2) e)))
 exact getD_set_md x.two k d (fun z => ∀ g_, (Value.slice z.ad z.m.lg.length z.cap).ownBlock = some g_ → (Value.slice x.aL x.ln.length x.cL).ownBlock ≠ some g_) (fun j hj => h.ap j hj) hap
theorem BxO.setN {base : Nat} {w w' : World} {x : BxD} (h : BxO base w x) (N : List Wi) (a : Option Addr) (c : Nat) (hN : FOwn wiEnc 12 112 base w' (.slice a N.length c) N) (k : ∀ g, g < w.heap.size → (Value.slice x.aN x.net.length x.cN).ownBlock ≠ some g → w'.heap[g]? = w.heap[g]?) : BxO base w' { x with net := N, aN := a, cN := c } :=
 ⟨h.t.keep (fun g e => k g (h.t.lt g e).2 (fun e2 => h.n.apart h.t (by decide) e2 e)), fun j hj => (h.l j hj).keep (fun g e => k g ((h.l j hj).lt g e).2 (fun e2 => h.n.apart (h.l j hj) (by decide) e2 e)), hN, h.g.keep (fun g e => k g (h.g.lt g e).2 (fun e2 => h.n.apart h.g (by decide) e2 e)), h.i.keep (fun g e => k g (h.i.lt g e).2 (fun e2 => h.n.apart h.i (by decide) e2 e)), h.s.keep (fun g e => k g (h.s.lt g e).2 (fun e2 => h.n.apart h.s (by decide) e2 e)), h.ap⟩
theorem BxO.setL {base : Nat} {w w' : World} {x : BxD} (h : BxO base w x) (N : List Ik) (a : Option Addr) (c : Nat) (hN : FOwn ikEnc 8 105 base w' (.slice a N.length c) N) (ho : (Value.slice a N.length c).ownBlock = (Value.slice x.aL x.ln.length x.cL).ownBlock ∨ ∀ g, (Value.slice a N.length c).ownBlock = some g → w.heap.size ≤ g) (k : ∀ g, g < w.heap.size → (Value.slice x.aL x.ln.length x.cL).ownBlock ≠ some g → w'.heap[g]? = w.heap[g]?) : BxO base w' { x with ln := N, aL := a, cL := c } :=
 ⟨h.t.keep (fun g e => k g (h.t.lt g e).2 (fun e2 => h.i.apart h.t (by decide) e2 e)), fun j hj => (h.l j hj).keep (fun g e => k g ((h.l j hj).lt g e).2 (h.ap j hj g e)), h.n.keep (fun g e => k g (h.n.lt g e).2 (fun e2 => h.i.apart h.n (by decide) e2 e)), h.g.keep (fun g e => k g (h.g.lt g e).2 (fun e2 => h.i.apart h.g (by decide) e2 e)), hN, h.s.keep (fun g e => k g (h.s.lt g e).2 (fun e2 => h.i.apart h.s (by decide) e2 e)), fun j hj g e e2 => ho.elim (fun z => h.ap j hj g e (by rw [← z]; exact e2)) (fun z => by have := z g e2; have := ((h.l j hj).lt g e).2; omega)⟩
structure DeAt (w : World) (q : Nat) (d : De) : Prop where
 c0 : w.cell? ⟨q, 0, none⟩ = some (.int .i64 d.k)
 c1 : w.cell? ⟨q, 1, none⟩ = some (.int .i64 d.a)
 c2 : w.cell? ⟨q, 2, none⟩ = some (.int .i64 d.x.k)
 c3 : w.cell? ⟨q, 3, none⟩ = some (.int .i64 d.x.q)
 c4 : w.cell? ⟨q, 4, none⟩ = some (.int .i64 d.x.r)
 c5 : w.cell? ⟨q, 5, none⟩ = some (.int .i64 d.x.c)
 c6 : w.cell? ⟨q, 6, none⟩ = some (.int .i64 d.x.b)
 c7 : w.cell? ⟨q, 7, none⟩ = some (.int .i64 d.x.p)
 c8 : w.cell? ⟨q, 8, none⟩ = some (.int .i64 d.x.h)
 c9 : w.cell? ⟨q, 9, none⟩ = some (.bool d.x.up)
theorem DeAt.keep {w w' : World} {q : Nat} {d : De} (h : DeAt w q d) (k : w'.heap[q]? = w.heap[q]?) : DeAt w' q d :=
 ⟨(World.cell?_of_block (a := ⟨q, 0, none⟩) k).trans h.c0, (World.cell?_of_block (a := ⟨q, 1, none⟩) k).trans h.c1, (World.cell?_of_block (a := ⟨q, 2, none⟩) k).trans h.c2, (World.cell?_of_block (a := ⟨q, 3, none⟩) k).trans h.c3, (World.cell?_of_block (a := ⟨q, 4, none⟩) k).trans h.c4, (World.cell?_of_block (a := ⟨q, 5, none⟩) k).trans h.c5, (World.cell?_of_block (a := ⟨q, 6, none⟩) k).trans h.c6, (World.cell?_of_block (a := ⟨q, 7, none⟩) k).trans h.c7, (World.cell?_of_block (a := ⟨q, 8, none⟩) k).trans h.c8, (World.cell?_of_block (a := ⟨q, 9, none⟩) k).trans h.c9⟩
theorem DeAt.below {w w' : World} {q n : Nat} {d : De} (h : DeAt w q d) (k : Below n w w') (hq : q < n) : DeAt w' q d := h.keep (k.block q hq)
theorem DeAt.lt {w : World} {q : Nat} {d : De} (h : DeAt w q d) : q < w.heap.size := World.block_lt_of_cell? w _ h.c0
theorem DeAt.new (w : World) (t : TypeId) (d : De) : DeAt (w.alloc (Obj.cells #[.int .i64 d.k, .int .i64 d.a, .int .i64 d.x.k, .int .i64 d.x.q, .int .i64 d.x.r, .int .i64 d.x.c, .int .i64 d.x.b, .int .i64 d.x.p, .int .i64 d.x.h, .bool d.x.up] t)) w.heap.size d := by
 refine ⟨?_, ?_, ?_, ?_, ?_, ?_, ?_, ?_, ?_, ?_⟩ <;> simp [go_sem]
theorem BxO.keepZ {base q : Nat} {w w' : World} {x : BxD} (h : BxO base w x) (hz : ZBx w q) (k : ∀ g, g ≠ q → w'.heap[g]? = w.heap[g]?) : BxO base w' x :=
 ⟨h.t.keep (fun g_ e => k g_ (fun e2 => h.t.notZ hz (by decide) (by rw [← e2]; exact e))), fun j hj => (h.l j hj).keep (fun g_ e => k g_ (fun e2 => (h.l j hj).notZ hz (by decide) (by rw [← e2]; exact e))), h.n.keep (fun g_ e => k g_ (fun e2 => h.n.notZ hz (by decide) (by rw [← e2]; exact e))), h.g.keep (fun g_ e => k g_ (fun e2 => h.g.notZ hz (by decide) (by rw [← e2]; exact e))), h.i.keep (fun g_ e => k g_ (fun e2 => h.i.notZ hz (by decide) (by rw [← e2]; exact e))), h.s.keep (fun g_ e => k g_ (fun e2 => h.s.notZ hz (by decide) (by rw [← e2]; exact e))), h.ap⟩
theorem stepStart (x : BxD) (d : De) (w y : World) (hy : y = ((w.alloc (Obj.cells #[.int .i64 x.id, .int .i64 x.po, .int .i64 x.rg.ep, .int .i64 x.rg.ow, .int .i64 x.rg.pa, .slice x.aT x.two.length x.cT, .slice x.aN x.net.length x.cN, .slice x.aG x.ga.length x.cG, .slice x.aL x.ln.length x.cL, .slice x.aS x.sd.length x.cS] 48)).alloc (Obj.cells #[.int .i64 d.k, .int .i64 d.a, .int .i64 d.x.k, .int .i64 d.x.q, .int .i64 d.x.r, .int .i64 d.x.c, .int .i64 d.x.b, .int .i64 d.x.p, .int .i64 d.x.h, .bool d.x.up] 236)).alloc (Obj.cells #[.int .i64 0, .int .i64 0, .int .i64 0, .int .i64 0, .int .i64 0, .slice none 0 0, .slice none 0 0, .slice none 0 0, .slice none 0 0, .slice none 0 0] 48)) : Below w.heap.size w y ∧ BxAt y w.heap.size x ∧ DeAt y (w.heap.size + 1) d ∧ ZBx y (w.heap.size + 1 + 1) := by
 obtain ⟨w1, h1⟩ := mk_ (w.alloc (Obj.cells #[.int .i64 x.id, .int .i64 x.po, .int .i64 x.rg.ep, .int .i64 x.rg.ow, .int .i64 x.rg.pa, .slice x.aT x.two.length x.cT, .slice x.aN x.net.length x.cN, .slice x.aG x.ga.length x.cG, .slice x.aL x.ln.length x.cL, .slice x.aS x.sd.length x.cS] 48));obtain ⟨w2, h2⟩ := mk_ (w1.alloc (Obj.cells #[.int .i64 d.k, .int .i64 d.a, .int .i64 d.x.k, .int .i64 d.x.q, .int .i64 d.x.r, .int .i64 d.x.c, .int .i64 d.x.b, .int .i64 d.x.p, .int .i64 d.x.h, .bool d.x.up] 236));rw [← h1, ← h2] at hy;have s1 : w1.heap.size = w.heap.size + 1 := by rw [h1]; simp
 have s2 : w2.heap.size = w.heap.size + 1 + 1 := by rw [h2]; simp [s1]
 have k1 : Below w.heap.size w w1 := by rw [h1]; exact below_new _
 have k2 : Below w1.heap.size w1 w2 := by rw [h2]; exact below_new _
 have k3 : Below w2.heap.size w2 y := by rw [hy]; exact below_new _
 have A1 : BxAt w1 w.heap.size x := by rw [h1]; exact BxAt.new w _ x
 have D1 : DeAt w2 w1.heap.size d := by rw [h2]; exact DeAt.new w1 _ d
 refine ⟨(k1.trans (k2.mono k1.size)).trans (k3.mono (k1.trans (k2.mono k1.size)).size), (A1.below k2 A1.lt).below k3 (by omega), ?_, ?_⟩
 ·
  rw [← s1]; exact D1.below k3 D1.lt
 rw [← s2, hy]; exact heap_newF w2 _
theorem ZBx.lt_ {W : World} {q : Nat} (h : ZBx W q) : q < W.heap.size := (Array.getElem?_eq_some_iff.1 h).1
def PZ (w W : World) : Prop := w.heap.size ≤ W.heap.size ∧ ∀ z, ZBx w z → ZBx W z
theorem PZ.of {w W : World} (k : Below w.heap.size w W) : PZ w W := ⟨k.size, fun z h => (k.block z h.lt_).trans h⟩
theorem PZ.later {w W W2 : World} (h : PZ w W) (k : Below W.heap.size W W2) : PZ w W2 := ⟨Nat.le_trans h.1 k.size, fun z hz => (k.block z (h.2 z hz).lt_).trans (h.2 z hz)⟩
theorem PZ.keep {w W W2 : World} {n : Nat} (h : PZ w W) (hn : w.heap.size ≤ n) (k : ∀ g, g ≠ n → W2.heap[g]? = W.heap[g]?) (hs : W.heap.size ≤ W2.heap.size) : PZ w W2 := ⟨Nat.le_trans h.1 hs, fun z hz => (k z (by have := hz.lt_; omega)).trans (h.2 z hz)⟩
theorem PZ.row {w W W2 : World} {X : Type} {enc : X → List Value} {n : Nat} {T : TypeId} {base : Nat} {v : Value} {L : List X} {g : Nat} (h : PZ w W) (f : FOwn enc n T base W v L) (hT : T ≠ 48) (hg : v.ownBlock = some g) (k : ∀ g_, g_ ≠ g → W2.heap[g_]? = W.heap[g_]?) (hs : W.heap.size ≤ W2.heap.size) : PZ w W2 := ⟨Nat.le_trans h.1 hs, fun z hz => (k z (fun e => f.notZ (h.2 z hz) hT (by rw [e]; exact hg))).trans (h.2 z hz)⟩
theorem PZ.grown {w W W2 : World} {X : Type} {enc : X → List Value} {n : Nat} {T : TypeId} {base : Nat} {v : Value} {L : List X} (h : PZ w W) (f : FOwn enc n T base W v L) (hT : T ≠ 48) (gN : W.grownBy W2 v.ownBlock) : PZ w W2 := ⟨Nat.le_trans h.1 gN.size, fun z hz => (gN.block z (h.2 z hz).lt_ (fun e => f.notZ (h.2 z hz) hT e.symm)).trans (h.2 z hz)⟩
theorem PZ.trans {a b c : World} (h : PZ a b) (k : PZ b c) : PZ a c := ⟨Nat.le_trans h.1 k.1, fun z hz => k.2 z (h.2 z hz)⟩
theorem BxB.new (w : World) (t : TypeId) (x : BxD) : BxB (w.alloc (Obj.cells #[.int .i64 x.id, .int .i64 x.po, .int .i64 x.rg.ep, .int .i64 x.rg.ow, .int .i64 x.rg.pa, .slice x.aT x.two.length x.cT, .slice x.aN x.net.length x.cN, .slice x.aG x.ga.length x.cG, .slice x.aL x.ln.length x.cL, .slice x.aS x.sd.length x.cS] t)) w.heap.size x := by
 refine ⟨BxAt.new w _ x, fun i => ?_⟩; simp [go_sem]
theorem ZBx.keep {w w' : World} {q : Nat} (h : ZBx w q) (k : w'.heap[q]? = w.heap[q]?) : ZBx w' q := k.trans h
theorem FView.oneW (w : World) (t : TypeId) (v : Wi) : FView wiEnc (w.alloc (Obj.cells #[.int .i64 v.fr, .bool v.ak, .int .i64 v.li, .int .i64 v.n, .int .i64 v.x.k, .int .i64 v.x.q, .int .i64 v.x.r, .int .i64 v.x.c, .int .i64 v.x.b, .int .i64 v.x.p, .int .i64 v.x.h, .bool v.x.up] t)) (some ⟨w.heap.size, 0, none⟩) [v] := by
 intro _;refine ⟨w.heap.size, 0, rfl, fun j u hv => ?_⟩;simp only [fcells, wiEnc, List.append_nil] at hv;have hj : j < 12 := (List.getElem?_eq_some_iff.1 hv).1;rcases (by omega : j = 0 ∨ j = 1 ∨ j = 2 ∨ j = 3 ∨ j = 4 ∨ j = 5 ∨ j = 6 ∨ j = 7 ∨ j = 8 ∨ j = 9 ∨ j = 10 ∨ j = 11) with rfl | rfl | rfl | rfl | rfl | rfl | rfl | rfl | rfl | rfl | rfl | rfl <;> (cases hv; simp [go_sem])
theorem WiAtO.keep {w w' : World} {q o : Nat} {x : Wi} (h : WiAtO w q o x) (k : w'.heap[q]? = w.heap[q]?) : WiAtO w' q o x :=
 ⟨(World.cell?_of_block (a := ⟨q, o, none⟩) k).trans h.c0, (World.cell?_of_block (a := ⟨q, o + 1, none⟩) k).trans h.c1, (World.cell?_of_block (a := ⟨q, o + 2, none⟩) k).trans h.c2, (World.cell?_of_block (a := ⟨q, o + 3, none⟩) k).trans h.c3, (World.cell?_of_block (a := ⟨q, o + 4, none⟩) k).trans h.c4, (World.cell?_of_block (a := ⟨q, o + 5, none⟩) k).trans h.c5, (World.cell?_of_block (a := ⟨q, o + 6, none⟩) k).trans h.c6, (World.cell?_of_block (a := ⟨q, o + 7, none⟩) k).trans h.c7, (World.cell?_of_block (a := ⟨q, o + 8, none⟩) k).trans h.c8, (World.cell?_of_block (a := ⟨q, o + 9, none⟩) k).trans h.c9, (World.cell?_of_block (a := ⟨q, o + 10, none⟩) k).trans h.c10, (World.cell?_of_block (a := ⟨q, o + 11, none⟩) k).trans h.c11⟩
theorem WiAtO.lt {w : World} {q o : Nat} {x : Wi} (h : WiAtO w q o x) : q < w.heap.size := World.block_lt_of_cell? w _ h.c0
theorem WiAtO.new (w : World) (t : TypeId) (v : Wi) : WiAtO (w.alloc (Obj.cells #[.int .i64 v.fr, .bool v.ak, .int .i64 v.li, .int .i64 v.n, .int .i64 v.x.k, .int .i64 v.x.q, .int .i64 v.x.r, .int .i64 v.x.c, .int .i64 v.x.b, .int .i64 v.x.p, .int .i64 v.x.h, .bool v.x.up] t)) w.heap.size 0 v := by
 constructor <;> simp [go_sem]
theorem bxOk_small {x : BxD} (h : bxOk x.p = true) : x.two.length = 2 ∧ (∀ k, k < 2 → miOk (x.two.getD k MiD.nil).m = true) ∧ x.net.length ≤ 20 ∧ x.ga.length ≤ 4 ∧ x.ln.length ≤ 60 ∧ x.sd.length ≤ 40 := by
 obtain ⟨h1, h2, h3, h4, h5, h6, h7, h8, h9, h10⟩ := bxOk_is.1 h;have e : x.two.length = 2 := by have h3 : (x.two.map MiD.m).length = 2 := h3; simpa using h3
 refine ⟨e, ?_, h7, ?_, ?_, h10⟩
 ·
  intro k hk;rcases (by omega : k = 0 ∨ k = 1) with rfl | rfl
  ·
   rw [mOf_p] at h4; exact h4
  rw [mOf_p] at h5; exact h5
 ·
  unfold nOk at h1;simp only [Bool.and_eq_true, decide_eq_true_eq] at h1;have h8 : (x.ga.length : Int) = x.po := h8;have := h1.2.2;have h9 : x.p.po = x.po := rfl;omega
 unfold insB at h9;simp only [Bool.and_eq_true, decide_eq_true_eq] at h9;exact h9.2
theorem miOk_lg {m : Mi} (h : miOk m = true) : m.lg.length ≤ 60 := by
 obtain ⟨_, _, _, h4, _⟩ := miOk_iff.1 h;unfold insB at h4;simp only [Bool.and_eq_true, decide_eq_true_eq] at h4;exact h4.2
theorem BxO.okV {base : Nat} {w : World} {x : BxD} (h : BxO base w x) (hb : bxOk x.p = true) : BxV w x := by
 obtain ⟨a, b, c, d, e, f⟩ := bxOk_small hb;exact h.view (by omega) (fun i hi => by have := miOk_lg (b i (by omega)); omega) (by omega) (by omega) (by omega) (by omega)
structure BxS (base q z : Nat) (w W : World) (x : BxD) : Prop where
 O : BxO base W x
 A : BxB W q x
 NA : BxNe q x
 Z : ZBx W z
 NZ : BxNe z x
 B : Below base w W
 b0 : base ≤ q
 bz : base ≤ z
 ne : z ≠ q
theorem BxS.sz {base q z : Nat} {w W : World} {x : BxD} (h : BxS base q z w W x) : base ≤ W.heap.size := Nat.le_trans h.b0 (Nat.le_of_lt h.A.lt)
theorem BxS.later {base q z : Nat} {w W W' : World} {x : BxD} (h : BxS base q z w W x) (k : Below W.heap.size W W') : BxS base q z w W' x :=
 ⟨h.O.later k, h.A.below k h.A.lt, h.NA, (k.block _ (zb_lt h.Z)).trans h.Z, h.NZ, h.B.trans (k.mono h.sz), h.b0, h.bz, h.ne⟩
theorem BxS.keepN {base q z n : Nat} {w W W' : World} {x : BxD} (h : BxS base q z w W x) (hn : BxNe n x) (h1 : n ≠ q) (h2 : n ≠ z) (k : ∀ g, g ≠ n → W'.heap[g]? = W.heap[g]?) (hB : Below base w W') : BxS base q z w W' x :=
 ⟨h.O.keepQ hn k, h.A.keep (k _ (fun e => h1 e.symm)), h.NA, h.Z.keep (k _ (fun e => h2 e.symm)), h.NZ, hB, h.b0, h.bz, h.ne⟩
theorem BxS.ret {base q z : Nat} {w W : World} {x : BxD} (h : BxS base q z w W x) : BxO base ((((((((((W.setCell ⟨z, 0, none⟩ (.int .i64 x.id)).setCell ⟨z, 1, none⟩ (.int .i64 x.po)).setCell ⟨z, 2, none⟩ (.int .i64 x.rg.ep)).setCell ⟨z, 3, none⟩ (.int .i64 x.rg.ow)).setCell ⟨z, 4, none⟩ (.int .i64 x.rg.pa)).setCell ⟨z, 5, none⟩ (.slice x.aT x.two.length x.cT)).setCell ⟨z, 6, none⟩ (.slice x.aN x.net.length x.cN)).setCell ⟨z, 7, none⟩ (.slice x.aG x.ga.length x.cG)).setCell ⟨z, 8, none⟩ (.slice x.aL x.ln.length x.cL)).setCell ⟨z, 9, none⟩ (.slice x.aS x.sd.length x.cS)) x ∧ Below base w ((((((((((W.setCell ⟨z, 0, none⟩ (.int .i64 x.id)).setCell ⟨z, 1, none⟩ (.int .i64 x.po)).setCell ⟨z, 2, none⟩ (.int .i64 x.rg.ep)).setCell ⟨z, 3, none⟩ (.int .i64 x.rg.ow)).setCell ⟨z, 4, none⟩ (.int .i64 x.rg.pa)).setCell ⟨z, 5, none⟩ (.slice x.aT x.two.length x.cT)).setCell ⟨z, 6, none⟩ (.slice x.aN x.net.length x.cN)).setCell ⟨z, 7, none⟩ (.slice x.aG x.ga.length x.cG)).setCell ⟨z, 8, none⟩ (.slice x.aL x.ln.length x.cL)).setCell ⟨z, 9, none⟩ (.slice x.aS x.sd.length x.cS)) :=
 ⟨h.O.keepQ h.NZ (fun g hg => heap_put10 W z g x hg), below_put10 (q := z) x h.B h.bz⟩
theorem BxS.pz {base q z : Nat} {w W : World} {x : BxD} (h : BxS base q z w W x) (P : PZ w W) (hz : w.heap.size ≤ z) : PZ w ((((((((((W.setCell ⟨z, 0, none⟩ (.int .i64 x.id)).setCell ⟨z, 1, none⟩ (.int .i64 x.po)).setCell ⟨z, 2, none⟩ (.int .i64 x.rg.ep)).setCell ⟨z, 3, none⟩ (.int .i64 x.rg.ow)).setCell ⟨z, 4, none⟩ (.int .i64 x.rg.pa)).setCell ⟨z, 5, none⟩ (.slice x.aT x.two.length x.cT)).setCell ⟨z, 6, none⟩ (.slice x.aN x.net.length x.cN)).setCell ⟨z, 7, none⟩ (.slice x.aG x.ga.length x.cG)).setCell ⟨z, 8, none⟩ (.slice x.aL x.ln.length x.cL)).setCell ⟨z, 9, none⟩ (.slice x.aS x.sd.length x.cS)) :=
 P.keep hz (fun g hg => heap_put10 W z g x hg) (by simp)
theorem FOwn.blk {X : Type} {enc : X → List Value} {n : Nat} {T : TypeId} {base : Nat} {w : World} {ad : Option Addr} {cap : Nat} {L : List X} (h : FOwn enc n T base w (.slice ad L.length cap) L) (hp : 0 < L.length) : ∃ g, ad = some ⟨g, 0, none⟩ ∧ base ≤ g ∧ g < w.heap.size := by
 rcases h.2 with ⟨e, h0⟩ | ⟨g, c, cur, e, _⟩
 ·
  simp only [Value.slice.injEq] at e;omega
 simp only [Value.slice.injEq] at e;obtain ⟨e1, _, _⟩ := e;subst e1;exact ⟨g, rfl, h.lt g rfl⟩
theorem BxS.setT {base q z : Nat} {w W : World} {x : BxD} (h : BxS base q z w W x) {g k : Nat} (hat : x.aT = some ⟨g, 0, none⟩) (hk : k < x.two.length) (d : MiD) (hd : FOwn ikEnc 8 105 base W (.slice d.ad d.m.lg.length d.cap) d.m.lg) (hap : ∀ g_, (Value.slice d.ad d.m.lg.length d.cap).ownBlock = some g_ → (Value.slice x.aL x.ln.length x.cL).ownBlock ≠ some g_) (hnq : ∀ g_, (Value.slice d.ad d.m.lg.length d.cap).ownBlock = some g_ → g_ ≠ q ∧ g_ ≠ z) :
  BxS base q z w (putAll W g (k * 7) (mdEnc d)) (x.setT k d) := by
 have kp : ∀ k_, k_ ≠ g → (putAll W g (k * 7) (mdEnc d)).heap[k_]? = W.heap[k_]? := fun k_ hk_ => heap_putAll (mdEnc d) W (k * 7) k_ hk_
 have gq : g ≠ q := h.NA.t g (ownB hat rfl);have gz : g ≠ z := h.NZ.t g (ownB hat rfl);have A := h.A.keep (kp _ (fun e => gq e.symm));have hl : (x.setT k d).two.length = x.two.length := by unfold BxD.setT; simp
 have NE : ∀ {q' : Nat}, BxNe q' x → (∀ g_, (Value.slice d.ad d.m.lg.length d.cap).ownBlock = some g_ → g_ ≠ q') → BxNe q' (x.setT k d) := fun hN hd' => ⟨by rw [hl]; exact hN.t, hN.n, hN.g, hN.i, hN.s, getD_set_md x.two k d (fun y => ∀ b, (Value.slice y.ad y.m.lg.length y.cap).ownBlock = some b → b ≠ _) hN.l hd'⟩
 refine ⟨h.O.setT hat hk d hd hap, ⟨⟨A.at_.c0, A.at_.c1, A.at_.c2, A.at_.c3, A.at_.c4, by rw [hl]; exact A.at_.c5, A.at_.c6, A.at_.c7, A.at_.c8, A.at_.c9⟩, A.fr⟩, NE h.NA (fun g_ e => (hnq g_ e).1), h.Z.keep (kp _ (fun e => gz e.symm)), NE h.NZ (fun g_ e => (hnq g_ e).2), ?_, h.b0, h.bz, h.ne⟩;exact below_putAll (h.O.t.lt g (ownB hat rfl)).1 (mdEnc d) (k * 7) h.B
theorem BxS.putN {base q z : Nat} {w W W2 : World} {x : BxD} (h : BxS base q z w W x) (N : List Wi) (a : Option Addr) (c : Nat) (oN : FOwn wiEnc 12 112 base W2 (.slice a N.length c) N) (hk : ∀ g, g < W.heap.size → (Value.slice x.aN x.net.length x.cN).ownBlock ≠ some g → W2.heap[g]? = W.heap[g]?) (hB : Below base w W2) (hq : ∀ b, (Value.slice a N.length c).ownBlock = some b → b ≠ q ∧ b ≠ z) :
  BxB W2 q x ∧ BxS base q z w (W2.setCell ⟨q, 6, none⟩ (.slice a N.length c)) { x with net := N, aN := a, cN := c } := by
 have A := h.A.keep (hk _ h.A.lt (fun e => h.NA.n _ e rfl));have Z := h.Z.keep (hk _ (zb_lt h.Z) (fun e => h.NZ.n _ e rfl));have kp : ∀ g, g ≠ q → (W2.setCell ⟨q, 6, none⟩ (.slice a N.length c)).heap[g]? = W2.heap[g]? := fun g hg => Below.heap_setCell _ _ _ _ hg
 have NE3 : BxNe q { x with net := N, aN := a, cN := c } := ⟨h.NA.t, fun b e => (hq b e).1, h.NA.g, h.NA.i, h.NA.s, h.NA.l⟩;have O := (h.O.setN N a c oN hk).keepQ NE3 kp;exact ⟨A, O, A.sN N a N.length c rfl, NE3, Z.keep (kp _ h.ne), ⟨h.NZ.t, fun b e => (hq b e).2, h.NZ.g, h.NZ.i, h.NZ.s, h.NZ.l⟩, hB.setCell (p := ⟨q, 6, none⟩) h.b0 _, h.b0, h.bz, h.ne⟩
theorem BxS.addN {base q z : Nat} {w W W2 : World} {x : BxD} (h : BxS base q z w W x) (N : List Wi) (v : Value) (oN : FOwn wiEnc 12 112 base W2 v N) (gN : W.grownBy W2 (Value.slice x.aN x.net.length x.cN).ownBlock) (hob : v.ownBlock = (Value.slice x.aN x.net.length x.cN).ownBlock ∨ v.ownBlock = some W.heap.size) :
  ∃ a c, v = .slice a N.length c ∧ BxB W2 q x ∧ BxS base q z w (W2.setCell ⟨q, 6, none⟩ (.slice a N.length c)) { x with net := N, aN := a, cN := c } ∧ ∀ n, n < W.heap.size → BxNe n x → W2.heap[n]? = W.heap[n]? ∧ BxNe n { x with net := N, aN := a, cN := c } := by
 obtain ⟨a, c, rfl⟩ := oN.open_;have hk : ∀ g, g < W.heap.size → (Value.slice x.aN x.net.length x.cN).ownBlock ≠ some g → W2.heap[g]? = W.heap[g]? := fun g h1 h2 => gN.block g h1 (fun e => h2 e.symm)
 have hq : ∀ n, n < W.heap.size → BxNe n x → ∀ b, (Value.slice a N.length c).ownBlock = some b → b ≠ n := fun n hn hN b e => hob.elim (fun e2 => by rw [e2] at e; exact hN.n b e) (fun e2 => by rw [e2] at e; have := Option.some.inj e; omega)
 obtain ⟨A, S⟩ := h.putN N a c oN hk (h.B.grown gN h.sz (fun k e => (h.O.n.lt k e).1)) (fun b e => ⟨hq q h.A.lt h.NA b e, hq z (zb_lt h.Z) h.NZ b e⟩);exact ⟨a, c, rfl, A, S, fun n hn hN => ⟨hk n hn (fun e => hN.n _ e rfl), hN.t, hq n hn hN, hN.g, hN.i, hN.s, hN.l⟩⟩
theorem BxS.setR {base q z : Nat} {w W : World} {x : BxD} (h : BxS base q z w W x) (r : Rg) : BxS base q z w (((W.setCell ⟨q, 2, none⟩ (.int .i64 r.ep)).setCell ⟨q, 3, none⟩ (.int .i64 r.ow)).setCell ⟨q, 4, none⟩ (.int .i64 r.pa)) { x with rg := r } := by
 have kp : ∀ g, g ≠ q → (((W.setCell ⟨q, 2, none⟩ (.int .i64 r.ep)).setCell ⟨q, 3, none⟩ (.int .i64 r.ow)).setCell ⟨q, 4, none⟩ (.int .i64 r.pa)).heap[g]? = W.heap[g]? := fun g hg => by rw [Below.heap_setCell _ _ _ _ hg, Below.heap_setCell _ _ _ _ hg, Below.heap_setCell _ _ _ _ hg]
 have O := h.O.keepQ h.NA kp;exact ⟨⟨O.t, O.l, O.n, O.g, O.i, O.s, O.ap⟩, h.A.sR r, ⟨h.NA.t, h.NA.n, h.NA.g, h.NA.i, h.NA.s, h.NA.l⟩, h.Z.keep (kp _ h.ne), ⟨h.NZ.t, h.NZ.n, h.NZ.g, h.NZ.i, h.NZ.s, h.NZ.l⟩, ((h.B.setCell (p := ⟨q, 2, none⟩) h.b0 _).setCell (p := ⟨q, 3, none⟩) h.b0 _).setCell (p := ⟨q, 4, none⟩) h.b0 _, h.b0, h.bz, h.ne⟩
theorem stepStart1 {base : Nat} (x : BxD) (w y : World) (hO : BxO base w x) (hbw : base ≤ w.heap.size) (hy : y = (w.alloc (Obj.cells #[.int .i64 x.id, .int .i64 x.po, .int .i64 x.rg.ep, .int .i64 x.rg.ow, .int .i64 x.rg.pa, .slice x.aT x.two.length x.cT, .slice x.aN x.net.length x.cN, .slice x.aG x.ga.length x.cG, .slice x.aL x.ln.length x.cL, .slice x.aS x.sd.length x.cS] 48)).alloc (Obj.cells #[.int .i64 0, .int .i64 0, .int .i64 0, .int .i64 0, .int .i64 0, .slice none 0 0, .slice none 0 0, .slice none 0 0, .slice none 0 0, .slice none 0 0] 48)) : BxS base w.heap.size (w.heap.size + 1) w y x ∧ Below w.heap.size w y := by
 obtain ⟨w1, h1⟩ := mk_ (w.alloc (Obj.cells #[.int .i64 x.id, .int .i64 x.po, .int .i64 x.rg.ep, .int .i64 x.rg.ow, .int .i64 x.rg.pa, .slice x.aT x.two.length x.cT, .slice x.aN x.net.length x.cN, .slice x.aG x.ga.length x.cG, .slice x.aL x.ln.length x.cL, .slice x.aS x.sd.length x.cS] 48));rw [← h1] at hy;have s1 : w1.heap.size = w.heap.size + 1 := by rw [h1]; simp
 have k1 : Below w.heap.size w w1 := by rw [h1]; exact below_new _
 have k3 : Below w1.heap.size w1 y := by rw [hy]; exact below_new _
 have A1 : BxB w1 w.heap.size x := by rw [h1]; exact BxB.new w _ x
 have kk := k1.trans (k3.mono k1.size);refine ⟨⟨hO.later kk, A1.below k3 A1.lt, hO.ne (Nat.le_refl _), ?_, hO.ne (Nat.le_succ _), kk.mono hbw, hbw, by omega, by omega⟩, kk⟩;rw [← s1, hy]; exact heap_newF w1 _
theorem stepStartD {base : Nat} (x : BxD) (d : De) (w y : World) (hO : BxO base w x) (hbw : base ≤ w.heap.size) (hy : y = ((w.alloc (Obj.cells #[.int .i64 x.id, .int .i64 x.po, .int .i64 x.rg.ep, .int .i64 x.rg.ow, .int .i64 x.rg.pa, .slice x.aT x.two.length x.cT, .slice x.aN x.net.length x.cN, .slice x.aG x.ga.length x.cG, .slice x.aL x.ln.length x.cL, .slice x.aS x.sd.length x.cS] 48)).alloc (Obj.cells #[.int .i64 d.k, .int .i64 d.a, .int .i64 d.x.k, .int .i64 d.x.q, .int .i64 d.x.r, .int .i64 d.x.c, .int .i64 d.x.b, .int .i64 d.x.p, .int .i64 d.x.h, .bool d.x.up] 236)).alloc (Obj.cells #[.int .i64 0, .int .i64 0, .int .i64 0, .int .i64 0, .int .i64 0, .slice none 0 0, .slice none 0 0, .slice none 0 0, .slice none 0 0, .slice none 0 0] 48)) : BxS base w.heap.size (w.heap.size + 1 + 1) w y x ∧ DeAt y (w.heap.size + 1) d ∧ Below w.heap.size w y ∧ BxNe (w.heap.size + 1) x := by
 obtain ⟨w1, h1⟩ := mk_ (w.alloc (Obj.cells #[.int .i64 x.id, .int .i64 x.po, .int .i64 x.rg.ep, .int .i64 x.rg.ow, .int .i64 x.rg.pa, .slice x.aT x.two.length x.cT, .slice x.aN x.net.length x.cN, .slice x.aG x.ga.length x.cG, .slice x.aL x.ln.length x.cL, .slice x.aS x.sd.length x.cS] 48));obtain ⟨w2, h2⟩ := mk_ (w1.alloc (Obj.cells #[.int .i64 d.k, .int .i64 d.a, .int .i64 d.x.k, .int .i64 d.x.q, .int .i64 d.x.r, .int .i64 d.x.c, .int .i64 d.x.b, .int .i64 d.x.p, .int .i64 d.x.h, .bool d.x.up] 236));rw [← h1, ← h2] at hy;have s1 : w1.heap.size = w.heap.size + 1 := by rw [h1]; simp
 have s2 : w2.heap.size = w.heap.size + 1 + 1 := by rw [h2]; simp [s1]
 have k1 : Below w.heap.size w w1 := by rw [h1]; exact below_new _
 have k2 : Below w1.heap.size w1 w2 := by rw [h2]; exact below_new _
 have k3 : Below w2.heap.size w2 y := by rw [hy]; exact below_new _
 have A1 : BxB w1 w.heap.size x := by rw [h1]; exact BxB.new w _ x
 have D1 : DeAt w2 w1.heap.size d := by rw [h2]; exact DeAt.new w1 _ d
 have kk := (k1.trans (k2.mono k1.size)).trans (k3.mono (k1.trans (k2.mono k1.size)).size);refine ⟨⟨hO.later kk, (A1.below k2 A1.lt).below k3 (by omega), hO.ne (Nat.le_refl _), ?_, hO.ne (by omega), kk.mono hbw, hbw, by omega, by omega⟩, ?_, kk, hO.ne (Nat.le_succ _)⟩
 ·
  rw [← s2, hy]; exact heap_newF w2 _
 rw [← s1]; exact D1.below k3 D1.lt
theorem stepStartW {base : Nat} (x : BxD) (v : Wi) (w y : World) (hO : BxO base w x) (hbw : base ≤ w.heap.size) (hy : y = ((w.alloc (Obj.cells #[.int .i64 x.id, .int .i64 x.po, .int .i64 x.rg.ep, .int .i64 x.rg.ow, .int .i64 x.rg.pa, .slice x.aT x.two.length x.cT, .slice x.aN x.net.length x.cN, .slice x.aG x.ga.length x.cG, .slice x.aL x.ln.length x.cL, .slice x.aS x.sd.length x.cS] 48)).alloc (Obj.cells #[.int .i64 v.fr, .bool v.ak, .int .i64 v.li, .int .i64 v.n, .int .i64 v.x.k, .int .i64 v.x.q, .int .i64 v.x.r, .int .i64 v.x.c, .int .i64 v.x.b, .int .i64 v.x.p, .int .i64 v.x.h, .bool v.x.up] 112)).alloc (Obj.cells #[.int .i64 0, .int .i64 0, .int .i64 0, .int .i64 0, .int .i64 0, .slice none 0 0, .slice none 0 0, .slice none 0 0, .slice none 0 0, .slice none 0 0] 48)) : BxS base w.heap.size (w.heap.size + 1 + 1) w y x ∧ WiAtO y (w.heap.size + 1) 0 v ∧ Below w.heap.size w y ∧ BxNe (w.heap.size + 1) x := by
 obtain ⟨w1, h1⟩ := mk_ (w.alloc (Obj.cells #[.int .i64 x.id, .int .i64 x.po, .int .i64 x.rg.ep, .int .i64 x.rg.ow, .int .i64 x.rg.pa, .slice x.aT x.two.length x.cT, .slice x.aN x.net.length x.cN, .slice x.aG x.ga.length x.cG, .slice x.aL x.ln.length x.cL, .slice x.aS x.sd.length x.cS] 48));obtain ⟨w2, h2⟩ := mk_ (w1.alloc (Obj.cells #[.int .i64 v.fr, .bool v.ak, .int .i64 v.li, .int .i64 v.n, .int .i64 v.x.k, .int .i64 v.x.q, .int .i64 v.x.r, .int .i64 v.x.c, .int .i64 v.x.b, .int .i64 v.x.p, .int .i64 v.x.h, .bool v.x.up] 112));rw [← h1, ← h2] at hy;have s1 : w1.heap.size = w.heap.size + 1 := by rw [h1]; simp
 have s2 : w2.heap.size = w.heap.size + 1 + 1 := by rw [h2]; simp [s1]
 have k1 : Below w.heap.size w w1 := by rw [h1]; exact below_new _
 have k2 : Below w1.heap.size w1 w2 := by rw [h2]; exact below_new _
 have k3 : Below w2.heap.size w2 y := by rw [hy]; exact below_new _
 have A1 : BxB w1 w.heap.size x := by rw [h1]; exact BxB.new w _ x
 have D1 : WiAtO w2 w1.heap.size 0 v := by rw [h2]; exact WiAtO.new w1 _ v
 have kk := (k1.trans (k2.mono k1.size)).trans (k3.mono (k1.trans (k2.mono k1.size)).size);refine ⟨⟨hO.later kk, (A1.below k2 A1.lt).below k3 (by omega), hO.ne (Nat.le_refl _), ?_, hO.ne (by omega), kk.mono hbw, hbw, by omega, by omega⟩, ?_, kk, hO.ne (Nat.le_succ _)⟩
 ·
  rw [← s2, hy]; exact heap_newF w2 _
 rw [← s1]; exact D1.below k3 D1.lt
theorem noteR_lgl {m : Mi} {x : Ik} {n : Nat} (h : m.lg.length ≤ n) : (noteR m x).lg.length ≤ n + 1 := by
 unfold noteR;split
 ·
  show (m.lg ++ [x]).length ≤ n + 1;simp only [List.length_append, List.length_cons, List.length_nil]; omega
 omega
def SmN (n : Nat) (x : Bx) : Prop := x.two.length = 2 ∧ (∀ k, k < 2 → (x.two.getD k Mi.nil).lg.length ≤ n) ∧ x.net.length ≤ n ∧ x.ga.length ≤ n ∧ x.ln.length ≤ n ∧ x.sd.length ≤ n
theorem SmN.setM {n : Nat} {x : Bx} (h : SmN n x) (s : Int) {m : Mi} (hm : m.lg.length ≤ n) : SmN n (setM x s m) := by
 obtain ⟨h1, h2, h3, h4, h5, h6⟩ := h;refine ⟨by show (x.two.set s.toNat m).length = 2; rw [List.length_set]; exact h1, fun k hk => ?_, h3, h4, h5, h6⟩;show ((x.two.set s.toNat m).getD k Mi.nil).lg.length ≤ n;rw [List.getD_eq_getElem?_getD, List.getElem?_set];by_cases e : s.toNat = k
 ·
  rw [if_pos e, if_pos (by omega)];exact hm
 rw [if_neg e];have := h2 k hk;rwa [List.getD_eq_getElem?_getD] at this
theorem SmN.net {n : Nat} {x : Bx} (h : SmN n x) {N : List Wi} (hN : N.length ≤ n) : SmN n (setN x N) := ⟨h.1, h.2.1, hN, h.2.2.2.1, h.2.2.2.2.1, h.2.2.2.2.2⟩
theorem SmN.reg {n : Nat} {x : Bx} (h : SmN n x) (r : Rg) : SmN n (setR x r) := h
theorem SmN.up {n k : Nat} {x : Bx} (h : SmN n x) (hk : n ≤ k) : SmN k x := ⟨h.1, fun j hj => Nat.le_trans (h.2.1 j hj) hk, by have := h.2.2.1; omega, by have := h.2.2.2.1; omega, by have := h.2.2.2.2.1; omega, by have := h.2.2.2.2.2; omega⟩
theorem SmN.lg_ {n : Nat} {x : Bx} (h : SmN n x) (s : Int) : (mOf x s).lg.length ≤ n := by
 by_cases k : s.toNat < 2
 ·
  exact h.2.1 s.toNat k
 unfold mOf;have hn : x.two.length ≤ s.toNat := by have := h.1; omega
 rw [List.getD_eq_getElem?_getD, List.getElem?_eq_none hn];exact Nat.zero_le _
theorem SmN.of {x : Bx} (h : bxOk x = true) : SmN 60 x := by
 obtain ⟨_, _, h3, h4, h5, _, h7, h8, h9, h10⟩ := bxOk_is.1 h;obtain ⟨hn, _⟩ := bxOk_is.1 h;refine ⟨h3, fun k hk => ?_, by omega, ?_, ?_, by omega⟩
 ·
  rcases (by omega : k = 0 ∨ k = 1) with rfl | rfl
  ·
   exact miOk_lg h4
  exact miOk_lg h5
 ·
  unfold nOk at hn;simp only [Bool.and_eq_true, decide_eq_true_eq] at hn;omega
 unfold insB at h9;simp only [Bool.and_eq_true, decide_eq_true_eq] at h9;exact h9.2
theorem SmN.acc {n : Nat} {x : Bx} (h : SmN n x) (hn : 40 ≤ n) (s : Int) (O : List Ou) : SmN n (accX x s O) := by
 unfold accX;split
 ·
  exact ⟨h.1, h.2.1, h.2.2.1, by show (O.foldl gateX x.ga).length ≤ n; rw [gateX_len]; exact h.2.2.2.1, h.2.2.2.2.1, by have := lastS_len (x.sd ++ O); show (lastS (x.sd ++ O)).length ≤ n; omega⟩
 exact h
theorem SmN.line_ {n : Nat} {x : Bx} (h : SmN n x) (k : Int) (y : Ik) : SmN (n + 1) (lineX x k y) := by
 unfold lineX;split
 ·
  refine ⟨h.1, fun j hj => by have := h.2.1 j hj; show (x.two.getD j Mi.nil).lg.length ≤ n + 1; omega, by have := h.2.2.1; show x.net.length ≤ n + 1; omega, by have := h.2.2.2.1; show x.ga.length ≤ n + 1; omega, ?_, by have := h.2.2.2.2.2; show x.sd.length ≤ n + 1; omega⟩;show (x.ln ++ [y]).length ≤ n + 1;have := h.2.2.2.2.1;simp only [List.length_append, List.length_cons, List.length_nil];omega
 exact h.up (by omega)
theorem SmN.take_ {n : Nat} {x : Bx} (h : SmN n x) (d : De) : SmN n (setN x (x.net.take d.a.toNat ++ x.net.drop (d.a.toNat + 1))) := h.net (by
 have := h.2.2.1;simp only [List.length_append, List.length_take, List.length_drop];omega)
theorem SmN.hear_ {n : Nat} {x : Bx} (h : SmN n x) (w : Wi) : SmN (n + 1) (hearN x w) := by
 unfold hearN;split
 ·
  exact (h.up (by omega)).setM _ (noteR_lgl (h.lg_ _))
 exact h.up (by omega)
theorem SmN.heard {n : Nat} {x : Bx} (h : SmN n x) (w : Wi) : SmN (n + 1) (heardX x w) := by
 have hN := h.hear_ w;have hl := hN.2.2.1;have hu := h.up (show n ≤ n + 1 by omega);unfold heardX;split
 ·
  exact hu
 split
 ·
  split
  ·
   exact hu.setM _ (hu.lg_ _)
  exact hu
 split
 ·
  exact hu
 split
 ·
  refine hN.net ?_;have := h.2.2.1;simp only [List.length_append, List.length_cons, List.length_nil];omega
 exact hN
theorem SmN.one {x : Bx} (h : SmN 60 x) (d : De) : SmN 62 (oneX x d).1 := by
 have hu := h.up (show 60 ≤ 62 by omega);have hn := h.2.2.1;unfold oneX;split
 ·
  unfold inX;split
  ·
   exact hu
  split
  ·
   exact hu.setM _ (Nat.le_trans (noteR_lgl (h.lg_ _)) (by omega))
  exact hu
 split
 ·
  unfold sayX;split
  ·
   exact hu
  exact (((h.acc (by omega) _ _).line_ _ _).up (by omega)).setM _ (hu.lg_ _)
 split
 ·
  unfold netX;split
  ·
   exact hu
  split
  ·
   split
   ·
    exact hu
   refine hu.net ?_;simp only [List.length_append, List.length_cons, List.length_nil];omega
  split
  ·
   exact ((h.take_ d).heard _).up (by omega)
  exact hu.take_ d
 split
 ·
  exact hu
 split
 ·
  unfold shipX;split
  ·
   exact hu
  split
  ·
   exact hu
  refine hu.net ?_;simp only [List.length_append, List.length_cons, List.length_nil];omega
 split
 ·
  unfold fallX;split
  ·
   exact hu.setM _ (Nat.zero_le _)
  split
  ·
   exact hu.setM _ (Nat.zero_le _)
  exact hu
 unfold regX;split
 ·
  split
  ·
   exact hu
  split
  ·
   exact hu
  refine (hu.reg _).setM _ ?_;exact hu.lg_ d.a
 split <;> split <;> first | exact hu.reg _ | exact hu
theorem BxO.smV {base n : Nat} {w : World} {x : BxD} (h : BxO base w x) (hs : SmN n x.p) (hn : n ≤ 1000) : BxV w x := by
 obtain ⟨h1, h2, h3, h4, h5, h6⟩ := hs;have e2 : x.two.length = 2 := by have h1 : (x.two.map MiD.m).length = 2 := h1; simpa using h1
 refine h.view (by omega) (fun i hi => ?_) (by have h3 : x.net.length ≤ n := h3; omega) (by have h4 : x.ga.length ≤ n := h4; omega) (by have h5 : x.ln.length ≤ n := h5; omega) (by have h6 : x.sd.length ≤ n := h6; omega);have := h2 i (by omega);have e := mOf_p x (i : Int);unfold mOf at e;simp only [Int.toNat_natCast] at e;rw [e] at this;omega
def deEnc (d : De) : List Value := [.int .i64 d.k, .int .i64 d.a, .int .i64 d.x.k, .int .i64 d.x.q, .int .i64 d.x.r, .int .i64 d.x.c, .int .i64 d.x.b, .int .i64 d.x.p, .int .i64 d.x.h, .bool d.x.up]
theorem deEnc_len (d : De) : (deEnc d).length = 10 := rfl
theorem deEnc_ones (L : List De) : ∀ u ∈ fcells deEnc L, u.oneCell' = true := by
 induction L with
 | nil => intro u h; cases h
 | cons x L ih =>
  intro u h;simp only [fcells, deEnc, List.mem_append, List.mem_cons, List.not_mem_nil, or_false] at h;rcases h with (rfl | rfl | rfl | rfl | rfl | rfl | rfl | rfl | rfl | rfl) | h
  ·
   rfl
  ·
   rfl
  ·
   rfl
  ·
   rfl
  ·
   rfl
  ·
   rfl
  ·
   rfl
  ·
   rfl
  ·
   rfl
  ·
   rfl
  exact ih u h
theorem deInfo : (Tryz.prog.info? 236).map (fun i => (i.zero, i.size, i.bytes)) = some (some (.agg #[.int .i64 0, .int .i64 0, .int .i64 0, .int .i64 0, .int .i64 0, .int .i64 0, .int .i64 0, .int .i64 0, .int .i64 0, .bool false]), 10, 80) := by kernel_rfl
theorem FView.oneDe (w : World) (t : TypeId) (d : De) : FView deEnc (w.alloc (Obj.cells #[.int .i64 d.k, .int .i64 d.a, .int .i64 d.x.k, .int .i64 d.x.q, .int .i64 d.x.r, .int .i64 d.x.c, .int .i64 d.x.b, .int .i64 d.x.p, .int .i64 d.x.h, .bool d.x.up] t)) (some ⟨w.heap.size, 0, none⟩) [d] := by
 intro _;refine ⟨w.heap.size, 0, rfl, fun j u hv => ?_⟩;simp only [fcells, deEnc, List.append_nil] at hv;have hj : j < 10 := (List.getElem?_eq_some_iff.1 hv).1;rcases (by omega : j = 0 ∨ j = 1 ∨ j = 2 ∨ j = 3 ∨ j = 4 ∨ j = 5 ∨ j = 6 ∨ j = 7 ∨ j = 8 ∨ j = 9) with rfl | rfl | rfl | rfl | rfl | rfl | rfl | rfl | rfl | rfl <;> (cases hv; simp [go_sem])
theorem BxO.rowT {base : Nat} {w w' : World} {x : BxD} (h : BxO base w x) {X : Type} {enc : X → List Value} {n : Nat} {T : TypeId} {b : Nat} {v : Value} {L : List X} (f : FOwn enc n T b w v L) (t1 : T ≠ 28) (t2 : T ≠ 105) (t3 : T ≠ 112) (t4 : T ≠ 4) (t5 : T ≠ 114) (g : w.grownBy w' v.ownBlock) : BxO base w' x :=
 ⟨h.t.keep (fun g_ e => g.block g_ (h.t.lt g_ e).2 (fun e2 => f.apart h.t t1 e2.symm e)), fun i hi => (h.l i hi).keep (fun g_ e => g.block g_ ((h.l i hi).lt g_ e).2 (fun e2 => f.apart (h.l i hi) t2 e2.symm e)), h.n.keep (fun g_ e => g.block g_ (h.n.lt g_ e).2 (fun e2 => f.apart h.n t3 e2.symm e)), h.g.keep (fun g_ e => g.block g_ (h.g.lt g_ e).2 (fun e2 => f.apart h.g t4 e2.symm e)), h.i.keep (fun g_ e => g.block g_ (h.i.lt g_ e).2 (fun e2 => f.apart h.i t2 e2.symm e)), h.s.keep (fun g_ e => g.block g_ (h.s.lt g_ e).2 (fun e2 => f.apart h.s t5 e2.symm e)), h.ap⟩
theorem BxO.cur {base cb : Nat} {w w' : World} {x : BxD} (h : BxO base w x) (g : w.grownBy w' (some cb)) (hb : cb < base) : BxO base w' x :=
 h.keep (fun g_ a b => g.block g_ b (by simp; omega))
theorem bxOk_draw {x : BxD} (h : bxOk x.p = true) : x.po ≤ 4 ∧ x.net.length ≤ 20 ∧ (0 ≤ x.rg.ow ∧ x.rg.ow ≤ 1) := by
 obtain ⟨h1, h2, h3, h4, h5, h6, h7, h8, h9, h10⟩ := bxOk_is.1 h;have h1 : nOk x.id x.po = true := h1;have h2 : rgOk x.rg = true := h2;unfold nOk at h1;unfold rgOk at h2;simp only [Bool.and_eq_true, decide_eq_true_eq] at h1 h2;exact ⟨by omega, h7, by omega⟩
structure RunQ (w : World) (cb : Nat) (ad : Option Addr) (len cap p7 p9 : Nat) (s x : BxD) (W : World) : Prop where
 D : DV w cb ad len cap W
 Z4 : ZBx W w.heap.size
 Z6 : ZBx W (w.heap.size + 1)
 A7 : BxB W p7 s
 A9 : BxB W p9 x
 O : BxO w.heap.size W x
 h7 : w.heap.size + 1 < p7
 h9 : p7 < p9
theorem RunQ.later {w W : World} {cb : Nat} {ad : Option Addr} {len cap p7 p9 : Nat} {s x : BxD} {W2 : World} (h : RunQ w cb ad len cap p7 p9 s x W) (k : Below W.heap.size W W2) : RunQ w cb ad len cap p7 p9 s x W2 :=
 ⟨h.D.later8 k, h.Z4.keep (k.block _ h.Z4.lt_), h.Z6.keep (k.block _ h.Z6.lt_), h.A7.below k h.A7.lt, h.A9.below k h.A9.lt, h.O.later k, h.h7, h.h9⟩
theorem RunQ.step {w W : World} {cb : Nat} {ad : Option Addr} {len cap p7 p9 : Nat} {s x : BxD} {W2 : World} {f : Nat → Int} (h : RunQ w cb ad len cap p7 p9 s x W) (hcb : cb < w.heap.size) (s_ : Src W2 cb ad len cap f) (g : W.grownBy W2 (some cb)) : RunQ w cb ad len cap p7 p9 s x W2 :=
 ⟨h.D.step s_ g, h.Z4.keep (g.block _ h.Z4.lt_ (by simp; omega)), h.Z6.keep (g.block _ h.Z6.lt_ (by simp; omega)), h.A7.keep (g.block _ h.A7.lt (by have := h.h7; simp; omega)), h.A9.keep (g.block _ h.A9.lt (by have := h.h7; have := h.h9; simp; omega)), h.O.cur g hcb, h.h7, h.h9⟩
theorem RunQ.row {w W : World} {cb : Nat} {ad : Option Addr} {len cap p7 p9 : Nat} {s x : BxD} {W2 : World} {v : Value} {L : List De} (h : RunQ w cb ad len cap p7 p9 s x W) (hcb : cb < w.heap.size) (f : FOwn deEnc 10 236 (p9 + 1) W v L) (g : W.grownBy W2 v.ownBlock) : RunQ w cb ad len cap p7 p9 s x W2 := by
 have ho : ∀ k, v.ownBlock = some k → p9 + 1 ≤ k := fun k e => (f.lt k e).1
 have h7 := h.h7;have h9 := h.h9;have kp : ∀ q, q < W.heap.size → q < p9 + 1 → W2.heap[q]? = W.heap[q]? := fun q a b => g.block q a (fun e => by have := ho q e.symm; omega)
 exact ⟨⟨h.D.cur.carry (kp _ h.D.cur.lt (by omega)), grown_row h.D.gr g (fun k e => by have := ho k e; omega)⟩, h.Z4.keep (kp _ h.Z4.lt_ (by omega)), h.Z6.keep (kp _ h.Z6.lt_ (by omega)), h.A7.keep (kp _ h.A7.lt (by omega)), h.A9.keep (kp _ h.A9.lt (by omega)), h.O.rowT f (by decide) (by decide) (by decide) (by decide) (by decide) g, h7, h9⟩
theorem DV.put10_ {w W : World} {cb : Nat} {ad : Option Addr} {len cap q : Nat} (z : BxD) (h : DV w cb ad len cap W) (hq : w.heap.size ≤ q) (hcb : cb < w.heap.size) : DV w cb ad len cap ((((((((((W.setCell ⟨q, 0, none⟩ (.int .i64 z.id)).setCell ⟨q, 1, none⟩ (.int .i64 z.po)).setCell ⟨q, 2, none⟩ (.int .i64 z.rg.ep)).setCell ⟨q, 3, none⟩ (.int .i64 z.rg.ow)).setCell ⟨q, 4, none⟩ (.int .i64 z.rg.pa)).setCell ⟨q, 5, none⟩ (.slice z.aT z.two.length z.cT)).setCell ⟨q, 6, none⟩ (.slice z.aN z.net.length z.cN)).setCell ⟨q, 7, none⟩ (.slice z.aG z.ga.length z.cG)).setCell ⟨q, 8, none⟩ (.slice z.aL z.ln.length z.cL)).setCell ⟨q, 9, none⟩ (.slice z.aS z.sd.length z.cS)) :=
 ((((((((((h.set hq hcb _).set hq hcb _).set hq hcb _).set hq hcb _).set hq hcb _).set hq hcb _).set hq hcb _).set hq hcb _).set hq hcb _).set hq hcb _)
theorem RunQ.put {w W : World} {cb : Nat} {ad : Option Addr} {len cap p7 p9 : Nat} {s x : BxD} {base : Nat} (h : RunQ w cb ad len cap p7 p9 s x W) (hcb : cb < w.heap.size) (z : BxD) (hz : BxO base W z) (hb : p9 < base) : RunQ w cb ad len cap p7 p9 s z ((((((((((W.setCell ⟨p9, 0, none⟩ (.int .i64 z.id)).setCell ⟨p9, 1, none⟩ (.int .i64 z.po)).setCell ⟨p9, 2, none⟩ (.int .i64 z.rg.ep)).setCell ⟨p9, 3, none⟩ (.int .i64 z.rg.ow)).setCell ⟨p9, 4, none⟩ (.int .i64 z.rg.pa)).setCell ⟨p9, 5, none⟩ (.slice z.aT z.two.length z.cT)).setCell ⟨p9, 6, none⟩ (.slice z.aN z.net.length z.cN)).setCell ⟨p9, 7, none⟩ (.slice z.aG z.ga.length z.cG)).setCell ⟨p9, 8, none⟩ (.slice z.aL z.ln.length z.cL)).setCell ⟨p9, 9, none⟩ (.slice z.aS z.sd.length z.cS)) := by
 have h7 := h.h7;have h9 := h.h9;have kp : ∀ k, k ≠ p9 → ((((((((((W.setCell ⟨p9, 0, none⟩ (.int .i64 z.id)).setCell ⟨p9, 1, none⟩ (.int .i64 z.po)).setCell ⟨p9, 2, none⟩ (.int .i64 z.rg.ep)).setCell ⟨p9, 3, none⟩ (.int .i64 z.rg.ow)).setCell ⟨p9, 4, none⟩ (.int .i64 z.rg.pa)).setCell ⟨p9, 5, none⟩ (.slice z.aT z.two.length z.cT)).setCell ⟨p9, 6, none⟩ (.slice z.aN z.net.length z.cN)).setCell ⟨p9, 7, none⟩ (.slice z.aG z.ga.length z.cG)).setCell ⟨p9, 8, none⟩ (.slice z.aL z.ln.length z.cL)).setCell ⟨p9, 9, none⟩ (.slice z.aS z.sd.length z.cS)).heap[k]? = W.heap[k]? := fun k hk => heap_put10 W p9 k z hk
 exact ⟨h.D.put10_ z (by omega) hcb, h.Z4.keep (kp _ (by omega)), h.Z6.keep (kp _ (by omega)), h.A7.keep (kp _ (by omega)), h.A9.put z, (hz.keep (fun g a _ => kp g (by omega))).base (by omega), h7, h9⟩
def DrewRun (w : World) (cb : Nat) (ad : Option Addr) (len cap : Nat) (f : Nat → Int) (e : Ending) (w' : World) : Prop :=
 ∃ (s x : BxD) (v : Value), e = .returned (.tuple #[.agg #[.int .i64 s.id, .int .i64 s.po, .int .i64 s.rg.ep, .int .i64 s.rg.ow, .int .i64 s.rg.pa, .slice s.aT s.two.length s.cT, .slice s.aN s.net.length s.cN, .slice s.aG s.ga.length s.cG, .slice s.aL s.ln.length s.cL, .slice s.aS s.sd.length s.cS], v, .agg #[.int .i64 x.id, .int .i64 x.po, .int .i64 x.rg.ep, .int .i64 x.rg.ow, .int .i64 x.rg.pa, .slice x.aT x.two.length x.cT, .slice x.aN x.net.length x.cN, .slice x.aG x.ga.length x.cG, .slice x.aL x.ln.length x.cL, .slice x.aS x.sd.length x.cS]]) ∧ bxOk x.p = true ∧ BxO w.heap.size w' x ∧ Src w' cb ad len cap f ∧ w.grownBy w' (some cb)
def DrewBX (w : World) (cb : Nat) (ad : Option Addr) (len cap : Nat) (f : Nat → Int) (e : Ending) (w' : World) : Prop :=
 ∃ x : BxD, e = .returned (.agg #[.int .i64 x.id, .int .i64 x.po, .int .i64 x.rg.ep, .int .i64 x.rg.ow, .int .i64 x.rg.pa, .slice x.aT x.two.length x.cT, .slice x.aN x.net.length x.cN, .slice x.aG x.ga.length x.cG, .slice x.aL x.ln.length x.cL, .slice x.aS x.sd.length x.cS]) ∧ bxOk x.p = true ∧ BxO w.heap.size w' x ∧ Src w' cb ad len cap f ∧ w.grownBy w' (some cb)
theorem FView.oneK (w : World) (t : TypeId) (x : Ik) : FView ikEnc (w.alloc (Obj.cells #[.int .i64 x.k, .int .i64 x.q, .int .i64 x.r, .int .i64 x.c, .int .i64 x.b, .int .i64 x.p, .int .i64 x.h, .bool x.up] t)) (some ⟨w.heap.size, 0, none⟩) [x] := by
 intro _;refine ⟨w.heap.size, 0, rfl, fun j v hv => ?_⟩;simp only [fcells, ikEnc, List.append_nil] at hv;have hj : j < 8 := (List.getElem?_eq_some_iff.1 hv).1;rcases (by omega : j = 0 ∨ j = 1 ∨ j = 2 ∨ j = 3 ∨ j = 4 ∨ j = 5 ∨ j = 6 ∨ j = 7) with rfl | rfl | rfl | rfl | rfl | rfl | rfl | rfl <;> (cases hv; simp [go_sem])
set_option maxHeartbeats 4000000 in
theorem noteS (m : Mi) (x : Ik) (ad : Option Addr) (cap : Nat) (w : World) (hv : FView ikEnc w ad m.lg) (hl : m.lg.length ≤ 1048576) (hn : ad = none → cap = 0) :
  Calls Tryz.prog 246 #[.agg #[.bool m.up, .int .i64 m.li, .int .i64 m.ep, .slice ad m.lg.length cap, .int .i64 m.sd, .int .i64 m.ac, .int .i64 m.al], .agg #[.int .i64 x.k, .int .i64 x.q, .int .i64 x.r, .int .i64 x.c, .int .i64 x.b, .int .i64 x.p, .int .i64 x.h, .bool x.up]] w fun e w' => ∃ a c, e = .returned (.tuple #[.agg #[.bool (noteR m x).up, .int .i64 (noteR m x).li, .int .i64 (noteR m x).ep, .slice a (noteR m x).lg.length c, .int .i64 (noteR m x).sd, .int .i64 (noteR m x).ac, .int .i64 (noteR m x).al], .bool (noteB m x)]) ∧ FOwn ikEnc 8 105 w.heap.size w' (.slice a (noteR m x).lg.length c) (noteR m x).lg ∧ Below w.heap.size w w' := by
 have hB := hv.lt ikEnc_len (by omega);obtain ⟨y, hy⟩ := mk_ (((w.alloc (Obj.cells #[.bool m.up, .int .i64 m.li, .int .i64 m.ep, .slice ad m.lg.length cap, .int .i64 m.sd, .int .i64 m.ac, .int .i64 m.al] 28)).alloc (Obj.cells #[.int .i64 x.k, .int .i64 x.q, .int .i64 x.r, .int .i64 x.c, .int .i64 x.b, .int .i64 x.p, .int .i64 x.h, .bool x.up] 105)).alloc (Obj.cells #[.bool false, .int .i64 0, .int .i64 0, .slice none 0 0, .int .i64 0, .int .i64 0, .int .i64 0] 28));have B0 : Below w.heap.size w y := by rw [hy]; exact (((Below.refl _ _).alloc (Nat.le_refl _) _).alloc (by simp) _).alloc (by simp; omega) _
 have A0 : MiAt y w.heap.size m (.slice ad m.lg.length cap) := by rw [hy]; constructor <;> simp [go_sem]
 have X0 : InAt y (w.heap.size + 1) x := by rw [hy]; constructor <;> simp [go_sem]
 have A1 : MiBox y (w.heap.size + 1 + 1) ⟨false, 0, 0, [], 0, 0, 0⟩ (.slice none 0 0) := by rw [hy]; constructor <;> simp [go_sem]
 have S0 := A1.lt;have hv1 := hv.below B0 hB;clear hv hB;obtain ⟨i1, hj, hy0, hy1, hy2⟩ := info_parts ikInfo;have HV : ∀ a, ad = some a → 0 < m.lg.length → a.block < y.heap.size := hv1.lt ikEnc_len (by omega);go_enter Tryz.func246, Tryz.ntmps246
 obtain ⟨x0, x1, x2, x3, x4, x5, x6⟩ := id A0;go_wp2_with fail
 go_at_call 63
 rw [← hy];clear hy x0 x1 x2 x3 x4 x5 x6;refine (miCop m ad cap y hv1 (by omega) hn).mono ?_;rintro e u1 ⟨a1, c1, rfl, O1, k1⟩;have B1 := B0.trans (k1.mono B0.size);have A0 := A0.below k1 A0.lt;have X0 := X0.below k1 X0.lt;have A1 := A1.below k1 A1.lt;have hv1 := hv1.below k1 (hv1.lt ikEnc_len (by omega));have s1 := k1.size;have lo1 := O1.lt;clear k1 B0;obtain ⟨u2, hu2⟩ := mk_ (u1.alloc (Obj.cells #[.bool m.up, .int .i64 m.li, .int .i64 m.ep, .slice a1 m.lg.length c1, .int .i64 m.sd, .int .i64 m.ac, .int .i64 m.al] 28));have k2 : Below u1.heap.size u1 u2 := by rw [hu2]; exact below_new _
 have N : MiBox u2 u1.heap.size m (.slice a1 m.lg.length c1) := by rw [hu2]; exact MiBox.new u1 _ _ _
 have B2 := B1.trans (k2.mono B1.size);have A0 := A0.below k2 A0.lt;have X0 := X0.below k2 X0.lt;have A1 := A1.below k2 A1.lt;have hv1 := hv1.below k2 (hv1.lt ikEnc_len (by omega));have O1 := O1.later k2;have s2 := N.lt;have s2' := k2.size;obtain ⟨q, hq⟩ := mk_ u1.heap.size;go_upto_region 2 with fail
 rw [← hu2];clear hu2 k2 B1;rw [← hq] at N s2 lo1 s1 s2' ⊢;clear hq;have V1 := FView.oneK u2 105 x;have kx : Below u2.heap.size u2 (u2.alloc (Obj.cells #[.int .i64 x.k, .int .i64 x.q, .int .i64 x.r, .int .i64 x.c, .int .i64 x.b, .int .i64 x.p, .int .i64 x.h, .bool x.up] 105)) := below_new _;have O4 := O1.later kx;have N4 := N.below kx N.lt;have X4 := X0.below kx X0.lt;obtain ⟨n0, n1, n2, n3, n4, n5, n6, nf⟩ := id N4;obtain ⟨e0, e1, e2, e3, e4, e5, e6, e7⟩ := id X0;obtain ⟨p0, p1, p2, p3, p4, p5, p6, pf⟩ := id N;go_wp2_with (first | (at_builtin; refine fappL ikEnc_len ikEnc_ones rfl _ _ 26 rfl y.heap.size 105 i1 (.agg #[.int .i64 0, .int .i64 0, .int .i64 0, .int .i64 0, .int .i64 0, .int .i64 0, .int .i64 0, .bool false]) 64 Tryz.underlying26 hj hy0 hy1 hy2 rfl (by decide) (by decide) (.slice a1 m.lg.length c1) m.lg rfl O4 (some ⟨u2.heap.size, 0, none⟩) 1 [x] rfl (fun e => by cases e) V1 ?z0 ?z1 ?_) | go_in)
 case z0 => simp; omega
 case z1 => first | omega | (simp; omega)
 intro vZ w1 hownZ hgrowZ hob;have hqo : ∀ g, vZ.ownBlock = some g → g ≠ q := fun g e => by
  rcases hob with h | h
  ·
   rw [h] at e; have := lo1 g e; omega
  rw [h] at e; have e2 := Option.some.inj e; have := kx.size; omega
 have bZ : Below y.heap.size u2 w1 := (kx.mono (by omega)).grown hgrowZ (by have := kx.size; omega) (fun j e => (O4.lt j e).1);have bq : ∀ k, k < u2.heap.size → (∀ g, (Value.slice a1 m.lg.length c1).ownBlock = some g → k ≠ g) → w1.heap[k]? = u2.heap[k]? := fun k hk he => (hgrowZ.block k (Nat.lt_of_lt_of_le hk kx.size) (fun e => he k e.symm rfl)).trans (kx.block k hk)
 replace hownZ : FOwn ikEnc 8 105 y.heap.size w1 vZ (noteM m x).lg := hownZ;obtain ⟨a2, c2, rfl⟩ := hownZ.open_;clear n0 n1 n2 n3 n4 n5 n6 nf e0 e1 e2 e3 e4 e5 e6 e7 p0 p1 p2 p3 p4 p5 p6 pf N4 X4 V1 O4 hgrowZ;have N := N.keep (bq q N.lt (fun g e => by have := lo1 g e; omega));have A0 := A0.keep (bq _ A0.lt (fun g e => by have := lo1 g e; omega));have A1 := A1.keep (bq _ A1.lt (fun g e => by have := lo1 g e; omega));have hv1 := hv1.carry (fun a e p => bZ.block _ (HV a e p));have s3 := bZ.size;have B3 := B2.trans (bZ.mono (by omega));have lo2 := hownZ.lt;clear bq kx bZ B2 O1 hob;have N2 := N.log (.slice a2 (noteM m x).lg.length c2);obtain ⟨w2, hw2⟩ := mk_ (w1.setCell ⟨q, 3, none⟩ (.slice a2 (noteM m x).lg.length c2));have kw : ∀ k, k ≠ q → w2.heap[k]? = w1.heap[k]? := fun k hk => by rw [hw2]; exact Below.heap_setCell _ _ _ _ hk
 have A0 := A0.keep (kw _ (by omega));have A1 := A1.keep (kw _ (by omega));have hv1 := hv1.carry (fun a e p => kw _ (by have := HV a e p; omega));have O2 := hownZ.keep (fun g e => kw g (hqo g e));have B4 : Below w.heap.size w w2 := by rw [hw2]; exact B3.setCell (p := ⟨q, 3, none⟩) (by show _ ≤ q; omega) _
 have s4 : w1.heap.size ≤ w2.heap.size := by rw [hw2]; simp
 have n3 := N.c3;have nf := N.fr 3;go_upto_region 3 with fail
 rw [← hw2] at N2 ⊢;clear hw2 kw n3 nf N hownZ B3;have N3 : MiBox w2 q (noteM m x) (.slice a2 (noteM m x).lg.length c2) := N2.lg (m.lg ++ [x]);clear N2;cases hU : m.up
 ·
  have hNB : Hid (noteB m x = false) := by unfold Hid noteB; rw [hU]; rfl
  have hNR : Hid (noteR m x = m) := note_not hNB.out;obtain ⟨x0, x1, x2, x3, x4, x5, x6⟩ := id A0;rw [hU] at x0;go_wp2_with fail
  go_at_call 63
  clear x0 x1 x2 x3 x4 x5 x6;rw [← hU];replace hU : Hid _ := hU;refine (miCop m ad cap w2 hv1 (by omega) hn).mono ?_;rintro e w3 ⟨a3, c3, rfl, O3, k3⟩;have B5 := B4.trans (k3.mono B4.size);have A1 := A1.below k3 A1.lt;clear k3 B4;have B9 := below_put7 (q := w.heap.size + 1 + 1) m (.slice a3 m.lg.length c3) B5 (by omega);have O9 := (O3.base (base' := w.heap.size) (by omega)).keep (fun g e => heap_put7 w3 (w.heap.size + 1 + 1) g m (.slice a3 m.lg.length c3) (by have := (O3.lt g e).1; omega));obtain ⟨z0, z1, z2, z3, z4, z5, z6, zf⟩ := A1;have g0 := zf 0;have g1 := zf 1;have g2 := zf 2;have g3 := zf 3;have g4 := zf 4;have g5 := zf 5;have g6 := zf 6;clear zf;go_wp2
  refine bodyPost_ret (v := .tuple #[.agg #[.bool m.up, .int .i64 m.li, .int .i64 m.ep, .slice a3 m.lg.length c3, .int .i64 m.sd, .int .i64 m.ac, .int .i64 m.al], .bool false]) (by simp [results, Tryz.results246, go_sem, *]) rfl ⟨a3, c3, by rw [hNR.out, hNB.out], by rw [hNR.out]; exact O9, B9⟩
 have hM : noteB m x = miOk (noteM m x) := by unfold noteB; rw [hU]; rfl
 replace hM : Hid _ := hM;obtain ⟨x0, x1, x2, x3, x4, x5, x6⟩ := id A0;rw [hU] at x0;obtain ⟨n0, n1, n2, n3, n4, n5, n6, nf⟩ := id N3;go_wp2_with fail
 go_at_call 64
 clear x0 x1 x2 x3 x4 x5 x6 n0 n1 n2 n3 n4 n5 n6 nf;refine (miOkS (noteM m x) a2 c2 w2 O2.view.2 (by show (m.lg ++ [x]).length ≤ _; simp; omega)).mono ?_;rintro e w3 ⟨rfl, k3⟩;have B5 := B4.trans (k3.mono B4.size);have A0 := A0.below k3 A0.lt;have A1 := A1.below k3 A1.lt;have hv1 := hv1.below k3 (hv1.lt ikEnc_len (by omega));have O2 := O2.later k3;have N3 := N3.below k3 N3.lt;have s5 := k3.size;clear k3 B4;replace hU : Hid _ := hU;cases hO : miOk (noteM m x)
 ·
  have hNB : Hid (noteB m x = false) := by unfold Hid; rw [hM.out, hO]
  have hNR : Hid (noteR m x = m) := note_not hNB.out;obtain ⟨x0, x1, x2, x3, x4, x5, x6⟩ := id A0;clear hO;go_wp2_with fail
  go_at_call 63
  clear x0 x1 x2 x3 x4 x5 x6;refine (miCop m ad cap w3 hv1 (by omega) hn).mono ?_;rintro e w4 ⟨a3, c3, rfl, O3, k3⟩;have B6 := B5.trans (k3.mono B5.size);have A1 := A1.below k3 A1.lt;clear k3 B5;have B9 := below_put7 (q := w.heap.size + 1 + 1) m (.slice a3 m.lg.length c3) B6 (by omega);have O9 := (O3.base (base' := w.heap.size) (by omega)).keep (fun g e => heap_put7 w4 (w.heap.size + 1 + 1) g m (.slice a3 m.lg.length c3) (by have := (O3.lt g e).1; omega));obtain ⟨z0, z1, z2, z3, z4, z5, z6, zf⟩ := A1;have g0 := zf 0;have g1 := zf 1;have g2 := zf 2;have g3 := zf 3;have g4 := zf 4;have g5 := zf 5;have g6 := zf 6;clear zf;go_wp2
  refine bodyPost_ret (v := .tuple #[.agg #[.bool m.up, .int .i64 m.li, .int .i64 m.ep, .slice a3 m.lg.length c3, .int .i64 m.sd, .int .i64 m.ac, .int .i64 m.al], .bool false]) (by simp [results, Tryz.results246, go_sem, *]) rfl ⟨a3, c3, by rw [hNR.out, hNB.out], by rw [hNR.out]; exact O9, B9⟩
 have hNB : Hid (noteB m x = true) := by unfold Hid; rw [hM.out, hO]
 have hNR : Hid (noteR m x = (noteM m x)) := by unfold Hid noteR; rw [if_pos hNB.out]
 clear hO;obtain ⟨n0, n1, n2, n3, n4, n5, n6, nf⟩ := N3;have B9 := below_put7 (q := w.heap.size + 1 + 1) (noteM m x) (.slice a2 (noteM m x).lg.length c2) B5 (by omega);have O9 := (O2.base (base' := w.heap.size) (by omega)).keep (fun g e => heap_put7 w3 (w.heap.size + 1 + 1) g (noteM m x) (.slice a2 (noteM m x).lg.length c2) (by have := (O2.lt g e).1; omega));obtain ⟨z0, z1, z2, z3, z4, z5, z6, zf⟩ := A1;have g0 := zf 0;have g1 := zf 1;have g2 := zf 2;have g3 := zf 3;have g4 := zf 4;have g5 := zf 5;have g6 := zf 6;clear zf;go_wp2
 refine bodyPost_ret (v := .tuple #[.agg #[.bool (noteM m x).up, .int .i64 (noteM m x).li, .int .i64 (noteM m x).ep, .slice a2 (noteM m x).lg.length c2, .int .i64 (noteM m x).sd, .int .i64 (noteM m x).ac, .int .i64 (noteM m x).al], .bool true]) (by simp [results, Tryz.results246, go_sem, *]) rfl ⟨a2, c2, by rw [hNR.out, hNB.out], by rw [hNR.out]; exact O9, B9⟩
def DrewX (w : World) (cb : Nat) (ad : Option Addr) (len cap : Nat) (f : Nat → Int) (e : Ending) (w' : World) : Prop :=
 ∃ x : BxD, e = .returned (.agg #[.int .i64 x.id, .int .i64 x.po, .int .i64 x.rg.ep, .int .i64 x.rg.ow, .int .i64 x.rg.pa, .slice x.aT x.two.length x.cT, .slice x.aN x.net.length x.cN, .slice x.aG x.ga.length x.cG, .slice x.aL x.ln.length x.cL, .slice x.aS x.sd.length x.cS]) ∧ BxV w' x ∧ x.two.length = 2 ∧ (∀ i, i < 2 → (x.two.getD i MiD.nil).m.lg.length ≤ 60 ∧ ((x.two.getD i MiD.nil).ad = none → (x.two.getD i MiD.nil).cap = 0)) ∧ (∀ a, x.aT = some a → w.heap.size ≤ a.block) ∧ (∀ i a, i < 2 → (x.two.getD i MiD.nil).ad = some a → w.heap.size ≤ a.block) ∧ Src w' cb ad len cap f ∧ w.grownBy w' (some cb)
def BoxesDrawn : Prop := ∀ {cb : Nat} {ad : Option Addr} {len cap : Nat} {f : Nat → Int} (w : World) (_ : Src w cb ad len cap f) (_ : cb < w.heap.size), Calls Tryz.prog 123 #[.pointer (some ⟨cb, 0, none⟩)] w fun e w' => DrewX w cb ad len cap f e w'
def DrewM (n : Nat) (w : World) (cb : Nat) (ad : Option Addr) (len cap : Nat) (f : Nat → Int) (e : Ending) (w' : World) : Prop :=
 ∃ (m : Mi) (a : Option Addr) (c : Nat), e = .returned (.agg #[.bool m.up, .int .i64 m.li, .int .i64 m.ep, .slice a m.lg.length c, .int .i64 m.sd, .int .i64 m.ac, .int .i64 m.al]) ∧ m.lg.length ≤ n ∧ FOwn ikEnc 8 105 w.heap.size w' (.slice a m.lg.length c) m.lg ∧ Src w' cb ad len cap f ∧ w.grownBy w' (some cb)
set_option maxHeartbeats 4000000 in
theorem drawMR (hR : BoxesDrawn) {cb : Nat} {ad : Option Addr} {len cap : Nat} {f : Nat → Int} (w : World) (hs : Src w cb ad len cap f) (hcb : cb < w.heap.size) : Calls Tryz.prog 169 #[.pointer (some ⟨cb, 0, none⟩)] w fun e w' => DrewM 60 w cb ad len cap f e w' := by
 have hfld : ∀ (i_ p_ r0_ r1_ r2_ : Int) (t_ n_ g_ l_ s_ : Value) (w_ : World), (Instr.field 48 (.agg #[.int .i64 i_, .int .i64 p_, .int .i64 r0_, .int .i64 r1_, .int .i64 r2_, t_, n_, g_, l_, s_]) 3).run Tryz.prog w_ = .ok t_ w_ := fun _ _ _ _ _ _ _ _ _ _ _ => by kernel_rfl
 obtain ⟨y0, hy0⟩ := mk_ (w.alloc (Obj.cells #[.bool false, .int .i64 0, .int .i64 0, .slice none 0 0, .int .i64 0, .int .i64 0, .int .i64 0] 28));have D0 : DV w cb ad len cap y0 := by rw [hy0]; exact (DV.start hs).alloc _
 have R0 : MiBox y0 w.heap.size ⟨false, 0, 0, [], 0, 0, 0⟩ (.slice none 0 0) := by rw [hy0]; exact MiBox.new w _ ⟨false, 0, 0, [], 0, 0, 0⟩ _
 have z0 := R0.lt;go_enter Tryz.func169, Tryz.ntmps169
 go_wp2_with fail
 go_at_call 123
 rw [← hy0];clear hy0;refine (hR y0 (D0.src hs) (by omega)).mono ?_;rintro e y1 ⟨x, rfl, V, h2, hm, loT, loL, s1, g1⟩;have D1 := D0.step s1 g1;have R1 := R0.keep (g1.block _ R0.lt (by simp; omega));have z1 := g1.size;clear D0 R0 s1 g1;have b2 := Nat.le_of_eq h2;have b2' := Nat.le_of_eq h2.symm;replace h2 : Hid _ := h2;go_wp2_with fail
 go_at_call 76
 refine (drawBelow (D1.src hs) 2 (by decide) (by decide)).mono ?_;rintro e y2 ⟨v, rfl, v0, v1, s2, g2⟩;have D2 := D1.step s2 g2;have R2 := R1.keep (g2.block _ R1.lt (by simp; omega));have z2 := g2.size;obtain ⟨k, rfl⟩ : ∃ k : Nat, v = (k : Int) := ⟨v.toNat, by omega⟩;have hk : k < x.two.length := by omega
 have hk2 : k < 2 := by omega
 obtain ⟨d, hd⟩ : ∃ d, x.two.getD k MiD.nil = d := ⟨_, rfl⟩;obtain ⟨b, off, hat, _⟩ := V.t (by omega);have hbl := loT _ hat;have hlt := V.t.lt mdEnc_len (by omega) _ hat (by omega);dsimp only at hbl hlt;have ht2 := V.t.carry (w' := y2) (fun a e _ => g2.block _ (V.t.lt mdEnc_len (by omega) a e (by omega)) (by have := loT a e; simp; omega));have hck : MdAtO y2 b (off + k * 7) d := by
  rw [hat] at ht2;rw [← hd];exact mdAtO_of (ht2.at_ mdEnc_len MiD.nil hk)
 have hvl := (V.l k hk).carry (w' := y2) (fun a e p => g2.block _ ((V.l k hk).lt ikEnc_len (by omega) a e p) (by have := loL k a hk2 e; simp; omega));have hmk := hm k hk2;rw [hd] at hvl hmk;obtain ⟨hl60, hn⟩ := hmk;have hcT := V.ct;clear D1 R1 s2 g2 ht2 loT loL hm V hd;rw [hat];clear hat;obtain ⟨c0, c1, c2, c3, c4, c5, c6⟩ := hck;go_wp2_with fail
 go_at_call 63
 clear c0 c1 c2 c3 c4 c5 c6;refine (miCop d.m d.ad d.cap y2 hvl (by omega) hn).mono ?_;rintro e y3 ⟨a3, k3, rfl, O3, k_⟩;have D3 := D2.later8 k_;have R3 := R2.below k_ R2.lt;have z3 := k_.size;clear D2 R2 k_ hvl;have O4 : FOwn ikEnc 8 105 w.heap.size (((((((y3.setCell ⟨w.heap.size, 0, none⟩ (.bool d.m.up)).setCell ⟨w.heap.size, 1, none⟩ (.int .i64 d.m.li)).setCell ⟨w.heap.size, 2, none⟩ (.int .i64 d.m.ep)).setCell ⟨w.heap.size, 3, none⟩ (.slice a3 d.m.lg.length k3)).setCell ⟨w.heap.size, 4, none⟩ (.int .i64 d.m.sd)).setCell ⟨w.heap.size, 5, none⟩ (.int .i64 d.m.ac)).setCell ⟨w.heap.size, 6, none⟩ (.int .i64 d.m.al)) (.slice a3 d.m.lg.length k3) d.m.lg := (O3.base (by omega)).keep (fun g e => heap_put7 y3 w.heap.size g d.m _ (by have := (O3.lt g e).1; omega));have D4 : DV w cb ad len cap (((((((y3.setCell ⟨w.heap.size, 0, none⟩ (.bool d.m.up)).setCell ⟨w.heap.size, 1, none⟩ (.int .i64 d.m.li)).setCell ⟨w.heap.size, 2, none⟩ (.int .i64 d.m.ep)).setCell ⟨w.heap.size, 3, none⟩ (.slice a3 d.m.lg.length k3)).setCell ⟨w.heap.size, 4, none⟩ (.int .i64 d.m.sd)).setCell ⟨w.heap.size, 5, none⟩ (.int .i64 d.m.ac)).setCell ⟨w.heap.size, 6, none⟩ (.int .i64 d.m.al)) := ((((((D3.set (Nat.le_refl _) hcb _).set (Nat.le_refl _) hcb _).set (Nat.le_refl _) hcb _).set (Nat.le_refl _) hcb _).set (Nat.le_refl _) hcb _).set (Nat.le_refl _) hcb _).set (Nat.le_refl _) hcb _;obtain ⟨z0, z1, z2, z3, z4, z5, z6, zf⟩ := R3;have g0 := zf 0;have g1 := zf 1;have g2 := zf 2;have g3 := zf 3;have g4 := zf 4;have g5 := zf 5;have g6 := zf 6;clear zf O3;have sZ := D4.src hs;have gZ := D4.gr;clear D3 D4;go_wp2
 refine bodyPost_ret (v := .agg #[.bool d.m.up, .int .i64 d.m.li, .int .i64 d.m.ep, .slice a3 d.m.lg.length k3, .int .i64 d.m.sd, .int .i64 d.m.ac, .int .i64 d.m.al]) (by simp [results, Tryz.results169, go_sem, *]) rfl ⟨d.m, a3, k3, rfl, hl60, O4, sZ, gZ⟩
end Go.Proofs.YtnpiljegdiconaaGreat
