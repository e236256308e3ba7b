import Derived.Test.YtjmnaeeknomiaaaGreatRM12
import Derived.Test.YtjmnaeeknomiaaaGreatRKWBxd8
namespace Go.Proofs.YtjmnaeeknomiaaaGreat
open Go.ChangeShapes Go.WideShapes Go.ChangeAt Go.RowKit
open Go.ChangeMaps (open_string shut_string)
set_option linter.unusedVariables false
set_option maxRecDepth 100000
set_option maxHeartbeats 32000000
set_option linter.unusedSimpArgs false
open Go.Proofs.Tryz
attribute [local go_sem] ji ja
theorem AN.sT {w : World} {q : Nat} {x : AG} (h : AN w q x) (D : List AD) (a : Option Addr) (n : Nat) (c : Nat) (hn : n = D.length) : AN (w.setCell (ja q 5) (.slice a n c)) q { x with two := D, aT := a, cT := c } := by
 subst hn;obtain ⟨⟨h0, h1, h2, h3, h4, h5, h6, h7, h8, h9⟩, hf⟩ := h;exact ⟨⟨(AA (by decide)).trans h0, (AA (by decide)).trans h1, (AA (by decide)).trans h2, (AA (by decide)).trans h3, (AA (by decide)).trans h4, Aj h5, (AA (by decide)).trans h6, (AA (by decide)).trans h7, (AA (by decide)).trans h8, (AA (by decide)).trans h9⟩, fun i => by rw [World.frozen?_setCell]; exact hf i⟩
theorem AN.sN {w : World} {q : Nat} {x : AG} (h : AN w q x) (D : List Wi) (a : Option Addr) (n : Nat) (c : Nat) (hn : n = D.length) : AN (w.setCell (ja q 6) (.slice a n c)) q { x with net := D, aN := a, cN := c } := by
 subst hn;obtain ⟨⟨h0, h1, h2, h3, h4, h5, h6, h7, h8, h9⟩, hf⟩ := h;exact ⟨⟨(AA (by decide)).trans h0, (AA (by decide)).trans h1, (AA (by decide)).trans h2, (AA (by decide)).trans h3, (AA (by decide)).trans h4, (AA (by decide)).trans h5, Aj h6, (AA (by decide)).trans h7, (AA (by decide)).trans h8, (AA (by decide)).trans h9⟩, fun i => by rw [World.frozen?_setCell]; exact hf i⟩
theorem AN.sL {w : World} {q : Nat} {x : AG} (h : AN w q x) (D : List Ik) (a : Option Addr) (n : Nat) (c : Nat) (hn : n = D.length) : AN (w.setCell (ja q 8) (.slice a n c)) q { x with ln := D, aL := a, cL := c } := by
 subst hn;obtain ⟨⟨h0, h1, h2, h3, h4, h5, h6, h7, h8, h9⟩, hf⟩ := h;exact ⟨⟨(AA (by decide)).trans h0, (AA (by decide)).trans h1, (AA (by decide)).trans h2, (AA (by decide)).trans h3, (AA (by decide)).trans h4, (AA (by decide)).trans h5, (AA (by decide)).trans h6, (AA (by decide)).trans h7, Aj h8, (AA (by decide)).trans h9⟩, fun i => by rw [World.frozen?_setCell]; exact hf i⟩
theorem AN.sS {w : World} {q : Nat} {x : AG} (h : AN w q x) (D : List Ou) (a : Option Addr) (n : Nat) (c : Nat) (hn : n = D.length) : AN (w.setCell (ja q 9) (.slice a n c)) q { x with sd := D, aS := a, cS := c } := by
 subst hn;obtain ⟨⟨h0, h1, h2, h3, h4, h5, h6, h7, h8, h9⟩, hf⟩ := h;exact ⟨⟨(AA (by decide)).trans h0, (AA (by decide)).trans h1, (AA (by decide)).trans h2, (AA (by decide)).trans h3, (AA (by decide)).trans h4, (AA (by decide)).trans h5, (AA (by decide)).trans h6, (AA (by decide)).trans h7, (AA (by decide)).trans h8, Aj h9⟩, fun i => by rw [World.frozen?_setCell]; exact hf i⟩
theorem AN.sR {w : World} {q : Nat} {x : AG} (h : AN w q x) (r : Rg) : AN (((w.setCell (ja q 2) (ji r.ep)).setCell (ja q 3) (ji r.ow)).setCell (ja q 4) (ji r.pa)) q { x with rg := r } := by
 obtain ⟨⟨h0, h1, h2, h3, h4, h5, h6, h7, h8, h9⟩, hf⟩ := h;have h0 : (w.setCell (ja q 2) (ji r.ep)).cell? (ja q 0) = _ := (AA (by decide)).trans h0;have h1 : (w.setCell (ja q 2) (ji r.ep)).cell? (ja q 1) = _ := (AA (by decide)).trans h1;have h2 : (w.setCell (ja q 2) (ji r.ep)).cell? (ja q 2) = some (ji r.ep) := Aj h2;have h3 : (w.setCell (ja q 2) (ji r.ep)).cell? (ja q 3) = _ := (AA (by decide)).trans h3;have h4 : (w.setCell (ja q 2) (ji r.ep)).cell? (ja q 4) = _ := (AA (by decide)).trans h4;have h5 : (w.setCell (ja q 2) (ji r.ep)).cell? (ja q 5) = _ := (AA (by decide)).trans h5;have h6 : (w.setCell (ja q 2) (ji r.ep)).cell? (ja q 6) = _ := (AA (by decide)).trans h6;have h7 : (w.setCell (ja q 2) (ji r.ep)).cell? (ja q 7) = _ := (AA (by decide)).trans h7;have h8 : (w.setCell (ja q 2) (ji r.ep)).cell? (ja q 8) = _ := (AA (by decide)).trans h8;have h9 : (w.setCell (ja q 2) (ji r.ep)).cell? (ja q 9) = _ := (AA (by decide)).trans h9;have h0 : ((w.setCell (ja q 2) (ji r.ep)).setCell (ja q 3) (ji r.ow)).cell? (ja q 0) = _ := (AA (by decide)).trans h0;have h1 : ((w.setCell (ja q 2) (ji r.ep)).setCell (ja q 3) (ji r.ow)).cell? (ja q 1) = _ := (AA (by decide)).trans h1;have h2 : ((w.setCell (ja q 2) (ji r.ep)).setCell (ja q 3) (ji r.ow)).cell? (ja q 2) = _ := (AA (by decide)).trans h2;have h3 : ((w.setCell (ja q 2) (ji r.ep)).setCell (ja q 3) (ji r.ow)).cell? (ja q 3) = some (ji r.ow) := Aj h3;have h4 : ((w.setCell (ja q 2) (ji r.ep)).setCell (ja q 3) (ji r.ow)).cell? (ja q 4) = _ := (AA (by decide)).trans h4;have h5 : ((w.setCell (ja q 2) (ji r.ep)).setCell (ja q 3) (ji r.ow)).cell? (ja q 5) = _ := (AA (by decide)).trans h5;have h6 : ((w.setCell (ja q 2) (ji r.ep)).setCell (ja q 3) (ji r.ow)).cell? (ja q 6) = _ := (AA (by decide)).trans h6;have h7 : ((w.setCell (ja q 2) (ji r.ep)).setCell (ja q 3) (ji r.ow)).cell? (ja q 7) = _ := (AA (by decide)).trans h7;have h8 : ((w.setCell (ja q 2) (ji r.ep)).setCell (ja q 3) (ji r.ow)).cell? (ja q 8) = _ := (AA (by decide)).trans h8;have h9 : ((w.setCell (ja q 2) (ji r.ep)).setCell (ja q 3) (ji r.ow)).cell? (ja q 9) = _ := (AA (by decide)).trans h9;have h0 : (((w.setCell (ja q 2) (ji r.ep)).setCell (ja q 3) (ji r.ow)).setCell (ja q 4) (ji r.pa)).cell? (ja q 0) = _ := (AA (by decide)).trans h0;have h1 : (((w.setCell (ja q 2) (ji r.ep)).setCell (ja q 3) (ji r.ow)).setCell (ja q 4) (ji r.pa)).cell? (ja q 1) = _ := (AA (by decide)).trans h1;have h2 : (((w.setCell (ja q 2) (ji r.ep)).setCell (ja q 3) (ji r.ow)).setCell (ja q 4) (ji r.pa)).cell? (ja q 2) = _ := (AA (by decide)).trans h2;have h3 : (((w.setCell (ja q 2) (ji r.ep)).setCell (ja q 3) (ji r.ow)).setCell (ja q 4) (ji r.pa)).cell? (ja q 3) = _ := (AA (by decide)).trans h3;have h4 : (((w.setCell (ja q 2) (ji r.ep)).setCell (ja q 3) (ji r.ow)).setCell (ja q 4) (ji r.pa)).cell? (ja q 4) = some (ji r.pa) := Aj h4;have h5 : (((w.setCell (ja q 2) (ji r.ep)).setCell (ja q 3) (ji r.ow)).setCell (ja q 4) (ji r.pa)).cell? (ja q 5) = _ := (AA (by decide)).trans h5;have h6 : (((w.setCell (ja q 2) (ji r.ep)).setCell (ja q 3) (ji r.ow)).setCell (ja q 4) (ji r.pa)).cell? (ja q 6) = _ := (AA (by decide)).trans h6;have h7 : (((w.setCell (ja q 2) (ji r.ep)).setCell (ja q 3) (ji r.ow)).setCell (ja q 4) (ji r.pa)).cell? (ja q 7) = _ := (AA (by decide)).trans h7;have h8 : (((w.setCell (ja q 2) (ji r.ep)).setCell (ja q 3) (ji r.ow)).setCell (ja q 4) (ji r.pa)).cell? (ja q 8) = _ := (AA (by decide)).trans h8;have h9 : (((w.setCell (ja q 2) (ji r.ep)).setCell (ja q 3) (ji r.ow)).setCell (ja q 4) (ji r.pa)).cell? (ja q 9) = _ := (AA (by decide)).trans h9;exact ⟨⟨h0, h1, h2, h3, h4, h5, h6, h7, h8, h9⟩, fun i => by rw [World.frozen?_setCell, World.frozen?_setCell, World.frozen?_setCell]; exact hf i⟩
attribute [local go_sem] bc
theorem A8.below {w w' : World} {q o n : Nat} {x : AD} (h : A8 w q o x) (k : Below n w w') (hq : q < n) : A8 w' q o x :=
 ⟨(World.cell?_of_block (a := (ja q o)) (k.block q hq)).trans h.c0, (World.cell?_of_block (a := ⟨q, o + 1, none⟩) (k.block q hq)).trans h.c1, (World.cell?_of_block (a := ⟨q, o + 2, none⟩) (k.block q hq)).trans h.c2, (World.cell?_of_block (a := ⟨q, o + 3, none⟩) (k.block q hq)).trans h.c3, (World.cell?_of_block (a := ⟨q, o + 4, none⟩) (k.block q hq)).trans h.c4, (World.cell?_of_block (a := ⟨q, o + 5, none⟩) (k.block q hq)).trans h.c5, (World.cell?_of_block (a := ⟨q, o + 6, none⟩) (k.block q hq)).trans h.c6⟩
theorem Kb (n : Nat) : (true && (true && (true && (true && (true && (true && decide (n ≤ 40))))))) = decide ((n : Int) ≤ 40) := by
 by_cases h : n ≤ 40
 ·
  rw [decide_eq_true h, decide_eq_true (show (n : Int) ≤ 40 by omega)]; rfl
 rw [decide_eq_false h, decide_eq_false (show ¬ (n : Int) ≤ 40 by omega)]; rfl
theorem GV (x : AG) (w : World) (hV : BT w x) :
  Calls prog 17 #[.agg (bc x)] w fun e w' => e = .returned (.bool (Aw x.p)) ∧ Bw w w' := by
 obtain ⟨R, hR⟩ := AC (Aw x.p);rw [← hR];replace hR : Hid _ := hR;obtain ⟨y, hy, B0⟩ := AI w (Obj.cells (bc x) 34);have A : AS y w.heap.size x := by rw [hy]; exact AS.new w _ x
 have V := hV.later B0;go_enter func17, ntmps17
 have a0 := A.all;go_wp2_with fail
 go_at_call 14
 rw [← hy];clear a0 hy hV;refine (FG x.id x.po y).mono ?_;rintro e u1 ⟨ab, cb, rfl, _, k1⟩;have A := A.below k1 A.lt;have V := V.later k1;have B1 := AE B0 k1;clear k1 B0;obtain ⟨u2, hu2, k2⟩ := AI u1 (Obj.cells #[ji (BJ x.id x.po), .slice ab (AX x.id x.po).length cb] 42);have A := A.below k2 A.lt;have V := V.later k2;have B2 := AE B1 k2;go_upto_region 2 with fail
 rw [← hu2];clear hu2 k2 B1;cases h1 : Aq x.id x.po
 ·
  have hN : Hid (R = false) := by unfold Hid; rw [hR.out]; unfold Aw; rw [show Aq x.p.id x.p.po = _ from h1]; rfl
  go_wp2
  go_ret
  exact ⟨by rw [hN.out]; rfl, B2⟩
 replace h1 : Hid _ := h1;have a0 := A.all;go_wp2_with fail
 go_at_call 55
 clear a0;refine (Fe x.rg u2).mono ?_;rintro e u3 ⟨rfl, k3⟩;have A := A.below k3 A.lt;have V := V.later k3;have B3 := AE B2 k3;clear k3 B2;cases h2 : BV x.rg
 ·
  have hN : Hid (R = false) := by unfold Hid; rw [hR.out]; unfold Aw; rw [show Aq x.p.id x.p.po = _ from h1.out, show BV x.p.rg = _ from h2]; rfl
  clear h2;go_wp2
  go_ret
  exact ⟨by rw [hN.out]; rfl, B3⟩
 replace h2 : Hid _ := h2;by_cases h3 : x.two.length = 2
 ·
  have d3 : ((x.two.length : Int) != 2) = false := by rw [bne_eq_false_iff_eq]; omega
  have h3' : Hid (decide (x.two.length = 2) = true) := decide_eq_true h3;replace h3 : Hid (decide (x.p.two.length = 2) = true) := decide_eq_true (by rw [Em]; exact of_decide_eq_true h3'.out);have h3n : 1 < x.two.length := by have := of_decide_eq_true h3'.out; omega
  clear h3';obtain ⟨d, hd⟩ : ∃ d, x.two.getD 0 AD.nil = d := ⟨_, rfl⟩;obtain ⟨d2, hd2⟩ : ∃ d, x.two.getD 1 AD.nil = d := ⟨_, rfl⟩;have vl1 := V.l 0 (by omega);have vl2 := V.l 1 h3n;have ll1 := V.bl 0 (by omega);have ll2 := V.bl 1 h3n;rw [hd] at vl1 ll1;rw [hd2] at vl2 ll2;have m0 : Hid (Ab x.p 0 = d.m) := by unfold Hid; rw [Br]; show (x.two.getD 0 AD.nil).m = _; rw [hd]
  have m1 : Hid (Ab x.p 1 = d2.m) := by unfold Hid; rw [Br]; show (x.two.getD 1 AD.nil).m = _; rw [hd2]
  obtain ⟨b, off, hat, _⟩ := V.t (by omega);have hc0 : A8 u3 b off d := by have ht := V.t; rw [hat] at ht; have := Bo (ht.at_ Ai AD.nil (show 0 < x.two.length by omega)); rw [hd, Nat.zero_mul, Nat.add_zero] at this; exact this
  have hc1 : A8 u3 b (off + 7) d2 := by have ht := V.t; rw [hat] at ht; have := Bo (ht.at_ Ai AD.nil h3n); rw [hd2, Nat.one_mul] at this; exact this
  have hbl : b < u3.heap.size := World.block_lt_of_cell? _ _ hc0.c0;replace hat : Hid _ := hat;replace hd : Hid _ := hd;replace hd2 : Hid _ := hd2;obtain ⟨a0, a1, a2, a3, a4, a5, a6, a7, a8, a9⟩ := id A;rw [hat.out] at a5;have e0 := hc0.all;go_wp2_with fail
  go_at_call 56
  clear e0 a0 a1 a2 a3 a4 a5 a6 a7 a8 a9 d3;refine (Eu d.m d.ad d.cap u3 vl1 (by omega)).mono ?_;rintro e u5 ⟨rfl, k5⟩;have vl2 := vl2.below k5 (vl2.lt AT (by omega));have hc1 : A8 u5 b (off + 7) d2 := hc1.below k5 hbl;have A := A.below k5 A.lt;have V := V.later k5;have B5 := AE B3 k5;clear k5 B3;cases h4 : Au d.m
  ·
   have hN : Hid (R = false) := by unfold Hid; rw [hR.out]; unfold Aw; rw [show Aq x.p.id x.p.po = _ from h1.out, show BV x.p.rg = _ from h2.out, h3.out, show Au (Ab x.p 0) = false by rw [m0.out]; exact h4]; rfl
   clear h4;go_wp2
   go_ret
   exact ⟨by rw [hN.out]; rfl, B5⟩
  replace h4 : Hid (Au (Ab x.p 0) = true) := by unfold Hid; rw [m0.out]; exact h4
  obtain ⟨a0, a1, a2, a3, a4, a5, a6, a7, a8, a9⟩ := id A;rw [hat.out] at a5;have e0 := hc1.all;go_wp2_with fail
  go_at_call 56
  clear e0 a0 a1 a2 a3 a4 a5 a6 a7 a8 a9;refine (Eu d2.m d2.ad d2.cap u5 vl2 (by omega)).mono ?_;rintro e u6 ⟨rfl, k6⟩;have A := A.below k6 A.lt;have V := V.later k6;have B6 := AE B5 k6;clear k6 B5;cases h5 : Au d2.m
  ·
   have hN : Hid (R = false) := by unfold Hid; rw [hR.out]; unfold Aw; rw [show Aq x.p.id x.p.po = _ from h1.out, show BV x.p.rg = _ from h2.out, h3.out, h4.out, show Au (Ab x.p 1) = false by rw [m1.out]; exact h5]; rfl
   clear h5;go_wp2
   go_ret
   exact ⟨by rw [hN.out]; rfl, B6⟩
  replace h5 : Hid (Au (Ab x.p 1) = true) := by unfold Hid; rw [m1.out]; exact h5
  have a0 := A.all;go_wp2_with fail
  go_at_call 57
  clear a0;refine (Kn x u6 V).mono ?_;rintro e u7 ⟨rfl, k7⟩;have A := A.below k7 A.lt;have V := V.later k7;have B7 := AE B6 k7;clear k7 B6;cases h6 : x.net.all BI && decide (x.net.length ≤ 20)
  ·
   have h6' : (x.p.net.all BI && (decide (x.p.net.length ≤ 20) && (decide ((x.p.ga.length : Int) = x.p.po) && (Cn x.p.ln && decide (x.p.sd.length ≤ 40))))) = false := by rw [← Bool.and_assoc, show (x.p.net.all BI && decide (x.p.net.length ≤ 20)) = false from h6]; rfl
   have hN : Hid (R = false) := by unfold Hid; rw [hR.out]; unfold Aw; rw [show Aq x.p.id x.p.po = _ from h1.out, show BV x.p.rg = _ from h2.out, show decide (x.p.two.length = 2) = _ from h3.out, h4.out, h5.out, h6']; rfl
   clear h6 h6';go_wp2
   go_ret
   exact ⟨by rw [hN.out]; rfl, B7⟩
  replace h6 : Hid _ := h6;have h6' : Hid (∀ t, (x.p.net.all BI && (decide (x.p.net.length ≤ 20) && t)) = t) := fun t => by rw [← Bool.and_assoc, show (x.p.net.all BI && decide (x.p.net.length ≤ 20)) = true from h6.out]; rfl
  by_cases h7 : (x.ga.length : Int) = x.po
  ·
   have d7 : ((x.ga.length : Int) == x.po) = true := by simpa using h7
   have h7' : Hid (decide ((x.p.ga.length : Int) = x.p.po) = true) := decide_eq_true h7;replace h7 : Hid _ := h7;have a0 := A.all;go_wp2_with fail
   go_at_call 58
   clear a0;refine (Hw x.aL x.cL x.ln u7 V.i (by have := V.bi; omega)).mono ?_;rintro e u8 ⟨rfl, k8⟩;have bs := V.bs;have A := A.below k8 A.lt;have V := V.later k8;have B8 := AE B7 k8;clear k8 B7;cases h8 : Cn x.ln
   ·
    have hN : Hid (R = false) := by unfold Hid; rw [hR.out]; unfold Aw; rw [show Aq x.p.id x.p.po = _ from h1.out, show BV x.p.rg = _ from h2.out, show decide (x.p.two.length = 2) = _ from h3.out, h4.out, h5.out, h6'.out, h7'.out, show Cn x.p.ln = _ from h8]; rfl
    clear h8;go_wp2
    go_ret
    exact ⟨by rw [hN.out]; rfl, B8⟩
   replace h8 : Hid _ := h8;have a0 := A.all;have hN : Hid (R = decide ((x.sd.length : Int) ≤ 40)) := by unfold Hid; rw [hR.out]; unfold Aw; rw [show Aq x.p.id x.p.po = _ from h1.out, show BV x.p.rg = _ from h2.out, show decide (x.p.two.length = 2) = _ from h3.out, h4.out, h5.out, h6'.out, h7'.out, show Cn x.p.ln = _ from h8.out]; exact Kb x.sd.length
   go_wp2
   go_ret
   exact ⟨by rw [hN.out]; rfl, B8⟩
  have d7 : ((x.ga.length : Int) == x.po) = false := by rw [beq_eq_false_iff_ne]; exact h7
  have a0 := A.all;have hN : Hid (R = false) := by unfold Hid; rw [hR.out]; unfold Aw; rw [show Aq x.p.id x.p.po = _ from h1.out, show BV x.p.rg = _ from h2.out, show decide (x.p.two.length = 2) = _ from h3.out, h4.out, h5.out, h6'.out, show decide ((x.p.ga.length : Int) = x.p.po) = false from decide_eq_false h7]; rfl
  clear h7;go_wp2
  go_ret
  exact ⟨by rw [hN.out]; rfl, B7⟩
 have d3 : ((x.two.length : Int) != 2) = true := by rw [bne_iff_ne]; omega
 have a0 := A.all;have hN : Hid (R = false) := by unfold Hid; rw [hR.out]; unfold Aw; rw [show Aq x.p.id x.p.po = _ from h1.out, show BV x.p.rg = _ from h2.out, show decide (x.p.two.length = 2) = false from decide_eq_false (by rw [Em]; exact h3)]; rfl
 clear h3;go_wp2
 go_ret
 exact ⟨by rw [hN.out]; rfl, B3⟩
theorem A8.keep {w w' : World} {q o : Nat} {x : AD} (h : A8 w q o x) (k : w'.heap[q]? = w.heap[q]?) : A8 w' q o x :=
 ⟨(World.cell?_of_block (a := (ja q _)) k).trans h.1, (World.cell?_of_block (a := (ja q _)) k).trans h.2, (World.cell?_of_block (a := (ja q _)) k).trans h.3, (World.cell?_of_block (a := (ja q _)) k).trans h.4, (World.cell?_of_block (a := (ja q _)) k).trans h.5, (World.cell?_of_block (a := (ja q _)) k).trans h.6, (World.cell?_of_block (a := (ja q _)) k).trans h.7⟩
theorem Hi (x : AG) (w : World) (hV : BT w x) (h2 : x.two.length = 2) (b0 : 0 ≤ (x.two.getD 0 AD.nil).m.li ∧ (x.two.getD 0 AD.nil).m.li ≤ 1000000000) (b1 : 0 ≤ (x.two.getD 1 AD.nil).m.li ∧ (x.two.getD 1 AD.nil).m.li ≤ 1000000000) :
  Calls prog 200 #[.agg (bc x)] w fun e w' => e = .returned (.agg #[.bool true, ji (max (x.two.getD 0 AD.nil).m.li (x.two.getD 1 AD.nil).m.li + 1), ji 0, .slice none 0 0, ji 0, ji 0, ji 0]) ∧ Bw w w' := by
 have hbw : ∀ b off, x.aT = some (ja b off) → b < w.heap.size := fun b off e => hV.t.lt Ai (by omega) _ e (by omega)
 obtain ⟨y, hy⟩ := AC ((w.alloc (Obj.cells (bc x) 34)).alloc (Obj.cells #[.bool false, ji 0, ji 0, .slice none 0 0, ji 0, ji 0, ji 0] 52));have k1 : Bw w (w.alloc (Obj.cells (bc x) 34)) := Ae _;have k2 : Below (w.alloc (Obj.cells (bc x) 34)).heap.size (w.alloc (Obj.cells (bc x) 34)) y := by rw [hy]; exact Ae _
 have B0 := AE k1 k2;have A : AS y w.heap.size x := (AS.new w _ x).below k2 (AS.new w _ x).lt;have Z : AQ y (w.heap.size + 1) (⟨false, 0, 0, [], 0, 0, 0⟩ : Mi) (.slice none 0 0) := by have := AQ.new (w.alloc (Obj.cells (bc x) 34)) 52 (⟨false, 0, 0, [], 0, 0, 0⟩ : Mi) (.slice none 0 0); rw [hy]; simpa using this
 have V := hV.later B0;clear k1 k2 hV;obtain ⟨b, off, hat, _⟩ := V.t (by omega);have vt := V.t;rw [hat] at vt;obtain ⟨d0, hd0⟩ : ∃ d, x.two.getD 0 AD.nil = d := ⟨_, rfl⟩;obtain ⟨d1, hd1⟩ : ∃ d, x.two.getD 1 AD.nil = d := ⟨_, rfl⟩;rw [hd0] at b0;rw [hd1] at b1;rw [hd0, hd1];have m0 : A8 y b off d0 := by have := Bo (vt.at_ Ai AD.nil (i := 0) (by omega)); rw [hd0] at this; simpa using this
 have m1 : A8 y b (off + 7) d1 := by have := Bo (vt.at_ Ai AD.nil (i := 1) (by omega)); rw [hd1] at this; simpa using this
 have hbl : b < w.heap.size := hbw b off hat;have hct := V.ct;rw [h2] at hct;replace hat : Hid _ := hat;replace h2 : Hid _ := h2;clear vt V hd0 hd1;go_enter func200, ntmps200
 go_upto_region 1 with fail
 rw [← hy];clear hy;refine AV (fun Y => AS Y w.heap.size x ∧ A8 Y b off d0 ∧ A8 Y b (off + 7) d1) fun u0 kd => ?_
 have bz := B0.size;have hs0 : AS u0 w.heap.size x ∧ A8 u0 b off d0 ∧ A8 u0 b (off + 7) d1 := ⟨A.below kd A.lt, m0.below kd (by omega), m1.below kd (by omega)⟩;have Z := Z.below kd Z.lt;have Bd := AE B0 kd;clear kd A m0 m1;refine tw 0 3 (.pointer (some (ja w.heap.size 5))) ?_;refine tw 1 4 (.slice (some (ja b off)) 2 x.cT) ?_ (hy := by intro Y hSw; obtain ⟨⟨X0, X1, X2, X3, X4, X5, X6, X7, X8, X9⟩, _, _⟩ := hSw; rw [hat.out, h2.out] at X5; go_simp);refine tw 2 5 (.pointer (some (ja b off))) ?_ (hy := by intro Y hSw; go_simp; try omega);refine tw 3 6 (.pointer (some ⟨b, off + 1, none⟩)) ?_;refine tw 4 7 (ji d0.m.li) ?_ (hy := by intro Y hSw; obtain ⟨_, ⟨X0, X1, X2, X3, X4, X5, X6⟩, _⟩ := hSw; go_simp);refine tw 5 8 (.pointer (some (ja w.heap.size 5))) ?_;refine tw 6 9 (.slice (some (ja b off)) 2 x.cT) ?_ (hy := by intro Y hSw; obtain ⟨⟨X0, X1, X2, X3, X4, X5, X6, X7, X8, X9⟩, _, _⟩ := hSw; rw [hat.out, h2.out] at X5; go_simp);refine tw 7 10 (.pointer (some ⟨b, off + 7, none⟩)) ?_ (hy := by intro Y hSw; go_simp; try omega);refine tw 8 11 (.pointer (some ⟨b, off + 7 + 1, none⟩)) ?_;refine tw 9 12 (ji d1.m.li) ?_ (hy := by intro Y hSw; obtain ⟨_, _, ⟨X0, X1, X2, X3, X4, X5, X6⟩⟩ := hSw; go_simp);refine w1 10 fun Kz hKz => ?_
 go_simp
 go_at_call 173
 refine (Gh d0.m.li d1.m.li u0).mono ?_;rintro e u1 ⟨rfl, rfl⟩;rw [show (if d1.m.li < d0.m.li then d0.m.li else d1.m.li) = max d0.m.li d1.m.li by split <;> omega];refine hKz _ _ ⟨hs0, ?_⟩;clear hKz Kz;obtain ⟨t, ht⟩ : ∃ t : Int, t = max d0.m.li d1.m.li := ⟨_, rfl⟩;rw [← ht];have htb : 0 ≤ t ∧ t ≤ 1000000000 := by omega
 replace ht : Hid _ := ht;have hwr : IntKind.i64.wrap (t + 1) = t + 1 := by rw [IntKind.wrap_i64]; omega
 refine tw 11 14 (ji (t + 1)) ?_ (hy := by intro Y hSw; go_simp; try omega);refine tw 12 15 (.agg #[.bool true, ji (t + 1), ji 0, .slice none 0 0, ji 0, ji 0, ji 0]) ?_;refine w1 13 fun Kz hKz => ?_
 obtain ⟨z0, z1, z2, z3, z4, z5, z6, zf⟩ := id Z;have g0 := zf 0;have g1 := zf 1;have g2 := zf 2;have g3 := zf 3;have g4 := zf 4;have g5 := zf 5;have g6 := zf 6;go_simp
 clear z0 z1 z2 z3 z4 z5 z6 zf g0 g1 g2 g3 g4 g5 g6;obtain ⟨u3, hu3⟩ := AC (((((((u1.setCell ⟨w.heap.size + 1, 0, none⟩ (.bool true)).setCell ⟨w.heap.size + 1, 1, none⟩ (ji (t + 1))).setCell ⟨w.heap.size + 1, 2, none⟩ (ji 0)).setCell ⟨w.heap.size + 1, 3, none⟩ (.slice none 0 0)).setCell ⟨w.heap.size + 1, 4, none⟩ (ji 0)).setCell ⟨w.heap.size + 1, 5, none⟩ (ji 0)).setCell ⟨w.heap.size + 1, 6, none⟩ (ji 0));have Q3 : AQ u3 (w.heap.size + 1) (⟨true, t + 1, 0, [], 0, 0, 0⟩ : Mi) (.slice none 0 0) := by rw [hu3]; exact Z.put (⟨true, t + 1, 0, [], 0, 0, 0⟩ : Mi) _
 have kp : ∀ k, k ≠ w.heap.size + 1 → u3.heap[k]? = u1.heap[k]? := fun k hk => by rw [hu3]; exact DO _ _ _ (⟨true, t + 1, 0, [], 0, 0, 0⟩ : Mi) _ hk
 have hs3 : AS u3 w.heap.size x ∧ A8 u3 b off d0 ∧ A8 u3 b (off + 7) d1 := ⟨hs0.1.keep (kp _ (by omega)), hs0.2.1.keep (kp _ (by omega)), hs0.2.2.keep (kp _ (by omega))⟩;have Bd : Bw w u3 := by rw [hu3]; exact Dq (⟨true, t + 1, 0, [], 0, 0, 0⟩ : Mi) _ Bd (by omega)
 rw [← hu3];clear hu3 kp;refine hKz _ _ ⟨hs3, ?_⟩;clear hKz Kz;refine AR ?_;clear hs3 hs0 Z;replace Q3 := Q3.all;go_wp2
 refine bodyPost_ret (v := .agg #[.bool true, ji (t + 1), ji 0, .slice none 0 0, ji 0, ji 0, ji 0]) (by simp [results, results200, go_sem, *]) rfl ⟨by rw [ht.out], Bd⟩
theorem Ba {a : Option Addr} {g g' n c : Nat} (h : a = some (ja g 0)) (e : g' = g) : (Value.slice a n c).ownBlock = some g' := by subst h; subst e; rfl
theorem EF (L : List AD) (k : Nat) (d : AD) (F : AD → Prop) (h1 : ∀ j, j < L.length → F (L.getD j AD.nil)) (h2 : F d) : ∀ j, j < (L.set k d).length → F ((L.set k d).getD j AD.nil) := by
 intro j hj;have hj' : j < L.length := by simpa using hj
 by_cases e : j = k
 ·
  subst e;simpa [List.getD, List.getElem?_set, hj'] using h2
 have := h1 j hj';have e' : ¬ k = j := fun z => e z.symm
 simpa [List.getD, List.getElem?_set, e'] using this
def AG.setT (x : AG) (k : Nat) (d : AD) : AG := { x with two := x.two.set k d }
theorem AG.setT_p (x : AG) (k : Nat) (d : AD) : (x.setT k d).p = Dv x.p (k : Int) d.m := by
 unfold AG.setT AG.p Dv;simp [List.map_set]
theorem AK.setT {base : Nat} {w : World} {x : AG} (h : AK base w x) {g k : Nat} (hat : x.aT = some (ja g 0)) (hk : k < x.two.length) (d : AD) (hd : AB AO 8 64 base w (.slice d.ad d.m.lg.length d.cap) d.m.lg) (hap : ∀ g_, (Value.slice d.ad d.m.lg.length d.cap).ownBlock = some g_ → (Value.slice x.aL x.ln.length x.cL).ownBlock ≠ some g_) :
  AK base (CB w g (k * 7) (BC d)) (x.setT k d) := by
 have ht : AB BC 7 52 base (CB w g (k * 7) (BC d)) (.slice x.aT (x.two.set k d).length x.cT) (x.two.set k d) := by
  have h1 := h.t;rw [hat] at h1 ⊢;have := h1.set Ai (by omega) hk d;rw [List.length_set]; exact this
 refine ⟨ht, ?_, (h.n.keep (fun g_ e => Cp _ _ _ _ (fun e2 => h.t.apart h.n (by decide) (Ba hat e2) e))), (h.g.keep (fun g_ e => Cp _ _ _ _ (fun e2 => h.t.apart h.g (by decide) (Ba hat e2) e))), (h.i.keep (fun g_ e => Cp _ _ _ _ (fun e2 => h.t.apart h.i (by decide) (Ba hat e2) e))), (h.s.keep (fun g_ e => Cp _ _ _ _ (fun e2 => h.t.apart h.s (by decide) (Ba hat e2) e))), ?_⟩
 ·
  exact EF x.two k d (fun z => AB AO 8 64 base (CB w g (k * 7) (BC d)) (.slice z.ad z.m.lg.length z.cap) z.m.lg) (fun j hj => (h.l j hj).keep (fun g_ e => Cp _ _ _ _ (fun e2 => h.t.apart (h.l j hj) (by decide) (Ba hat e2) e))) (hd.keep (fun g_ e => Cp _ _ _ _ (fun e2 => h.t.apart hd (by decide) (Ba hat e2) e)))
 exact EF x.two k d (fun z => ∀ g_, (Value.slice z.ad z.m.lg.length z.cap).ownBlock = some g_ → (Value.slice x.aL x.ln.length x.cL).ownBlock ≠ some g_) (fun j hj => h.ap j hj) hap
theorem AK.setN {base : Nat} {w w' : World} {x : AG} (h : AK base w x) (N : List Wi) (a : Option Addr) (c : Nat) (hN : AB At 12 75 base w' (.slice a N.length c) N) (k : ∀ g, g < w.heap.size → (Value.slice x.aN x.net.length x.cN).ownBlock ≠ some g → w'.heap[g]? = w.heap[g]?) : AK base w' { x with net := N, aN := a, cN := c } :=
 ⟨h.t.keep (fun g e => k g (h.t.lt g e).2 (fun e2 => h.n.apart h.t (by decide) e2 e)), fun j hj => (h.l j hj).keep (fun g e => k g ((h.l j hj).lt g e).2 (fun e2 => h.n.apart (h.l j hj) (by decide) e2 e)), hN, h.g.keep (fun g e => k g (h.g.lt g e).2 (fun e2 => h.n.apart h.g (by decide) e2 e)), h.i.keep (fun g e => k g (h.i.lt g e).2 (fun e2 => h.n.apart h.i (by decide) e2 e)), h.s.keep (fun g e => k g (h.s.lt g e).2 (fun e2 => h.n.apart h.s (by decide) e2 e)), h.ap⟩
theorem AK.setL {base : Nat} {w w' : World} {x : AG} (h : AK base w x) (N : List Ik) (a : Option Addr) (c : Nat) (hN : AB AO 8 64 base w' (.slice a N.length c) N) (ho : (Value.slice a N.length c).ownBlock = (Value.slice x.aL x.ln.length x.cL).ownBlock ∨ ∀ g, (Value.slice a N.length c).ownBlock = some g → w.heap.size ≤ g) (k : ∀ g, g < w.heap.size → (Value.slice x.aL x.ln.length x.cL).ownBlock ≠ some g → w'.heap[g]? = w.heap[g]?) : AK base w' { x with ln := N, aL := a, cL := c } :=
 ⟨h.t.keep (fun g e => k g (h.t.lt g e).2 (fun e2 => h.i.apart h.t (by decide) e2 e)), fun j hj => (h.l j hj).keep (fun g e => k g ((h.l j hj).lt g e).2 (h.ap j hj g e)), h.n.keep (fun g e => k g (h.n.lt g e).2 (fun e2 => h.i.apart h.n (by decide) e2 e)), h.g.keep (fun g e => k g (h.g.lt g e).2 (fun e2 => h.i.apart h.g (by decide) e2 e)), hN, h.s.keep (fun g e => k g (h.s.lt g e).2 (fun e2 => h.i.apart h.s (by decide) e2 e)), fun j hj g e e2 => ho.elim (fun z => h.ap j hj g e (by rw [← z]; exact e2)) (fun z => by have := z g e2; have := ((h.l j hj).lt g e).2; omega)⟩
theorem AK.setG {base : Nat} {w : World} {x : AG} (h : AK base w x) {g k : Nat} (hat : x.aG = some (ja g 0)) (hk : k < x.ga.length) (b : Bool) :
  AK base (CB w g (k * 1) (Az b)) { x with ga := x.ga.set k b } := by
 have ht : AB Az 1 4 base (CB w g (k * 1) (Az b)) (.slice x.aG (x.ga.set k b).length x.cG) (x.ga.set k b) := by
  have h1 := h.g;rw [hat] at h1 ⊢;have := h1.set Bj (by omega) hk b;rw [List.length_set]; exact this
 have kk : ∀ {X : Type} {enc : X → List Value} {n : Nat} {T : TypeId} {v : Value} {L : List X}, AB enc n T base w v L → 4 ≠ T → AB enc n T base (CB w g (k * 1) (Az b)) v L := fun f hT => f.keep (fun g_ e => Cp _ _ _ _ (fun e2 => h.g.apart f hT (Ba hat e2) e))
 exact ⟨kk h.t (by decide), fun j hj => kk (h.l j hj) (by decide), kk h.n (by decide), ht, kk h.i (by decide), kk h.s (by decide), h.ap⟩
structure Ar (q : Nat) (x : AG) : Prop where
 t : ∀ b, (Value.slice x.aT x.two.length x.cT).ownBlock = some b → b ≠ q
 n : ∀ b, (Value.slice x.aN x.net.length x.cN).ownBlock = some b → b ≠ q
 g : ∀ b, (Value.slice x.aG x.ga.length x.cG).ownBlock = some b → b ≠ q
 i : ∀ b, (Value.slice x.aL x.ln.length x.cL).ownBlock = some b → b ≠ q
 s : ∀ b, (Value.slice x.aS x.sd.length x.cS).ownBlock = some b → b ≠ q
 l : ∀ j, j < x.two.length → ∀ b, (Value.slice (x.two.getD j AD.nil).ad (x.two.getD j AD.nil).m.lg.length (x.two.getD j AD.nil).cap).ownBlock = some b → b ≠ q
theorem AK.keepQ {base q : Nat} {w w' : World} {x : AG} (h : AK base w x) (hq : Ar q x) (k : ∀ g, g ≠ q → w'.heap[g]? = w.heap[g]?) : AK base w' x :=
 ⟨h.t.keep (fun g e => k g (hq.t g e)), fun i hi => (h.l i hi).keep (fun g e => k g (hq.l i hi g e)), h.n.keep (fun g e => k g (hq.n g e)), h.g.keep (fun g e => k g (hq.g g e)), h.i.keep (fun g e => k g (hq.i g e)), h.s.keep (fun g e => k g (hq.s g e)), h.ap⟩
theorem AK.ne {base q : Nat} {w : World} {x : AG} (h : AK base w x) (hq : w.heap.size ≤ q) : Ar q x :=
 ⟨fun b e => (by have := h.t.lt b e; omega), fun b e => (by have := h.n.lt b e; omega), fun b e => (by have := h.g.lt b e; omega), fun b e => (by have := h.i.lt b e; omega), fun b e => (by have := h.s.lt b e; omega), fun j hj b e => (by have := (h.l j hj).lt b e; omega)⟩
theorem AK.gate {base : Nat} {w : World} {x : AG} (h : AK base w x) {g k : Nat} (hat : x.aG = some (ja g 0)) (hk : k < x.ga.length) (b : Bool) : AK base (w.setCell (ja g k) (.bool b)) { x with ga := x.ga.set k b } := by
 have hg : AB Az 1 4 base (w.setCell (ja g k) (.bool b)) (.slice x.aG (x.ga.set k b).length x.cG) (x.ga.set k b) := by
  have h1 := h.g;rw [hat] at h1 ⊢;have := h1.set Bj (by omega) hk b;rw [Nat.mul_one] at this;rw [List.length_set];exact this
 have hb : ∀ q, q ≠ g → (w.setCell (ja g k) (.bool b)).heap[q]? = w.heap[q]? := fun q hq => AF hq
 have ne : ∀ {X : Type} {e : X → List Value} {n : Nat} {T : TypeId} {b1 : Nat} {v : Value} {L : List X}, AB e n T b1 w v L → T ≠ 4 → ∀ q, v.ownBlock = some q → q ≠ g := fun hr hT q e e2 => (hr.apart h.g hT e) (by rw [hat, e2]; rfl)
 exact ⟨h.t.keep (fun q e => hb q (ne h.t (by decide) q e)), fun i hi => (h.l i hi).keep (fun q e => hb q (ne (h.l i hi) (by decide) q e)), h.n.keep (fun q e => hb q (ne h.n (by decide) q e)), hg, h.i.keep (fun q e => hb q (ne h.i (by decide) q e)), h.s.keep (fun q e => hb q (ne h.s (by decide) q e)), h.ap⟩
theorem AK.said {base : Nat} {w w' : World} {x : AG} (h : AK base w x) (N : List Ou) (a : Option Addr) (c : Nat) (hN : AB Ag 8 77 base w' (.slice a N.length c) N) (k : ∀ g, g < w.heap.size → (Value.slice x.aS x.sd.length x.cS).ownBlock ≠ some g → w'.heap[g]? = w.heap[g]?) : AK base w' { x with sd := N, aS := a, cS := c } :=
 ⟨h.t.keep (fun g e => k g (h.t.lt g e).2 (fun e2 => h.s.apart h.t (by decide) e2 e)), fun j hj => (h.l j hj).keep (fun g e => k g ((h.l j hj).lt g e).2 (fun e2 => h.s.apart (h.l j hj) (by decide) e2 e)), h.n.keep (fun g e => k g (h.n.lt g e).2 (fun e2 => h.s.apart h.n (by decide) e2 e)), h.g.keep (fun g e => k g (h.g.lt g e).2 (fun e2 => h.s.apart h.g (by decide) e2 e)), h.i.keep (fun g e => k g (h.i.lt g e).2 (fun e2 => h.s.apart h.i (by decide) e2 e)), hN, h.ap⟩
theorem Cj.keepA {w w' : World} {q o : Nat} {x : Ou} (h : Cj w q o x) (k : w'.heap[q]? = w.heap[q]?) : Cj w' q o x :=
 ⟨(World.cell?_of_block (a := (ja q o)) k).trans h.c0, (World.cell?_of_block (a := ⟨q, o + 1, none⟩) k).trans h.c1, (World.cell?_of_block (a := ⟨q, o + 2, none⟩) k).trans h.c2, (World.cell?_of_block (a := ⟨q, o + 3, none⟩) k).trans h.c3, (World.cell?_of_block (a := ⟨q, o + 4, none⟩) k).trans h.c4, (World.cell?_of_block (a := ⟨q, o + 5, none⟩) k).trans h.c5, (World.cell?_of_block (a := ⟨q, o + 6, none⟩) k).trans h.c6, (World.cell?_of_block (a := ⟨q, o + 7, none⟩) k).trans h.c7⟩
theorem Cj.belowA {w w' : World} {q o n : Nat} {x : Ou} (h : Cj w q o x) (k : Below n w w') (hq : q < n) : Cj w' q o x := h.keepA (k.block q hq)
def CO (b : Bx) (M : List Ou) : Bx := ⟨b.id, b.po, b.rg, b.two, b.net, M.foldl CG b.ga, b.ln, b.sd ++ M⟩
theorem It (b : Bx) : CO b [] = b := by unfold CO; simp
theorem Iu (b : Bx) (M : List Ou) : (CO b M).ga.length = b.ga.length := E4 M b.ga
theorem F5 (b : Bx) (M : List Ou) (h : Ou) : CO b (M ++ [h]) = ⟨(CO b M).id, (CO b M).po, (CO b M).rg, (CO b M).two, (CO b M).net, CG (CO b M).ga h, (CO b M).ln, (CO b M).sd ++ [h]⟩ := by
 unfold CO;simp
theorem E3 {L : List Ou} {k : Nat} (h : k < L.length) : L.take (k + 1) = L.take k ++ [L.getD k Ou.nil] := by
 rw [List.take_add_one];simp [List.getD, h]
theorem GB {b : Bx} {s : Int} {L : List Ou} (h : Bp b s = true) : CI b s L = ⟨b.id, b.po, b.rg, b.two, b.net, L.foldl CG b.ga, b.ln, DC (b.sd ++ L)⟩ := by unfold CI; rw [if_pos h]
theorem HB {M : List Ou} (h : M.length ≤ 40) : DC M = M := by unfold DC; rw [show M.length - 40 = 0 by omega]; rfl
theorem AH.dropO {w : World} {b : Nat} {L : List Ou} (h : AH Ag w (some (ja b 0)) L) {k : Nat} (hk : k ≤ L.length) : AH Ag w (some ⟨b, k * 8, none⟩) (L.drop k) := by
 intro hp;rw [List.length_drop] at hp;obtain ⟨b2, off, e, hc⟩ := h (by omega);cases e
 refine ⟨b, k * 8, rfl, fun j v hv => ?_⟩;have e : (Aa Ag L)[k * 8 + j]? = some v := by
  have hL : Aa Ag L = Aa Ag (L.take k) ++ Aa Ag (L.drop k) := by
   rw [← E1, List.take_append_drop]
  have hl : (Aa Ag (L.take k)).length = k * 8 := by rw [EG BN, List.length_take, Nat.min_eq_left hk]
  rw [hL, List.getElem?_append_right (by omega), hl, show k * 8 + j - k * 8 = j by omega];exact hv
 have := hc (k * 8 + j) v e;simpa using this
end Go.Proofs.YtjmnaeeknomiaaaGreat
