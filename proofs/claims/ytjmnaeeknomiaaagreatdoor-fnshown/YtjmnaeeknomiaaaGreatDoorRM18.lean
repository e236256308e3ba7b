import Derived.Test.YtjmnaeeknomiaaaGreatDoorRM17
import Derived.Test.YtjmnaeeknomiaaaGreatDoorRM13
namespace Go.Proofs.YtjmnaeeknomiaaaGreatDoor
open Go.ChangeShapes Go.WideShapes Go.ChangeAt Go.RowKit
open Go.ChangeMaps (open_string shut_string)
set_option linter.unusedVariables false
set_option maxRecDepth 100000
set_option maxHeartbeats 32000000
set_option linter.unusedSimpArgs false
open Go.Proofs.Tryz
attribute [local go_sem] ji ja bc mc
theorem Fz (x : AF) : x.p.two.length = x.two.length := by unfold AF.p; simp
theorem FX (x : AF) (s : Int) (w : World) (hV : Ck w x) :
  Calls prog 162 #[.agg (bc x), ji s] w fun e w' => e = .returned (.bool (Ct x.p s)) ∧ Bw w w' := by
 obtain ⟨R, hR⟩ := AC (Ct x.p s);rw [← hR];replace hR : Hid _ := hR;obtain ⟨y, hy, B0⟩ := AM w (Obj.cells (bc x) 63);have A : Af y w.heap.size x := by rw [hy]; exact Af.new w _ x
 have V := hV.later B0;go_enter func162, ntmps162
 go_upto_region 1 with fail
 rw [← hy];clear hy hV;refine An (fun Y => Bw y Y) fun u0 hb0 => ?_
 refine tw 0 5 (ji s) ?_;refine tw 1 6 (.pointer (some (ja w.heap.size 5))) ?_;refine tw 2 7 (.slice x.aT x.two.length x.cT) ?_ (hy := by intro Y hSw; have X := (A.below hSw A.lt).all; go_simp);refine tw 3 8 (ji (x.two.length : Int)) ?_;have bt := V.bt;have hwr : IntKind.i64.wrap ((x.two.length : Int) - 1) = (x.two.length : Int) - 1 := by rw [IntKind.wrap_i64]; omega
 refine tw 4 9 (ji ((x.two.length : Int) - 1)) ?_;refine w1 5 fun Kz hKz => ?_
 go_simp
 go_at_call 66
 refine (BE s 0 ((x.two.length : Int) - 1) u0).mono ?_;rintro e u1 ⟨rfl, hw_⟩;have hb1 : Bw y u1 := by rw [hw_]; exact hb0
 clear hw_;refine hKz _ _ ⟨hb1, ?_⟩;clear hKz Kz;clear hwr;cases h1 : decide (0 ≤ s ∧ s ≤ (x.two.length : Int) - 1)
 ·
  have hN : Hid (R = false) := by unfold Hid; rw [hR.out]; unfold Ct; rw [show decide (0 ≤ s ∧ s < ((x.p.two).length : Int)) = false from decide_eq_false (by have := of_decide_eq_false h1; rw [Fz]; omega)]; rfl
  clear h1;refine tw 6 11 (.bool false) ?_;refine ts 7 12 ?_;refine ts 8 13 ?_;refine ts 9 14 ?_;refine ts 10 15 ?_;refine ts 11 16 ?_;refine ts 12 17 ?_;refine ts 13 18 ?_;refine ts 14 19 ?_;refine ts 15 20 ?_;refine tw 16 21 (.bool false) ?_;refine tw 17 4 (.bool false) ?_;refine Ag ?_;go_wp2
  go_ret
  exact ⟨by rw [hN.out]; rfl, AG B0 hb1⟩
 have h1' := of_decide_eq_true h1;obtain ⟨k, rfl⟩ : ∃ k : Nat, s = (k : Int) := ⟨s.toNat, by omega⟩;have hk : k < x.two.length := by omega
 have hcap := V.ct;obtain ⟨d, hd⟩ : ∃ d, x.two.getD k AD.nil = d := ⟨_, rfl⟩;have hvl := V.l k hk;have hll := V.bl k hk;rw [hd] at hvl hll;have hN : Hid (R = EP x.rg (k : Int) d.m) := by unfold Hid; rw [hR.out]; unfold Ct; rw [show decide (0 ≤ (k : Int) ∧ (k : Int) < ((x.p.two).length : Int)) = true from decide_eq_true (by rw [Fz]; omega), Ch, Int.toNat_natCast, hd]; rfl
 obtain ⟨b, off, hat, _⟩ := V.t (by omega);have hck : ∀ Y, Bw y Y → BL Y b (off + k * 7) d := fun Y hY => by have ht := (V.later hY).t; rw [hat] at ht; rw [← hd]; exact CZ (ht.at_ BC AD.nil hk)
 replace hd : Hid _ := hd;clear h1 h1';refine tw 6 11 (.bool true) ?_;refine tw 7 12 (.pointer (some (ja w.heap.size 2))) ?_;refine tw 8 13 (.agg #[ji x.rg.ep, ji x.rg.ow, ji x.rg.pa]) ?_ (hy := by intro Y hSw; have X := (A.below hSw A.lt).all; go_simp);refine tw 9 14 (ji (k : Int)) ?_;refine tw 10 15 (.pointer (some (ja w.heap.size 5))) ?_;refine tw 11 16 (.slice (some (ja b off)) x.two.length x.cT) ?_ (hy := by intro Y hSw; have X := (A.below hSw A.lt).all; rw [hat] at X; go_simp);refine tw 12 17 (ji (k : Int)) ?_;refine tw 13 18 (.pointer (some ⟨b, off + k * 7, none⟩)) ?_ (hy := by intro Y hSw; go_simp; try omega);refine tw 14 19 (.agg (mc d.m d.ad d.cap)) ?_ (hy := by intro Y hSw; have X := (hck Y hSw).all; go_simp);refine w1 15 fun Kz hKz => ?_
 go_simp
 go_at_call 172
 refine (II x.rg (k : Int) d.m d.ad d.cap u1 (hvl.below hb1 (hvl.lt Av (by omega))) (by omega)).mono ?_;rintro e u2 ⟨rfl, kq⟩;rw [← hN.out];have hb2 := AG hb1 kq;clear kq;refine hKz _ _ ⟨hb2, ?_⟩;clear hKz Kz;refine tw 16 21 (.bool R) ?_;refine tw 17 4 (.bool R) ?_;refine Ag ?_;go_wp2
 go_ret
 exact ⟨rfl, AG B0 hb2⟩
theorem Il (x : AF) (w : World) (hV : Ck w x) :
  Calls prog 156 #[.agg (bc x)] w fun e w' => e = .returned (ji (CV x.p)) ∧ Bw w w' := by
 obtain ⟨R, hR⟩ := AC (CV x.p);rw [← hR];replace hR : Hid _ := hR;obtain ⟨y, hy, B0⟩ := AM w (Obj.cells (bc x) 63);have A : Af y w.heap.size x := by rw [hy]; exact Af.new w _ x
 have V := hV.later B0;go_enter func156, ntmps156
 go_upto_region 2 with fail
 rw [← hy];clear hy hV;refine wp_loop_rounds 3 ?_;rw [rounds_succ];have a0 := A.all;go_wp2_with fail
 go_at_call 162
 clear a0;refine (FX x 0 y V).mono ?_;rintro e v1 ⟨rfl, k1⟩;have A := A.below k1 A.lt;have V := V.later k1;have B1 := AG B0 k1;clear k1 B0;cases h0 : Ct x.p 0
 ·
  replace h0 : Hid _ := h0;go_wp2
  rw [rounds_succ];have a0 := A.all;go_wp2_with fail
  go_at_call 162
  clear a0;refine (FX x 1 v1 V).mono ?_;rintro e v2 ⟨rfl, k2⟩;have B2 := AG B1 k2;clear k2 B1;cases h1 : Ct x.p 1
  ·
   have hN : Hid (R = -1) := by unfold Hid; rw [hR.out]; unfold CV; rw [h0.out, h1]; rfl
   clear h1;go_wp2
   rw [rounds_succ];go_wp2
   go_ret
   exact ⟨by rw [hN.out]; rfl, B2⟩
  have hN : Hid (R = 1) := by unfold Hid; rw [hR.out]; unfold CV; rw [h0.out, h1]; rfl
  clear h1;go_wp2
  go_ret
  exact ⟨by rw [hN.out]; rfl, B2⟩
 have hN : Hid (R = 0) := by unfold Hid; rw [hR.out]; unfold CV; rw [h0]; rfl
 clear h0;go_wp2
 go_ret
 exact ⟨by rw [hN.out]; rfl, B1⟩
theorem AS.sT {w : World} {q : Nat} {x : AF} (h : AS w q x) (D : List AD) (a : Option Addr) (n : Nat) (c : Nat) (hn : n = D.length) : AS (w.setCell (ja q 5) (.slice a n c)) q { x with two := D, aT := a, cT := c } := by
 subst hn;obtain ⟨⟨h0, h1, h2, h3, h4, h5, h6, h7, h8, h9⟩, hf⟩ := h;exact ⟨⟨(AB (by decide)).trans h0, (AB (by decide)).trans h1, (AB (by decide)).trans h2, (AB (by decide)).trans h3, (AB (by decide)).trans h4, Al h5, (AB (by decide)).trans h6, (AB (by decide)).trans h7, (AB (by decide)).trans h8, (AB (by decide)).trans h9⟩, fun i => by rw [World.frozen?_setCell]; exact hf i⟩
theorem AS.sN {w : World} {q : Nat} {x : AF} (h : AS w q x) (D : List Wi) (a : Option Addr) (n : Nat) (c : Nat) (hn : n = D.length) : AS (w.setCell (ja q 6) (.slice a n c)) q { x with net := D, aN := a, cN := c } := by
 subst hn;obtain ⟨⟨h0, h1, h2, h3, h4, h5, h6, h7, h8, h9⟩, hf⟩ := h;exact ⟨⟨(AB (by decide)).trans h0, (AB (by decide)).trans h1, (AB (by decide)).trans h2, (AB (by decide)).trans h3, (AB (by decide)).trans h4, (AB (by decide)).trans h5, Al h6, (AB (by decide)).trans h7, (AB (by decide)).trans h8, (AB (by decide)).trans h9⟩, fun i => by rw [World.frozen?_setCell]; exact hf i⟩
theorem AS.sL {w : World} {q : Nat} {x : AF} (h : AS w q x) (D : List Ik) (a : Option Addr) (n : Nat) (c : Nat) (hn : n = D.length) : AS (w.setCell (ja q 8) (.slice a n c)) q { x with ln := D, aL := a, cL := c } := by
 subst hn;obtain ⟨⟨h0, h1, h2, h3, h4, h5, h6, h7, h8, h9⟩, hf⟩ := h;exact ⟨⟨(AB (by decide)).trans h0, (AB (by decide)).trans h1, (AB (by decide)).trans h2, (AB (by decide)).trans h3, (AB (by decide)).trans h4, (AB (by decide)).trans h5, (AB (by decide)).trans h6, (AB (by decide)).trans h7, Al h8, (AB (by decide)).trans h9⟩, fun i => by rw [World.frozen?_setCell]; exact hf i⟩
theorem AS.sS {w : World} {q : Nat} {x : AF} (h : AS w q x) (D : List Ou) (a : Option Addr) (n : Nat) (c : Nat) (hn : n = D.length) : AS (w.setCell (ja q 9) (.slice a n c)) q { x with sd := D, aS := a, cS := c } := by
 subst hn;obtain ⟨⟨h0, h1, h2, h3, h4, h5, h6, h7, h8, h9⟩, hf⟩ := h;exact ⟨⟨(AB (by decide)).trans h0, (AB (by decide)).trans h1, (AB (by decide)).trans h2, (AB (by decide)).trans h3, (AB (by decide)).trans h4, (AB (by decide)).trans h5, (AB (by decide)).trans h6, (AB (by decide)).trans h7, (AB (by decide)).trans h8, Al h9⟩, fun i => by rw [World.frozen?_setCell]; exact hf i⟩
theorem AS.sR {w : World} {q : Nat} {x : AF} (h : AS w q x) (r : Rg) : AS (((w.setCell (ja q 2) (ji r.ep)).setCell (ja q 3) (ji r.ow)).setCell (ja q 4) (ji r.pa)) q { x with rg := r } := by
 obtain ⟨⟨h0, h1, h2, h3, h4, h5, h6, h7, h8, h9⟩, hf⟩ := h;have h0 : (w.setCell (ja q 2) (ji r.ep)).cell? (ja q 0) = _ := (AB (by decide)).trans h0;have h1 : (w.setCell (ja q 2) (ji r.ep)).cell? (ja q 1) = _ := (AB (by decide)).trans h1;have h2 : (w.setCell (ja q 2) (ji r.ep)).cell? (ja q 2) = some (ji r.ep) := Al h2;have h3 : (w.setCell (ja q 2) (ji r.ep)).cell? (ja q 3) = _ := (AB (by decide)).trans h3;have h4 : (w.setCell (ja q 2) (ji r.ep)).cell? (ja q 4) = _ := (AB (by decide)).trans h4;have h5 : (w.setCell (ja q 2) (ji r.ep)).cell? (ja q 5) = _ := (AB (by decide)).trans h5;have h6 : (w.setCell (ja q 2) (ji r.ep)).cell? (ja q 6) = _ := (AB (by decide)).trans h6;have h7 : (w.setCell (ja q 2) (ji r.ep)).cell? (ja q 7) = _ := (AB (by decide)).trans h7;have h8 : (w.setCell (ja q 2) (ji r.ep)).cell? (ja q 8) = _ := (AB (by decide)).trans h8;have h9 : (w.setCell (ja q 2) (ji r.ep)).cell? (ja q 9) = _ := (AB (by decide)).trans h9;have h0 : ((w.setCell (ja q 2) (ji r.ep)).setCell (ja q 3) (ji r.ow)).cell? (ja q 0) = _ := (AB (by decide)).trans h0;have h1 : ((w.setCell (ja q 2) (ji r.ep)).setCell (ja q 3) (ji r.ow)).cell? (ja q 1) = _ := (AB (by decide)).trans h1;have h2 : ((w.setCell (ja q 2) (ji r.ep)).setCell (ja q 3) (ji r.ow)).cell? (ja q 2) = _ := (AB (by decide)).trans h2;have h3 : ((w.setCell (ja q 2) (ji r.ep)).setCell (ja q 3) (ji r.ow)).cell? (ja q 3) = some (ji r.ow) := Al h3;have h4 : ((w.setCell (ja q 2) (ji r.ep)).setCell (ja q 3) (ji r.ow)).cell? (ja q 4) = _ := (AB (by decide)).trans h4;have h5 : ((w.setCell (ja q 2) (ji r.ep)).setCell (ja q 3) (ji r.ow)).cell? (ja q 5) = _ := (AB (by decide)).trans h5;have h6 : ((w.setCell (ja q 2) (ji r.ep)).setCell (ja q 3) (ji r.ow)).cell? (ja q 6) = _ := (AB (by decide)).trans h6;have h7 : ((w.setCell (ja q 2) (ji r.ep)).setCell (ja q 3) (ji r.ow)).cell? (ja q 7) = _ := (AB (by decide)).trans h7;have h8 : ((w.setCell (ja q 2) (ji r.ep)).setCell (ja q 3) (ji r.ow)).cell? (ja q 8) = _ := (AB (by decide)).trans h8;have h9 : ((w.setCell (ja q 2) (ji r.ep)).setCell (ja q 3) (ji r.ow)).cell? (ja q 9) = _ := (AB (by decide)).trans h9;have h0 : (((w.setCell (ja q 2) (ji r.ep)).setCell (ja q 3) (ji r.ow)).setCell (ja q 4) (ji r.pa)).cell? (ja q 0) = _ := (AB (by decide)).trans h0;have h1 : (((w.setCell (ja q 2) (ji r.ep)).setCell (ja q 3) (ji r.ow)).setCell (ja q 4) (ji r.pa)).cell? (ja q 1) = _ := (AB (by decide)).trans h1;have h2 : (((w.setCell (ja q 2) (ji r.ep)).setCell (ja q 3) (ji r.ow)).setCell (ja q 4) (ji r.pa)).cell? (ja q 2) = _ := (AB (by decide)).trans h2;have h3 : (((w.setCell (ja q 2) (ji r.ep)).setCell (ja q 3) (ji r.ow)).setCell (ja q 4) (ji r.pa)).cell? (ja q 3) = _ := (AB (by decide)).trans h3;have h4 : (((w.setCell (ja q 2) (ji r.ep)).setCell (ja q 3) (ji r.ow)).setCell (ja q 4) (ji r.pa)).cell? (ja q 4) = some (ji r.pa) := Al h4;have h5 : (((w.setCell (ja q 2) (ji r.ep)).setCell (ja q 3) (ji r.ow)).setCell (ja q 4) (ji r.pa)).cell? (ja q 5) = _ := (AB (by decide)).trans h5;have h6 : (((w.setCell (ja q 2) (ji r.ep)).setCell (ja q 3) (ji r.ow)).setCell (ja q 4) (ji r.pa)).cell? (ja q 6) = _ := (AB (by decide)).trans h6;have h7 : (((w.setCell (ja q 2) (ji r.ep)).setCell (ja q 3) (ji r.ow)).setCell (ja q 4) (ji r.pa)).cell? (ja q 7) = _ := (AB (by decide)).trans h7;have h8 : (((w.setCell (ja q 2) (ji r.ep)).setCell (ja q 3) (ji r.ow)).setCell (ja q 4) (ji r.pa)).cell? (ja q 8) = _ := (AB (by decide)).trans h8;have h9 : (((w.setCell (ja q 2) (ji r.ep)).setCell (ja q 3) (ji r.ow)).setCell (ja q 4) (ji r.pa)).cell? (ja q 9) = _ := (AB (by decide)).trans h9;exact ⟨⟨h0, h1, h2, h3, h4, h5, h6, h7, h8, h9⟩, fun i => by rw [World.frozen?_setCell, World.frozen?_setCell, World.frozen?_setCell]; exact hf i⟩
structure Ai (q : Nat) (x : AF) : Prop where
 t : ∀ b, (Value.slice x.aT x.two.length x.cT).ownBlock = some b → b ≠ q
 n : ∀ b, (Value.slice x.aN x.net.length x.cN).ownBlock = some b → b ≠ q
 g : ∀ b, (Value.slice x.aG x.ga.length x.cG).ownBlock = some b → b ≠ q
 i : ∀ b, (Value.slice x.aL x.ln.length x.cL).ownBlock = some b → b ≠ q
 s : ∀ b, (Value.slice x.aS x.sd.length x.cS).ownBlock = some b → b ≠ q
 l : ∀ j, j < x.two.length → ∀ b, (Value.slice (x.two.getD j AD.nil).ad (x.two.getD j AD.nil).m.lg.length (x.two.getD j AD.nil).cap).ownBlock = some b → b ≠ q
theorem AL.keepQ {base q : Nat} {w w' : World} {x : AF} (h : AL base w x) (hq : Ai q x) (k : ∀ g, g ≠ q → w'.heap[g]? = w.heap[g]?) : AL base w' x :=
 ⟨h.t.keep (fun g e => k g (hq.t g e)), fun i hi => (h.l i hi).keep (fun g e => k g (hq.l i hi g e)), h.n.keep (fun g e => k g (hq.n g e)), h.g.keep (fun g e => k g (hq.g g e)), h.i.keep (fun g e => k g (hq.i g e)), h.s.keep (fun g e => k g (hq.s g e)), h.ap⟩
theorem AL.ne {base q : Nat} {w : World} {x : AF} (h : AL base w x) (hq : w.heap.size ≤ q) : Ai q x :=
 ⟨fun b e => (by have := h.t.lt b e; omega), fun b e => (by have := h.n.lt b e; omega), fun b e => (by have := h.g.lt b e; omega), fun b e => (by have := h.i.lt b e; omega), fun b e => (by have := h.s.lt b e; omega), fun j hj b e => (by have := (h.l j hj).lt b e; omega)⟩
theorem AL.gate {base : Nat} {w : World} {x : AF} (h : AL base w x) {g k : Nat} (hat : x.aG = some (ja g 0)) (hk : k < x.ga.length) (b : Bool) : AL base (w.setCell (ja g k) (.bool b)) { x with ga := x.ga.set k b } := by
 have hg : AA Bz 1 4 base (w.setCell (ja g k) (.bool b)) (.slice x.aG (x.ga.set k b).length x.cG) (x.ga.set k b) := by
  have h1 := h.g;rw [hat] at h1 ⊢;have := h1.set EE (by omega) hk b;rw [Nat.mul_one] at this;rw [List.length_set];exact this
 have hb : ∀ q, q ≠ g → (w.setCell (ja g k) (.bool b)).heap[q]? = w.heap[q]? := fun q hq => AE hq
 have ne : ∀ {X : Type} {e : X → List Value} {n : Nat} {T : TypeId} {b1 : Nat} {v : Value} {L : List X}, AA e n T b1 w v L → T ≠ 4 → ∀ q, v.ownBlock = some q → q ≠ g := fun hr hT q e e2 => (hr.apart h.g hT e) (by rw [hat, e2]; rfl)
 exact ⟨h.t.keep (fun q e => hb q (ne h.t (by decide) q e)), fun i hi => (h.l i hi).keep (fun q e => hb q (ne (h.l i hi) (by decide) q e)), h.n.keep (fun q e => hb q (ne h.n (by decide) q e)), hg, h.i.keep (fun q e => hb q (ne h.i (by decide) q e)), h.s.keep (fun q e => hb q (ne h.s (by decide) q e)), h.ap⟩
theorem AL.said {base : Nat} {w w' : World} {x : AF} (h : AL base w x) (N : List Ou) (a : Option Addr) (c : Nat) (hN : AA Aw 8 41 base w' (.slice a N.length c) N) (k : ∀ g, g < w.heap.size → (Value.slice x.aS x.sd.length x.cS).ownBlock ≠ some g → w'.heap[g]? = w.heap[g]?) : AL base w' { x with sd := N, aS := a, cS := c } :=
 ⟨h.t.keep (fun g e => k g (h.t.lt g e).2 (fun e2 => h.s.apart h.t (by decide) e2 e)), fun j hj => (h.l j hj).keep (fun g e => k g ((h.l j hj).lt g e).2 (fun e2 => h.s.apart (h.l j hj) (by decide) e2 e)), h.n.keep (fun g e => k g (h.n.lt g e).2 (fun e2 => h.s.apart h.n (by decide) e2 e)), h.g.keep (fun g e => k g (h.g.lt g e).2 (fun e2 => h.s.apart h.g (by decide) e2 e)), h.i.keep (fun g e => k g (h.i.lt g e).2 (fun e2 => h.s.apart h.i (by decide) e2 e)), hN, h.ap⟩
theorem DY.keepA {w w' : World} {q o : Nat} {x : Ou} (h : DY w q o x) (k : w'.heap[q]? = w.heap[q]?) : DY w' q o x :=
 ⟨(World.cell?_of_block (a := (ja q o)) k).trans h.c0, (World.cell?_of_block (a := ⟨q, o + 1, none⟩) k).trans h.c1, (World.cell?_of_block (a := ⟨q, o + 2, none⟩) k).trans h.c2, (World.cell?_of_block (a := ⟨q, o + 3, none⟩) k).trans h.c3, (World.cell?_of_block (a := ⟨q, o + 4, none⟩) k).trans h.c4, (World.cell?_of_block (a := ⟨q, o + 5, none⟩) k).trans h.c5, (World.cell?_of_block (a := ⟨q, o + 6, none⟩) k).trans h.c6, (World.cell?_of_block (a := ⟨q, o + 7, none⟩) k).trans h.c7⟩
theorem DY.belowA {w w' : World} {q o n : Nat} {x : Ou} (h : DY w q o x) (k : Below n w w') (hq : q < n) : DY w' q o x := h.keepA (k.block q hq)
def CS (b : Bx) (M : List Ou) : Bx := ⟨b.id, b.po, b.rg, b.two, b.net, M.foldl Ed b.ga, b.ln, b.sd ++ M⟩
theorem KE (b : Bx) : CS b [] = b := by unfold CS; simp
theorem KF (b : Bx) (M : List Ou) : (CS b M).ga.length = b.ga.length := Ha M b.ga
theorem Gi (b : Bx) (M : List Ou) (h : Ou) : CS b (M ++ [h]) = ⟨(CS b M).id, (CS b M).po, (CS b M).rg, (CS b M).two, (CS b M).net, Ed (CS b M).ga h, (CS b M).ln, (CS b M).sd ++ [h]⟩ := by
 unfold CS;simp
theorem Ge {L : List Ou} {k : Nat} (h : k < L.length) : L.take (k + 1) = L.take k ++ [L.getD k Ou.nil] := by
 rw [List.take_add_one];simp [List.getD, h]
theorem Hz {b : Bx} {s : Int} {L : List Ou} (h : Ct b s = true) : Cd b s L = ⟨b.id, b.po, b.rg, b.two, b.net, L.foldl Ed b.ga, b.ln, Ey (b.sd ++ L)⟩ := by unfold Cd; rw [if_pos h]
theorem JN {M : List Ou} (h : M.length ≤ 40) : Ey M = M := by unfold Ey; rw [show M.length - 40 = 0 by omega]; rfl
theorem AI.dropO {w : World} {b : Nat} {L : List Ou} (h : AI Aw w (some (ja b 0)) L) {k : Nat} (hk : k ≤ L.length) : AI Aw w (some ⟨b, k * 8, none⟩) (L.drop k) := by
 intro hp;rw [List.length_drop] at hp;obtain ⟨b2, off, e, hc⟩ := h (by omega);cases e
 refine ⟨b, k * 8, rfl, fun j v hv => ?_⟩;have e : (AT Aw L)[k * 8 + j]? = some v := by
  have hL : AT Aw L = AT Aw (L.take k) ++ AT Aw (L.drop k) := by
   rw [← Fo, List.take_append_drop]
  have hl : (AT Aw (L.take k)).length = k * 8 := by rw [Ev DS, List.length_take, Nat.min_eq_left hk]
  rw [hL, List.getElem?_append_right (by omega), hl, show k * 8 + j - k * 8 = j by omega];exact hv
 have := hc (k * 8 + j) v e;simpa using this
attribute [local go_sem] ic
theorem AI.oneK (w : World) (t : TypeId) (x : Ik) : AI AW (w.alloc (Obj.cells #[ji x.k, ji x.q, ji x.r, ji x.c, ji x.b, ji x.p, ji x.h, .bool x.up] t)) (some (ja w.heap.size 0)) [x] := by
 intro _;refine ⟨w.heap.size, 0, rfl, fun j v hv => ?_⟩;simp only [AT, AW, List.append_nil] at hv;have hj : j < 8 := (List.getElem?_eq_some_iff.1 hv).1;rcases (by omega : j = 0 ∨ j = 1 ∨ j = 2 ∨ j = 3 ∨ j = 4 ∨ j = 5 ∨ j = 6 ∨ j = 7) with rfl | rfl | rfl | rfl | rfl | rfl | rfl | rfl <;> (cases hv; simp [go_sem])
theorem G2 (m : Mi) (x : Ik) (ad : Option Addr) (cap : Nat) (w : World) (hv : AI AW w ad m.lg) (hl : m.lg.length ≤ 1048576) (hn : ad = none → cap = 0) :
  Calls prog 157 #[.agg #[.bool m.up, ji m.li, ji m.ep, .slice ad m.lg.length cap, ji m.sd, ji m.ac, ji m.al], .agg #[ji x.k, ji x.q, ji x.r, ji x.c, ji x.b, ji x.p, ji x.h, .bool x.up]] w fun e w' => ∃ a c, e = .returned (.tuple #[.agg #[.bool (AN m x).up, ji (AN m x).li, ji (AN m x).ep, .slice a (AN m x).lg.length c, ji (AN m x).sd, ji (AN m x).ac, ji (AN m x).al], .bool (DU m x)]) ∧ AA AW 8 27 w.heap.size w' (.slice a (AN m x).lg.length c) (AN m x).lg ∧ Bw w w' := by
 have hB := hv.lt Av (by omega);obtain ⟨y, hy⟩ := AC (((w.alloc (Obj.cells (mc m ad cap) 54)).alloc (Obj.cells (ic x) 27)).alloc (Obj.cells #[.bool false, ji 0, ji 0, .slice none 0 0, ji 0, ji 0, ji 0] 54));have B0 : Bw w y := by rw [hy]; exact (((Below.refl _ _).alloc (Nat.le_refl _) _).alloc (by simp) _).alloc (by simp; omega) _
 have A0 : Ab y w.heap.size m (.slice ad m.lg.length cap) := by rw [hy]; constructor <;> simp [go_sem]
 have X0 : Bh y (w.heap.size + 1) x := by rw [hy]; constructor <;> simp [go_sem]
 have A1 : AQ y (w.heap.size + 1 + 1) ⟨false, 0, 0, [], 0, 0, 0⟩ (.slice none 0 0) := by rw [hy]; constructor <;> simp [go_sem]
 have S0 := A1.lt;have hv1 := hv.below B0 hB;clear hv hB;obtain ⟨i1, hj, hy0, hy1, hy2⟩ := info_parts FZ;have HV : ∀ a, ad = some a → 0 < m.lg.length → a.block < y.heap.size := hv1.lt Av (by omega);go_enter func157, ntmps157
 have x0 := A0.all;go_wp2_with fail
 go_at_call 126
 rw [← hy];clear x0 hy;refine (Ex m ad cap y hv1 (by omega) hn).mono ?_;rintro e u1 ⟨a1, c1, rfl, O1, k1⟩;have B1 := AG B0 k1;have A0 := A0.below k1 A0.lt;have X0 := X0.below k1 X0.lt;have A1 := A1.below k1 A1.lt;have hv1 := hv1.below k1 (hv1.lt Av (by omega));have s1 := k1.size;have lo1 := O1.lt;clear k1 B0;obtain ⟨u2, hu2, k2⟩ := AM u1 (Obj.cells (mc m a1 c1) 54);have N : AQ u2 u1.heap.size m (.slice a1 m.lg.length c1) := by rw [hu2]; exact AQ.new u1 _ _ _
 have B2 := AG B1 k2;have A0 := A0.below k2 A0.lt;have X0 := X0.below k2 X0.lt;have A1 := A1.below k2 A1.lt;have hv1 := hv1.below k2 (hv1.lt Av (by omega));have O1 := O1.later k2;have s2 := N.lt;have s2' := k2.size;obtain ⟨q, hq⟩ := AC u1.heap.size;go_upto_region 2 with fail
 rw [← hu2];clear hu2 k2 B1;rw [← hq] at N s2 lo1 s1 s2' ⊢;clear hq;have V1 := AI.oneK u2 27 x;have kx : Bw u2 (u2.alloc (Obj.cells (ic x) 27)) := Ax _;have O4 := O1.later kx;have N4 := N.below kx N.lt;have X4 := X0.below kx X0.lt;obtain ⟨n0, n1, n2, n3, n4, n5, n6, nf⟩ := id N4;obtain ⟨e0, e1, e2, e3, e4, e5, e6, e7⟩ := id X0;have p0 := N.all;go_wp2_with (first | (at_builtin; refine En Av FB rfl _ _ 34 rfl y.heap.size 27 i1 (.agg #[ji 0, ji 0, ji 0, ji 0, ji 0, ji 0, ji 0, .bool false]) 64 underlying34 hj hy0 hy1 hy2 rfl (by decide) (by decide) (.slice a1 m.lg.length c1) m.lg rfl O4 (some (ja u2.heap.size 0)) 1 [x] rfl (fun e => by cases e) V1 ?z0 ?z1 ?_) | go_in)
 case z0 => simp; omega
 case z1 => first | omega | (simp; omega)
 intro vZ w1 hownZ hgrowZ hob;have hqo : ∀ g, vZ.ownBlock = some g → g ≠ q := fun g e => by
  rcases hob with h | h
  ·
   rw [h] at e; have := lo1 g e; omega
  rw [h] at e; have e2 := Option.some.inj e; have := kx.size; omega
 have bZ : Below y.heap.size u2 w1 := (kx.mono (by omega)).grown hgrowZ (by have := kx.size; omega) (fun j e => (O4.lt j e).1);have bq : ∀ k, k < u2.heap.size → (∀ g, (Value.slice a1 m.lg.length c1).ownBlock = some g → k ≠ g) → w1.heap[k]? = u2.heap[k]? := fun k hk he => (hgrowZ.block k (Nat.lt_of_lt_of_le hk kx.size) (fun e => he k e.symm rfl)).trans (kx.block k hk)
 replace hownZ : AA AW 8 27 y.heap.size w1 vZ (Cb m x).lg := hownZ;obtain ⟨a2, c2, rfl⟩ := hownZ.open_;clear p0 n0 n1 n2 n3 n4 n5 n6 nf e0 e1 e2 e3 e4 e5 e6 e7 N4 X4 V1 O4 hgrowZ;have N := N.keep (bq q N.lt (fun g e => by have := lo1 g e; omega));have A0 := A0.keep (bq _ A0.lt (fun g e => by have := lo1 g e; omega));have A1 := A1.keep (bq _ A1.lt (fun g e => by have := lo1 g e; omega));have hv1 := hv1.carry (fun a e p => bZ.block _ (HV a e p));have s3 := bZ.size;have B3 := B2.trans (bZ.mono (by omega));have lo2 := hownZ.lt;clear bq kx bZ B2 O1 hob;have N2 := N.log (.slice a2 (Cb m x).lg.length c2);obtain ⟨w2, hw2⟩ := AC (w1.setCell (ja q 3) (.slice a2 (Cb m x).lg.length c2));have kw : ∀ k, k ≠ q → w2.heap[k]? = w1.heap[k]? := fun k hk => by rw [hw2]; exact AE hk
 have A0 := A0.keep (kw _ (by omega));have A1 := A1.keep (kw _ (by omega));have hv1 := hv1.carry (fun a e p => kw _ (by have := HV a e p; omega));have O2 := hownZ.keep (fun g e => kw g (hqo g e));have B4 : Bw w w2 := by rw [hw2]; exact B3.setCell (p := (ja q 3)) (by show _ ≤ q; omega) _
 have s4 : w1.heap.size ≤ w2.heap.size := by rw [hw2]; simp
 have n3 := N.c3;have nf := N.fr 3;go_upto_region 3 with fail
 rw [← hw2] at N2 ⊢;clear hw2 kw n3 nf N hownZ B3;have N3 : AQ w2 q (Cb m x) (.slice a2 (Cb m x).lg.length c2) := N2.lg (m.lg ++ [x]);clear N2;cases hU : m.up
 focus
  have hNB : Hid (DU m x = false) := by unfold Hid DU; rw [hU]; rfl
  have hNR : Hid (AN m x = m) := Ho hNB.out;obtain ⟨x0, x1, x2, x3, x4, x5, x6⟩ := id A0;rw [hU] at x0;go_wp2_with fail
  go_at_call 126
  clear x0 x1 x2 x3 x4 x5 x6;rw [← hU];replace hU : Hid _ := hU;refine (Ex m ad cap w2 hv1 (by omega) hn).mono ?_;rintro e w3 ⟨a3, c3, rfl, O3, k3⟩;have B5 := AG B4 k3;have A1 := A1.below k3 A1.lt;clear k3 B4;have B9 := EM (q := w.heap.size + 1 + 1) m (.slice a3 m.lg.length c3) B5 (by omega);have O9 := (O3.base (base' := w.heap.size) (by omega)).keep (fun g e => Dd w3 (w.heap.size + 1 + 1) g m (.slice a3 m.lg.length c3) (by have := (O3.lt g e).1; omega))
 rotate_left;focus
  have hM : DU m x = BM (Cb m x) := by unfold DU; rw [hU]; rfl
  replace hM : Hid _ := hM;obtain ⟨x0, x1, x2, x3, x4, x5, x6⟩ := id A0;rw [hU] at x0;have n0 := N3.all;go_wp2_with fail
  go_at_call 149
  clear n0 x0 x1 x2 x3 x4 x5 x6;refine (Fc (Cb m x) a2 c2 w2 O2.view.2 (by show (m.lg ++ [x]).length ≤ _; simp; omega)).mono ?_;rintro e w3 ⟨rfl, k3⟩;have B5 := AG B4 k3;have A0 := A0.below k3 A0.lt;have A1 := A1.below k3 A1.lt;have hv1 := hv1.below k3 (hv1.lt Av (by omega));have O2 := O2.later k3;have N3 := N3.below k3 N3.lt;have s5 := k3.size;clear k3 B4;replace hU : Hid _ := hU;cases hO : BM (Cb m x)
  focus
   have hNB : Hid (DU m x = false) := by unfold Hid; rw [hM.out, hO]
   have hNR : Hid (AN m x = m) := Ho hNB.out;have x0 := A0.all;clear hO;go_wp2_with fail
   go_at_call 126
   clear x0;refine (Ex m ad cap w3 hv1 (by omega) hn).mono ?_;rintro e w4 ⟨a3, c3, rfl, O3, k3⟩;have B6 := AG B5 k3;have A1 := A1.below k3 A1.lt;clear k3 B5;have B9 := EM (q := w.heap.size + 1 + 1) m (.slice a3 m.lg.length c3) B6 (by omega);have O9 := (O3.base (base' := w.heap.size) (by omega)).keep (fun g e => Dd w4 (w.heap.size + 1 + 1) g m (.slice a3 m.lg.length c3) (by have := (O3.lt g e).1; omega))
  rotate_left
  ·
   have hNB : Hid (DU m x = true) := by unfold Hid; rw [hM.out, hO]
   have hNR : Hid (AN m x = (Cb m x)) := by unfold Hid AN; rw [if_pos hNB.out]
   clear hO;replace N3 := N3.all;have B9 := EM (q := w.heap.size + 1 + 1) (Cb m x) (.slice a2 (Cb m x).lg.length c2) B5 (by omega);have O9 := (O2.base (base' := w.heap.size) (by omega)).keep (fun g e => Dd w3 (w.heap.size + 1 + 1) g (Cb m x) (.slice a2 (Cb m x).lg.length c2) (by have := (O2.lt g e).1; omega));obtain ⟨z0, z1, z2, z3, z4, z5, z6, zf⟩ := A1;have g0 := zf 0;have g1 := zf 1;have g2 := zf 2;have g3 := zf 3;have g4 := zf 4;have g5 := zf 5;have g6 := zf 6;clear zf;go_wp2
   refine bodyPost_ret (v := .tuple #[.agg #[.bool (Cb m x).up, ji (Cb m x).li, ji (Cb m x).ep, .slice a2 (Cb m x).lg.length c2, ji (Cb m x).sd, ji (Cb m x).ac, ji (Cb m x).al], .bool true]) (by simp [results, results157, go_sem, *]) rfl ⟨a2, c2, by rw [hNR.out, hNB.out], by rw [hNR.out]; exact O9, B9⟩
 rotate_left;all_goals
  obtain ⟨z0, z1, z2, z3, z4, z5, z6, zf⟩ := A1;have g0 := zf 0;have g1 := zf 1;have g2 := zf 2;have g3 := zf 3;have g4 := zf 4;have g5 := zf 5;have g6 := zf 6;clear zf;go_wp2
  refine bodyPost_ret (v := .tuple #[.agg (mc m a3 c3), .bool false]) (by simp [results, results157, go_sem, *]) rfl ⟨a3, c3, by rw [hNR.out, hNB.out], by rw [hNR.out]; exact O9, B9⟩
end Go.Proofs.YtjmnaeeknomiaaaGreatDoor
