import Derived.Test.YtnpiljegdiconaaGreatQM20
namespace Go.Proofs.YtnpiljegdiconaaGreat
open Go.ChangeShapes Go.WideShapes Go.ChangeAt Go.RowKit
open Go.ChangeMaps (open_string shut_string)
set_option linter.unusedVariables false
set_option maxRecDepth 100000
structure BxB (w : World) (q : Nat) (x : BxD) : Prop where
 at_ : BxAt w q x
 fr : ∀ i, w.frozen? ⟨q, i, none⟩ = false
theorem BxB.keep {w w' : World} {q : Nat} {x : BxD} (h : BxB w q x) (k : w'.heap[q]? = w.heap[q]?) : BxB w' q x :=
 ⟨h.at_.keep k, fun i => (World.frozen?_of_block (a := ⟨q, i, none⟩) k).trans (h.fr i)⟩
theorem BxB.below {w w' : World} {q n : Nat} {x : BxD} (h : BxB w q x) (k : Below n w w') (hq : q < n) : BxB w' q x := h.keep (k.block q hq)
theorem BxB.lt {w : World} {q : Nat} {x : BxD} (h : BxB w q x) : q < w.heap.size := h.at_.lt
def BxD.zero : BxD := ⟨0, 0, ⟨0, 0, 0⟩, [], none, 0, [], none, 0, [], none, 0, [], none, 0, [], none, 0⟩
theorem pe_ {w : World} {q i j : Nat} {u v : Value} (h : w.cell? ⟨q, j, none⟩ = some u) (hij : i ≠ j := by decide) : (w.setCell ⟨q, i, none⟩ v).cell? ⟨q, j, none⟩ = some u := (pset_else hij).trans h
theorem ps_ {w : World} {q i : Nat} {u v : Value} (h : w.cell? ⟨q, i, none⟩ = some u) : (w.setCell ⟨q, i, none⟩ v).cell? ⟨q, i, none⟩ = some v := pset_same h
theorem BxB.put {w : World} {q : Nat} {x0 : BxD} (h : BxB w q x0) (x : BxD) : BxB ((((((((((w.setCell ⟨q, 0, none⟩ (.int .i64 x.id)).setCell ⟨q, 1, none⟩ (.int .i64 x.po)).setCell ⟨q, 2, none⟩ (.int .i64 x.rg.ep)).setCell ⟨q, 3, none⟩ (.int .i64 x.rg.ow)).setCell ⟨q, 4, none⟩ (.int .i64 x.rg.pa)).setCell ⟨q, 5, none⟩ (.slice x.aT x.two.length x.cT)).setCell ⟨q, 6, none⟩ (.slice x.aN x.net.length x.cN)).setCell ⟨q, 7, none⟩ (.slice x.aG x.ga.length x.cG)).setCell ⟨q, 8, none⟩ (.slice x.aL x.ln.length x.cL)).setCell ⟨q, 9, none⟩ (.slice x.aS x.sd.length x.cS)) q x := by
 obtain ⟨⟨h0, h1, h2, h3, h4, h5, h6, h7, h8, h9⟩, hf⟩ := h;exact ⟨⟨pe_ (pe_ (pe_ (pe_ (pe_ (pe_ (pe_ (pe_ (pe_ (ps_ (h0)))))))))), pe_ (pe_ (pe_ (pe_ (pe_ (pe_ (pe_ (pe_ (ps_ (pe_ (h1)))))))))), pe_ (pe_ (pe_ (pe_ (pe_ (pe_ (pe_ (ps_ (pe_ (pe_ (h2)))))))))), pe_ (pe_ (pe_ (pe_ (pe_ (pe_ (ps_ (pe_ (pe_ (pe_ (h3)))))))))), pe_ (pe_ (pe_ (pe_ (pe_ (ps_ (pe_ (pe_ (pe_ (pe_ (h4)))))))))), pe_ (pe_ (pe_ (pe_ (ps_ (pe_ (pe_ (pe_ (pe_ (pe_ (h5)))))))))), pe_ (pe_ (pe_ (ps_ (pe_ (pe_ (pe_ (pe_ (pe_ (pe_ (h6)))))))))), pe_ (pe_ (ps_ (pe_ (pe_ (pe_ (pe_ (pe_ (pe_ (pe_ (h7)))))))))), pe_ (ps_ (pe_ (pe_ (pe_ (pe_ (pe_ (pe_ (pe_ (pe_ (h8)))))))))), ps_ (pe_ (pe_ (pe_ (pe_ (pe_ (pe_ (pe_ (pe_ (pe_ (h9))))))))))⟩, fun i => by simp only [World.frozen?_setCell]; exact hf i⟩
abbrev P10 (w : World) (q : Nat) (x : BxD) : World := ((((((((((w.setCell ⟨q, 0, none⟩ (.int .i64 x.id)).setCell ⟨q, 1, none⟩ (.int .i64 x.po)).setCell ⟨q, 2, none⟩ (.int .i64 x.rg.ep)).setCell ⟨q, 3, none⟩ (.int .i64 x.rg.ow)).setCell ⟨q, 4, none⟩ (.int .i64 x.rg.pa)).setCell ⟨q, 5, none⟩ (.slice x.aT x.two.length x.cT)).setCell ⟨q, 6, none⟩ (.slice x.aN x.net.length x.cN)).setCell ⟨q, 7, none⟩ (.slice x.aG x.ga.length x.cG)).setCell ⟨q, 8, none⟩ (.slice x.aL x.ln.length x.cL)).setCell ⟨q, 9, none⟩ (.slice x.aS x.sd.length x.cS))
abbrev bvx (x : BxD) : Value := .agg #[.int .i64 x.id, .int .i64 x.po, .int .i64 x.rg.ep, .int .i64 x.rg.ow, .int .i64 x.rg.pa, .slice x.aT x.two.length x.cT, .slice x.aN x.net.length x.cN, .slice x.aG x.ga.length x.cG, .slice x.aL x.ln.length x.cL, .slice x.aS x.sd.length x.cS]
theorem ZBx.box {w : World} {q : Nat} (h : ZBx w q) : BxB w q BxD.zero := by
 unfold ZBx at h;refine ⟨⟨?_, ?_, ?_, ?_, ?_, ?_, ?_, ?_, ?_, ?_⟩, fun i => ?_⟩;all_goals simp [World.cell?, World.frozen?, h, BxD.zero, go_sem]
theorem heap_put10 (w : World) (q k : Nat) (x : BxD) (h : k ≠ q) : (((((((((((w.setCell ⟨q, 0, none⟩ (.int .i64 x.id)).setCell ⟨q, 1, none⟩ (.int .i64 x.po)).setCell ⟨q, 2, none⟩ (.int .i64 x.rg.ep)).setCell ⟨q, 3, none⟩ (.int .i64 x.rg.ow)).setCell ⟨q, 4, none⟩ (.int .i64 x.rg.pa)).setCell ⟨q, 5, none⟩ (.slice x.aT x.two.length x.cT)).setCell ⟨q, 6, none⟩ (.slice x.aN x.net.length x.cN)).setCell ⟨q, 7, none⟩ (.slice x.aG x.ga.length x.cG)).setCell ⟨q, 8, none⟩ (.slice x.aL x.ln.length x.cL)).setCell ⟨q, 9, none⟩ (.slice x.aS x.sd.length x.cS))).heap[k]? = w.heap[k]? := by
 rw [Below.heap_setCell _ _ _ _ h, Below.heap_setCell _ _ _ _ h, Below.heap_setCell _ _ _ _ h, Below.heap_setCell _ _ _ _ h, Below.heap_setCell _ _ _ _ h, Below.heap_setCell _ _ _ _ h, Below.heap_setCell _ _ _ _ h, Below.heap_setCell _ _ _ _ h, Below.heap_setCell _ _ _ _ h, Below.heap_setCell _ _ _ _ h]
theorem below_put10 {a w : World} {q n : Nat} (x : BxD) (h : Below n a w) (hq : n ≤ q) : Below n a ((((((((((w.setCell ⟨q, 0, none⟩ (.int .i64 x.id)).setCell ⟨q, 1, none⟩ (.int .i64 x.po)).setCell ⟨q, 2, none⟩ (.int .i64 x.rg.ep)).setCell ⟨q, 3, none⟩ (.int .i64 x.rg.ow)).setCell ⟨q, 4, none⟩ (.int .i64 x.rg.pa)).setCell ⟨q, 5, none⟩ (.slice x.aT x.two.length x.cT)).setCell ⟨q, 6, none⟩ (.slice x.aN x.net.length x.cN)).setCell ⟨q, 7, none⟩ (.slice x.aG x.ga.length x.cG)).setCell ⟨q, 8, none⟩ (.slice x.aL x.ln.length x.cL)).setCell ⟨q, 9, none⟩ (.slice x.aS x.sd.length x.cS)) := ((((((((((h.setCell (p := ⟨q, 0, none⟩) hq _).setCell (p := ⟨q, 1, none⟩) hq _).setCell (p := ⟨q, 2, none⟩) hq _).setCell (p := ⟨q, 3, none⟩) hq _).setCell (p := ⟨q, 4, none⟩) hq _).setCell (p := ⟨q, 5, none⟩) hq _).setCell (p := ⟨q, 6, none⟩) hq _).setCell (p := ⟨q, 7, none⟩) hq _).setCell (p := ⟨q, 8, none⟩) hq _).setCell (p := ⟨q, 9, none⟩) hq _)
theorem FView.oneD (w : World) (t : TypeId) (x : MiD) : FView mdEnc (w.alloc (Obj.cells #[.bool x.m.up, .int .i64 x.m.li, .int .i64 x.m.ep, .slice x.ad x.m.lg.length x.cap, .int .i64 x.m.sd, .int .i64 x.m.ac, .int .i64 x.m.al] t)) (some ⟨w.heap.size, 0, none⟩) [x] := by
 intro _;refine ⟨w.heap.size, 0, rfl, fun j v hv => ?_⟩;simp only [fcells, mdEnc, List.append_nil] at hv;have hj : j < 7 := (List.getElem?_eq_some_iff.1 hv).1;rcases (by omega : j = 0 ∨ j = 1 ∨ j = 2 ∨ j = 3 ∨ j = 4 ∨ j = 5 ∨ j = 6) with rfl | rfl | rfl | rfl | rfl | rfl | rfl <;> (cases hv; simp [go_sem])
theorem mdInfo : (Tryz.prog.info? 28).map (fun i => (i.zero, i.size, i.bytes)) = some (some (.agg #[.bool false, .int .i64 0, .int .i64 0, .slice none 0 0, .int .i64 0, .int .i64 0, .int .i64 0]), 7, 72) := by kernel_rfl
structure BxO (base : Nat) (w : World) (x : BxD) : Prop where
 t : FOwn mdEnc 7 28 base w (.slice x.aT x.two.length x.cT) x.two
 l : ∀ i, i < x.two.length → FOwn ikEnc 8 105 base w (.slice (x.two.getD i MiD.nil).ad (x.two.getD i MiD.nil).m.lg.length (x.two.getD i MiD.nil).cap) (x.two.getD i MiD.nil).m.lg
 n : FOwn wiEnc 12 112 base w (.slice x.aN x.net.length x.cN) x.net
 g : FOwn boEnc 1 4 base w (.slice x.aG x.ga.length x.cG) x.ga
 i : FOwn ikEnc 8 105 base w (.slice x.aL x.ln.length x.cL) x.ln
 s : FOwn ouEnc 8 114 base w (.slice x.aS x.sd.length x.cS) x.sd
 ap : ∀ j, j < x.two.length → ∀ g, (Value.slice (x.two.getD j MiD.nil).ad (x.two.getD j MiD.nil).m.lg.length (x.two.getD j MiD.nil).cap).ownBlock = some g → (Value.slice x.aL x.ln.length x.cL).ownBlock ≠ some g
theorem BxO.later {base : Nat} {w w' : World} {x : BxD} (h : BxO base w x) (k : Below w.heap.size w w') : BxO base w' x :=
 ⟨h.t.later k, fun i hi => (h.l i hi).later k, h.n.later k, h.g.later k, h.i.later k, h.s.later k, h.ap⟩
theorem BxO.base {b1 b2 : Nat} {w : World} {x : BxD} (h : BxO b1 w x) (hb : b2 ≤ b1) : BxO b2 w x :=
 ⟨h.t.base hb, fun i hi => (h.l i hi).base hb, h.n.base hb, h.g.base hb, h.i.base hb, h.s.base hb, h.ap⟩
theorem BxO.keep {base : Nat} {w w' : World} {x : BxD} (h : BxO base w x) (k : ∀ g, base ≤ g → g < w.heap.size → w'.heap[g]? = w.heap[g]?) : BxO base w' x :=
 ⟨h.t.keep (fun g e => k g (h.t.lt g e).1 (h.t.lt g e).2), fun i hi => (h.l i hi).keep (fun g e => k g ((h.l i hi).lt g e).1 ((h.l i hi).lt g e).2), h.n.keep (fun g e => k g (h.n.lt g e).1 (h.n.lt g e).2), h.g.keep (fun g e => k g (h.g.lt g e).1 (h.g.lt g e).2), h.i.keep (fun g e => k g (h.i.lt g e).1 (h.i.lt g e).2), h.s.keep (fun g e => k g (h.s.lt g e).1 (h.s.lt g e).2), h.ap⟩
theorem BxO.view {base : Nat} {w : World} {x : BxD} (h : BxO base w x) (bt : x.two.length ≤ 1048576) (bl : ∀ i, i < x.two.length → (x.two.getD i MiD.nil).m.lg.length ≤ 1048576) (bn : x.net.length ≤ 1048576) (bg : x.ga.length ≤ 1048576) (bi : x.ln.length ≤ 1048576) (bs : x.sd.length ≤ 1048576) : BxV w x :=
 ⟨h.t.view.2, fun i hi => (h.l i hi).view.2, h.n.view.2, h.g.view.2, h.i.view.2, h.s.view.2, bt, bl, bn, bg, bi, bs, h.t.capM⟩
theorem zten {w : World} {q : Nat} (h : BxB w q BxD.zero) : w.cell? ⟨q, 0, none⟩ = some (.int .i64 0) ∧ w.cell? ⟨q, 1, none⟩ = some (.int .i64 0) ∧ w.cell? ⟨q, 2, none⟩ = some (.int .i64 0) ∧ w.cell? ⟨q, 3, none⟩ = some (.int .i64 0) ∧ w.cell? ⟨q, 4, none⟩ = some (.int .i64 0) ∧ w.cell? ⟨q, 5, none⟩ = some (.slice none 0 0) ∧ w.cell? ⟨q, 6, none⟩ = some (.slice none 0 0) ∧ w.cell? ⟨q, 7, none⟩ = some (.slice none 0 0) ∧ w.cell? ⟨q, 8, none⟩ = some (.slice none 0 0) ∧ w.cell? ⟨q, 9, none⟩ = some (.slice none 0 0) ∧ w.frozen? ⟨q, 0, none⟩ = false ∧ w.frozen? ⟨q, 1, none⟩ = false ∧ w.frozen? ⟨q, 2, none⟩ = false ∧ w.frozen? ⟨q, 3, none⟩ = false ∧ w.frozen? ⟨q, 4, none⟩ = false ∧ w.frozen? ⟨q, 5, none⟩ = false ∧ w.frozen? ⟨q, 6, none⟩ = false ∧ w.frozen? ⟨q, 7, none⟩ = false ∧ w.frozen? ⟨q, 8, none⟩ = false ∧ w.frozen? ⟨q, 9, none⟩ = false := by
 obtain ⟨⟨r0, r1, r2, r3, r4, r5, r6, r7, r8, r9⟩, rf⟩ := h;exact ⟨r0, r1, r2, r3, r4, r5, r6, r7, r8, r9, rf 0, rf 1, rf 2, rf 3, rf 4, rf 5, rf 6, rf 7, rf 8, rf 9⟩
theorem pe_Bxb2 {w : World} {q i j : Nat} {u v : Value} (h : w.cell? ⟨q, j, none⟩ = some u) (hij : i ≠ j := by decide) : (w.setCell ⟨q, i, none⟩ v).cell? ⟨q, j, none⟩ = some u := (pset_else hij).trans h
theorem ps_Bxb2 {w : World} {q i : Nat} {u v : Value} (h : w.cell? ⟨q, i, none⟩ = some u) : (w.setCell ⟨q, i, none⟩ v).cell? ⟨q, i, none⟩ = some v := pset_same h
theorem BxB.sT {w : World} {q : Nat} {x : BxD} (h : BxB w q x) (D : List MiD) (a : Option Addr) (n : Nat) (c : Nat) (hn : n = D.length) : BxB (w.setCell ⟨q, 5, none⟩ (.slice a n c)) q { x with two := D, aT := a, cT := c } := by
 subst hn;obtain ⟨⟨h0, h1, h2, h3, h4, h5, h6, h7, h8, h9⟩, hf⟩ := h;exact ⟨⟨(pset_else (by decide)).trans h0, (pset_else (by decide)).trans h1, (pset_else (by decide)).trans h2, (pset_else (by decide)).trans h3, (pset_else (by decide)).trans h4, pset_same h5, (pset_else (by decide)).trans h6, (pset_else (by decide)).trans h7, (pset_else (by decide)).trans h8, (pset_else (by decide)).trans h9⟩, fun i => by rw [World.frozen?_setCell]; exact hf i⟩
theorem BxB.sN {w : World} {q : Nat} {x : BxD} (h : BxB w q x) (D : List Wi) (a : Option Addr) (n : Nat) (c : Nat) (hn : n = D.length) : BxB (w.setCell ⟨q, 6, none⟩ (.slice a n c)) q { x with net := D, aN := a, cN := c } := by
 subst hn;obtain ⟨⟨h0, h1, h2, h3, h4, h5, h6, h7, h8, h9⟩, hf⟩ := h;exact ⟨⟨(pset_else (by decide)).trans h0, (pset_else (by decide)).trans h1, (pset_else (by decide)).trans h2, (pset_else (by decide)).trans h3, (pset_else (by decide)).trans h4, (pset_else (by decide)).trans h5, pset_same h6, (pset_else (by decide)).trans h7, (pset_else (by decide)).trans h8, (pset_else (by decide)).trans h9⟩, fun i => by rw [World.frozen?_setCell]; exact hf i⟩
theorem BxB.sL {w : World} {q : Nat} {x : BxD} (h : BxB w q x) (D : List Ik) (a : Option Addr) (n : Nat) (c : Nat) (hn : n = D.length) : BxB (w.setCell ⟨q, 8, none⟩ (.slice a n c)) q { x with ln := D, aL := a, cL := c } := by
 subst hn;obtain ⟨⟨h0, h1, h2, h3, h4, h5, h6, h7, h8, h9⟩, hf⟩ := h;exact ⟨⟨(pset_else (by decide)).trans h0, (pset_else (by decide)).trans h1, (pset_else (by decide)).trans h2, (pset_else (by decide)).trans h3, (pset_else (by decide)).trans h4, (pset_else (by decide)).trans h5, (pset_else (by decide)).trans h6, (pset_else (by decide)).trans h7, pset_same h8, (pset_else (by decide)).trans h9⟩, fun i => by rw [World.frozen?_setCell]; exact hf i⟩
theorem BxB.sS {w : World} {q : Nat} {x : BxD} (h : BxB w q x) (D : List Ou) (a : Option Addr) (n : Nat) (c : Nat) (hn : n = D.length) : BxB (w.setCell ⟨q, 9, none⟩ (.slice a n c)) q { x with sd := D, aS := a, cS := c } := by
 subst hn;obtain ⟨⟨h0, h1, h2, h3, h4, h5, h6, h7, h8, h9⟩, hf⟩ := h;exact ⟨⟨(pset_else (by decide)).trans h0, (pset_else (by decide)).trans h1, (pset_else (by decide)).trans h2, (pset_else (by decide)).trans h3, (pset_else (by decide)).trans h4, (pset_else (by decide)).trans h5, (pset_else (by decide)).trans h6, (pset_else (by decide)).trans h7, (pset_else (by decide)).trans h8, pset_same h9⟩, fun i => by rw [World.frozen?_setCell]; exact hf i⟩
theorem BxB.sR {w : World} {q : Nat} {x : BxD} (h : BxB w q x) (r : Rg) : BxB (((w.setCell ⟨q, 2, none⟩ (.int .i64 r.ep)).setCell ⟨q, 3, none⟩ (.int .i64 r.ow)).setCell ⟨q, 4, none⟩ (.int .i64 r.pa)) q { x with rg := r } := by
 obtain ⟨⟨h0, h1, h2, h3, h4, h5, h6, h7, h8, h9⟩, hf⟩ := h;exact ⟨⟨pe_Bxb2 (pe_Bxb2 (pe_Bxb2 h0)), pe_Bxb2 (pe_Bxb2 (pe_Bxb2 h1)), pe_Bxb2 (pe_Bxb2 (ps_Bxb2 h2)), pe_Bxb2 (ps_Bxb2 (pe_Bxb2 h3)), ps_Bxb2 (pe_Bxb2 (pe_Bxb2 h4)), pe_Bxb2 (pe_Bxb2 (pe_Bxb2 h5)), pe_Bxb2 (pe_Bxb2 (pe_Bxb2 h6)), pe_Bxb2 (pe_Bxb2 (pe_Bxb2 h7)), pe_Bxb2 (pe_Bxb2 (pe_Bxb2 h8)), pe_Bxb2 (pe_Bxb2 (pe_Bxb2 h9))⟩, fun i => by rw [World.frozen?_setCell, World.frozen?_setCell, World.frozen?_setCell]; exact hf i⟩
structure BxNe (q : Nat) (x : BxD) : Prop where
 t : ∀ b, (Value.slice x.aT x.two.length x.cT).ownBlock = some b → b ≠ q
 n : ∀ b, (Value.slice x.aN x.net.length x.cN).ownBlock = some b → b ≠ q
 g : ∀ b, (Value.slice x.aG x.ga.length x.cG).ownBlock = some b → b ≠ q
 i : ∀ b, (Value.slice x.aL x.ln.length x.cL).ownBlock = some b → b ≠ q
 s : ∀ b, (Value.slice x.aS x.sd.length x.cS).ownBlock = some b → b ≠ q
 l : ∀ j, j < x.two.length → ∀ b, (Value.slice (x.two.getD j MiD.nil).ad (x.two.getD j MiD.nil).m.lg.length (x.two.getD j MiD.nil).cap).ownBlock = some b → b ≠ q
theorem BxO.keepQ {base q : Nat} {w w' : World} {x : BxD} (h : BxO base w x) (hq : BxNe q x) (k : ∀ g, g ≠ q → w'.heap[g]? = w.heap[g]?) : BxO base w' x :=
 ⟨h.t.keep (fun g e => k g (hq.t g e)), fun i hi => (h.l i hi).keep (fun g e => k g (hq.l i hi g e)), h.n.keep (fun g e => k g (hq.n g e)), h.g.keep (fun g e => k g (hq.g g e)), h.i.keep (fun g e => k g (hq.i g e)), h.s.keep (fun g e => k g (hq.s g e)), h.ap⟩
theorem BxO.ne {base q : Nat} {w : World} {x : BxD} (h : BxO base w x) (hq : w.heap.size ≤ q) : BxNe q x :=
 ⟨fun b e => (by have := h.t.lt b e; omega), fun b e => (by have := h.n.lt b e; omega), fun b e => (by have := h.g.lt b e; omega), fun b e => (by have := h.i.lt b e; omega), fun b e => (by have := h.s.lt b e; omega), fun j hj b e => (by have := (h.l j hj).lt b e; omega)⟩
theorem BxO.gate {base : Nat} {w : World} {x : BxD} (h : BxO base w x) {g k : Nat} (hat : x.aG = some ⟨g, 0, none⟩) (hk : k < x.ga.length) (b : Bool) : BxO base (w.setCell ⟨g, k, none⟩ (.bool b)) { x with ga := x.ga.set k b } := by
 have hg : FOwn boEnc 1 4 base (w.setCell ⟨g, k, none⟩ (.bool b)) (.slice x.aG (x.ga.set k b).length x.cG) (x.ga.set k b) := by
  have h1 := h.g;rw [hat] at h1 ⊢;have := h1.set boEnc_len (by omega) hk b;rw [Nat.mul_one] at this;rw [List.length_set];exact this
 have hb : ∀ q, q ≠ g → (w.setCell ⟨g, k, none⟩ (.bool b)).heap[q]? = w.heap[q]? := fun q hq => Below.heap_setCell _ _ _ _ hq
 have ne : ∀ {X : Type} {e : X → List Value} {n : Nat} {T : TypeId} {b1 : Nat} {v : Value} {L : List X}, FOwn e n T b1 w v L → T ≠ 4 → ∀ q, v.ownBlock = some q → q ≠ g := fun hr hT q e e2 => (hr.apart h.g hT e) (by rw [hat, e2]; rfl)
 exact ⟨h.t.keep (fun q e => hb q (ne h.t (by decide) q e)), fun i hi => (h.l i hi).keep (fun q e => hb q (ne (h.l i hi) (by decide) q e)), h.n.keep (fun q e => hb q (ne h.n (by decide) q e)), hg, h.i.keep (fun q e => hb q (ne h.i (by decide) q e)), h.s.keep (fun q e => hb q (ne h.s (by decide) q e)), h.ap⟩
theorem BxO.said {base : Nat} {w w' : World} {x : BxD} (h : BxO base w x) (N : List Ou) (a : Option Addr) (c : Nat) (hN : FOwn ouEnc 8 114 base w' (.slice a N.length c) N) (k : ∀ g, g < w.heap.size → (Value.slice x.aS x.sd.length x.cS).ownBlock ≠ some g → w'.heap[g]? = w.heap[g]?) : BxO base w' { x with sd := N, aS := a, cS := c } :=
 ⟨h.t.keep (fun g e => k g (h.t.lt g e).2 (fun e2 => h.s.apart h.t (by decide) e2 e)), fun j hj => (h.l j hj).keep (fun g e => k g ((h.l j hj).lt g e).2 (fun e2 => h.s.apart (h.l j hj) (by decide) e2 e)), h.n.keep (fun g e => k g (h.n.lt g e).2 (fun e2 => h.s.apart h.n (by decide) e2 e)), h.g.keep (fun g e => k g (h.g.lt g e).2 (fun e2 => h.s.apart h.g (by decide) e2 e)), h.i.keep (fun g e => k g (h.i.lt g e).2 (fun e2 => h.s.apart h.i (by decide) e2 e)), hN, h.ap⟩
theorem OuAtO.keepA {w w' : World} {q o : Nat} {x : Ou} (h : OuAtO w q o x) (k : w'.heap[q]? = w.heap[q]?) : OuAtO w' q o x :=
 ⟨(World.cell?_of_block (a := ⟨q, o, none⟩) k).trans h.c0, (World.cell?_of_block (a := ⟨q, o + 1, none⟩) k).trans h.c1, (World.cell?_of_block (a := ⟨q, o + 2, none⟩) k).trans h.c2, (World.cell?_of_block (a := ⟨q, o + 3, none⟩) k).trans h.c3, (World.cell?_of_block (a := ⟨q, o + 4, none⟩) k).trans h.c4, (World.cell?_of_block (a := ⟨q, o + 5, none⟩) k).trans h.c5, (World.cell?_of_block (a := ⟨q, o + 6, none⟩) k).trans h.c6, (World.cell?_of_block (a := ⟨q, o + 7, none⟩) k).trans h.c7⟩
theorem OuAtO.belowA {w w' : World} {q o n : Nat} {x : Ou} (h : OuAtO w q o x) (k : Below n w w') (hq : q < n) : OuAtO w' q o x := h.keepA (k.block q hq)
def accK (b : Bx) (M : List Ou) : Bx := ⟨b.id, b.po, b.rg, b.two, b.net, M.foldl gateX b.ga, b.ln, b.sd ++ M⟩
theorem accK_nil (b : Bx) : accK b [] = b := by unfold accK; simp
theorem accK_len (b : Bx) (M : List Ou) : (accK b M).ga.length = b.ga.length := gateX_len M b.ga
theorem accK_snoc (b : Bx) (M : List Ou) (h : Ou) : accK b (M ++ [h]) = ⟨(accK b M).id, (accK b M).po, (accK b M).rg, (accK b M).two, (accK b M).net, gateX (accK b M).ga h, (accK b M).ln, (accK b M).sd ++ [h]⟩ := by
 unfold accK;simp
theorem take_snoc {L : List Ou} {k : Nat} (h : k < L.length) : L.take (k + 1) = L.take k ++ [L.getD k Ou.nil] := by
 rw [List.take_add_one];simp [List.getD, h]
theorem accX_yes {b : Bx} {s : Int} {L : List Ou} (h : mindsX b s = true) : accX b s L = ⟨b.id, b.po, b.rg, b.two, b.net, L.foldl gateX b.ga, b.ln, lastS (b.sd ++ L)⟩ := by unfold accX; rw [if_pos h]
theorem lastS_all {M : List Ou} (h : M.length ≤ 40) : lastS M = M := by unfold lastS; rw [show M.length - 40 = 0 by omega]; rfl
theorem FView.dropO {w : World} {b : Nat} {L : List Ou} (h : FView ouEnc w (some ⟨b, 0, none⟩) L) {k : Nat} (hk : k ≤ L.length) : FView ouEnc w (some ⟨b, k * 8, none⟩) (L.drop k) := by
 intro hp;rw [List.length_drop] at hp;obtain ⟨b2, off, e, hc⟩ := h (by omega);cases e
 refine ⟨b, k * 8, rfl, fun j v hv => ?_⟩;have e : (fcells ouEnc L)[k * 8 + j]? = some v := by
  have hL : fcells ouEnc L = fcells ouEnc (L.take k) ++ fcells ouEnc (L.drop k) := by
   rw [← fcells_app, List.take_append_drop]
  have hl : (fcells ouEnc (L.take k)).length = k * 8 := by rw [fcells_len ouEnc_len, List.length_take, Nat.min_eq_left hk]
  rw [hL, List.getElem?_append_right (by omega), hl, show k * 8 + j - k * 8 = j by omega];exact hv
 have := hc (k * 8 + j) v e;simpa using this
end Go.Proofs.YtnpiljegdiconaaGreat
namespace Go.Proofs.YtnpiljegdiconaaGreat
open Go.ChangeShapes Go.WideShapes Go.ChangeAt Go.RowKit
open Go.ChangeMaps (open_string shut_string)
set_option linter.unusedVariables false
set_option maxRecDepth 100000
end Go.Proofs.YtnpiljegdiconaaGreat
namespace Go.Proofs.YtnpiljegdiconaaGreat
open Go.ChangeShapes Go.WideShapes Go.ChangeAt Go.RowKit
open Go.ChangeMaps (open_string shut_string)
set_option linter.unusedVariables false
set_option maxRecDepth 100000
structure BxN (lo mid hi : Nat) (w : World) (x : BxD) : Prop where
 t : MOwn lo mid w (.slice x.aT x.two.length x.cT) x.two
 n : FOwn wiEnc 12 112 mid w (.slice x.aN x.net.length x.cN) x.net
 g : FOwn boEnc 1 4 mid w (.slice x.aG x.ga.length x.cG) x.ga
 i : FOwn ikEnc 8 105 mid w (.slice x.aL x.ln.length x.cL) x.ln
 s : FOwn ouEnc 8 114 mid w (.slice x.aS x.sd.length x.cS) x.sd
 nh : ∀ b, (Value.slice x.aN x.net.length x.cN).ownBlock = some b → b < hi
 gh : ∀ b, (Value.slice x.aG x.ga.length x.cG).ownBlock = some b → b < hi
 ih : ∀ b, (Value.slice x.aL x.ln.length x.cL).ownBlock = some b → b < hi
 sh : ∀ b, (Value.slice x.aS x.sd.length x.cS).ownBlock = some b → b < hi
 lm : lo ≤ mid
 mh : mid ≤ hi
theorem BxN.m {lo mid hi : Nat} {w : World} {x : BxD} (h : BxN lo mid hi w x) : BxM lo hi w x :=
 ⟨h.t.wide (Nat.le_refl _) h.mh, h.n.base h.lm, h.g.base h.lm, h.i.base h.lm, h.s.base h.lm, h.nh, h.gh, h.ih, h.sh, fun j hj b e e2 => by
  have h1 := h.t.nhi j hj b e
  have h2 := (h.i.lt b e2).1
  omega⟩
def twoD : List MiD := [⟨⟨true, 1, 1, [], 0, 0, 0⟩, none, 0⟩, ⟨⟨true, 2, 0, [], 0, 0, 0⟩, none, 0⟩]
theorem FOwn.nilM {X : Type} {enc : X → List Value} {n : Nat} {T : TypeId} {base : Nat} {w : World} : FOwn enc n T base w (.slice none 0 0) ([] : List X) := ⟨by simp [fcells], .inl ⟨rfl, rfl⟩⟩
theorem twoOwn (w : World) : MOwn w.heap.size (w.heap.size + 1) (w.alloc (Obj.cells #[.bool true, .int .i64 1, .int .i64 1, .slice none 0 0, .int .i64 0, .int .i64 0, .int .i64 0, .bool true, .int .i64 2, .int .i64 0, .slice none 0 0, .int .i64 0, .int .i64 0, .int .i64 0] 28)) (.slice (some ⟨w.heap.size, 0, none⟩) 2 2) twoD := by
 have hn : ∀ i, i < twoD.length → (twoD.getD i MiD.nil).v = .slice none 0 0 ∧ (twoD.getD i MiD.nil).m.lg = [] := fun i hi => by
  match i, hi with
  | 0, _ => exact ⟨rfl, rfl⟩
  | 1, _ => exact ⟨rfl, rfl⟩
 have hb : ∀ i, i < twoD.length → ∀ g, (twoD.getD i MiD.nil).v.ownBlock ≠ some g := fun i hi g e => by
  rw [(hn i hi).1] at e;cases e
 refine ⟨⟨rfl, .inr ⟨w.heap.size, 2, #[.bool true, .int .i64 1, .int .i64 1, .slice none 0 0, .int .i64 0, .int .i64 0, .int .i64 0, .bool true, .int .i64 2, .int .i64 0, .slice none 0 0, .int .i64 0, .int .i64 0, .int .i64 0], rfl, Nat.le_refl _, heap_newF w _, Nat.le_refl _, by unfold maxLen; omega, rfl, rfl⟩⟩, fun i hi => ?_, fun g e => ?_, fun i hi g e => absurd e (hb i hi g), fun i hi g h _ e => absurd e (hb i hi h), fun i j _ hj g h _ e => absurd e (hb j hj h)⟩
 ·
  rw [(hn i hi).1, (hn i hi).2];exact FOwn.nilM
 obtain rfl : w.heap.size = g := by simpa [Value.ownBlock] using e
 omega
theorem newL_le (id po : Int) : (newL id po).length ≤ 4 := by
 unfold newL;split
 ·
  next h =>
  unfold nOk at h;simp at h ⊢
  omega
 simp
theorem newBx_okB (id po : Int) : bxOk (newBx id po) = nOk id po := by
 cases h : nOk id po
 ·
  unfold bxOk newBx;simp [h]
 exact newBx_ok h
def newX (id po : Int) : Bx := if nOk id po then newBx id po else BxD.zero.p
theorem newX_p (id po : Int) (q : Nat) (a : Option Addr) (c : Nat) : BxD.p ⟨id, po, ⟨1, 0, 0⟩, twoD, some ⟨q, 0, none⟩, 2, [], none, 0, gatesR (newL id po), a, c, [], none, 0, [], none, 0⟩ = newBx id po := rfl
theorem newX_sm (id po : Int) (q : Nat) (a : Option Addr) (c : Nat) : BxSm ⟨id, po, ⟨1, 0, 0⟩, twoD, some ⟨q, 0, none⟩, 2, [], none, 0, gatesR (newL id po), a, c, [], none, 0, [], none, 0⟩ := by
 have h := newL_le id po;have hg : (gatesR (newL id po)).length ≤ 4 := by rw [gatesR_len]; exact h
 refine ⟨?_, ?_, Nat.zero_le _, ?_, Nat.zero_le _, Nat.zero_le _⟩
 ·
  show (2 : Nat) ≤ _; omega
 ·
  show (0 : Nat) ≤ _; omega
 show (gatesR (newL id po)).length ≤ _; omega
theorem zero_sm : BxSm BxD.zero := ⟨Nat.zero_le _, Nat.zero_le _, Nat.zero_le _, Nat.zero_le _, Nat.zero_le _, Nat.zero_le _⟩
theorem zeroN {lo hi : Nat} {w : World} (h : lo ≤ hi) : BxN lo lo hi w BxD.zero := by
 refine ⟨⟨FOwn.nilM, fun i hi => absurd hi (Nat.not_lt_zero _), fun g e => (by cases e), fun i hi => absurd hi (Nat.not_lt_zero _), fun i hi => absurd hi (Nat.not_lt_zero _), fun i j _ hj => absurd hj (Nat.not_lt_zero _)⟩, FOwn.nilM, FOwn.nilM, FOwn.nilM, FOwn.nilM, fun b e => (by cases e), fun b e => (by cases e), fun b e => (by cases e), fun b e => (by cases e), Nat.le_refl _, h⟩
end Go.Proofs.YtnpiljegdiconaaGreat
