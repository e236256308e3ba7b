import Derived.Test.YtjmnaeeknomiaaaGreatRM19
import Derived.Test.YtjmnaeeknomiaaaGreatRM15
namespace Go.Proofs.YtjmnaeeknomiaaaGreat
open Go.ChangeShapes Go.WideShapes Go.ChangeAt Go.RowKit
open Go.ChangeMaps (open_string shut_string)
set_option linter.unusedVariables false
set_option maxRecDepth 100000
set_option maxHeartbeats 32000000
set_option linter.unusedSimpArgs false
open Go.Proofs.Tryz
attribute [local go_sem] ji ja
theorem Av.box {w : World} {q : Nat} (h : Av w q) : AN w q AG.zero := by
 unfold Av at h;refine ⟨⟨?_, ?_, ?_, ?_, ?_, ?_, ?_, ?_, ?_, ?_⟩, fun i => ?_⟩;all_goals simp [World.cell?, World.frozen?, h, AG.zero, go_sem]
theorem Am (w : World) (q k : Nat) (x : AG) (h : k ≠ q) : (((((((((((w.setCell (ja q 0) (ji x.id)).setCell (ja q 1) (ji x.po)).setCell (ja q 2) (ji x.rg.ep)).setCell (ja q 3) (ji x.rg.ow)).setCell (ja q 4) (ji x.rg.pa)).setCell (ja q 5) (.slice x.aT x.two.length x.cT)).setCell (ja q 6) (.slice x.aN x.net.length x.cN)).setCell (ja q 7) (.slice x.aG x.ga.length x.cG)).setCell (ja q 8) (.slice x.aL x.ln.length x.cL)).setCell (ja q 9) (.slice x.aS x.sd.length x.cS))).heap[k]? = w.heap[k]? := by
 rw [AF h, AF h, AF h, AF h, AF h, AF h, AF h, AF h, AF h, AF h]
theorem Bm {a w : World} {q n : Nat} (x : AG) (h : Below n a w) (hq : n ≤ q) : Below n a ((((((((((w.setCell (ja q 0) (ji x.id)).setCell (ja q 1) (ji x.po)).setCell (ja q 2) (ji x.rg.ep)).setCell (ja q 3) (ji x.rg.ow)).setCell (ja q 4) (ji x.rg.pa)).setCell (ja q 5) (.slice x.aT x.two.length x.cT)).setCell (ja q 6) (.slice x.aN x.net.length x.cN)).setCell (ja q 7) (.slice x.aG x.ga.length x.cG)).setCell (ja q 8) (.slice x.aL x.ln.length x.cL)).setCell (ja q 9) (.slice x.aS x.sd.length x.cS)) := ((((((((((h.setCell (p := (ja q 0)) hq _).setCell (p := (ja q 1)) hq _).setCell (p := (ja q 2)) hq _).setCell (p := (ja q 3)) hq _).setCell (p := (ja q 4)) hq _).setCell (p := (ja q 5)) hq _).setCell (p := (ja q 6)) hq _).setCell (p := (ja q 7)) hq _).setCell (p := (ja q 8)) hq _).setCell (p := (ja q 9)) hq _)
theorem AH.oneD (w : World) (t : TypeId) (x : AD) : AH BC (w.alloc (Obj.cells #[.bool x.m.up, ji x.m.li, ji x.m.ep, .slice x.ad x.m.lg.length x.cap, ji x.m.sd, ji x.m.ac, ji x.m.al] t)) (some (ja w.heap.size 0)) [x] := by
 intro _;refine ⟨w.heap.size, 0, rfl, fun j v hv => ?_⟩;simp only [Aa, BC, List.append_nil] at hv;have hj : j < 7 := (List.getElem?_eq_some_iff.1 hv).1;rcases (by omega : j = 0 ∨ j = 1 ∨ j = 2 ∨ j = 3 ∨ j = 4 ∨ j = 5 ∨ j = 6) with rfl | rfl | rfl | rfl | rfl | rfl | rfl <;> (cases hv; simp [go_sem])
theorem HY : (prog.info? 52).map (fun i => (i.zero, i.size, i.bytes)) = some (some (.agg #[.bool false, ji 0, ji 0, .slice none 0 0, ji 0, ji 0, ji 0]), 7, 72) := by kernel_rfl
structure AK (base : Nat) (w : World) (x : AG) : Prop where
 t : AB BC 7 52 base w (.slice x.aT x.two.length x.cT) x.two
 l : ∀ i, i < x.two.length → AB AO 8 64 base w (.slice (x.two.getD i AD.nil).ad (x.two.getD i AD.nil).m.lg.length (x.two.getD i AD.nil).cap) (x.two.getD i AD.nil).m.lg
 n : AB At 12 75 base w (.slice x.aN x.net.length x.cN) x.net
 g : AB Az 1 4 base w (.slice x.aG x.ga.length x.cG) x.ga
 i : AB AO 8 64 base w (.slice x.aL x.ln.length x.cL) x.ln
 s : AB Ag 8 77 base w (.slice x.aS x.sd.length x.cS) x.sd
 ap : ∀ j, j < x.two.length → ∀ g, (Value.slice (x.two.getD j AD.nil).ad (x.two.getD j AD.nil).m.lg.length (x.two.getD j AD.nil).cap).ownBlock = some g → (Value.slice x.aL x.ln.length x.cL).ownBlock ≠ some g
theorem AK.later {base : Nat} {w w' : World} {x : AG} (h : AK base w x) (k : Bw w w') : AK base w' x :=
 ⟨h.t.later k, fun i hi => (h.l i hi).later k, h.n.later k, h.g.later k, h.i.later k, h.s.later k, h.ap⟩
theorem AK.base {b1 b2 : Nat} {w : World} {x : AG} (h : AK b1 w x) (hb : b2 ≤ b1) : AK b2 w x :=
 ⟨h.t.base hb, fun i hi => (h.l i hi).base hb, h.n.base hb, h.g.base hb, h.i.base hb, h.s.base hb, h.ap⟩
theorem AK.keep {base : Nat} {w w' : World} {x : AG} (h : AK base w x) (k : ∀ g, base ≤ g → g < w.heap.size → w'.heap[g]? = w.heap[g]?) : AK base w' x :=
 ⟨h.t.keep (fun g e => k g (h.t.lt g e).1 (h.t.lt g e).2), fun i hi => (h.l i hi).keep (fun g e => k g ((h.l i hi).lt g e).1 ((h.l i hi).lt g e).2), h.n.keep (fun g e => k g (h.n.lt g e).1 (h.n.lt g e).2), h.g.keep (fun g e => k g (h.g.lt g e).1 (h.g.lt g e).2), h.i.keep (fun g e => k g (h.i.lt g e).1 (h.i.lt g e).2), h.s.keep (fun g e => k g (h.s.lt g e).1 (h.s.lt g e).2), h.ap⟩
theorem AK.view {base : Nat} {w : World} {x : AG} (h : AK base w x) (bt : x.two.length ≤ 1048576) (bl : ∀ i, i < x.two.length → (x.two.getD i AD.nil).m.lg.length ≤ 1048576) (bn : x.net.length ≤ 1048576) (bg : x.ga.length ≤ 1048576) (bi : x.ln.length ≤ 1048576) (bs : x.sd.length ≤ 1048576) : BT w x :=
 ⟨h.t.view.2, fun i hi => (h.l i hi).view.2, h.n.view.2, h.g.view.2, h.i.view.2, h.s.view.2, bt, bl, bn, bg, bi, bs, h.t.capM⟩
theorem Ap {w : World} {q : Nat} (h : AN w q AG.zero) : w.cell? (ja q 0) = some (ji 0) ∧ w.cell? (ja q 1) = some (ji 0) ∧ w.cell? (ja q 2) = some (ji 0) ∧ w.cell? (ja q 3) = some (ji 0) ∧ w.cell? (ja q 4) = some (ji 0) ∧ w.cell? (ja q 5) = some (.slice none 0 0) ∧ w.cell? (ja q 6) = some (.slice none 0 0) ∧ w.cell? (ja q 7) = some (.slice none 0 0) ∧ w.cell? (ja q 8) = some (.slice none 0 0) ∧ w.cell? (ja q 9) = some (.slice none 0 0) ∧ w.frozen? (ja q 0) = false ∧ w.frozen? (ja q 1) = false ∧ w.frozen? (ja q 2) = false ∧ w.frozen? (ja q 3) = false ∧ w.frozen? (ja q 4) = false ∧ w.frozen? (ja q 5) = false ∧ w.frozen? (ja q 6) = false ∧ w.frozen? (ja q 7) = false ∧ w.frozen? (ja q 8) = false ∧ w.frozen? (ja q 9) = false := by
 obtain ⟨⟨r0, r1, r2, r3, r4, r5, r6, r7, r8, r9⟩, rf⟩ := h;exact ⟨r0, r1, r2, r3, r4, r5, r6, r7, r8, r9, rf 0, rf 1, rf 2, rf 3, rf 4, rf 5, rf 6, rf 7, rf 8, rf 9⟩
end Go.Proofs.YtjmnaeeknomiaaaGreat
