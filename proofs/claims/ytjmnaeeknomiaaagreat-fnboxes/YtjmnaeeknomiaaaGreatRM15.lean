import Derived.Test.YtjmnaeeknomiaaaGreatRM10
namespace Go.Proofs.YtjmnaeeknomiaaaGreat
open Go.ChangeShapes Go.WideShapes Go.ChangeAt Go.RowKit
open Go.ChangeMaps (open_string shut_string)
set_option linter.unusedVariables false
set_option maxRecDepth 100000
set_option maxHeartbeats 32000000
set_option linter.unusedSimpArgs false
open Go.Proofs.Tryz
theorem AB.capM {X : Type} {enc : X → List Value} {n : Nat} {T : TypeId} {base : Nat} {w : World} {ad : Option Addr} {cap : Nat} {L : List X} (h : AB enc n T base w (.slice ad L.length cap) L) : L.length ≤ cap := by
 rcases h.2 with ⟨e, h0⟩ | ⟨g, c, cur, e, _, _, hc, _⟩
 ·
  omega
 simp only [Value.slice.injEq] at e;omega
def AD.v (d : AD) : Value := .slice d.ad d.m.lg.length d.cap
structure MV (w : World) (ad : Option Addr) (Bs : List AD) : Prop where
 row : AH BC w ad Bs
 nest : ∀ i, i < Bs.length → AH AO w (Bs.getD i AD.nil).ad (Bs.getD i AD.nil).m.lg
 nil0 : ∀ i, i < Bs.length → (Bs.getD i AD.nil).ad = none → (Bs.getD i AD.nil).cap = 0
theorem MV.below {w w' : World} {ad : Option Addr} {Bs : List AD} {B : Nat} (h : MV w ad Bs) (k : Below B w w') (hB : w.heap.size ≤ B) : MV w' ad Bs :=
 ⟨h.row.below k (fun a e p => Nat.lt_of_lt_of_le (h.row.lt Ai (by omega) a e p) hB), fun i hi => (h.nest i hi).below k (fun a e p => Nat.lt_of_lt_of_le ((h.nest i hi).lt AT (by omega) a e p) hB), h.nil0⟩
structure CC (lo hi : Nat) (w : World) (v : Value) (Bs : List AD) : Prop where
 row : AB BC 7 52 lo w v Bs
 nest : ∀ i, i < Bs.length → AB AO 8 64 lo w (Bs.getD i AD.nil).v (Bs.getD i AD.nil).m.lg
 rhi : ∀ g, v.ownBlock = some g → g < hi
 nhi : ∀ i, i < Bs.length → ∀ g, (Bs.getD i AD.nil).v.ownBlock = some g → g < hi
 apart : ∀ i, i < Bs.length → ∀ g h, v.ownBlock = some g → (Bs.getD i AD.nil).v.ownBlock = some h → g ≠ h
 aparts : ∀ i j, i < j → j < Bs.length → ∀ g h, (Bs.getD i AD.nil).v.ownBlock = some g → (Bs.getD j AD.nil).v.ownBlock = some h → g ≠ h
theorem EH {X : Type} {enc : X → List Value} {n : Nat} {T : TypeId} {base : Nat} {w : World} {len cap : Nat} {L : List X} (h : AB enc n T base w (.slice none len cap) L) : cap = 0 := by
 rcases h.2 with ⟨q, _⟩ | ⟨g, c, cur, q, _⟩
 ·
  simp only [Value.slice.injEq] at q;exact q.2.2
 simp at q
theorem CC.view {lo hi : Nat} {w : World} {ad : Option Addr} {len cap : Nat} {Bs : List AD} (h : CC lo hi w (.slice ad len cap) Bs) : len = Bs.length ∧ MV w ad Bs := by
 refine ⟨h.row.view.1, h.row.view.2, fun i hi => (h.nest i hi).view.2, fun i hi e => ?_⟩;have := h.nest i hi;unfold AD.v at this;rw [e] at this;exact EH this
theorem CC.wide {lo hi lo' hi' : Nat} {w : World} {v : Value} {Bs : List AD} (h : CC lo hi w v Bs) (h1 : lo' ≤ lo) (h2 : hi ≤ hi') : CC lo' hi' w v Bs :=
 ⟨h.row.base h1, fun i hi => (h.nest i hi).base h1, fun g e => Nat.lt_of_lt_of_le (h.rhi g e) h2, fun i hi g e => Nat.lt_of_lt_of_le (h.nhi i hi g e) h2, h.apart, h.aparts⟩
attribute [local go_sem] ji ja bc
structure AN (w : World) (q : Nat) (x : AG) : Prop where
 at_ : AS w q x
 fr : ∀ i, w.frozen? (ja q i) = false
theorem AN.keep {w w' : World} {q : Nat} {x : AG} (h : AN w q x) (k : w'.heap[q]? = w.heap[q]?) : AN w' q x :=
 ⟨h.at_.keep k, fun i => (World.frozen?_of_block (a := (ja q i)) k).trans (h.fr i)⟩
theorem AN.below {w w' : World} {q n : Nat} {x : AG} (h : AN w q x) (k : Below n w w') (hq : q < n) : AN w' q x := h.keep (k.block q hq)
theorem AN.lt {w : World} {q : Nat} {x : AG} (h : AN w q x) : q < w.heap.size := h.at_.lt
def AG.zero : AG := ⟨0, 0, ⟨0, 0, 0⟩, [], none, 0, [], none, 0, [], none, 0, [], none, 0, [], none, 0⟩
theorem AP {w : World} {q i j : Nat} {u v : Value} (h : w.cell? (ja q j) = some u) (hij : i ≠ j := by decide) : (w.setCell (ja q i) v).cell? (ja q j) = some u := (AA hij).trans h
theorem Dx {w : World} {q i : Nat} {u v : Value} (h : w.cell? (ja q i) = some u) : (w.setCell (ja q i) v).cell? (ja q i) = some v := Aj h
theorem AN.put {w : World} {q : Nat} {x0 : AG} (h : AN w q x0) (x : AG) : AN ((((((((((w.setCell (ja q 0) (ji x.id)).setCell (ja q 1) (ji x.po)).setCell (ja q 2) (ji x.rg.ep)).setCell (ja q 3) (ji x.rg.ow)).setCell (ja q 4) (ji x.rg.pa)).setCell (ja q 5) (.slice x.aT x.two.length x.cT)).setCell (ja q 6) (.slice x.aN x.net.length x.cN)).setCell (ja q 7) (.slice x.aG x.ga.length x.cG)).setCell (ja q 8) (.slice x.aL x.ln.length x.cL)).setCell (ja q 9) (.slice x.aS x.sd.length x.cS)) q x := by
 obtain ⟨⟨h0, h1, h2, h3, h4, h5, h6, h7, h8, h9⟩, hf⟩ := h;exact ⟨⟨AP (AP (AP (AP (AP (AP (AP (AP (AP (Dx (h0)))))))))), AP (AP (AP (AP (AP (AP (AP (AP (Dx (AP (h1)))))))))), AP (AP (AP (AP (AP (AP (AP (Dx (AP (AP (h2)))))))))), AP (AP (AP (AP (AP (AP (Dx (AP (AP (AP (h3)))))))))), AP (AP (AP (AP (AP (Dx (AP (AP (AP (AP (h4)))))))))), AP (AP (AP (AP (Dx (AP (AP (AP (AP (AP (h5)))))))))), AP (AP (AP (Dx (AP (AP (AP (AP (AP (AP (h6)))))))))), AP (AP (Dx (AP (AP (AP (AP (AP (AP (AP (h7)))))))))), AP (Dx (AP (AP (AP (AP (AP (AP (AP (AP (h8)))))))))), Dx (AP (AP (AP (AP (AP (AP (AP (AP (AP (h9))))))))))⟩, fun i => by simp only [World.frozen?_setCell]; exact hf i⟩
abbrev BO (w : World) (q : Nat) (x : AG) : World := ((((((((((w.setCell (ja q 0) (ji x.id)).setCell (ja q 1) (ji x.po)).setCell (ja q 2) (ji x.rg.ep)).setCell (ja q 3) (ji x.rg.ow)).setCell (ja q 4) (ji x.rg.pa)).setCell (ja q 5) (.slice x.aT x.two.length x.cT)).setCell (ja q 6) (.slice x.aN x.net.length x.cN)).setCell (ja q 7) (.slice x.aG x.ga.length x.cG)).setCell (ja q 8) (.slice x.aL x.ln.length x.cL)).setCell (ja q 9) (.slice x.aS x.sd.length x.cS))
abbrev AJ (x : AG) : Value := .agg (bc x)
end Go.Proofs.YtjmnaeeknomiaaaGreat
