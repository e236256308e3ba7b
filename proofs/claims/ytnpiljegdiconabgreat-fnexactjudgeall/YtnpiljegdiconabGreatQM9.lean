import Derived.Test.YtnpiljegdiconabGreatQM16
namespace Go.Proofs.YtnpiljegdiconabGreat
open Go.ChangeShapes Go.WideShapes Go.ChangeAt Go.RowKit
open Go.ChangeMaps (open_string shut_string)
set_option linter.unusedVariables false
set_option maxRecDepth 100000
theorem FOwn.capM {X : Type} {enc : X → List Value} {n : Nat} {T : TypeId} {base : Nat} {w : World} {ad : Option Addr} {cap : Nat} {L : List X} (h : FOwn enc n T base w (.slice ad L.length cap) L) : L.length ≤ cap := by
 rcases h.2 with ⟨e, h0⟩ | ⟨g, c, cur, e, _, _, hc, _⟩
 ·
  omega
 ·
  simp only [Value.slice.injEq] at e
  omega
def MiD.v (d : MiD) : Value := .slice d.ad d.m.lg.length d.cap
theorem md_get (D : List MiD) (i : Nat) : (D.map MiD.m).getD i Mi.nil = (D.getD i MiD.nil).m := by
 simp only [List.getD, List.getElem?_map]
 cases D[i]? <;> rfl
theorem mdPut (w : World) (g o : Nat) (x : MiD) : putAll w g o (mdEnc x) = (((((((w.setCell ⟨g, o, none⟩ (.bool x.m.up)).setCell ⟨g, o + 1, none⟩ (.int .i64 x.m.li)).setCell ⟨g, o + 2, none⟩ (.int .i64 x.m.ep)).setCell ⟨g, o + 3, none⟩ (.slice x.ad x.m.lg.length x.cap)).setCell ⟨g, o + 4, none⟩ (.int .i64 x.m.sd)).setCell ⟨g, o + 5, none⟩ (.int .i64 x.m.ac)).setCell ⟨g, o + 6, none⟩ (.int .i64 x.m.al)) := rfl
structure MV (w : World) (ad : Option Addr) (Bs : List MiD) : Prop where
 row : FView mdEnc w ad Bs
 nest : ∀ i, i < Bs.length → FView ikEnc w (Bs.getD i MiD.nil).ad (Bs.getD i MiD.nil).m.lg
 nil0 : ∀ i, i < Bs.length → (Bs.getD i MiD.nil).ad = none → (Bs.getD i MiD.nil).cap = 0
theorem MV.nil {w : World} {ad : Option Addr} : MV w ad [] := ⟨FView.nil, fun i h => absurd h (by simp), fun i h => absurd h (by simp)⟩
theorem MV.below {w w' : World} {ad : Option Addr} {Bs : List MiD} {B : Nat} (h : MV w ad Bs) (k : Below B w w') (hB : w.heap.size ≤ B) : MV w' ad Bs :=
 ⟨h.row.below k (fun a e p => Nat.lt_of_lt_of_le (h.row.lt mdEnc_len (by omega) a e p) hB), fun i hi => (h.nest i hi).below k (fun a e p => Nat.lt_of_lt_of_le ((h.nest i hi).lt ikEnc_len (by omega) a e p) hB), h.nil0⟩
theorem MV.at_ {w : World} {b off : Nat} {Bs : List MiD} (h : MV w (some ⟨b, off, none⟩) Bs) {i : Nat} (hi : i < Bs.length) : MdAtO w b (off + i * 7) (Bs.getD i MiD.nil) := mdAtO_of (h.row.at_ mdEnc_len MiD.nil hi)
theorem MV.ad_ {w : World} {ad : Option Addr} {Bs : List MiD} (h : MV w ad Bs) (hp : 0 < Bs.length) : ∃ b off, ad = some ⟨b, off, none⟩ := by
 obtain ⟨b, off, e, _⟩ := h.row hp
 exact ⟨b, off, e⟩
structure MOwn (lo hi : Nat) (w : World) (v : Value) (Bs : List MiD) : Prop where
 row : FOwn mdEnc 7 49 lo w v Bs
 nest : ∀ i, i < Bs.length → FOwn ikEnc 8 80 lo w (Bs.getD i MiD.nil).v (Bs.getD i MiD.nil).m.lg
 rhi : ∀ g, v.ownBlock = some g → g < hi
 nhi : ∀ i, i < Bs.length → ∀ g, (Bs.getD i MiD.nil).v.ownBlock = some g → g < hi
 apart : ∀ i, i < Bs.length → ∀ g h, v.ownBlock = some g → (Bs.getD i MiD.nil).v.ownBlock = some h → g ≠ h
 aparts : ∀ i j, i < j → j < Bs.length → ∀ g h, (Bs.getD i MiD.nil).v.ownBlock = some g → (Bs.getD j MiD.nil).v.ownBlock = some h → g ≠ h
theorem own_noneM {X : Type} {enc : X → List Value} {n : Nat} {T : TypeId} {base : Nat} {w : World} {len cap : Nat} {L : List X} (h : FOwn enc n T base w (.slice none len cap) L) : cap = 0 := by
 rcases h.2 with ⟨q, _⟩ | ⟨g, c, cur, q, _⟩
 ·
  simp only [Value.slice.injEq] at q
  exact q.2.2
 ·
  simp at q
theorem MOwn.view {lo hi : Nat} {w : World} {ad : Option Addr} {len cap : Nat} {Bs : List MiD} (h : MOwn lo hi w (.slice ad len cap) Bs) : len = Bs.length ∧ MV w ad Bs := by
 refine ⟨h.row.view.1, h.row.view.2, fun i hi => (h.nest i hi).view.2, fun i hi e => ?_⟩
 have := h.nest i hi
 unfold MiD.v at this
 rw [e] at this
 exact own_noneM this
theorem MOwn.keep {lo hi : Nat} {w w' : World} {v : Value} {Bs : List MiD} (h : MOwn lo hi w v Bs) (k : ∀ g, lo ≤ g → g < hi → w'.heap[g]? = w.heap[g]?) : MOwn lo hi w' v Bs :=
 ⟨h.row.keep (fun g e => k g (h.row.lt g e).1 (h.rhi g e)), fun i hi => (h.nest i hi).keep (fun g e => k g ((h.nest i hi).lt g e).1 (h.nhi i hi g e)), h.rhi, h.nhi, h.apart, h.aparts⟩
theorem MOwn.wide {lo hi lo' hi' : Nat} {w : World} {v : Value} {Bs : List MiD} (h : MOwn lo hi w v Bs) (h1 : lo' ≤ lo) (h2 : hi ≤ hi') : MOwn lo' hi' w v Bs :=
 ⟨h.row.base h1, fun i hi => (h.nest i hi).base h1, fun g e => Nat.lt_of_lt_of_le (h.rhi g e) h2, fun i hi g e => Nat.lt_of_lt_of_le (h.nhi i hi g e) h2, h.apart, h.aparts⟩
theorem MOwn.below {lo hi B : Nat} {w w' : World} {v : Value} {Bs : List MiD} (h : MOwn lo hi w v Bs) (k : Below B w w') (hB : hi ≤ B) : MOwn lo hi w' v Bs := h.keep fun g _ hg => k.block _ (by omega)
structure BxB (w : World) (q : Nat) (x : BxD) : Prop where
 at_ : BxAt w q x
 fr : ∀ i, w.frozen? ⟨q, i, none⟩ = false
theorem BxB.keep {w w' : World} {q : Nat} {x : BxD} (h : BxB w q x) (k : w'.heap[q]? = w.heap[q]?) : BxB w' q x :=
 ⟨h.at_.keep k, fun i => (World.frozen?_of_block (a := ⟨q, i, none⟩) k).trans (h.fr i)⟩
theorem BxB.below {w w' : World} {q n : Nat} {x : BxD} (h : BxB w q x) (k : Below n w w') (hq : q < n) : BxB w' q x := h.keep (k.block q hq)
theorem BxB.lt {w : World} {q : Nat} {x : BxD} (h : BxB w q x) : q < w.heap.size := h.at_.lt
def BxD.zero : BxD := ⟨0, 0, ⟨0, 0, 0⟩, [], none, 0, [], none, 0, [], none, 0, [], none, 0, [], none, 0⟩
theorem BxB.put {w : World} {q : Nat} {x0 : BxD} (h : BxB w q x0) (x : BxD) : BxB ((((((((((w.setCell ⟨q, 0, none⟩ (.int .i64 x.id)).setCell ⟨q, 1, none⟩ (.int .i64 x.po)).setCell ⟨q, 2, none⟩ (.int .i64 x.rg.ep)).setCell ⟨q, 3, none⟩ (.int .i64 x.rg.ow)).setCell ⟨q, 4, none⟩ (.int .i64 x.rg.pa)).setCell ⟨q, 5, none⟩ (.slice x.aT x.two.length x.cT)).setCell ⟨q, 6, none⟩ (.slice x.aN x.net.length x.cN)).setCell ⟨q, 7, none⟩ (.slice x.aG x.ga.length x.cG)).setCell ⟨q, 8, none⟩ (.slice x.aL x.ln.length x.cL)).setCell ⟨q, 9, none⟩ (.slice x.aS x.sd.length x.cS)) q x := by
 obtain ⟨⟨h0, h1, h2, h3, h4, h5, h6, h7, h8, h9⟩, hf⟩ := h
 have h0 : (w.setCell ⟨q, 0, none⟩ (.int .i64 x.id)).cell? ⟨q, 0, none⟩ = some (.int .i64 x.id) := pset_same h0
 have h1 : (w.setCell ⟨q, 0, none⟩ (.int .i64 x.id)).cell? ⟨q, 1, none⟩ = _ := (pset_else (by decide)).trans h1
 have h2 : (w.setCell ⟨q, 0, none⟩ (.int .i64 x.id)).cell? ⟨q, 2, none⟩ = _ := (pset_else (by decide)).trans h2
 have h3 : (w.setCell ⟨q, 0, none⟩ (.int .i64 x.id)).cell? ⟨q, 3, none⟩ = _ := (pset_else (by decide)).trans h3
 have h4 : (w.setCell ⟨q, 0, none⟩ (.int .i64 x.id)).cell? ⟨q, 4, none⟩ = _ := (pset_else (by decide)).trans h4
 have h5 : (w.setCell ⟨q, 0, none⟩ (.int .i64 x.id)).cell? ⟨q, 5, none⟩ = _ := (pset_else (by decide)).trans h5
 have h6 : (w.setCell ⟨q, 0, none⟩ (.int .i64 x.id)).cell? ⟨q, 6, none⟩ = _ := (pset_else (by decide)).trans h6
 have h7 : (w.setCell ⟨q, 0, none⟩ (.int .i64 x.id)).cell? ⟨q, 7, none⟩ = _ := (pset_else (by decide)).trans h7
 have h8 : (w.setCell ⟨q, 0, none⟩ (.int .i64 x.id)).cell? ⟨q, 8, none⟩ = _ := (pset_else (by decide)).trans h8
 have h9 : (w.setCell ⟨q, 0, none⟩ (.int .i64 x.id)).cell? ⟨q, 9, none⟩ = _ := (pset_else (by decide)).trans h9
 have h0 : ((w.setCell ⟨q, 0, none⟩ (.int .i64 x.id)).setCell ⟨q, 1, none⟩ (.int .i64 x.po)).cell? ⟨q, 0, none⟩ = _ := (pset_else (by decide)).trans h0
 have h1 : ((w.setCell ⟨q, 0, none⟩ (.int .i64 x.id)).setCell ⟨q, 1, none⟩ (.int .i64 x.po)).cell? ⟨q, 1, none⟩ = some (.int .i64 x.po) := pset_same h1
 have h2 : ((w.setCell ⟨q, 0, none⟩ (.int .i64 x.id)).setCell ⟨q, 1, none⟩ (.int .i64 x.po)).cell? ⟨q, 2, none⟩ = _ := (pset_else (by decide)).trans h2
 have h3 : ((w.setCell ⟨q, 0, none⟩ (.int .i64 x.id)).setCell ⟨q, 1, none⟩ (.int .i64 x.po)).cell? ⟨q, 3, none⟩ = _ := (pset_else (by decide)).trans h3
 have h4 : ((w.setCell ⟨q, 0, none⟩ (.int .i64 x.id)).setCell ⟨q, 1, none⟩ (.int .i64 x.po)).cell? ⟨q, 4, none⟩ = _ := (pset_else (by decide)).trans h4
 have h5 : ((w.setCell ⟨q, 0, none⟩ (.int .i64 x.id)).setCell ⟨q, 1, none⟩ (.int .i64 x.po)).cell? ⟨q, 5, none⟩ = _ := (pset_else (by decide)).trans h5
 have h6 : ((w.setCell ⟨q, 0, none⟩ (.int .i64 x.id)).setCell ⟨q, 1, none⟩ (.int .i64 x.po)).cell? ⟨q, 6, none⟩ = _ := (pset_else (by decide)).trans h6
 have h7 : ((w.setCell ⟨q, 0, none⟩ (.int .i64 x.id)).setCell ⟨q, 1, none⟩ (.int .i64 x.po)).cell? ⟨q, 7, none⟩ = _ := (pset_else (by decide)).trans h7
 have h8 : ((w.setCell ⟨q, 0, none⟩ (.int .i64 x.id)).setCell ⟨q, 1, none⟩ (.int .i64 x.po)).cell? ⟨q, 8, none⟩ = _ := (pset_else (by decide)).trans h8
 have h9 : ((w.setCell ⟨q, 0, none⟩ (.int .i64 x.id)).setCell ⟨q, 1, none⟩ (.int .i64 x.po)).cell? ⟨q, 9, none⟩ = _ := (pset_else (by decide)).trans h9
 have h0 : (((w.setCell ⟨q, 0, none⟩ (.int .i64 x.id)).setCell ⟨q, 1, none⟩ (.int .i64 x.po)).setCell ⟨q, 2, none⟩ (.int .i64 x.rg.ep)).cell? ⟨q, 0, none⟩ = _ := (pset_else (by decide)).trans h0
 have h1 : (((w.setCell ⟨q, 0, none⟩ (.int .i64 x.id)).setCell ⟨q, 1, none⟩ (.int .i64 x.po)).setCell ⟨q, 2, none⟩ (.int .i64 x.rg.ep)).cell? ⟨q, 1, none⟩ = _ := (pset_else (by decide)).trans h1
 have h2 : (((w.setCell ⟨q, 0, none⟩ (.int .i64 x.id)).setCell ⟨q, 1, none⟩ (.int .i64 x.po)).setCell ⟨q, 2, none⟩ (.int .i64 x.rg.ep)).cell? ⟨q, 2, none⟩ = some (.int .i64 x.rg.ep) := pset_same h2
 have h3 : (((w.setCell ⟨q, 0, none⟩ (.int .i64 x.id)).setCell ⟨q, 1, none⟩ (.int .i64 x.po)).setCell ⟨q, 2, none⟩ (.int .i64 x.rg.ep)).cell? ⟨q, 3, none⟩ = _ := (pset_else (by decide)).trans h3
 have h4 : (((w.setCell ⟨q, 0, none⟩ (.int .i64 x.id)).setCell ⟨q, 1, none⟩ (.int .i64 x.po)).setCell ⟨q, 2, none⟩ (.int .i64 x.rg.ep)).cell? ⟨q, 4, none⟩ = _ := (pset_else (by decide)).trans h4
 have h5 : (((w.setCell ⟨q, 0, none⟩ (.int .i64 x.id)).setCell ⟨q, 1, none⟩ (.int .i64 x.po)).setCell ⟨q, 2, none⟩ (.int .i64 x.rg.ep)).cell? ⟨q, 5, none⟩ = _ := (pset_else (by decide)).trans h5
 have h6 : (((w.setCell ⟨q, 0, none⟩ (.int .i64 x.id)).setCell ⟨q, 1, none⟩ (.int .i64 x.po)).setCell ⟨q, 2, none⟩ (.int .i64 x.rg.ep)).cell? ⟨q, 6, none⟩ = _ := (pset_else (by decide)).trans h6
 have h7 : (((w.setCell ⟨q, 0, none⟩ (.int .i64 x.id)).setCell ⟨q, 1, none⟩ (.int .i64 x.po)).setCell ⟨q, 2, none⟩ (.int .i64 x.rg.ep)).cell? ⟨q, 7, none⟩ = _ := (pset_else (by decide)).trans h7
 have h8 : (((w.setCell ⟨q, 0, none⟩ (.int .i64 x.id)).setCell ⟨q, 1, none⟩ (.int .i64 x.po)).setCell ⟨q, 2, none⟩ (.int .i64 x.rg.ep)).cell? ⟨q, 8, none⟩ = _ := (pset_else (by decide)).trans h8
 have h9 : (((w.setCell ⟨q, 0, none⟩ (.int .i64 x.id)).setCell ⟨q, 1, none⟩ (.int .i64 x.po)).setCell ⟨q, 2, none⟩ (.int .i64 x.rg.ep)).cell? ⟨q, 9, none⟩ = _ := (pset_else (by decide)).trans h9
 have h0 : ((((w.setCell ⟨q, 0, none⟩ (.int .i64 x.id)).setCell ⟨q, 1, none⟩ (.int .i64 x.po)).setCell ⟨q, 2, none⟩ (.int .i64 x.rg.ep)).setCell ⟨q, 3, none⟩ (.int .i64 x.rg.ow)).cell? ⟨q, 0, none⟩ = _ := (pset_else (by decide)).trans h0
 have h1 : ((((w.setCell ⟨q, 0, none⟩ (.int .i64 x.id)).setCell ⟨q, 1, none⟩ (.int .i64 x.po)).setCell ⟨q, 2, none⟩ (.int .i64 x.rg.ep)).setCell ⟨q, 3, none⟩ (.int .i64 x.rg.ow)).cell? ⟨q, 1, none⟩ = _ := (pset_else (by decide)).trans h1
 have h2 : ((((w.setCell ⟨q, 0, none⟩ (.int .i64 x.id)).setCell ⟨q, 1, none⟩ (.int .i64 x.po)).setCell ⟨q, 2, none⟩ (.int .i64 x.rg.ep)).setCell ⟨q, 3, none⟩ (.int .i64 x.rg.ow)).cell? ⟨q, 2, none⟩ = _ := (pset_else (by decide)).trans h2
 have h3 : ((((w.setCell ⟨q, 0, none⟩ (.int .i64 x.id)).setCell ⟨q, 1, none⟩ (.int .i64 x.po)).setCell ⟨q, 2, none⟩ (.int .i64 x.rg.ep)).setCell ⟨q, 3, none⟩ (.int .i64 x.rg.ow)).cell? ⟨q, 3, none⟩ = some (.int .i64 x.rg.ow) := pset_same h3
 have h4 : ((((w.setCell ⟨q, 0, none⟩ (.int .i64 x.id)).setCell ⟨q, 1, none⟩ (.int .i64 x.po)).setCell ⟨q, 2, none⟩ (.int .i64 x.rg.ep)).setCell ⟨q, 3, none⟩ (.int .i64 x.rg.ow)).cell? ⟨q, 4, none⟩ = _ := (pset_else (by decide)).trans h4
 have h5 : ((((w.setCell ⟨q, 0, none⟩ (.int .i64 x.id)).setCell ⟨q, 1, none⟩ (.int .i64 x.po)).setCell ⟨q, 2, none⟩ (.int .i64 x.rg.ep)).setCell ⟨q, 3, none⟩ (.int .i64 x.rg.ow)).cell? ⟨q, 5, none⟩ = _ := (pset_else (by decide)).trans h5
 have h6 : ((((w.setCell ⟨q, 0, none⟩ (.int .i64 x.id)).setCell ⟨q, 1, none⟩ (.int .i64 x.po)).setCell ⟨q, 2, none⟩ (.int .i64 x.rg.ep)).setCell ⟨q, 3, none⟩ (.int .i64 x.rg.ow)).cell? ⟨q, 6, none⟩ = _ := (pset_else (by decide)).trans h6
 have h7 : ((((w.setCell ⟨q, 0, none⟩ (.int .i64 x.id)).setCell ⟨q, 1, none⟩ (.int .i64 x.po)).setCell ⟨q, 2, none⟩ (.int .i64 x.rg.ep)).setCell ⟨q, 3, none⟩ (.int .i64 x.rg.ow)).cell? ⟨q, 7, none⟩ = _ := (pset_else (by decide)).trans h7
 have h8 : ((((w.setCell ⟨q, 0, none⟩ (.int .i64 x.id)).setCell ⟨q, 1, none⟩ (.int .i64 x.po)).setCell ⟨q, 2, none⟩ (.int .i64 x.rg.ep)).setCell ⟨q, 3, none⟩ (.int .i64 x.rg.ow)).cell? ⟨q, 8, none⟩ = _ := (pset_else (by decide)).trans h8
 have h9 : ((((w.setCell ⟨q, 0, none⟩ (.int .i64 x.id)).setCell ⟨q, 1, none⟩ (.int .i64 x.po)).setCell ⟨q, 2, none⟩ (.int .i64 x.rg.ep)).setCell ⟨q, 3, none⟩ (.int .i64 x.rg.ow)).cell? ⟨q, 9, none⟩ = _ := (pset_else (by decide)).trans h9
 have h0 : (((((w.setCell ⟨q, 0, none⟩ (.int .i64 x.id)).setCell ⟨q, 1, none⟩ (.int .i64 x.po)).setCell ⟨q, 2, none⟩ (.int .i64 x.rg.ep)).setCell ⟨q, 3, none⟩ (.int .i64 x.rg.ow)).setCell ⟨q, 4, none⟩ (.int .i64 x.rg.pa)).cell? ⟨q, 0, none⟩ = _ := (pset_else (by decide)).trans h0
 have h1 : (((((w.setCell ⟨q, 0, none⟩ (.int .i64 x.id)).setCell ⟨q, 1, none⟩ (.int .i64 x.po)).setCell ⟨q, 2, none⟩ (.int .i64 x.rg.ep)).setCell ⟨q, 3, none⟩ (.int .i64 x.rg.ow)).setCell ⟨q, 4, none⟩ (.int .i64 x.rg.pa)).cell? ⟨q, 1, none⟩ = _ := (pset_else (by decide)).trans h1
 have h2 : (((((w.setCell ⟨q, 0, none⟩ (.int .i64 x.id)).setCell ⟨q, 1, none⟩ (.int .i64 x.po)).setCell ⟨q, 2, none⟩ (.int .i64 x.rg.ep)).setCell ⟨q, 3, none⟩ (.int .i64 x.rg.ow)).setCell ⟨q, 4, none⟩ (.int .i64 x.rg.pa)).cell? ⟨q, 2, none⟩ = _ := (pset_else (by decide)).trans h2
 have h3 : (((((w.setCell ⟨q, 0, none⟩ (.int .i64 x.id)).setCell ⟨q, 1, none⟩ (.int .i64 x.po)).setCell ⟨q, 2, none⟩ (.int .i64 x.rg.ep)).setCell ⟨q, 3, none⟩ (.int .i64 x.rg.ow)).setCell ⟨q, 4, none⟩ (.int .i64 x.rg.pa)).cell? ⟨q, 3, none⟩ = _ := (pset_else (by decide)).trans h3
 have h4 : (((((w.setCell ⟨q, 0, none⟩ (.int .i64 x.id)).setCell ⟨q, 1, none⟩ (.int .i64 x.po)).setCell ⟨q, 2, none⟩ (.int .i64 x.rg.ep)).setCell ⟨q, 3, none⟩ (.int .i64 x.rg.ow)).setCell ⟨q, 4, none⟩ (.int .i64 x.rg.pa)).cell? ⟨q, 4, none⟩ = some (.int .i64 x.rg.pa) := pset_same h4
 have h5 : (((((w.setCell ⟨q, 0, none⟩ (.int .i64 x.id)).setCell ⟨q, 1, none⟩ (.int .i64 x.po)).setCell ⟨q, 2, none⟩ (.int .i64 x.rg.ep)).setCell ⟨q, 3, none⟩ (.int .i64 x.rg.ow)).setCell ⟨q, 4, none⟩ (.int .i64 x.rg.pa)).cell? ⟨q, 5, none⟩ = _ := (pset_else (by decide)).trans h5
 have h6 : (((((w.setCell ⟨q, 0, none⟩ (.int .i64 x.id)).setCell ⟨q, 1, none⟩ (.int .i64 x.po)).setCell ⟨q, 2, none⟩ (.int .i64 x.rg.ep)).setCell ⟨q, 3, none⟩ (.int .i64 x.rg.ow)).setCell ⟨q, 4, none⟩ (.int .i64 x.rg.pa)).cell? ⟨q, 6, none⟩ = _ := (pset_else (by decide)).trans h6
 have h7 : (((((w.setCell ⟨q, 0, none⟩ (.int .i64 x.id)).setCell ⟨q, 1, none⟩ (.int .i64 x.po)).setCell ⟨q, 2, none⟩ (.int .i64 x.rg.ep)).setCell ⟨q, 3, none⟩ (.int .i64 x.rg.ow)).setCell ⟨q, 4, none⟩ (.int .i64 x.rg.pa)).cell? ⟨q, 7, none⟩ = _ := (pset_else (by decide)).trans h7
 have h8 : (((((w.setCell ⟨q, 0, none⟩ (.int .i64 x.id)).setCell ⟨q, 1, none⟩ (.int .i64 x.po)).setCell ⟨q, 2, none⟩ (.int .i64 x.rg.ep)).setCell ⟨q, 3, none⟩ (.int .i64 x.rg.ow)).setCell ⟨q, 4, none⟩ (.int .i64 x.rg.pa)).cell? ⟨q, 8, none⟩ = _ := (pset_else (by decide)).trans h8
 have h9 : (((((w.setCell ⟨q, 0, none⟩ (.int .i64 x.id)).setCell ⟨q, 1, none⟩ (.int .i64 x.po)).setCell ⟨q, 2, none⟩ (.int .i64 x.rg.ep)).setCell ⟨q, 3, none⟩ (.int .i64 x.rg.ow)).setCell ⟨q, 4, none⟩ (.int .i64 x.rg.pa)).cell? ⟨q, 9, none⟩ = _ := (pset_else (by decide)).trans h9
 have h0 : ((((((w.setCell ⟨q, 0, none⟩ (.int .i64 x.id)).setCell ⟨q, 1, none⟩ (.int .i64 x.po)).setCell ⟨q, 2, none⟩ (.int .i64 x.rg.ep)).setCell ⟨q, 3, none⟩ (.int .i64 x.rg.ow)).setCell ⟨q, 4, none⟩ (.int .i64 x.rg.pa)).setCell ⟨q, 5, none⟩ (.slice x.aT x.two.length x.cT)).cell? ⟨q, 0, none⟩ = _ := (pset_else (by decide)).trans h0
 have h1 : ((((((w.setCell ⟨q, 0, none⟩ (.int .i64 x.id)).setCell ⟨q, 1, none⟩ (.int .i64 x.po)).setCell ⟨q, 2, none⟩ (.int .i64 x.rg.ep)).setCell ⟨q, 3, none⟩ (.int .i64 x.rg.ow)).setCell ⟨q, 4, none⟩ (.int .i64 x.rg.pa)).setCell ⟨q, 5, none⟩ (.slice x.aT x.two.length x.cT)).cell? ⟨q, 1, none⟩ = _ := (pset_else (by decide)).trans h1
 have h2 : ((((((w.setCell ⟨q, 0, none⟩ (.int .i64 x.id)).setCell ⟨q, 1, none⟩ (.int .i64 x.po)).setCell ⟨q, 2, none⟩ (.int .i64 x.rg.ep)).setCell ⟨q, 3, none⟩ (.int .i64 x.rg.ow)).setCell ⟨q, 4, none⟩ (.int .i64 x.rg.pa)).setCell ⟨q, 5, none⟩ (.slice x.aT x.two.length x.cT)).cell? ⟨q, 2, none⟩ = _ := (pset_else (by decide)).trans h2
 have h3 : ((((((w.setCell ⟨q, 0, none⟩ (.int .i64 x.id)).setCell ⟨q, 1, none⟩ (.int .i64 x.po)).setCell ⟨q, 2, none⟩ (.int .i64 x.rg.ep)).setCell ⟨q, 3, none⟩ (.int .i64 x.rg.ow)).setCell ⟨q, 4, none⟩ (.int .i64 x.rg.pa)).setCell ⟨q, 5, none⟩ (.slice x.aT x.two.length x.cT)).cell? ⟨q, 3, none⟩ = _ := (pset_else (by decide)).trans h3
 have h4 : ((((((w.setCell ⟨q, 0, none⟩ (.int .i64 x.id)).setCell ⟨q, 1, none⟩ (.int .i64 x.po)).setCell ⟨q, 2, none⟩ (.int .i64 x.rg.ep)).setCell ⟨q, 3, none⟩ (.int .i64 x.rg.ow)).setCell ⟨q, 4, none⟩ (.int .i64 x.rg.pa)).setCell ⟨q, 5, none⟩ (.slice x.aT x.two.length x.cT)).cell? ⟨q, 4, none⟩ = _ := (pset_else (by decide)).trans h4
 have h5 : ((((((w.setCell ⟨q, 0, none⟩ (.int .i64 x.id)).setCell ⟨q, 1, none⟩ (.int .i64 x.po)).setCell ⟨q, 2, none⟩ (.int .i64 x.rg.ep)).setCell ⟨q, 3, none⟩ (.int .i64 x.rg.ow)).setCell ⟨q, 4, none⟩ (.int .i64 x.rg.pa)).setCell ⟨q, 5, none⟩ (.slice x.aT x.two.length x.cT)).cell? ⟨q, 5, none⟩ = some (.slice x.aT x.two.length x.cT) := pset_same h5
 have h6 : ((((((w.setCell ⟨q, 0, none⟩ (.int .i64 x.id)).setCell ⟨q, 1, none⟩ (.int .i64 x.po)).setCell ⟨q, 2, none⟩ (.int .i64 x.rg.ep)).setCell ⟨q, 3, none⟩ (.int .i64 x.rg.ow)).setCell ⟨q, 4, none⟩ (.int .i64 x.rg.pa)).setCell ⟨q, 5, none⟩ (.slice x.aT x.two.length x.cT)).cell? ⟨q, 6, none⟩ = _ := (pset_else (by decide)).trans h6
 have h7 : ((((((w.setCell ⟨q, 0, none⟩ (.int .i64 x.id)).setCell ⟨q, 1, none⟩ (.int .i64 x.po)).setCell ⟨q, 2, none⟩ (.int .i64 x.rg.ep)).setCell ⟨q, 3, none⟩ (.int .i64 x.rg.ow)).setCell ⟨q, 4, none⟩ (.int .i64 x.rg.pa)).setCell ⟨q, 5, none⟩ (.slice x.aT x.two.length x.cT)).cell? ⟨q, 7, none⟩ = _ := (pset_else (by decide)).trans h7
 have h8 : ((((((w.setCell ⟨q, 0, none⟩ (.int .i64 x.id)).setCell ⟨q, 1, none⟩ (.int .i64 x.po)).setCell ⟨q, 2, none⟩ (.int .i64 x.rg.ep)).setCell ⟨q, 3, none⟩ (.int .i64 x.rg.ow)).setCell ⟨q, 4, none⟩ (.int .i64 x.rg.pa)).setCell ⟨q, 5, none⟩ (.slice x.aT x.two.length x.cT)).cell? ⟨q, 8, none⟩ = _ := (pset_else (by decide)).trans h8
 have h9 : ((((((w.setCell ⟨q, 0, none⟩ (.int .i64 x.id)).setCell ⟨q, 1, none⟩ (.int .i64 x.po)).setCell ⟨q, 2, none⟩ (.int .i64 x.rg.ep)).setCell ⟨q, 3, none⟩ (.int .i64 x.rg.ow)).setCell ⟨q, 4, none⟩ (.int .i64 x.rg.pa)).setCell ⟨q, 5, none⟩ (.slice x.aT x.two.length x.cT)).cell? ⟨q, 9, none⟩ = _ := (pset_else (by decide)).trans h9
 have h0 : (((((((w.setCell ⟨q, 0, none⟩ (.int .i64 x.id)).setCell ⟨q, 1, none⟩ (.int .i64 x.po)).setCell ⟨q, 2, none⟩ (.int .i64 x.rg.ep)).setCell ⟨q, 3, none⟩ (.int .i64 x.rg.ow)).setCell ⟨q, 4, none⟩ (.int .i64 x.rg.pa)).setCell ⟨q, 5, none⟩ (.slice x.aT x.two.length x.cT)).setCell ⟨q, 6, none⟩ (.slice x.aN x.net.length x.cN)).cell? ⟨q, 0, none⟩ = _ := (pset_else (by decide)).trans h0
 have h1 : (((((((w.setCell ⟨q, 0, none⟩ (.int .i64 x.id)).setCell ⟨q, 1, none⟩ (.int .i64 x.po)).setCell ⟨q, 2, none⟩ (.int .i64 x.rg.ep)).setCell ⟨q, 3, none⟩ (.int .i64 x.rg.ow)).setCell ⟨q, 4, none⟩ (.int .i64 x.rg.pa)).setCell ⟨q, 5, none⟩ (.slice x.aT x.two.length x.cT)).setCell ⟨q, 6, none⟩ (.slice x.aN x.net.length x.cN)).cell? ⟨q, 1, none⟩ = _ := (pset_else (by decide)).trans h1
 have h2 : (((((((w.setCell ⟨q, 0, none⟩ (.int .i64 x.id)).setCell ⟨q, 1, none⟩ (.int .i64 x.po)).setCell ⟨q, 2, none⟩ (.int .i64 x.rg.ep)).setCell ⟨q, 3, none⟩ (.int .i64 x.rg.ow)).setCell ⟨q, 4, none⟩ (.int .i64 x.rg.pa)).setCell ⟨q, 5, none⟩ (.slice x.aT x.two.length x.cT)).setCell ⟨q, 6, none⟩ (.slice x.aN x.net.length x.cN)).cell? ⟨q, 2, none⟩ = _ := (pset_else (by decide)).trans h2
 have h3 : (((((((w.setCell ⟨q, 0, none⟩ (.int .i64 x.id)).setCell ⟨q, 1, none⟩ (.int .i64 x.po)).setCell ⟨q, 2, none⟩ (.int .i64 x.rg.ep)).setCell ⟨q, 3, none⟩ (.int .i64 x.rg.ow)).setCell ⟨q, 4, none⟩ (.int .i64 x.rg.pa)).setCell ⟨q, 5, none⟩ (.slice x.aT x.two.length x.cT)).setCell ⟨q, 6, none⟩ (.slice x.aN x.net.length x.cN)).cell? ⟨q, 3, none⟩ = _ := (pset_else (by decide)).trans h3
 have h4 : (((((((w.setCell ⟨q, 0, none⟩ (.int .i64 x.id)).setCell ⟨q, 1, none⟩ (.int .i64 x.po)).setCell ⟨q, 2, none⟩ (.int .i64 x.rg.ep)).setCell ⟨q, 3, none⟩ (.int .i64 x.rg.ow)).setCell ⟨q, 4, none⟩ (.int .i64 x.rg.pa)).setCell ⟨q, 5, none⟩ (.slice x.aT x.two.length x.cT)).setCell ⟨q, 6, none⟩ (.slice x.aN x.net.length x.cN)).cell? ⟨q, 4, none⟩ = _ := (pset_else (by decide)).trans h4
 have h5 : (((((((w.setCell ⟨q, 0, none⟩ (.int .i64 x.id)).setCell ⟨q, 1, none⟩ (.int .i64 x.po)).setCell ⟨q, 2, none⟩ (.int .i64 x.rg.ep)).setCell ⟨q, 3, none⟩ (.int .i64 x.rg.ow)).setCell ⟨q, 4, none⟩ (.int .i64 x.rg.pa)).setCell ⟨q, 5, none⟩ (.slice x.aT x.two.length x.cT)).setCell ⟨q, 6, none⟩ (.slice x.aN x.net.length x.cN)).cell? ⟨q, 5, none⟩ = _ := (pset_else (by decide)).trans h5
 have h6 : (((((((w.setCell ⟨q, 0, none⟩ (.int .i64 x.id)).setCell ⟨q, 1, none⟩ (.int .i64 x.po)).setCell ⟨q, 2, none⟩ (.int .i64 x.rg.ep)).setCell ⟨q, 3, none⟩ (.int .i64 x.rg.ow)).setCell ⟨q, 4, none⟩ (.int .i64 x.rg.pa)).setCell ⟨q, 5, none⟩ (.slice x.aT x.two.length x.cT)).setCell ⟨q, 6, none⟩ (.slice x.aN x.net.length x.cN)).cell? ⟨q, 6, none⟩ = some (.slice x.aN x.net.length x.cN) := pset_same h6
 have h7 : (((((((w.setCell ⟨q, 0, none⟩ (.int .i64 x.id)).setCell ⟨q, 1, none⟩ (.int .i64 x.po)).setCell ⟨q, 2, none⟩ (.int .i64 x.rg.ep)).setCell ⟨q, 3, none⟩ (.int .i64 x.rg.ow)).setCell ⟨q, 4, none⟩ (.int .i64 x.rg.pa)).setCell ⟨q, 5, none⟩ (.slice x.aT x.two.length x.cT)).setCell ⟨q, 6, none⟩ (.slice x.aN x.net.length x.cN)).cell? ⟨q, 7, none⟩ = _ := (pset_else (by decide)).trans h7
 have h8 : (((((((w.setCell ⟨q, 0, none⟩ (.int .i64 x.id)).setCell ⟨q, 1, none⟩ (.int .i64 x.po)).setCell ⟨q, 2, none⟩ (.int .i64 x.rg.ep)).setCell ⟨q, 3, none⟩ (.int .i64 x.rg.ow)).setCell ⟨q, 4, none⟩ (.int .i64 x.rg.pa)).setCell ⟨q, 5, none⟩ (.slice x.aT x.two.length x.cT)).setCell ⟨q, 6, none⟩ (.slice x.aN x.net.length x.cN)).cell? ⟨q, 8, none⟩ = _ := (pset_else (by decide)).trans h8
 have h9 : (((((((w.setCell ⟨q, 0, none⟩ (.int .i64 x.id)).setCell ⟨q, 1, none⟩ (.int .i64 x.po)).setCell ⟨q, 2, none⟩ (.int .i64 x.rg.ep)).setCell ⟨q, 3, none⟩ (.int .i64 x.rg.ow)).setCell ⟨q, 4, none⟩ (.int .i64 x.rg.pa)).setCell ⟨q, 5, none⟩ (.slice x.aT x.two.length x.cT)).setCell ⟨q, 6, none⟩ (.slice x.aN x.net.length x.cN)).cell? ⟨q, 9, none⟩ = _ := (pset_else (by decide)).trans h9
 have h0 : ((((((((w.setCell ⟨q, 0, none⟩ (.int .i64 x.id)).setCell ⟨q, 1, none⟩ (.int .i64 x.po)).setCell ⟨q, 2, none⟩ (.int .i64 x.rg.ep)).setCell ⟨q, 3, none⟩ (.int .i64 x.rg.ow)).setCell ⟨q, 4, none⟩ (.int .i64 x.rg.pa)).setCell ⟨q, 5, none⟩ (.slice x.aT x.two.length x.cT)).setCell ⟨q, 6, none⟩ (.slice x.aN x.net.length x.cN)).setCell ⟨q, 7, none⟩ (.slice x.aG x.ga.length x.cG)).cell? ⟨q, 0, none⟩ = _ := (pset_else (by decide)).trans h0
 have h1 : ((((((((w.setCell ⟨q, 0, none⟩ (.int .i64 x.id)).setCell ⟨q, 1, none⟩ (.int .i64 x.po)).setCell ⟨q, 2, none⟩ (.int .i64 x.rg.ep)).setCell ⟨q, 3, none⟩ (.int .i64 x.rg.ow)).setCell ⟨q, 4, none⟩ (.int .i64 x.rg.pa)).setCell ⟨q, 5, none⟩ (.slice x.aT x.two.length x.cT)).setCell ⟨q, 6, none⟩ (.slice x.aN x.net.length x.cN)).setCell ⟨q, 7, none⟩ (.slice x.aG x.ga.length x.cG)).cell? ⟨q, 1, none⟩ = _ := (pset_else (by decide)).trans h1
 have h2 : ((((((((w.setCell ⟨q, 0, none⟩ (.int .i64 x.id)).setCell ⟨q, 1, none⟩ (.int .i64 x.po)).setCell ⟨q, 2, none⟩ (.int .i64 x.rg.ep)).setCell ⟨q, 3, none⟩ (.int .i64 x.rg.ow)).setCell ⟨q, 4, none⟩ (.int .i64 x.rg.pa)).setCell ⟨q, 5, none⟩ (.slice x.aT x.two.length x.cT)).setCell ⟨q, 6, none⟩ (.slice x.aN x.net.length x.cN)).setCell ⟨q, 7, none⟩ (.slice x.aG x.ga.length x.cG)).cell? ⟨q, 2, none⟩ = _ := (pset_else (by decide)).trans h2
 have h3 : ((((((((w.setCell ⟨q, 0, none⟩ (.int .i64 x.id)).setCell ⟨q, 1, none⟩ (.int .i64 x.po)).setCell ⟨q, 2, none⟩ (.int .i64 x.rg.ep)).setCell ⟨q, 3, none⟩ (.int .i64 x.rg.ow)).setCell ⟨q, 4, none⟩ (.int .i64 x.rg.pa)).setCell ⟨q, 5, none⟩ (.slice x.aT x.two.length x.cT)).setCell ⟨q, 6, none⟩ (.slice x.aN x.net.length x.cN)).setCell ⟨q, 7, none⟩ (.slice x.aG x.ga.length x.cG)).cell? ⟨q, 3, none⟩ = _ := (pset_else (by decide)).trans h3
 have h4 : ((((((((w.setCell ⟨q, 0, none⟩ (.int .i64 x.id)).setCell ⟨q, 1, none⟩ (.int .i64 x.po)).setCell ⟨q, 2, none⟩ (.int .i64 x.rg.ep)).setCell ⟨q, 3, none⟩ (.int .i64 x.rg.ow)).setCell ⟨q, 4, none⟩ (.int .i64 x.rg.pa)).setCell ⟨q, 5, none⟩ (.slice x.aT x.two.length x.cT)).setCell ⟨q, 6, none⟩ (.slice x.aN x.net.length x.cN)).setCell ⟨q, 7, none⟩ (.slice x.aG x.ga.length x.cG)).cell? ⟨q, 4, none⟩ = _ := (pset_else (by decide)).trans h4
 have h5 : ((((((((w.setCell ⟨q, 0, none⟩ (.int .i64 x.id)).setCell ⟨q, 1, none⟩ (.int .i64 x.po)).setCell ⟨q, 2, none⟩ (.int .i64 x.rg.ep)).setCell ⟨q, 3, none⟩ (.int .i64 x.rg.ow)).setCell ⟨q, 4, none⟩ (.int .i64 x.rg.pa)).setCell ⟨q, 5, none⟩ (.slice x.aT x.two.length x.cT)).setCell ⟨q, 6, none⟩ (.slice x.aN x.net.length x.cN)).setCell ⟨q, 7, none⟩ (.slice x.aG x.ga.length x.cG)).cell? ⟨q, 5, none⟩ = _ := (pset_else (by decide)).trans h5
 have h6 : ((((((((w.setCell ⟨q, 0, none⟩ (.int .i64 x.id)).setCell ⟨q, 1, none⟩ (.int .i64 x.po)).setCell ⟨q, 2, none⟩ (.int .i64 x.rg.ep)).setCell ⟨q, 3, none⟩ (.int .i64 x.rg.ow)).setCell ⟨q, 4, none⟩ (.int .i64 x.rg.pa)).setCell ⟨q, 5, none⟩ (.slice x.aT x.two.length x.cT)).setCell ⟨q, 6, none⟩ (.slice x.aN x.net.length x.cN)).setCell ⟨q, 7, none⟩ (.slice x.aG x.ga.length x.cG)).cell? ⟨q, 6, none⟩ = _ := (pset_else (by decide)).trans h6
 have h7 : ((((((((w.setCell ⟨q, 0, none⟩ (.int .i64 x.id)).setCell ⟨q, 1, none⟩ (.int .i64 x.po)).setCell ⟨q, 2, none⟩ (.int .i64 x.rg.ep)).setCell ⟨q, 3, none⟩ (.int .i64 x.rg.ow)).setCell ⟨q, 4, none⟩ (.int .i64 x.rg.pa)).setCell ⟨q, 5, none⟩ (.slice x.aT x.two.length x.cT)).setCell ⟨q, 6, none⟩ (.slice x.aN x.net.length x.cN)).setCell ⟨q, 7, none⟩ (.slice x.aG x.ga.length x.cG)).cell? ⟨q, 7, none⟩ = some (.slice x.aG x.ga.length x.cG) := pset_same h7
 have h8 : ((((((((w.setCell ⟨q, 0, none⟩ (.int .i64 x.id)).setCell ⟨q, 1, none⟩ (.int .i64 x.po)).setCell ⟨q, 2, none⟩ (.int .i64 x.rg.ep)).setCell ⟨q, 3, none⟩ (.int .i64 x.rg.ow)).setCell ⟨q, 4, none⟩ (.int .i64 x.rg.pa)).setCell ⟨q, 5, none⟩ (.slice x.aT x.two.length x.cT)).setCell ⟨q, 6, none⟩ (.slice x.aN x.net.length x.cN)).setCell ⟨q, 7, none⟩ (.slice x.aG x.ga.length x.cG)).cell? ⟨q, 8, none⟩ = _ := (pset_else (by decide)).trans h8
 have h9 : ((((((((w.setCell ⟨q, 0, none⟩ (.int .i64 x.id)).setCell ⟨q, 1, none⟩ (.int .i64 x.po)).setCell ⟨q, 2, none⟩ (.int .i64 x.rg.ep)).setCell ⟨q, 3, none⟩ (.int .i64 x.rg.ow)).setCell ⟨q, 4, none⟩ (.int .i64 x.rg.pa)).setCell ⟨q, 5, none⟩ (.slice x.aT x.two.length x.cT)).setCell ⟨q, 6, none⟩ (.slice x.aN x.net.length x.cN)).setCell ⟨q, 7, none⟩ (.slice x.aG x.ga.length x.cG)).cell? ⟨q, 9, none⟩ = _ := (pset_else (by decide)).trans h9
 have h0 : (((((((((w.setCell ⟨q, 0, none⟩ (.int .i64 x.id)).setCell ⟨q, 1, none⟩ (.int .i64 x.po)).setCell ⟨q, 2, none⟩ (.int .i64 x.rg.ep)).setCell ⟨q, 3, none⟩ (.int .i64 x.rg.ow)).setCell ⟨q, 4, none⟩ (.int .i64 x.rg.pa)).setCell ⟨q, 5, none⟩ (.slice x.aT x.two.length x.cT)).setCell ⟨q, 6, none⟩ (.slice x.aN x.net.length x.cN)).setCell ⟨q, 7, none⟩ (.slice x.aG x.ga.length x.cG)).setCell ⟨q, 8, none⟩ (.slice x.aL x.ln.length x.cL)).cell? ⟨q, 0, none⟩ = _ := (pset_else (by decide)).trans h0
 have h1 : (((((((((w.setCell ⟨q, 0, none⟩ (.int .i64 x.id)).setCell ⟨q, 1, none⟩ (.int .i64 x.po)).setCell ⟨q, 2, none⟩ (.int .i64 x.rg.ep)).setCell ⟨q, 3, none⟩ (.int .i64 x.rg.ow)).setCell ⟨q, 4, none⟩ (.int .i64 x.rg.pa)).setCell ⟨q, 5, none⟩ (.slice x.aT x.two.length x.cT)).setCell ⟨q, 6, none⟩ (.slice x.aN x.net.length x.cN)).setCell ⟨q, 7, none⟩ (.slice x.aG x.ga.length x.cG)).setCell ⟨q, 8, none⟩ (.slice x.aL x.ln.length x.cL)).cell? ⟨q, 1, none⟩ = _ := (pset_else (by decide)).trans h1
 have h2 : (((((((((w.setCell ⟨q, 0, none⟩ (.int .i64 x.id)).setCell ⟨q, 1, none⟩ (.int .i64 x.po)).setCell ⟨q, 2, none⟩ (.int .i64 x.rg.ep)).setCell ⟨q, 3, none⟩ (.int .i64 x.rg.ow)).setCell ⟨q, 4, none⟩ (.int .i64 x.rg.pa)).setCell ⟨q, 5, none⟩ (.slice x.aT x.two.length x.cT)).setCell ⟨q, 6, none⟩ (.slice x.aN x.net.length x.cN)).setCell ⟨q, 7, none⟩ (.slice x.aG x.ga.length x.cG)).setCell ⟨q, 8, none⟩ (.slice x.aL x.ln.length x.cL)).cell? ⟨q, 2, none⟩ = _ := (pset_else (by decide)).trans h2
 have h3 : (((((((((w.setCell ⟨q, 0, none⟩ (.int .i64 x.id)).setCell ⟨q, 1, none⟩ (.int .i64 x.po)).setCell ⟨q, 2, none⟩ (.int .i64 x.rg.ep)).setCell ⟨q, 3, none⟩ (.int .i64 x.rg.ow)).setCell ⟨q, 4, none⟩ (.int .i64 x.rg.pa)).setCell ⟨q, 5, none⟩ (.slice x.aT x.two.length x.cT)).setCell ⟨q, 6, none⟩ (.slice x.aN x.net.length x.cN)).setCell ⟨q, 7, none⟩ (.slice x.aG x.ga.length x.cG)).setCell ⟨q, 8, none⟩ (.slice x.aL x.ln.length x.cL)).cell? ⟨q, 3, none⟩ = _ := (pset_else (by decide)).trans h3
 have h4 : (((((((((w.setCell ⟨q, 0, none⟩ (.int .i64 x.id)).setCell ⟨q, 1, none⟩ (.int .i64 x.po)).setCell ⟨q, 2, none⟩ (.int .i64 x.rg.ep)).setCell ⟨q, 3, none⟩ (.int .i64 x.rg.ow)).setCell ⟨q, 4, none⟩ (.int .i64 x.rg.pa)).setCell ⟨q, 5, none⟩ (.slice x.aT x.two.length x.cT)).setCell ⟨q, 6, none⟩ (.slice x.aN x.net.length x.cN)).setCell ⟨q, 7, none⟩ (.slice x.aG x.ga.length x.cG)).setCell ⟨q, 8, none⟩ (.slice x.aL x.ln.length x.cL)).cell? ⟨q, 4, none⟩ = _ := (pset_else (by decide)).trans h4
 have h5 : (((((((((w.setCell ⟨q, 0, none⟩ (.int .i64 x.id)).setCell ⟨q, 1, none⟩ (.int .i64 x.po)).setCell ⟨q, 2, none⟩ (.int .i64 x.rg.ep)).setCell ⟨q, 3, none⟩ (.int .i64 x.rg.ow)).setCell ⟨q, 4, none⟩ (.int .i64 x.rg.pa)).setCell ⟨q, 5, none⟩ (.slice x.aT x.two.length x.cT)).setCell ⟨q, 6, none⟩ (.slice x.aN x.net.length x.cN)).setCell ⟨q, 7, none⟩ (.slice x.aG x.ga.length x.cG)).setCell ⟨q, 8, none⟩ (.slice x.aL x.ln.length x.cL)).cell? ⟨q, 5, none⟩ = _ := (pset_else (by decide)).trans h5
 have h6 : (((((((((w.setCell ⟨q, 0, none⟩ (.int .i64 x.id)).setCell ⟨q, 1, none⟩ (.int .i64 x.po)).setCell ⟨q, 2, none⟩ (.int .i64 x.rg.ep)).setCell ⟨q, 3, none⟩ (.int .i64 x.rg.ow)).setCell ⟨q, 4, none⟩ (.int .i64 x.rg.pa)).setCell ⟨q, 5, none⟩ (.slice x.aT x.two.length x.cT)).setCell ⟨q, 6, none⟩ (.slice x.aN x.net.length x.cN)).setCell ⟨q, 7, none⟩ (.slice x.aG x.ga.length x.cG)).setCell ⟨q, 8, none⟩ (.slice x.aL x.ln.length x.cL)).cell? ⟨q, 6, none⟩ = _ := (pset_else (by decide)).trans h6
 have h7 : (((((((((w.setCell ⟨q, 0, none⟩ (.int .i64 x.id)).setCell ⟨q, 1, none⟩ (.int .i64 x.po)).setCell ⟨q, 2, none⟩ (.int .i64 x.rg.ep)).setCell ⟨q, 3, none⟩ (.int .i64 x.rg.ow)).setCell ⟨q, 4, none⟩ (.int .i64 x.rg.pa)).setCell ⟨q, 5, none⟩ (.slice x.aT x.two.length x.cT)).setCell ⟨q, 6, none⟩ (.slice x.aN x.net.length x.cN)).setCell ⟨q, 7, none⟩ (.slice x.aG x.ga.length x.cG)).setCell ⟨q, 8, none⟩ (.slice x.aL x.ln.length x.cL)).cell? ⟨q, 7, none⟩ = _ := (pset_else (by decide)).trans h7
 have h8 : (((((((((w.setCell ⟨q, 0, none⟩ (.int .i64 x.id)).setCell ⟨q, 1, none⟩ (.int .i64 x.po)).setCell ⟨q, 2, none⟩ (.int .i64 x.rg.ep)).setCell ⟨q, 3, none⟩ (.int .i64 x.rg.ow)).setCell ⟨q, 4, none⟩ (.int .i64 x.rg.pa)).setCell ⟨q, 5, none⟩ (.slice x.aT x.two.length x.cT)).setCell ⟨q, 6, none⟩ (.slice x.aN x.net.length x.cN)).setCell ⟨q, 7, none⟩ (.slice x.aG x.ga.length x.cG)).setCell ⟨q, 8, none⟩ (.slice x.aL x.ln.length x.cL)).cell? ⟨q, 8, none⟩ = some (.slice x.aL x.ln.length x.cL) := pset_same h8
 have h9 : (((((((((w.setCell ⟨q, 0, none⟩ (.int .i64 x.id)).setCell ⟨q, 1, none⟩ (.int .i64 x.po)).setCell ⟨q, 2, none⟩ (.int .i64 x.rg.ep)).setCell ⟨q, 3, none⟩ (.int .i64 x.rg.ow)).setCell ⟨q, 4, none⟩ (.int .i64 x.rg.pa)).setCell ⟨q, 5, none⟩ (.slice x.aT x.two.length x.cT)).setCell ⟨q, 6, none⟩ (.slice x.aN x.net.length x.cN)).setCell ⟨q, 7, none⟩ (.slice x.aG x.ga.length x.cG)).setCell ⟨q, 8, none⟩ (.slice x.aL x.ln.length x.cL)).cell? ⟨q, 9, none⟩ = _ := (pset_else (by decide)).trans h9
 have h0 : ((((((((((w.setCell ⟨q, 0, none⟩ (.int .i64 x.id)).setCell ⟨q, 1, none⟩ (.int .i64 x.po)).setCell ⟨q, 2, none⟩ (.int .i64 x.rg.ep)).setCell ⟨q, 3, none⟩ (.int .i64 x.rg.ow)).setCell ⟨q, 4, none⟩ (.int .i64 x.rg.pa)).setCell ⟨q, 5, none⟩ (.slice x.aT x.two.length x.cT)).setCell ⟨q, 6, none⟩ (.slice x.aN x.net.length x.cN)).setCell ⟨q, 7, none⟩ (.slice x.aG x.ga.length x.cG)).setCell ⟨q, 8, none⟩ (.slice x.aL x.ln.length x.cL)).setCell ⟨q, 9, none⟩ (.slice x.aS x.sd.length x.cS)).cell? ⟨q, 0, none⟩ = _ := (pset_else (by decide)).trans h0
 have h1 : ((((((((((w.setCell ⟨q, 0, none⟩ (.int .i64 x.id)).setCell ⟨q, 1, none⟩ (.int .i64 x.po)).setCell ⟨q, 2, none⟩ (.int .i64 x.rg.ep)).setCell ⟨q, 3, none⟩ (.int .i64 x.rg.ow)).setCell ⟨q, 4, none⟩ (.int .i64 x.rg.pa)).setCell ⟨q, 5, none⟩ (.slice x.aT x.two.length x.cT)).setCell ⟨q, 6, none⟩ (.slice x.aN x.net.length x.cN)).setCell ⟨q, 7, none⟩ (.slice x.aG x.ga.length x.cG)).setCell ⟨q, 8, none⟩ (.slice x.aL x.ln.length x.cL)).setCell ⟨q, 9, none⟩ (.slice x.aS x.sd.length x.cS)).cell? ⟨q, 1, none⟩ = _ := (pset_else (by decide)).trans h1
 have h2 : ((((((((((w.setCell ⟨q, 0, none⟩ (.int .i64 x.id)).setCell ⟨q, 1, none⟩ (.int .i64 x.po)).setCell ⟨q, 2, none⟩ (.int .i64 x.rg.ep)).setCell ⟨q, 3, none⟩ (.int .i64 x.rg.ow)).setCell ⟨q, 4, none⟩ (.int .i64 x.rg.pa)).setCell ⟨q, 5, none⟩ (.slice x.aT x.two.length x.cT)).setCell ⟨q, 6, none⟩ (.slice x.aN x.net.length x.cN)).setCell ⟨q, 7, none⟩ (.slice x.aG x.ga.length x.cG)).setCell ⟨q, 8, none⟩ (.slice x.aL x.ln.length x.cL)).setCell ⟨q, 9, none⟩ (.slice x.aS x.sd.length x.cS)).cell? ⟨q, 2, none⟩ = _ := (pset_else (by decide)).trans h2
 have h3 : ((((((((((w.setCell ⟨q, 0, none⟩ (.int .i64 x.id)).setCell ⟨q, 1, none⟩ (.int .i64 x.po)).setCell ⟨q, 2, none⟩ (.int .i64 x.rg.ep)).setCell ⟨q, 3, none⟩ (.int .i64 x.rg.ow)).setCell ⟨q, 4, none⟩ (.int .i64 x.rg.pa)).setCell ⟨q, 5, none⟩ (.slice x.aT x.two.length x.cT)).setCell ⟨q, 6, none⟩ (.slice x.aN x.net.length x.cN)).setCell ⟨q, 7, none⟩ (.slice x.aG x.ga.length x.cG)).setCell ⟨q, 8, none⟩ (.slice x.aL x.ln.length x.cL)).setCell ⟨q, 9, none⟩ (.slice x.aS x.sd.length x.cS)).cell? ⟨q, 3, none⟩ = _ := (pset_else (by decide)).trans h3
 have h4 : ((((((((((w.setCell ⟨q, 0, none⟩ (.int .i64 x.id)).setCell ⟨q, 1, none⟩ (.int .i64 x.po)).setCell ⟨q, 2, none⟩ (.int .i64 x.rg.ep)).setCell ⟨q, 3, none⟩ (.int .i64 x.rg.ow)).setCell ⟨q, 4, none⟩ (.int .i64 x.rg.pa)).setCell ⟨q, 5, none⟩ (.slice x.aT x.two.length x.cT)).setCell ⟨q, 6, none⟩ (.slice x.aN x.net.length x.cN)).setCell ⟨q, 7, none⟩ (.slice x.aG x.ga.length x.cG)).setCell ⟨q, 8, none⟩ (.slice x.aL x.ln.length x.cL)).setCell ⟨q, 9, none⟩ (.slice x.aS x.sd.length x.cS)).cell? ⟨q, 4, none⟩ = _ := (pset_else (by decide)).trans h4
 have h5 : ((((((((((w.setCell ⟨q, 0, none⟩ (.int .i64 x.id)).setCell ⟨q, 1, none⟩ (.int .i64 x.po)).setCell ⟨q, 2, none⟩ (.int .i64 x.rg.ep)).setCell ⟨q, 3, none⟩ (.int .i64 x.rg.ow)).setCell ⟨q, 4, none⟩ (.int .i64 x.rg.pa)).setCell ⟨q, 5, none⟩ (.slice x.aT x.two.length x.cT)).setCell ⟨q, 6, none⟩ (.slice x.aN x.net.length x.cN)).setCell ⟨q, 7, none⟩ (.slice x.aG x.ga.length x.cG)).setCell ⟨q, 8, none⟩ (.slice x.aL x.ln.length x.cL)).setCell ⟨q, 9, none⟩ (.slice x.aS x.sd.length x.cS)).cell? ⟨q, 5, none⟩ = _ := (pset_else (by decide)).trans h5
 have h6 : ((((((((((w.setCell ⟨q, 0, none⟩ (.int .i64 x.id)).setCell ⟨q, 1, none⟩ (.int .i64 x.po)).setCell ⟨q, 2, none⟩ (.int .i64 x.rg.ep)).setCell ⟨q, 3, none⟩ (.int .i64 x.rg.ow)).setCell ⟨q, 4, none⟩ (.int .i64 x.rg.pa)).setCell ⟨q, 5, none⟩ (.slice x.aT x.two.length x.cT)).setCell ⟨q, 6, none⟩ (.slice x.aN x.net.length x.cN)).setCell ⟨q, 7, none⟩ (.slice x.aG x.ga.length x.cG)).setCell ⟨q, 8, none⟩ (.slice x.aL x.ln.length x.cL)).setCell ⟨q, 9, none⟩ (.slice x.aS x.sd.length x.cS)).cell? ⟨q, 6, none⟩ = _ := (pset_else (by decide)).trans h6
 have h7 : ((((((((((w.setCell ⟨q, 0, none⟩ (.int .i64 x.id)).setCell ⟨q, 1, none⟩ (.int .i64 x.po)).setCell ⟨q, 2, none⟩ (.int .i64 x.rg.ep)).setCell ⟨q, 3, none⟩ (.int .i64 x.rg.ow)).setCell ⟨q, 4, none⟩ (.int .i64 x.rg.pa)).setCell ⟨q, 5, none⟩ (.slice x.aT x.two.length x.cT)).setCell ⟨q, 6, none⟩ (.slice x.aN x.net.length x.cN)).setCell ⟨q, 7, none⟩ (.slice x.aG x.ga.length x.cG)).setCell ⟨q, 8, none⟩ (.slice x.aL x.ln.length x.cL)).setCell ⟨q, 9, none⟩ (.slice x.aS x.sd.length x.cS)).cell? ⟨q, 7, none⟩ = _ := (pset_else (by decide)).trans h7
 have h8 : ((((((((((w.setCell ⟨q, 0, none⟩ (.int .i64 x.id)).setCell ⟨q, 1, none⟩ (.int .i64 x.po)).setCell ⟨q, 2, none⟩ (.int .i64 x.rg.ep)).setCell ⟨q, 3, none⟩ (.int .i64 x.rg.ow)).setCell ⟨q, 4, none⟩ (.int .i64 x.rg.pa)).setCell ⟨q, 5, none⟩ (.slice x.aT x.two.length x.cT)).setCell ⟨q, 6, none⟩ (.slice x.aN x.net.length x.cN)).setCell ⟨q, 7, none⟩ (.slice x.aG x.ga.length x.cG)).setCell ⟨q, 8, none⟩ (.slice x.aL x.ln.length x.cL)).setCell ⟨q, 9, none⟩ (.slice x.aS x.sd.length x.cS)).cell? ⟨q, 8, none⟩ = _ := (pset_else (by decide)).trans h8
 have h9 : ((((((((((w.setCell ⟨q, 0, none⟩ (.int .i64 x.id)).setCell ⟨q, 1, none⟩ (.int .i64 x.po)).setCell ⟨q, 2, none⟩ (.int .i64 x.rg.ep)).setCell ⟨q, 3, none⟩ (.int .i64 x.rg.ow)).setCell ⟨q, 4, none⟩ (.int .i64 x.rg.pa)).setCell ⟨q, 5, none⟩ (.slice x.aT x.two.length x.cT)).setCell ⟨q, 6, none⟩ (.slice x.aN x.net.length x.cN)).setCell ⟨q, 7, none⟩ (.slice x.aG x.ga.length x.cG)).setCell ⟨q, 8, none⟩ (.slice x.aL x.ln.length x.cL)).setCell ⟨q, 9, none⟩ (.slice x.aS x.sd.length x.cS)).cell? ⟨q, 9, none⟩ = some (.slice x.aS x.sd.length x.cS) := pset_same h9
 refine ⟨⟨h0, h1, h2, h3, h4, h5, h6, h7, h8, h9⟩, fun i => ?_⟩
 rw [World.frozen?_setCell, World.frozen?_setCell, World.frozen?_setCell, World.frozen?_setCell, World.frozen?_setCell, World.frozen?_setCell, World.frozen?_setCell, World.frozen?_setCell, World.frozen?_setCell, World.frozen?_setCell]
 exact hf i
abbrev P10 (w : World) (q : Nat) (x : BxD) : World := ((((((((((w.setCell ⟨q, 0, none⟩ (.int .i64 x.id)).setCell ⟨q, 1, none⟩ (.int .i64 x.po)).setCell ⟨q, 2, none⟩ (.int .i64 x.rg.ep)).setCell ⟨q, 3, none⟩ (.int .i64 x.rg.ow)).setCell ⟨q, 4, none⟩ (.int .i64 x.rg.pa)).setCell ⟨q, 5, none⟩ (.slice x.aT x.two.length x.cT)).setCell ⟨q, 6, none⟩ (.slice x.aN x.net.length x.cN)).setCell ⟨q, 7, none⟩ (.slice x.aG x.ga.length x.cG)).setCell ⟨q, 8, none⟩ (.slice x.aL x.ln.length x.cL)).setCell ⟨q, 9, none⟩ (.slice x.aS x.sd.length x.cS))
abbrev bvx (x : BxD) : Value := .agg #[.int .i64 x.id, .int .i64 x.po, .int .i64 x.rg.ep, .int .i64 x.rg.ow, .int .i64 x.rg.pa, .slice x.aT x.two.length x.cT, .slice x.aN x.net.length x.cN, .slice x.aG x.ga.length x.cG, .slice x.aL x.ln.length x.cL, .slice x.aS x.sd.length x.cS]
theorem BxB.sT {w : World} {q : Nat} {x : BxD} (h : BxB w q x) (D : List MiD) (a : Option Addr) (n : Nat) (c : Nat) (hn : n = D.length) : BxB (w.setCell ⟨q, 5, none⟩ (.slice a n c)) q { x with two := D, aT := a, cT := c } := by
 subst hn
 obtain ⟨⟨h0, h1, h2, h3, h4, h5, h6, h7, h8, h9⟩, hf⟩ := h
 exact ⟨⟨(pset_else (by decide)).trans h0, (pset_else (by decide)).trans h1, (pset_else (by decide)).trans h2, (pset_else (by decide)).trans h3, (pset_else (by decide)).trans h4, pset_same h5, (pset_else (by decide)).trans h6, (pset_else (by decide)).trans h7, (pset_else (by decide)).trans h8, (pset_else (by decide)).trans h9⟩, fun i => by rw [World.frozen?_setCell]; exact hf i⟩
theorem BxB.sN {w : World} {q : Nat} {x : BxD} (h : BxB w q x) (D : List Wi) (a : Option Addr) (n : Nat) (c : Nat) (hn : n = D.length) : BxB (w.setCell ⟨q, 6, none⟩ (.slice a n c)) q { x with net := D, aN := a, cN := c } := by
 subst hn
 obtain ⟨⟨h0, h1, h2, h3, h4, h5, h6, h7, h8, h9⟩, hf⟩ := h
 exact ⟨⟨(pset_else (by decide)).trans h0, (pset_else (by decide)).trans h1, (pset_else (by decide)).trans h2, (pset_else (by decide)).trans h3, (pset_else (by decide)).trans h4, (pset_else (by decide)).trans h5, pset_same h6, (pset_else (by decide)).trans h7, (pset_else (by decide)).trans h8, (pset_else (by decide)).trans h9⟩, fun i => by rw [World.frozen?_setCell]; exact hf i⟩
theorem BxB.sG {w : World} {q : Nat} {x : BxD} (h : BxB w q x) (D : List Bool) (a : Option Addr) (n : Nat) (c : Nat) (hn : n = D.length) : BxB (w.setCell ⟨q, 7, none⟩ (.slice a n c)) q { x with ga := D, aG := a, cG := c } := by
 subst hn
 obtain ⟨⟨h0, h1, h2, h3, h4, h5, h6, h7, h8, h9⟩, hf⟩ := h
 exact ⟨⟨(pset_else (by decide)).trans h0, (pset_else (by decide)).trans h1, (pset_else (by decide)).trans h2, (pset_else (by decide)).trans h3, (pset_else (by decide)).trans h4, (pset_else (by decide)).trans h5, (pset_else (by decide)).trans h6, pset_same h7, (pset_else (by decide)).trans h8, (pset_else (by decide)).trans h9⟩, fun i => by rw [World.frozen?_setCell]; exact hf i⟩
theorem BxB.sL {w : World} {q : Nat} {x : BxD} (h : BxB w q x) (D : List Ik) (a : Option Addr) (n : Nat) (c : Nat) (hn : n = D.length) : BxB (w.setCell ⟨q, 8, none⟩ (.slice a n c)) q { x with ln := D, aL := a, cL := c } := by
 subst hn
 obtain ⟨⟨h0, h1, h2, h3, h4, h5, h6, h7, h8, h9⟩, hf⟩ := h
 exact ⟨⟨(pset_else (by decide)).trans h0, (pset_else (by decide)).trans h1, (pset_else (by decide)).trans h2, (pset_else (by decide)).trans h3, (pset_else (by decide)).trans h4, (pset_else (by decide)).trans h5, (pset_else (by decide)).trans h6, (pset_else (by decide)).trans h7, pset_same h8, (pset_else (by decide)).trans h9⟩, fun i => by rw [World.frozen?_setCell]; exact hf i⟩
theorem BxB.sS {w : World} {q : Nat} {x : BxD} (h : BxB w q x) (D : List Ou) (a : Option Addr) (n : Nat) (c : Nat) (hn : n = D.length) : BxB (w.setCell ⟨q, 9, none⟩ (.slice a n c)) q { x with sd := D, aS := a, cS := c } := by
 subst hn
 obtain ⟨⟨h0, h1, h2, h3, h4, h5, h6, h7, h8, h9⟩, hf⟩ := h
 exact ⟨⟨(pset_else (by decide)).trans h0, (pset_else (by decide)).trans h1, (pset_else (by decide)).trans h2, (pset_else (by decide)).trans h3, (pset_else (by decide)).trans h4, (pset_else (by decide)).trans h5, (pset_else (by decide)).trans h6, (pset_else (by decide)).trans h7, (pset_else (by decide)).trans h8, pset_same h9⟩, fun i => by rw [World.frozen?_setCell]; exact hf i⟩
theorem BxB.sR {w : World} {q : Nat} {x : BxD} (h : BxB w q x) (r : Rg) : BxB (((w.setCell ⟨q, 2, none⟩ (.int .i64 r.ep)).setCell ⟨q, 3, none⟩ (.int .i64 r.ow)).setCell ⟨q, 4, none⟩ (.int .i64 r.pa)) q { x with rg := r } := by
 obtain ⟨⟨h0, h1, h2, h3, h4, h5, h6, h7, h8, h9⟩, hf⟩ := h
 have h0 : (w.setCell ⟨q, 2, none⟩ (.int .i64 r.ep)).cell? ⟨q, 0, none⟩ = _ := (pset_else (by decide)).trans h0
 have h1 : (w.setCell ⟨q, 2, none⟩ (.int .i64 r.ep)).cell? ⟨q, 1, none⟩ = _ := (pset_else (by decide)).trans h1
 have h2 : (w.setCell ⟨q, 2, none⟩ (.int .i64 r.ep)).cell? ⟨q, 2, none⟩ = some (.int .i64 r.ep) := pset_same h2
 have h3 : (w.setCell ⟨q, 2, none⟩ (.int .i64 r.ep)).cell? ⟨q, 3, none⟩ = _ := (pset_else (by decide)).trans h3
 have h4 : (w.setCell ⟨q, 2, none⟩ (.int .i64 r.ep)).cell? ⟨q, 4, none⟩ = _ := (pset_else (by decide)).trans h4
 have h5 : (w.setCell ⟨q, 2, none⟩ (.int .i64 r.ep)).cell? ⟨q, 5, none⟩ = _ := (pset_else (by decide)).trans h5
 have h6 : (w.setCell ⟨q, 2, none⟩ (.int .i64 r.ep)).cell? ⟨q, 6, none⟩ = _ := (pset_else (by decide)).trans h6
 have h7 : (w.setCell ⟨q, 2, none⟩ (.int .i64 r.ep)).cell? ⟨q, 7, none⟩ = _ := (pset_else (by decide)).trans h7
 have h8 : (w.setCell ⟨q, 2, none⟩ (.int .i64 r.ep)).cell? ⟨q, 8, none⟩ = _ := (pset_else (by decide)).trans h8
 have h9 : (w.setCell ⟨q, 2, none⟩ (.int .i64 r.ep)).cell? ⟨q, 9, none⟩ = _ := (pset_else (by decide)).trans h9
 have h0 : ((w.setCell ⟨q, 2, none⟩ (.int .i64 r.ep)).setCell ⟨q, 3, none⟩ (.int .i64 r.ow)).cell? ⟨q, 0, none⟩ = _ := (pset_else (by decide)).trans h0
 have h1 : ((w.setCell ⟨q, 2, none⟩ (.int .i64 r.ep)).setCell ⟨q, 3, none⟩ (.int .i64 r.ow)).cell? ⟨q, 1, none⟩ = _ := (pset_else (by decide)).trans h1
 have h2 : ((w.setCell ⟨q, 2, none⟩ (.int .i64 r.ep)).setCell ⟨q, 3, none⟩ (.int .i64 r.ow)).cell? ⟨q, 2, none⟩ = _ := (pset_else (by decide)).trans h2
 have h3 : ((w.setCell ⟨q, 2, none⟩ (.int .i64 r.ep)).setCell ⟨q, 3, none⟩ (.int .i64 r.ow)).cell? ⟨q, 3, none⟩ = some (.int .i64 r.ow) := pset_same h3
 have h4 : ((w.setCell ⟨q, 2, none⟩ (.int .i64 r.ep)).setCell ⟨q, 3, none⟩ (.int .i64 r.ow)).cell? ⟨q, 4, none⟩ = _ := (pset_else (by decide)).trans h4
 have h5 : ((w.setCell ⟨q, 2, none⟩ (.int .i64 r.ep)).setCell ⟨q, 3, none⟩ (.int .i64 r.ow)).cell? ⟨q, 5, none⟩ = _ := (pset_else (by decide)).trans h5
 have h6 : ((w.setCell ⟨q, 2, none⟩ (.int .i64 r.ep)).setCell ⟨q, 3, none⟩ (.int .i64 r.ow)).cell? ⟨q, 6, none⟩ = _ := (pset_else (by decide)).trans h6
 have h7 : ((w.setCell ⟨q, 2, none⟩ (.int .i64 r.ep)).setCell ⟨q, 3, none⟩ (.int .i64 r.ow)).cell? ⟨q, 7, none⟩ = _ := (pset_else (by decide)).trans h7
 have h8 : ((w.setCell ⟨q, 2, none⟩ (.int .i64 r.ep)).setCell ⟨q, 3, none⟩ (.int .i64 r.ow)).cell? ⟨q, 8, none⟩ = _ := (pset_else (by decide)).trans h8
 have h9 : ((w.setCell ⟨q, 2, none⟩ (.int .i64 r.ep)).setCell ⟨q, 3, none⟩ (.int .i64 r.ow)).cell? ⟨q, 9, none⟩ = _ := (pset_else (by decide)).trans h9
 have h0 : (((w.setCell ⟨q, 2, none⟩ (.int .i64 r.ep)).setCell ⟨q, 3, none⟩ (.int .i64 r.ow)).setCell ⟨q, 4, none⟩ (.int .i64 r.pa)).cell? ⟨q, 0, none⟩ = _ := (pset_else (by decide)).trans h0
 have h1 : (((w.setCell ⟨q, 2, none⟩ (.int .i64 r.ep)).setCell ⟨q, 3, none⟩ (.int .i64 r.ow)).setCell ⟨q, 4, none⟩ (.int .i64 r.pa)).cell? ⟨q, 1, none⟩ = _ := (pset_else (by decide)).trans h1
 have h2 : (((w.setCell ⟨q, 2, none⟩ (.int .i64 r.ep)).setCell ⟨q, 3, none⟩ (.int .i64 r.ow)).setCell ⟨q, 4, none⟩ (.int .i64 r.pa)).cell? ⟨q, 2, none⟩ = _ := (pset_else (by decide)).trans h2
 have h3 : (((w.setCell ⟨q, 2, none⟩ (.int .i64 r.ep)).setCell ⟨q, 3, none⟩ (.int .i64 r.ow)).setCell ⟨q, 4, none⟩ (.int .i64 r.pa)).cell? ⟨q, 3, none⟩ = _ := (pset_else (by decide)).trans h3
 have h4 : (((w.setCell ⟨q, 2, none⟩ (.int .i64 r.ep)).setCell ⟨q, 3, none⟩ (.int .i64 r.ow)).setCell ⟨q, 4, none⟩ (.int .i64 r.pa)).cell? ⟨q, 4, none⟩ = some (.int .i64 r.pa) := pset_same h4
 have h5 : (((w.setCell ⟨q, 2, none⟩ (.int .i64 r.ep)).setCell ⟨q, 3, none⟩ (.int .i64 r.ow)).setCell ⟨q, 4, none⟩ (.int .i64 r.pa)).cell? ⟨q, 5, none⟩ = _ := (pset_else (by decide)).trans h5
 have h6 : (((w.setCell ⟨q, 2, none⟩ (.int .i64 r.ep)).setCell ⟨q, 3, none⟩ (.int .i64 r.ow)).setCell ⟨q, 4, none⟩ (.int .i64 r.pa)).cell? ⟨q, 6, none⟩ = _ := (pset_else (by decide)).trans h6
 have h7 : (((w.setCell ⟨q, 2, none⟩ (.int .i64 r.ep)).setCell ⟨q, 3, none⟩ (.int .i64 r.ow)).setCell ⟨q, 4, none⟩ (.int .i64 r.pa)).cell? ⟨q, 7, none⟩ = _ := (pset_else (by decide)).trans h7
 have h8 : (((w.setCell ⟨q, 2, none⟩ (.int .i64 r.ep)).setCell ⟨q, 3, none⟩ (.int .i64 r.ow)).setCell ⟨q, 4, none⟩ (.int .i64 r.pa)).cell? ⟨q, 8, none⟩ = _ := (pset_else (by decide)).trans h8
 have h9 : (((w.setCell ⟨q, 2, none⟩ (.int .i64 r.ep)).setCell ⟨q, 3, none⟩ (.int .i64 r.ow)).setCell ⟨q, 4, none⟩ (.int .i64 r.pa)).cell? ⟨q, 9, none⟩ = _ := (pset_else (by decide)).trans h9
 exact ⟨⟨h0, h1, h2, h3, h4, h5, h6, h7, h8, h9⟩, fun i => by rw [World.frozen?_setCell, World.frozen?_setCell, World.frozen?_setCell]; exact hf i⟩
theorem FOwn.apart {X Y : Type} {e1 : X → List Value} {e2 : Y → List Value} {n1 n2 : Nat} {T1 T2 : TypeId} {b1 b2 : Nat} {w : World} {v1 v2 : Value} {L1 : List X} {L2 : List Y} (h1 : FOwn e1 n1 T1 b1 w v1 L1) (h2 : FOwn e2 n2 T2 b2 w v2 L2) (hT : T1 ≠ T2) {g : Nat} (e : v1.ownBlock = some g) : v2.ownBlock ≠ some g := by
 intro e2'
 rcases h1.2 with ⟨q, _⟩ | ⟨g1, c1, u1, q1, _, o1, _⟩
 ·
  rw [q] at e; cases e
 ·
  rcases h2.2 with ⟨q, _⟩ | ⟨g2, c2, u2, q2, _, o2, _⟩
  ·
   rw [q] at e2'; cases e2'
  ·
   rw [q1] at e
   rw [q2] at e2'
   cases e
   cases e2'
   rw [o1] at o2
   simp only [Option.some.injEq, Obj.cells.injEq] at o2
   exact hT o2.2.1
end Go.Proofs.YtnpiljegdiconabGreat
namespace Go.Proofs.YtnpiljegdiconabGreat
open Go.ChangeShapes Go.WideShapes Go.ChangeAt Go.RowKit
open Go.ChangeMaps (open_string shut_string)
set_option linter.unusedVariables false
set_option maxRecDepth 100000
end Go.Proofs.YtnpiljegdiconabGreat
namespace Go.Proofs.YtnpiljegdiconabGreat
open Go.ChangeShapes Go.WideShapes Go.ChangeAt Go.RowKit
open Go.ChangeMaps (open_string shut_string)
set_option linter.unusedVariables false
set_option maxRecDepth 100000
theorem zten {w : World} {q : Nat} (h : BxB w q BxD.zero) : w.cell? ⟨q, 0, none⟩ = some (.int .i64 0) ∧ w.cell? ⟨q, 1, none⟩ = some (.int .i64 0) ∧ w.cell? ⟨q, 2, none⟩ = some (.int .i64 0) ∧ w.cell? ⟨q, 3, none⟩ = some (.int .i64 0) ∧ w.cell? ⟨q, 4, none⟩ = some (.int .i64 0) ∧ w.cell? ⟨q, 5, none⟩ = some (.slice none 0 0) ∧ w.cell? ⟨q, 6, none⟩ = some (.slice none 0 0) ∧ w.cell? ⟨q, 7, none⟩ = some (.slice none 0 0) ∧ w.cell? ⟨q, 8, none⟩ = some (.slice none 0 0) ∧ w.cell? ⟨q, 9, none⟩ = some (.slice none 0 0) ∧ w.frozen? ⟨q, 0, none⟩ = false ∧ w.frozen? ⟨q, 1, none⟩ = false ∧ w.frozen? ⟨q, 2, none⟩ = false ∧ w.frozen? ⟨q, 3, none⟩ = false ∧ w.frozen? ⟨q, 4, none⟩ = false ∧ w.frozen? ⟨q, 5, none⟩ = false ∧ w.frozen? ⟨q, 6, none⟩ = false ∧ w.frozen? ⟨q, 7, none⟩ = false ∧ w.frozen? ⟨q, 8, none⟩ = false ∧ w.frozen? ⟨q, 9, none⟩ = false := by
 obtain ⟨⟨r0, r1, r2, r3, r4, r5, r6, r7, r8, r9⟩, rf⟩ := h
 exact ⟨r0, r1, r2, r3, r4, r5, r6, r7, r8, r9, rf 0, rf 1, rf 2, rf 3, rf 4, rf 5, rf 6, rf 7, rf 8, rf 9⟩
theorem lastS_all {M : List Ou} (h : M.length ≤ 40) : lastS M = M := by unfold lastS; rw [show M.length - 40 = 0 by omega]; rfl
theorem FView.dropO {w : World} {b : Nat} {L : List Ou} (h : FView ouEnc w (some ⟨b, 0, none⟩) L) {k : Nat} (hk : k ≤ L.length) : FView ouEnc w (some ⟨b, k * 8, none⟩) (L.drop k) := by
 intro hp
 rw [List.length_drop] at hp
 obtain ⟨b2, off, e, hc⟩ := h (by omega)
 cases e
 refine ⟨b, k * 8, rfl, fun j v hv => ?_⟩
 have e : (fcells ouEnc L)[k * 8 + j]? = some v := by
  have hL : fcells ouEnc L = fcells ouEnc (L.take k) ++ fcells ouEnc (L.drop k) := by
   rw [← fcells_app, List.take_append_drop]
  have hl : (fcells ouEnc (L.take k)).length = k * 8 := by rw [fcells_len ouEnc_len, List.length_take, Nat.min_eq_left hk]
  rw [hL, List.getElem?_append_right (by omega), hl, show k * 8 + j - k * 8 = j by omega]
  exact hv
 have := hc (k * 8 + j) v e
 simpa using this
end Go.Proofs.YtnpiljegdiconabGreat
