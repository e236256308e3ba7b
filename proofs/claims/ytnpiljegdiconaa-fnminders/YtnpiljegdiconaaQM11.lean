import Derived.Test.YtnpiljegdiconaaQM12
namespace Go.Proofs.Ytnpiljegdiconaa
open Go.ChangeShapes Go.WideShapes Go.ChangeAt Go.RowKit
open Go.ChangeMaps (open_string shut_string)
set_option linter.unusedVariables false
set_option maxRecDepth 100000
def Wi.nil : Wi := ⟨0, false, 0, 0, ikN⟩
structure MiD where
 m : Mi
 ad : Option Addr
 cap : Nat
def MiD.nil : MiD := ⟨Mi.nil, none, 0⟩
def wiEnc (x : Wi) : List Value := [.int .i64 x.fr, .bool x.ak, .int .i64 x.li, .int .i64 x.n, .int .i64 x.x.k, .int .i64 x.x.q, .int .i64 x.x.r, .int .i64 x.x.c, .int .i64 x.x.b, .int .i64 x.x.p, .int .i64 x.x.h, .bool x.x.up]
theorem wiEnc_len (x : Wi) : (wiEnc x).length = 12 := rfl
theorem wiEnc_ones (L : List Wi) : ∀ u ∈ fcells wiEnc L, u.oneCell' = true := by
 induction L with
 | nil => intro u h; cases h
 | cons x L ih =>
  intro u h
  simp only [fcells, wiEnc, List.mem_append, List.mem_cons, List.not_mem_nil, or_false] at h
  rcases h with (rfl | rfl | rfl | rfl | rfl | rfl | rfl | rfl | rfl | rfl | rfl | rfl) | h
  ·
   rfl
  ·
   rfl
  ·
   rfl
  ·
   rfl
  ·
   rfl
  ·
   rfl
  ·
   rfl
  ·
   rfl
  ·
   rfl
  ·
   rfl
  ·
   rfl
  ·
   rfl
  ·
   exact ih u h
structure WiAtO (w : World) (b o : Nat) (x : Wi) : Prop where
 c0 : w.cell? ⟨b, o, none⟩ = some (.int .i64 x.fr)
 c1 : w.cell? ⟨b, o + 1, none⟩ = some (.bool x.ak)
 c2 : w.cell? ⟨b, o + 2, none⟩ = some (.int .i64 x.li)
 c3 : w.cell? ⟨b, o + 3, none⟩ = some (.int .i64 x.n)
 c4 : w.cell? ⟨b, o + 4, none⟩ = some (.int .i64 x.x.k)
 c5 : w.cell? ⟨b, o + 5, none⟩ = some (.int .i64 x.x.q)
 c6 : w.cell? ⟨b, o + 6, none⟩ = some (.int .i64 x.x.r)
 c7 : w.cell? ⟨b, o + 7, none⟩ = some (.int .i64 x.x.c)
 c8 : w.cell? ⟨b, o + 8, none⟩ = some (.int .i64 x.x.b)
 c9 : w.cell? ⟨b, o + 9, none⟩ = some (.int .i64 x.x.p)
 c10 : w.cell? ⟨b, o + 10, none⟩ = some (.int .i64 x.x.h)
 c11 : w.cell? ⟨b, o + 11, none⟩ = some (.bool x.x.up)
theorem wiAtO_of {w : World} {b o : Nat} {x : Wi} (h : ∀ j v, (wiEnc x)[j]? = some v → w.cell? ⟨b, o + j, none⟩ = some v) : WiAtO w b o x := ⟨h 0 _ rfl, h 1 _ rfl, h 2 _ rfl, h 3 _ rfl, h 4 _ rfl, h 5 _ rfl, h 6 _ rfl, h 7 _ rfl, h 8 _ rfl, h 9 _ rfl, h 10 _ rfl, h 11 _ rfl⟩
def mdEnc (x : MiD) : List Value := [.bool x.m.up, .int .i64 x.m.li, .int .i64 x.m.ep, .slice x.ad x.m.lg.length x.cap, .int .i64 x.m.sd, .int .i64 x.m.ac, .int .i64 x.m.al]
theorem mdEnc_len (x : MiD) : (mdEnc x).length = 7 := rfl
theorem mdEnc_ones (L : List MiD) : ∀ u ∈ fcells mdEnc L, u.oneCell' = true := by
 induction L with
 | nil => intro u h; cases h
 | cons x L ih =>
  intro u h
  simp only [fcells, mdEnc, List.mem_append, List.mem_cons, List.not_mem_nil, or_false] at h
  rcases h with (rfl | rfl | rfl | rfl | rfl | rfl | rfl) | h
  ·
   rfl
  ·
   rfl
  ·
   rfl
  ·
   rfl
  ·
   rfl
  ·
   rfl
  ·
   rfl
  ·
   exact ih u h
structure MdAtO (w : World) (b o : Nat) (x : MiD) : Prop where
 c0 : w.cell? ⟨b, o, none⟩ = some (.bool x.m.up)
 c1 : w.cell? ⟨b, o + 1, none⟩ = some (.int .i64 x.m.li)
 c2 : w.cell? ⟨b, o + 2, none⟩ = some (.int .i64 x.m.ep)
 c3 : w.cell? ⟨b, o + 3, none⟩ = some (.slice x.ad x.m.lg.length x.cap)
 c4 : w.cell? ⟨b, o + 4, none⟩ = some (.int .i64 x.m.sd)
 c5 : w.cell? ⟨b, o + 5, none⟩ = some (.int .i64 x.m.ac)
 c6 : w.cell? ⟨b, o + 6, none⟩ = some (.int .i64 x.m.al)
theorem mdAtO_of {w : World} {b o : Nat} {x : MiD} (h : ∀ j v, (mdEnc x)[j]? = some v → w.cell? ⟨b, o + j, none⟩ = some v) : MdAtO w b o x := ⟨h 0 _ rfl, h 1 _ rfl, h 2 _ rfl, h 3 _ rfl, h 4 _ rfl, h 5 _ rfl, h 6 _ rfl⟩
structure BxD where
 id : Int
 po : Int
 rg : Rg
 two : List MiD
 aT : Option Addr
 cT : Nat
 net : List Wi
 aN : Option Addr
 cN : Nat
 ga : List Bool
 aG : Option Addr
 cG : Nat
 ln : List Ik
 aL : Option Addr
 cL : Nat
 sd : List Ou
 aS : Option Addr
 cS : Nat
def BxD.p (x : BxD) : Bx := ⟨x.id, x.po, x.rg, x.two.map MiD.m, x.net, x.ga, x.ln, x.sd⟩
structure BxAt (w : World) (q : Nat) (x : BxD) : Prop where
 c0 : w.cell? ⟨q, 0, none⟩ = some (.int .i64 x.id)
 c1 : w.cell? ⟨q, 1, none⟩ = some (.int .i64 x.po)
 c2 : w.cell? ⟨q, 2, none⟩ = some (.int .i64 x.rg.ep)
 c3 : w.cell? ⟨q, 3, none⟩ = some (.int .i64 x.rg.ow)
 c4 : w.cell? ⟨q, 4, none⟩ = some (.int .i64 x.rg.pa)
 c5 : w.cell? ⟨q, 5, none⟩ = some (.slice x.aT x.two.length x.cT)
 c6 : w.cell? ⟨q, 6, none⟩ = some (.slice x.aN x.net.length x.cN)
 c7 : w.cell? ⟨q, 7, none⟩ = some (.slice x.aG x.ga.length x.cG)
 c8 : w.cell? ⟨q, 8, none⟩ = some (.slice x.aL x.ln.length x.cL)
 c9 : w.cell? ⟨q, 9, none⟩ = some (.slice x.aS x.sd.length x.cS)
theorem BxAt.keep {w w' : World} {q : Nat} {x : BxD} (h : BxAt w q x) (k : w'.heap[q]? = w.heap[q]?) : BxAt w' q x :=
 ⟨(World.cell?_of_block (a := ⟨q, 0, none⟩) k).trans h.c0, (World.cell?_of_block (a := ⟨q, 1, none⟩) k).trans h.c1, (World.cell?_of_block (a := ⟨q, 2, none⟩) k).trans h.c2, (World.cell?_of_block (a := ⟨q, 3, none⟩) k).trans h.c3, (World.cell?_of_block (a := ⟨q, 4, none⟩) k).trans h.c4, (World.cell?_of_block (a := ⟨q, 5, none⟩) k).trans h.c5, (World.cell?_of_block (a := ⟨q, 6, none⟩) k).trans h.c6, (World.cell?_of_block (a := ⟨q, 7, none⟩) k).trans h.c7, (World.cell?_of_block (a := ⟨q, 8, none⟩) k).trans h.c8, (World.cell?_of_block (a := ⟨q, 9, none⟩) k).trans h.c9⟩
theorem BxAt.below {w w' : World} {q n : Nat} {x : BxD} (h : BxAt w q x) (k : Below n w w') (hq : q < n) : BxAt w' q x := h.keep (k.block q hq)
theorem BxAt.lt {w : World} {q : Nat} {x : BxD} (h : BxAt w q x) : q < w.heap.size := World.block_lt_of_cell? w _ h.c0
theorem BxAt.new (w : World) (t : TypeId) (x : BxD) : BxAt (w.alloc (Obj.cells #[.int .i64 x.id, .int .i64 x.po, .int .i64 x.rg.ep, .int .i64 x.rg.ow, .int .i64 x.rg.pa, .slice x.aT x.two.length x.cT, .slice x.aN x.net.length x.cN, .slice x.aG x.ga.length x.cG, .slice x.aL x.ln.length x.cL, .slice x.aS x.sd.length x.cS] t)) w.heap.size x := by
 refine ⟨?_, ?_, ?_, ?_, ?_, ?_, ?_, ?_, ?_, ?_⟩ <;> simp [go_sem]
structure BxV (w : World) (x : BxD) : Prop where
 t : FView mdEnc w x.aT x.two
 l : ∀ i, i < x.two.length → FView ikEnc w (x.two.getD i MiD.nil).ad (x.two.getD i MiD.nil).m.lg
 n : FView wiEnc w x.aN x.net
 g : FView boEnc w x.aG x.ga
 i : FView ikEnc w x.aL x.ln
 s : FView ouEnc w x.aS x.sd
 bt : x.two.length ≤ 1048576
 bl : ∀ i, i < x.two.length → (x.two.getD i MiD.nil).m.lg.length ≤ 1048576
 bn : x.net.length ≤ 1048576
 bg : x.ga.length ≤ 1048576
 bi : x.ln.length ≤ 1048576
 bs : x.sd.length ≤ 1048576
 ct : x.two.length ≤ x.cT
theorem BxV.later {w w' : World} {x : BxD} (h : BxV w x) (k : Below w.heap.size w w') : BxV w' x :=
 ⟨h.t.below k (h.t.lt mdEnc_len (by omega)), fun i hi => (h.l i hi).below k ((h.l i hi).lt ikEnc_len (by omega)), h.n.below k (h.n.lt wiEnc_len (by omega)), h.g.below k (h.g.lt boEnc_len (by omega)), h.i.below k (h.i.lt ikEnc_len (by omega)), h.s.below k (h.s.lt ouEnc_len (by omega)), h.bt, h.bl, h.bn, h.bg, h.bi, h.bs, h.ct⟩
theorem mOf_p (x : BxD) (s : Int) : mOf x.p s = (x.two.getD s.toNat MiD.nil).m := by
 unfold mOf BxD.p
 simp only [List.getD, List.getElem?_map]
 cases x.two[s.toNat]? <;> rfl
theorem MiBox.put {w : World} {q : Nat} {m : Mi} {v : Value} (h : MiBox w q m v) (m' : Mi) (v' : Value) : MiBox (((((((w.setCell ⟨q, 0, none⟩ (.bool m'.up)).setCell ⟨q, 1, none⟩ (.int .i64 m'.li)).setCell ⟨q, 2, none⟩ (.int .i64 m'.ep)).setCell ⟨q, 3, none⟩ (v')).setCell ⟨q, 4, none⟩ (.int .i64 m'.sd)).setCell ⟨q, 5, none⟩ (.int .i64 m'.ac)).setCell ⟨q, 6, none⟩ (.int .i64 m'.al)) q m' v' := by
 obtain ⟨h0, h1, h2, h3, h4, h5, h6, hf⟩ := h
 have h0 : (w.setCell ⟨q, 0, none⟩ (.bool m'.up)).cell? ⟨q, 0, none⟩ = some (.bool m'.up) := pset_same h0
 have h1 : (w.setCell ⟨q, 0, none⟩ (.bool m'.up)).cell? ⟨q, 1, none⟩ = _ := (pset_else (by decide)).trans h1
 have h2 : (w.setCell ⟨q, 0, none⟩ (.bool m'.up)).cell? ⟨q, 2, none⟩ = _ := (pset_else (by decide)).trans h2
 have h3 : (w.setCell ⟨q, 0, none⟩ (.bool m'.up)).cell? ⟨q, 3, none⟩ = _ := (pset_else (by decide)).trans h3
 have h4 : (w.setCell ⟨q, 0, none⟩ (.bool m'.up)).cell? ⟨q, 4, none⟩ = _ := (pset_else (by decide)).trans h4
 have h5 : (w.setCell ⟨q, 0, none⟩ (.bool m'.up)).cell? ⟨q, 5, none⟩ = _ := (pset_else (by decide)).trans h5
 have h6 : (w.setCell ⟨q, 0, none⟩ (.bool m'.up)).cell? ⟨q, 6, none⟩ = _ := (pset_else (by decide)).trans h6
 have h0 : ((w.setCell ⟨q, 0, none⟩ (.bool m'.up)).setCell ⟨q, 1, none⟩ (.int .i64 m'.li)).cell? ⟨q, 0, none⟩ = _ := (pset_else (by decide)).trans h0
 have h1 : ((w.setCell ⟨q, 0, none⟩ (.bool m'.up)).setCell ⟨q, 1, none⟩ (.int .i64 m'.li)).cell? ⟨q, 1, none⟩ = some (.int .i64 m'.li) := pset_same h1
 have h2 : ((w.setCell ⟨q, 0, none⟩ (.bool m'.up)).setCell ⟨q, 1, none⟩ (.int .i64 m'.li)).cell? ⟨q, 2, none⟩ = _ := (pset_else (by decide)).trans h2
 have h3 : ((w.setCell ⟨q, 0, none⟩ (.bool m'.up)).setCell ⟨q, 1, none⟩ (.int .i64 m'.li)).cell? ⟨q, 3, none⟩ = _ := (pset_else (by decide)).trans h3
 have h4 : ((w.setCell ⟨q, 0, none⟩ (.bool m'.up)).setCell ⟨q, 1, none⟩ (.int .i64 m'.li)).cell? ⟨q, 4, none⟩ = _ := (pset_else (by decide)).trans h4
 have h5 : ((w.setCell ⟨q, 0, none⟩ (.bool m'.up)).setCell ⟨q, 1, none⟩ (.int .i64 m'.li)).cell? ⟨q, 5, none⟩ = _ := (pset_else (by decide)).trans h5
 have h6 : ((w.setCell ⟨q, 0, none⟩ (.bool m'.up)).setCell ⟨q, 1, none⟩ (.int .i64 m'.li)).cell? ⟨q, 6, none⟩ = _ := (pset_else (by decide)).trans h6
 have h0 : (((w.setCell ⟨q, 0, none⟩ (.bool m'.up)).setCell ⟨q, 1, none⟩ (.int .i64 m'.li)).setCell ⟨q, 2, none⟩ (.int .i64 m'.ep)).cell? ⟨q, 0, none⟩ = _ := (pset_else (by decide)).trans h0
 have h1 : (((w.setCell ⟨q, 0, none⟩ (.bool m'.up)).setCell ⟨q, 1, none⟩ (.int .i64 m'.li)).setCell ⟨q, 2, none⟩ (.int .i64 m'.ep)).cell? ⟨q, 1, none⟩ = _ := (pset_else (by decide)).trans h1
 have h2 : (((w.setCell ⟨q, 0, none⟩ (.bool m'.up)).setCell ⟨q, 1, none⟩ (.int .i64 m'.li)).setCell ⟨q, 2, none⟩ (.int .i64 m'.ep)).cell? ⟨q, 2, none⟩ = some (.int .i64 m'.ep) := pset_same h2
 have h3 : (((w.setCell ⟨q, 0, none⟩ (.bool m'.up)).setCell ⟨q, 1, none⟩ (.int .i64 m'.li)).setCell ⟨q, 2, none⟩ (.int .i64 m'.ep)).cell? ⟨q, 3, none⟩ = _ := (pset_else (by decide)).trans h3
 have h4 : (((w.setCell ⟨q, 0, none⟩ (.bool m'.up)).setCell ⟨q, 1, none⟩ (.int .i64 m'.li)).setCell ⟨q, 2, none⟩ (.int .i64 m'.ep)).cell? ⟨q, 4, none⟩ = _ := (pset_else (by decide)).trans h4
 have h5 : (((w.setCell ⟨q, 0, none⟩ (.bool m'.up)).setCell ⟨q, 1, none⟩ (.int .i64 m'.li)).setCell ⟨q, 2, none⟩ (.int .i64 m'.ep)).cell? ⟨q, 5, none⟩ = _ := (pset_else (by decide)).trans h5
 have h6 : (((w.setCell ⟨q, 0, none⟩ (.bool m'.up)).setCell ⟨q, 1, none⟩ (.int .i64 m'.li)).setCell ⟨q, 2, none⟩ (.int .i64 m'.ep)).cell? ⟨q, 6, none⟩ = _ := (pset_else (by decide)).trans h6
 have h0 : ((((w.setCell ⟨q, 0, none⟩ (.bool m'.up)).setCell ⟨q, 1, none⟩ (.int .i64 m'.li)).setCell ⟨q, 2, none⟩ (.int .i64 m'.ep)).setCell ⟨q, 3, none⟩ (v')).cell? ⟨q, 0, none⟩ = _ := (pset_else (by decide)).trans h0
 have h1 : ((((w.setCell ⟨q, 0, none⟩ (.bool m'.up)).setCell ⟨q, 1, none⟩ (.int .i64 m'.li)).setCell ⟨q, 2, none⟩ (.int .i64 m'.ep)).setCell ⟨q, 3, none⟩ (v')).cell? ⟨q, 1, none⟩ = _ := (pset_else (by decide)).trans h1
 have h2 : ((((w.setCell ⟨q, 0, none⟩ (.bool m'.up)).setCell ⟨q, 1, none⟩ (.int .i64 m'.li)).setCell ⟨q, 2, none⟩ (.int .i64 m'.ep)).setCell ⟨q, 3, none⟩ (v')).cell? ⟨q, 2, none⟩ = _ := (pset_else (by decide)).trans h2
 have h3 : ((((w.setCell ⟨q, 0, none⟩ (.bool m'.up)).setCell ⟨q, 1, none⟩ (.int .i64 m'.li)).setCell ⟨q, 2, none⟩ (.int .i64 m'.ep)).setCell ⟨q, 3, none⟩ (v')).cell? ⟨q, 3, none⟩ = some (v') := pset_same h3
 have h4 : ((((w.setCell ⟨q, 0, none⟩ (.bool m'.up)).setCell ⟨q, 1, none⟩ (.int .i64 m'.li)).setCell ⟨q, 2, none⟩ (.int .i64 m'.ep)).setCell ⟨q, 3, none⟩ (v')).cell? ⟨q, 4, none⟩ = _ := (pset_else (by decide)).trans h4
 have h5 : ((((w.setCell ⟨q, 0, none⟩ (.bool m'.up)).setCell ⟨q, 1, none⟩ (.int .i64 m'.li)).setCell ⟨q, 2, none⟩ (.int .i64 m'.ep)).setCell ⟨q, 3, none⟩ (v')).cell? ⟨q, 5, none⟩ = _ := (pset_else (by decide)).trans h5
 have h6 : ((((w.setCell ⟨q, 0, none⟩ (.bool m'.up)).setCell ⟨q, 1, none⟩ (.int .i64 m'.li)).setCell ⟨q, 2, none⟩ (.int .i64 m'.ep)).setCell ⟨q, 3, none⟩ (v')).cell? ⟨q, 6, none⟩ = _ := (pset_else (by decide)).trans h6
 have h0 : (((((w.setCell ⟨q, 0, none⟩ (.bool m'.up)).setCell ⟨q, 1, none⟩ (.int .i64 m'.li)).setCell ⟨q, 2, none⟩ (.int .i64 m'.ep)).setCell ⟨q, 3, none⟩ (v')).setCell ⟨q, 4, none⟩ (.int .i64 m'.sd)).cell? ⟨q, 0, none⟩ = _ := (pset_else (by decide)).trans h0
 have h1 : (((((w.setCell ⟨q, 0, none⟩ (.bool m'.up)).setCell ⟨q, 1, none⟩ (.int .i64 m'.li)).setCell ⟨q, 2, none⟩ (.int .i64 m'.ep)).setCell ⟨q, 3, none⟩ (v')).setCell ⟨q, 4, none⟩ (.int .i64 m'.sd)).cell? ⟨q, 1, none⟩ = _ := (pset_else (by decide)).trans h1
 have h2 : (((((w.setCell ⟨q, 0, none⟩ (.bool m'.up)).setCell ⟨q, 1, none⟩ (.int .i64 m'.li)).setCell ⟨q, 2, none⟩ (.int .i64 m'.ep)).setCell ⟨q, 3, none⟩ (v')).setCell ⟨q, 4, none⟩ (.int .i64 m'.sd)).cell? ⟨q, 2, none⟩ = _ := (pset_else (by decide)).trans h2
 have h3 : (((((w.setCell ⟨q, 0, none⟩ (.bool m'.up)).setCell ⟨q, 1, none⟩ (.int .i64 m'.li)).setCell ⟨q, 2, none⟩ (.int .i64 m'.ep)).setCell ⟨q, 3, none⟩ (v')).setCell ⟨q, 4, none⟩ (.int .i64 m'.sd)).cell? ⟨q, 3, none⟩ = _ := (pset_else (by decide)).trans h3
 have h4 : (((((w.setCell ⟨q, 0, none⟩ (.bool m'.up)).setCell ⟨q, 1, none⟩ (.int .i64 m'.li)).setCell ⟨q, 2, none⟩ (.int .i64 m'.ep)).setCell ⟨q, 3, none⟩ (v')).setCell ⟨q, 4, none⟩ (.int .i64 m'.sd)).cell? ⟨q, 4, none⟩ = some (.int .i64 m'.sd) := pset_same h4
 have h5 : (((((w.setCell ⟨q, 0, none⟩ (.bool m'.up)).setCell ⟨q, 1, none⟩ (.int .i64 m'.li)).setCell ⟨q, 2, none⟩ (.int .i64 m'.ep)).setCell ⟨q, 3, none⟩ (v')).setCell ⟨q, 4, none⟩ (.int .i64 m'.sd)).cell? ⟨q, 5, none⟩ = _ := (pset_else (by decide)).trans h5
 have h6 : (((((w.setCell ⟨q, 0, none⟩ (.bool m'.up)).setCell ⟨q, 1, none⟩ (.int .i64 m'.li)).setCell ⟨q, 2, none⟩ (.int .i64 m'.ep)).setCell ⟨q, 3, none⟩ (v')).setCell ⟨q, 4, none⟩ (.int .i64 m'.sd)).cell? ⟨q, 6, none⟩ = _ := (pset_else (by decide)).trans h6
 have h0 : ((((((w.setCell ⟨q, 0, none⟩ (.bool m'.up)).setCell ⟨q, 1, none⟩ (.int .i64 m'.li)).setCell ⟨q, 2, none⟩ (.int .i64 m'.ep)).setCell ⟨q, 3, none⟩ (v')).setCell ⟨q, 4, none⟩ (.int .i64 m'.sd)).setCell ⟨q, 5, none⟩ (.int .i64 m'.ac)).cell? ⟨q, 0, none⟩ = _ := (pset_else (by decide)).trans h0
 have h1 : ((((((w.setCell ⟨q, 0, none⟩ (.bool m'.up)).setCell ⟨q, 1, none⟩ (.int .i64 m'.li)).setCell ⟨q, 2, none⟩ (.int .i64 m'.ep)).setCell ⟨q, 3, none⟩ (v')).setCell ⟨q, 4, none⟩ (.int .i64 m'.sd)).setCell ⟨q, 5, none⟩ (.int .i64 m'.ac)).cell? ⟨q, 1, none⟩ = _ := (pset_else (by decide)).trans h1
 have h2 : ((((((w.setCell ⟨q, 0, none⟩ (.bool m'.up)).setCell ⟨q, 1, none⟩ (.int .i64 m'.li)).setCell ⟨q, 2, none⟩ (.int .i64 m'.ep)).setCell ⟨q, 3, none⟩ (v')).setCell ⟨q, 4, none⟩ (.int .i64 m'.sd)).setCell ⟨q, 5, none⟩ (.int .i64 m'.ac)).cell? ⟨q, 2, none⟩ = _ := (pset_else (by decide)).trans h2
 have h3 : ((((((w.setCell ⟨q, 0, none⟩ (.bool m'.up)).setCell ⟨q, 1, none⟩ (.int .i64 m'.li)).setCell ⟨q, 2, none⟩ (.int .i64 m'.ep)).setCell ⟨q, 3, none⟩ (v')).setCell ⟨q, 4, none⟩ (.int .i64 m'.sd)).setCell ⟨q, 5, none⟩ (.int .i64 m'.ac)).cell? ⟨q, 3, none⟩ = _ := (pset_else (by decide)).trans h3
 have h4 : ((((((w.setCell ⟨q, 0, none⟩ (.bool m'.up)).setCell ⟨q, 1, none⟩ (.int .i64 m'.li)).setCell ⟨q, 2, none⟩ (.int .i64 m'.ep)).setCell ⟨q, 3, none⟩ (v')).setCell ⟨q, 4, none⟩ (.int .i64 m'.sd)).setCell ⟨q, 5, none⟩ (.int .i64 m'.ac)).cell? ⟨q, 4, none⟩ = _ := (pset_else (by decide)).trans h4
 have h5 : ((((((w.setCell ⟨q, 0, none⟩ (.bool m'.up)).setCell ⟨q, 1, none⟩ (.int .i64 m'.li)).setCell ⟨q, 2, none⟩ (.int .i64 m'.ep)).setCell ⟨q, 3, none⟩ (v')).setCell ⟨q, 4, none⟩ (.int .i64 m'.sd)).setCell ⟨q, 5, none⟩ (.int .i64 m'.ac)).cell? ⟨q, 5, none⟩ = some (.int .i64 m'.ac) := pset_same h5
 have h6 : ((((((w.setCell ⟨q, 0, none⟩ (.bool m'.up)).setCell ⟨q, 1, none⟩ (.int .i64 m'.li)).setCell ⟨q, 2, none⟩ (.int .i64 m'.ep)).setCell ⟨q, 3, none⟩ (v')).setCell ⟨q, 4, none⟩ (.int .i64 m'.sd)).setCell ⟨q, 5, none⟩ (.int .i64 m'.ac)).cell? ⟨q, 6, none⟩ = _ := (pset_else (by decide)).trans h6
 have h0 : (((((((w.setCell ⟨q, 0, none⟩ (.bool m'.up)).setCell ⟨q, 1, none⟩ (.int .i64 m'.li)).setCell ⟨q, 2, none⟩ (.int .i64 m'.ep)).setCell ⟨q, 3, none⟩ (v')).setCell ⟨q, 4, none⟩ (.int .i64 m'.sd)).setCell ⟨q, 5, none⟩ (.int .i64 m'.ac)).setCell ⟨q, 6, none⟩ (.int .i64 m'.al)).cell? ⟨q, 0, none⟩ = _ := (pset_else (by decide)).trans h0
 have h1 : (((((((w.setCell ⟨q, 0, none⟩ (.bool m'.up)).setCell ⟨q, 1, none⟩ (.int .i64 m'.li)).setCell ⟨q, 2, none⟩ (.int .i64 m'.ep)).setCell ⟨q, 3, none⟩ (v')).setCell ⟨q, 4, none⟩ (.int .i64 m'.sd)).setCell ⟨q, 5, none⟩ (.int .i64 m'.ac)).setCell ⟨q, 6, none⟩ (.int .i64 m'.al)).cell? ⟨q, 1, none⟩ = _ := (pset_else (by decide)).trans h1
 have h2 : (((((((w.setCell ⟨q, 0, none⟩ (.bool m'.up)).setCell ⟨q, 1, none⟩ (.int .i64 m'.li)).setCell ⟨q, 2, none⟩ (.int .i64 m'.ep)).setCell ⟨q, 3, none⟩ (v')).setCell ⟨q, 4, none⟩ (.int .i64 m'.sd)).setCell ⟨q, 5, none⟩ (.int .i64 m'.ac)).setCell ⟨q, 6, none⟩ (.int .i64 m'.al)).cell? ⟨q, 2, none⟩ = _ := (pset_else (by decide)).trans h2
 have h3 : (((((((w.setCell ⟨q, 0, none⟩ (.bool m'.up)).setCell ⟨q, 1, none⟩ (.int .i64 m'.li)).setCell ⟨q, 2, none⟩ (.int .i64 m'.ep)).setCell ⟨q, 3, none⟩ (v')).setCell ⟨q, 4, none⟩ (.int .i64 m'.sd)).setCell ⟨q, 5, none⟩ (.int .i64 m'.ac)).setCell ⟨q, 6, none⟩ (.int .i64 m'.al)).cell? ⟨q, 3, none⟩ = _ := (pset_else (by decide)).trans h3
 have h4 : (((((((w.setCell ⟨q, 0, none⟩ (.bool m'.up)).setCell ⟨q, 1, none⟩ (.int .i64 m'.li)).setCell ⟨q, 2, none⟩ (.int .i64 m'.ep)).setCell ⟨q, 3, none⟩ (v')).setCell ⟨q, 4, none⟩ (.int .i64 m'.sd)).setCell ⟨q, 5, none⟩ (.int .i64 m'.ac)).setCell ⟨q, 6, none⟩ (.int .i64 m'.al)).cell? ⟨q, 4, none⟩ = _ := (pset_else (by decide)).trans h4
 have h5 : (((((((w.setCell ⟨q, 0, none⟩ (.bool m'.up)).setCell ⟨q, 1, none⟩ (.int .i64 m'.li)).setCell ⟨q, 2, none⟩ (.int .i64 m'.ep)).setCell ⟨q, 3, none⟩ (v')).setCell ⟨q, 4, none⟩ (.int .i64 m'.sd)).setCell ⟨q, 5, none⟩ (.int .i64 m'.ac)).setCell ⟨q, 6, none⟩ (.int .i64 m'.al)).cell? ⟨q, 5, none⟩ = _ := (pset_else (by decide)).trans h5
 have h6 : (((((((w.setCell ⟨q, 0, none⟩ (.bool m'.up)).setCell ⟨q, 1, none⟩ (.int .i64 m'.li)).setCell ⟨q, 2, none⟩ (.int .i64 m'.ep)).setCell ⟨q, 3, none⟩ (v')).setCell ⟨q, 4, none⟩ (.int .i64 m'.sd)).setCell ⟨q, 5, none⟩ (.int .i64 m'.ac)).setCell ⟨q, 6, none⟩ (.int .i64 m'.al)).cell? ⟨q, 6, none⟩ = some (.int .i64 m'.al) := pset_same h6
 refine ⟨h0, h1, h2, h3, h4, h5, h6, fun i => ?_⟩
 rw [World.frozen?_setCell, World.frozen?_setCell, World.frozen?_setCell, World.frozen?_setCell, World.frozen?_setCell, World.frozen?_setCell, World.frozen?_setCell]
 exact hf i
theorem heap_put7 (w : World) (q k : Nat) (m' : Mi) (v' : Value) (h : k ≠ q) : ((((((((w.setCell ⟨q, 0, none⟩ (.bool m'.up)).setCell ⟨q, 1, none⟩ (.int .i64 m'.li)).setCell ⟨q, 2, none⟩ (.int .i64 m'.ep)).setCell ⟨q, 3, none⟩ (v')).setCell ⟨q, 4, none⟩ (.int .i64 m'.sd)).setCell ⟨q, 5, none⟩ (.int .i64 m'.ac)).setCell ⟨q, 6, none⟩ (.int .i64 m'.al))).heap[k]? = w.heap[k]? := by
 rw [Below.heap_setCell _ _ _ _ h, Below.heap_setCell _ _ _ _ h, Below.heap_setCell _ _ _ _ h, Below.heap_setCell _ _ _ _ h, Below.heap_setCell _ _ _ _ h, Below.heap_setCell _ _ _ _ h, Below.heap_setCell _ _ _ _ h]
theorem below_put7 {a w : World} {q n : Nat} (m' : Mi) (v' : Value) (h : Below n a w) (hq : n ≤ q) : Below n a (((((((w.setCell ⟨q, 0, none⟩ (.bool m'.up)).setCell ⟨q, 1, none⟩ (.int .i64 m'.li)).setCell ⟨q, 2, none⟩ (.int .i64 m'.ep)).setCell ⟨q, 3, none⟩ (v')).setCell ⟨q, 4, none⟩ (.int .i64 m'.sd)).setCell ⟨q, 5, none⟩ (.int .i64 m'.ac)).setCell ⟨q, 6, none⟩ (.int .i64 m'.al)) := (((((((h.setCell (p := ⟨q, 0, none⟩) hq _).setCell (p := ⟨q, 1, none⟩) hq _).setCell (p := ⟨q, 2, none⟩) hq _).setCell (p := ⟨q, 3, none⟩) hq _).setCell (p := ⟨q, 4, none⟩) hq _).setCell (p := ⟨q, 5, none⟩) hq _).setCell (p := ⟨q, 6, none⟩) hq _)
set_option maxHeartbeats 4000000 in
theorem miCop (m : Mi) (ad : Option Addr) (cap : Nat) (w : World) (hv : FView ikEnc w ad m.lg) (hl : m.lg.length ≤ 1048577) (hn : ad = none → cap = 0) :
  Calls Try.prog 21 #[.agg #[.bool m.up, .int .i64 m.li, .int .i64 m.ep, .slice ad m.lg.length cap, .int .i64 m.sd, .int .i64 m.ac, .int .i64 m.al]] w fun e w' => ∃ a c, e = .returned (.agg #[.bool m.up, .int .i64 m.li, .int .i64 m.ep, .slice a m.lg.length c, .int .i64 m.sd, .int .i64 m.ac, .int .i64 m.al]) ∧ FOwn ikEnc 8 30 w.heap.size w' (.slice a m.lg.length c) m.lg ∧ Below w.heap.size w w' := by
 have hB := hv.lt ikEnc_len (by omega)
 obtain ⟨y, hy⟩ := mk_ ((w.alloc (Obj.cells #[.bool m.up, .int .i64 m.li, .int .i64 m.ep, .slice ad m.lg.length cap, .int .i64 m.sd, .int .i64 m.ac, .int .i64 m.al] 26)).alloc (Obj.cells #[.bool false, .int .i64 0, .int .i64 0, .slice none 0 0, .int .i64 0, .int .i64 0, .int .i64 0] 26))
 have B0 : Below w.heap.size w y := by rw [hy]; exact ((Below.refl _ _).alloc (Nat.le_refl _) _).alloc (by simp) _
 have A0 : MiBox y w.heap.size m (.slice ad m.lg.length cap) := by rw [hy]; constructor <;> simp [go_sem]
 have A1 : MiBox y (w.heap.size + 1) ⟨false, 0, 0, [], 0, 0, 0⟩ (.slice none 0 0) := by rw [hy]; constructor <;> simp [go_sem]
 have S0 := A1.lt
 have hv1 := hv.below B0 hB
 have hB1 := hv1.lt ikEnc_len (by omega)
 obtain ⟨i1, hj, hy0, hy1, hy2⟩ := info_parts ikInfo
 have kx : Below y.heap.size y (y.alloc (Obj.cells #[] 30)) := below_new _
 have hv2 := hv1.below kx hB1
 have oE : FOwn ikEnc 8 30 y.heap.size (y.alloc (Obj.cells #[] 30)) (.slice (some ⟨y.heap.size, 0, none⟩) 0 0) ([] : List Ik) := FOwn.empty y
 have A0x := A0.below kx A0.lt
 have A1x := A1.below kx A1.lt
 go_enter Try.func21, Try.ntmps21
 go_upto_region 1 with fail
 rw [← hy]
 clear hy
 have cc := A0x
 obtain ⟨x0, x1, x2, x3, x4, x5, x6, xf⟩ := cc
 go_wp2_with (first | (at_builtin; refine fappL ikEnc_len ikEnc_ones rfl _ _ 24 rfl y.heap.size 30 i1 (.agg #[.int .i64 0, .int .i64 0, .int .i64 0, .int .i64 0, .int .i64 0, .int .i64 0, .int .i64 0, .bool false]) 64 Try.underlying24 hj hy0 hy1 hy2 rfl (by decide) (by decide) _ ([] : List Ik) rfl oE ad cap m.lg rfl hn hv2 ?z0 ?z1 ?_) | go_in)
 case z0 => simp; omega
 case z1 => simp
 intro vZ w1 hownZ hgrowZ _
 have bZ : Below y.heap.size y w1 := kx.grown hgrowZ (by simp) (fun j e => (oE.lt j e).1)
 replace hownZ : FOwn ikEnc 8 30 y.heap.size w1 vZ m.lg := hownZ
 obtain ⟨a1, c1, rfl⟩ := hownZ.open_
 clear hgrowZ x0 x1 x2 x3 x4 x5 x6 xf A0x A1x hv2 kx oE
 have A0 := A0.below bZ A0.lt
 have A1 := A1.below bZ A1.lt
 have A2 := A0.log (.slice a1 m.lg.length c1)
 have A3 := A1.keep (w' := w1.setCell ⟨w.heap.size, 3, none⟩ (.slice a1 m.lg.length c1)) (Below.heap_setCell _ _ _ _ (by show w.heap.size + 1 ≠ w.heap.size; omega))
 have lo := hownZ.lt
 have O2 : FOwn ikEnc 8 30 y.heap.size (w1.setCell ⟨w.heap.size, 3, none⟩ (.slice a1 m.lg.length c1)) (.slice a1 m.lg.length c1) m.lg := hownZ.keep (fun g e => Below.heap_setCell _ _ _ _ (by have := lo g e; show g ≠ w.heap.size; omega))
 have B2 : Below w.heap.size w (w1.setCell ⟨w.heap.size, 3, none⟩ (.slice a1 m.lg.length c1)) := (B0.trans (bZ.mono B0.size)).setCell (p := ⟨w.heap.size, 3, none⟩) (Nat.le_refl _) _
 clear bZ B0 hownZ hv1 hB1 hv hB
 have x3 := A0.c3
 have xf := A0.fr 3
 clear A0 A1
 go_upto_region 2 with fail
 obtain ⟨w2, hw2⟩ := mk_ (w1.setCell ⟨w.heap.size, 3, none⟩ (.slice a1 m.lg.length c1))
 rw [← hw2] at A2 A3 O2 B2 ⊢
 clear hw2 x3 xf
 have B4 := below_put7 (q := w.heap.size + 1) m (.slice a1 m.lg.length c1) B2 (by omega)
 have O4 := (O2.base (base' := w.heap.size) (by omega)).keep (fun g e => heap_put7 w2 (w.heap.size + 1) g m (.slice a1 m.lg.length c1) (by have := (O2.lt g e).1; omega))
 clear B2 O2 lo
 obtain ⟨x0, x1, x2, x3, x4, x5, x6, xf⟩ := A2
 obtain ⟨z0, z1, z2, z3, z4, z5, z6, zf⟩ := A3
 have g0 := zf 0
 have g1 := zf 1
 have g2 := zf 2
 have g3 := zf 3
 have g4 := zf 4
 have g5 := zf 5
 have g6 := zf 6
 clear xf zf
 go_wp2
 refine bodyPost_ret (v := .agg #[.bool m.up, .int .i64 m.li, .int .i64 m.ep, .slice a1 m.lg.length c1, .int .i64 m.sd, .int .i64 m.ac, .int .i64 m.al]) (by simp [results, Try.results21, go_sem, *]) rfl ⟨a1, c1, rfl, O4, B4⟩
theorem FView.oneK (w : World) (t : TypeId) (x : Ik) : FView ikEnc (w.alloc (Obj.cells #[.int .i64 x.k, .int .i64 x.q, .int .i64 x.r, .int .i64 x.c, .int .i64 x.b, .int .i64 x.p, .int .i64 x.h, .bool x.up] t)) (some ⟨w.heap.size, 0, none⟩) [x] := by
 intro _
 refine ⟨w.heap.size, 0, rfl, fun j v hv => ?_⟩
 simp only [fcells, ikEnc, List.append_nil] at hv
 have hj : j < 8 := (List.getElem?_eq_some_iff.1 hv).1
 rcases (by omega : j = 0 ∨ j = 1 ∨ j = 2 ∨ j = 3 ∨ j = 4 ∨ j = 5 ∨ j = 6 ∨ j = 7) with rfl | rfl | rfl | rfl | rfl | rfl | rfl | rfl <;> (cases hv; simp [go_sem])
theorem noteR_len {m : Mi} {x : Ik} (h : m.lg.length ≤ 1048576) : (noteR m x).lg.length ≤ 1048576 := by
 unfold noteR
 by_cases e : noteB m x = true
 ·
  rw [if_pos e]
  have h2 : miOk (noteM m x) = true := by unfold noteB at e; rw [Bool.and_eq_true] at e; exact e.2
  unfold miOk insB at h2
  simp only [Bool.and_eq_true, decide_eq_true_eq] at h2
  omega
 ·
  rw [if_neg e]; exact h
set_option maxHeartbeats 4000000 in
theorem noteS (m : Mi) (x : Ik) (ad : Option Addr) (cap : Nat) (w : World) (hv : FView ikEnc w ad m.lg) (hl : m.lg.length ≤ 1048576) (hn : ad = none → cap = 0) :
  Calls Try.prog 7 #[.agg #[.bool m.up, .int .i64 m.li, .int .i64 m.ep, .slice ad m.lg.length cap, .int .i64 m.sd, .int .i64 m.ac, .int .i64 m.al], .agg #[.int .i64 x.k, .int .i64 x.q, .int .i64 x.r, .int .i64 x.c, .int .i64 x.b, .int .i64 x.p, .int .i64 x.h, .bool x.up]] w fun e w' => ∃ a c, e = .returned (.tuple #[.agg #[.bool (noteR m x).up, .int .i64 (noteR m x).li, .int .i64 (noteR m x).ep, .slice a (noteR m x).lg.length c, .int .i64 (noteR m x).sd, .int .i64 (noteR m x).ac, .int .i64 (noteR m x).al], .bool (noteB m x)]) ∧ FOwn ikEnc 8 30 w.heap.size w' (.slice a (noteR m x).lg.length c) (noteR m x).lg ∧ Below w.heap.size w w' := by
 have hB := hv.lt ikEnc_len (by omega)
 obtain ⟨y, hy⟩ := mk_ (((w.alloc (Obj.cells #[.bool m.up, .int .i64 m.li, .int .i64 m.ep, .slice ad m.lg.length cap, .int .i64 m.sd, .int .i64 m.ac, .int .i64 m.al] 26)).alloc (Obj.cells #[.int .i64 x.k, .int .i64 x.q, .int .i64 x.r, .int .i64 x.c, .int .i64 x.b, .int .i64 x.p, .int .i64 x.h, .bool x.up] 30)).alloc (Obj.cells #[.bool false, .int .i64 0, .int .i64 0, .slice none 0 0, .int .i64 0, .int .i64 0, .int .i64 0] 26))
 have B0 : Below w.heap.size w y := by rw [hy]; exact (((Below.refl _ _).alloc (Nat.le_refl _) _).alloc (by simp) _).alloc (by simp; omega) _
 have A0 : MiAt y w.heap.size m (.slice ad m.lg.length cap) := by rw [hy]; constructor <;> simp [go_sem]
 have X0 : InAt y (w.heap.size + 1) x := by rw [hy]; constructor <;> simp [go_sem]
 have A1 : MiBox y (w.heap.size + 1 + 1) ⟨false, 0, 0, [], 0, 0, 0⟩ (.slice none 0 0) := by rw [hy]; constructor <;> simp [go_sem]
 have S0 := A1.lt
 have hv1 := hv.below B0 hB
 clear hv hB
 obtain ⟨i1, hj, hy0, hy1, hy2⟩ := info_parts ikInfo
 have HV : ∀ a, ad = some a → 0 < m.lg.length → a.block < y.heap.size := hv1.lt ikEnc_len (by omega)
 go_enter Try.func7, Try.ntmps7
 have cc := A0
 obtain ⟨x0, x1, x2, x3, x4, x5, x6⟩ := cc
 go_wp2_with fail
 go_at_call 21
 rw [← hy]
 clear hy x0 x1 x2 x3 x4 x5 x6
 refine (miCop m ad cap y hv1 (by omega) hn).mono ?_
 rintro e u1 ⟨a1, c1, rfl, O1, k1⟩
 have B1 := B0.trans (k1.mono B0.size)
 have A0 := A0.below k1 A0.lt
 have X0 := X0.below k1 X0.lt
 have A1 := A1.below k1 A1.lt
 have hv1 := hv1.below k1 (hv1.lt ikEnc_len (by omega))
 have s1 := k1.size
 have lo1 := O1.lt
 clear k1 B0
 obtain ⟨u2, hu2⟩ := mk_ (u1.alloc (Obj.cells #[.bool m.up, .int .i64 m.li, .int .i64 m.ep, .slice a1 m.lg.length c1, .int .i64 m.sd, .int .i64 m.ac, .int .i64 m.al] 26))
 have k2 : Below u1.heap.size u1 u2 := by rw [hu2]; exact below_new _
 have N : MiBox u2 u1.heap.size m (.slice a1 m.lg.length c1) := by rw [hu2]; exact MiBox.new u1 _ _ _
 have B2 := B1.trans (k2.mono B1.size)
 have A0 := A0.below k2 A0.lt
 have X0 := X0.below k2 X0.lt
 have A1 := A1.below k2 A1.lt
 have hv1 := hv1.below k2 (hv1.lt ikEnc_len (by omega))
 have O1 := O1.later k2
 have s2 := N.lt
 have s2' := k2.size
 obtain ⟨q, hq⟩ := mk_ u1.heap.size
 go_upto_region 2 with fail
 rw [← hu2]
 clear hu2 k2 B1
 rw [← hq] at N s2 lo1 s1 s2' ⊢
 clear hq
 have V1 := FView.oneK u2 30 x
 have kx : Below u2.heap.size u2 (u2.alloc (Obj.cells #[.int .i64 x.k, .int .i64 x.q, .int .i64 x.r, .int .i64 x.c, .int .i64 x.b, .int .i64 x.p, .int .i64 x.h, .bool x.up] 30)) := below_new _
 have O4 := O1.later kx
 have N4 := N.below kx N.lt
 have X4 := X0.below kx X0.lt
 have cc := N4
 obtain ⟨n0, n1, n2, n3, n4, n5, n6, nf⟩ := cc
 have cc := X0
 obtain ⟨e0, e1, e2, e3, e4, e5, e6, e7⟩ := cc
 have cc := N
 obtain ⟨p0, p1, p2, p3, p4, p5, p6, pf⟩ := cc
 go_wp2_with (first | (at_builtin; refine fappL ikEnc_len ikEnc_ones rfl _ _ 24 rfl y.heap.size 30 i1 (.agg #[.int .i64 0, .int .i64 0, .int .i64 0, .int .i64 0, .int .i64 0, .int .i64 0, .int .i64 0, .bool false]) 64 Try.underlying24 hj hy0 hy1 hy2 rfl (by decide) (by decide) (.slice a1 m.lg.length c1) m.lg rfl O4 (some ⟨u2.heap.size, 0, none⟩) 1 [x] rfl (fun e => by cases e) V1 ?z0 ?z1 ?_) | go_in)
 case z0 => simp; omega
 case z1 => first | omega | (simp; omega)
 intro vZ w1 hownZ hgrowZ hob
 have hqo : ∀ g, vZ.ownBlock = some g → g ≠ q := fun g e => by
  rcases hob with h | h
  ·
   rw [h] at e; have := lo1 g e; omega
  ·
   rw [h] at e; have e2 := Option.some.inj e; have := kx.size; omega
 have bZ : Below y.heap.size u2 w1 := (kx.mono (by omega)).grown hgrowZ (by have := kx.size; omega) (fun j e => (O4.lt j e).1)
 have bq : ∀ k, k < u2.heap.size → (∀ g, (Value.slice a1 m.lg.length c1).ownBlock = some g → k ≠ g) → w1.heap[k]? = u2.heap[k]? := fun k hk he => (hgrowZ.block k (Nat.lt_of_lt_of_le hk kx.size) (fun e => he k e.symm rfl)).trans (kx.block k hk)
 replace hownZ : FOwn ikEnc 8 30 y.heap.size w1 vZ (noteM m x).lg := hownZ
 obtain ⟨a2, c2, rfl⟩ := hownZ.open_
 clear n0 n1 n2 n3 n4 n5 n6 nf e0 e1 e2 e3 e4 e5 e6 e7 p0 p1 p2 p3 p4 p5 p6 pf N4 X4 V1 O4 hgrowZ
 have N := N.keep (bq q N.lt (fun g e => by have := lo1 g e; omega))
 have A0 := A0.keep (bq _ A0.lt (fun g e => by have := lo1 g e; omega))
 have A1 := A1.keep (bq _ A1.lt (fun g e => by have := lo1 g e; omega))
 have hv1 := hv1.carry (fun a e p => bZ.block _ (HV a e p))
 have s3 := bZ.size
 have B3 := B2.trans (bZ.mono (by omega))
 have lo2 := hownZ.lt
 clear bq kx bZ B2 O1 hob
 have N2 := N.log (.slice a2 (noteM m x).lg.length c2)
 obtain ⟨w2, hw2⟩ := mk_ (w1.setCell ⟨q, 3, none⟩ (.slice a2 (noteM m x).lg.length c2))
 have kw : ∀ k, k ≠ q → w2.heap[k]? = w1.heap[k]? := fun k hk => by rw [hw2]; exact Below.heap_setCell _ _ _ _ hk
 have A0 := A0.keep (kw _ (by omega))
 have A1 := A1.keep (kw _ (by omega))
 have hv1 := hv1.carry (fun a e p => kw _ (by have := HV a e p; omega))
 have O2 := hownZ.keep (fun g e => kw g (hqo g e))
 have B4 : Below w.heap.size w w2 := by rw [hw2]; exact B3.setCell (p := ⟨q, 3, none⟩) (by show _ ≤ q; omega) _
 have s4 : w1.heap.size ≤ w2.heap.size := by rw [hw2]; simp
 have n3 := N.c3
 have nf := N.fr 3
 go_upto_region 3 with fail
 rw [← hw2] at N2 ⊢
 clear hw2 kw n3 nf N hownZ B3
 have N3 : MiBox w2 q (noteM m x) (.slice a2 (noteM m x).lg.length c2) := N2.lg (m.lg ++ [x])
 clear N2
 cases hU : m.up
 ·
  have hNB : Hid (noteB m x = false) := by unfold Hid noteB; rw [hU]; rfl
  have hNR : Hid (noteR m x = m) := note_not hNB.out
  have cc := A0
  obtain ⟨x0, x1, x2, x3, x4, x5, x6⟩ := cc
  rw [hU] at x0
  go_wp2_with fail
  go_at_call 21
  clear x0 x1 x2 x3 x4 x5 x6
  rw [← hU]
  replace hU : Hid _ := hU
  refine (miCop m ad cap w2 hv1 (by omega) hn).mono ?_
  rintro e w3 ⟨a3, c3, rfl, O3, k3⟩
  have B5 := B4.trans (k3.mono B4.size)
  have A1 := A1.below k3 A1.lt
  clear k3 B4
  have B9 := below_put7 (q := w.heap.size + 1 + 1) m (.slice a3 m.lg.length c3) B5 (by omega)
  have O9 := (O3.base (base' := w.heap.size) (by omega)).keep (fun g e => heap_put7 w3 (w.heap.size + 1 + 1) g m (.slice a3 m.lg.length c3) (by have := (O3.lt g e).1; omega))
  obtain ⟨z0, z1, z2, z3, z4, z5, z6, zf⟩ := A1
  have g0 := zf 0
  have g1 := zf 1
  have g2 := zf 2
  have g3 := zf 3
  have g4 := zf 4
  have g5 := zf 5
  have g6 := zf 6
  clear zf
  go_wp2
  refine bodyPost_ret (v := .tuple #[.agg #[.bool m.up, .int .i64 m.li, .int .i64 m.ep, .slice a3 m.lg.length c3, .int .i64 m.sd, .int .i64 m.ac, .int .i64 m.al], .bool false]) (by simp [results, Try.results7, go_sem, *]) rfl ⟨a3, c3, by rw [hNR.out, hNB.out], by rw [hNR.out]; exact O9, B9⟩
 ·
  have hM : noteB m x = miOk (noteM m x) := by unfold noteB; rw [hU]; rfl
  replace hM : Hid _ := hM
  have cc := A0
  obtain ⟨x0, x1, x2, x3, x4, x5, x6⟩ := cc
  rw [hU] at x0
  have cc := N3
  obtain ⟨n0, n1, n2, n3, n4, n5, n6, nf⟩ := cc
  go_wp2_with fail
  go_at_call 14
  clear x0 x1 x2 x3 x4 x5 x6 n0 n1 n2 n3 n4 n5 n6 nf
  refine (miOkS (noteM m x) a2 c2 w2 O2.view.2 (by show (m.lg ++ [x]).length ≤ _; simp; omega)).mono ?_
  rintro e w3 ⟨rfl, k3⟩
  have B5 := B4.trans (k3.mono B4.size)
  have A0 := A0.below k3 A0.lt
  have A1 := A1.below k3 A1.lt
  have hv1 := hv1.below k3 (hv1.lt ikEnc_len (by omega))
  have O2 := O2.later k3
  have N3 := N3.below k3 N3.lt
  have s5 := k3.size
  clear k3 B4
  replace hU : Hid _ := hU
  cases hO : miOk (noteM m x)
  ·
   have hNB : Hid (noteB m x = false) := by unfold Hid; rw [hM.out, hO]
   have hNR : Hid (noteR m x = m) := note_not hNB.out
   have cc := A0
   obtain ⟨x0, x1, x2, x3, x4, x5, x6⟩ := cc
   clear hO
   go_wp2_with fail
   go_at_call 21
   clear x0 x1 x2 x3 x4 x5 x6
   refine (miCop m ad cap w3 hv1 (by omega) hn).mono ?_
   rintro e w4 ⟨a3, c3, rfl, O3, k3⟩
   have B6 := B5.trans (k3.mono B5.size)
   have A1 := A1.below k3 A1.lt
   clear k3 B5
   have B9 := below_put7 (q := w.heap.size + 1 + 1) m (.slice a3 m.lg.length c3) B6 (by omega)
   have O9 := (O3.base (base' := w.heap.size) (by omega)).keep (fun g e => heap_put7 w4 (w.heap.size + 1 + 1) g m (.slice a3 m.lg.length c3) (by have := (O3.lt g e).1; omega))
   obtain ⟨z0, z1, z2, z3, z4, z5, z6, zf⟩ := A1
   have g0 := zf 0
   have g1 := zf 1
   have g2 := zf 2
   have g3 := zf 3
   have g4 := zf 4
   have g5 := zf 5
   have g6 := zf 6
   clear zf
   go_wp2
   refine bodyPost_ret (v := .tuple #[.agg #[.bool m.up, .int .i64 m.li, .int .i64 m.ep, .slice a3 m.lg.length c3, .int .i64 m.sd, .int .i64 m.ac, .int .i64 m.al], .bool false]) (by simp [results, Try.results7, go_sem, *]) rfl ⟨a3, c3, by rw [hNR.out, hNB.out], by rw [hNR.out]; exact O9, B9⟩
  ·
   have hNB : Hid (noteB m x = true) := by unfold Hid; rw [hM.out, hO]
   have hNR : Hid (noteR m x = (noteM m x)) := by unfold Hid noteR; rw [if_pos hNB.out]
   clear hO
   obtain ⟨n0, n1, n2, n3, n4, n5, n6, nf⟩ := N3
   have B9 := below_put7 (q := w.heap.size + 1 + 1) (noteM m x) (.slice a2 (noteM m x).lg.length c2) B5 (by omega)
   have O9 := (O2.base (base' := w.heap.size) (by omega)).keep (fun g e => heap_put7 w3 (w.heap.size + 1 + 1) g (noteM m x) (.slice a2 (noteM m x).lg.length c2) (by have := (O2.lt g e).1; omega))
   obtain ⟨z0, z1, z2, z3, z4, z5, z6, zf⟩ := A1
   have g0 := zf 0
   have g1 := zf 1
   have g2 := zf 2
   have g3 := zf 3
   have g4 := zf 4
   have g5 := zf 5
   have g6 := zf 6
   clear zf
   go_wp2
   refine bodyPost_ret (v := .tuple #[.agg #[.bool (noteM m x).up, .int .i64 (noteM m x).li, .int .i64 (noteM m x).ep, .slice a2 (noteM m x).lg.length c2, .int .i64 (noteM m x).sd, .int .i64 (noteM m x).ac, .int .i64 (noteM m x).al], .bool true]) (by simp [results, Try.results7, go_sem, *]) rfl ⟨a2, c2, by rw [hNR.out, hNB.out], by rw [hNR.out]; exact O9, B9⟩
theorem wiInfo : (Try.prog.info? 125).map (fun i => (i.zero, i.size, i.bytes)) = some (some (.agg #[.int .i64 0, .bool false, .int .i64 0, .int .i64 0, .int .i64 0, .int .i64 0, .int .i64 0, .int .i64 0, .int .i64 0, .int .i64 0, .int .i64 0, .bool false]), 12, 96) := by kernel_rfl
def LS {X : Type} (enc : X → List Value) (n : Nat) (T : TypeId) (base : Nat) (W : World) (b a : Bool) (v v' : Value) (L : List X) : Prop :=
 (b = false ∧ a = false ∧ v = undef ∧ v' = undef) ∨ (b = true ∧ a = false ∧ v' = undef ∧ FOwn enc n T base W v ([] : List X)) ∨ (b = true ∧ a = true ∧ FOwn enc n T base W v' L)
theorem LS.keep {X : Type} {enc : X → List Value} {n : Nat} {T : TypeId} {base : Nat} {W W' : World} {b a : Bool} {v v' : Value} {L : List X} (h : LS enc n T base W b a v v' L) (k : ∀ (u : Value) (M : List X), FOwn enc n T base W u M → ∀ g, u.ownBlock = some g → W'.heap[g]? = W.heap[g]?) : LS enc n T base W' b a v v' L := by
 rcases h with h | ⟨h1, h2, h3, h4⟩ | ⟨h1, h2, h3⟩
 ·
  exact .inl h
 ·
  exact .inr (.inl ⟨h1, h2, h3, h4.keep (k _ _ h4)⟩)
 ·
  exact .inr (.inr ⟨h1, h2, h3.keep (k _ _ h3)⟩)
theorem LS.alloc {X : Type} {enc : X → List Value} {n : Nat} {T : TypeId} {base : Nat} {W : World} {b a : Bool} {v v' : Value} {L : List X} (h : LS enc n T base W b a v v' L) (ob : Obj) : LS enc n T base (W.alloc ob) b a v v' L :=
 h.keep (fun u M ho g e => Below.heap_alloc W ob g (ho.lt g e).2)
def ZBx (W : World) (q : Nat) : Prop := W.heap[q]? = some (Obj.cells #[.int .i64 0, .int .i64 0, .int .i64 0, .int .i64 0, .int .i64 0, .slice none 0 0, .slice none 0 0, .slice none 0 0, .slice none 0 0, .slice none 0 0] 79)
def cpL (b1 a1 b2 a2 b3 a3 b4 a4 al c : Bool) : Array Bool := #[true, true, true, true, true, true, b1, true, true, a1, b2, true, true, a2, b3, true, true, a3, b4, true, true, a4, c, al, false]
def cpN (b1 a1 b2 a2 b3 a3 b4 a4 al c : Bool) : Nat := (!b1).toNat + (!a1).toNat + (!b2).toNat + (!a2).toNat + (!b3).toNat + (!a3).toNat + (!b4).toNat + (!a4).toNat + (!al).toNat + (!c).toNat
def cpR (b1 a1 b2 a2 b3 a3 b4 a4 al c : Bool) : List Nat := (if b1 then [] else [6]) ++ (if b1 && !a1 then [9] else []) ++ (if b2 then [] else [10]) ++ (if b2 && a1 && !a2 then [13] else []) ++ (if b3 then [] else [14]) ++ (if b3 && a2 && !a3 then [17] else []) ++ (if b4 then [] else [18]) ++ (if b4 && a3 && !a4 then [21] else []) ++ (if a4 && !c then [22] else []) ++ (if al then [] else [23])
def cpF (x : BxD) (B : Nat) (v3 v11 v14 v15 v18 v19 v22 v23 v26 v27 : Value) : List Value := [.agg #[.int .i64 x.id, .int .i64 x.po, .int .i64 x.rg.ep, .int .i64 x.rg.ow, .int .i64 x.rg.pa, .slice x.aT x.two.length x.cT, .slice x.aN x.net.length x.cN, .slice x.aG x.ga.length x.cG, .slice x.aL x.ln.length x.cL, .slice x.aS x.sd.length x.cS], .pointer (some ⟨B, 0, none⟩), .pointer (some ⟨(B + 1), 0, none⟩), v3, undef, .pointer (some ⟨B, 0, none⟩), .int .i64 x.id, .pointer (some ⟨B, 1, none⟩), .int .i64 x.po, .pointer (some ⟨B, 2, none⟩), .agg #[.int .i64 x.rg.ep, .int .i64 x.rg.ow, .int .i64 x.rg.pa], v11, .pointer (some ⟨B, 6, none⟩), .slice x.aN x.net.length x.cN, v14, v15, .pointer (some ⟨B, 7, none⟩), .slice x.aG x.ga.length x.cG, v18, v19, .pointer (some ⟨B, 8, none⟩), .slice x.aL x.ln.length x.cL, v22, v23, .pointer (some ⟨B, 9, none⟩), .slice x.aS x.sd.length x.cS, v26, v27, undef, undef, undef, undef, undef, undef, undef, undef, undef, undef, undef, undef, undef, undef, undef, undef, undef, undef, undef]
def cpV (x : BxD) (v14 v18 v22 v26 : Value) : Value := .agg #[.int .i64 x.id, .int .i64 x.po, .int .i64 x.rg.ep, .int .i64 x.rg.ow, .int .i64 x.rg.pa, .slice none 0 0, v14, v18, v22, v26]
structure CpS (x : BxD) (base : Nat) (y : World) (b1 a1 b2 a2 b3 a3 b4 a4 al c : Bool) (v3 v11 v14 v15 v18 v19 v22 v23 v26 v27 : Value) (W : World) : Prop where
 bel : Below base y W
 h1 : LS wiEnc 12 125 base W b1 a1 v11 v14 x.net
 h2 : LS boEnc 1 4 base W b2 a2 v15 v18 x.ga
 h3 : LS ikEnc 8 30 base W b3 a3 v19 v22 x.ln
 h4 : LS ouEnc 8 135 base W b4 a4 v23 v26 x.sd
 k2 : a2 = true → a1 = true
 k3 : a3 = true → a2 = true
 k4 : a4 = true → a3 = true
 k5 : c = true → a4 = true
 ha : (al = false ∧ v3 = undef) ∨ (al = true ∧ ∃ q, v3 = .pointer (some ⟨q, 0, none⟩) ∧ ZBx W q ∧ base ≤ q)
 hc : (c = false ∧ v27 = undef) ∨ (c = true ∧ v27 = cpV x v14 v18 v22 v26)
def CpI (x : BxD) (B base : Nat) (y : World) (n : Nat) (listed : Array Bool) (l : List Value) (W : World) : Prop :=
 ∃ (b1 a1 b2 a2 b3 a3 b4 a4 al c : Bool) (v3 v11 v14 v15 v18 v19 v22 v23 v26 v27 : Value), n = cpN b1 a1 b2 a2 b3 a3 b4 a4 al c ∧ listed = cpL b1 a1 b2 a2 b3 a3 b4 a4 al c ∧ l = cpF x B v3 v11 v14 v15 v18 v19 v22 v23 v26 v27 ∧ CpS x base y b1 a1 b2 a2 b3 a3 b4 a4 al c v3 v11 v14 v15 v18 v19 v22 v23 v26 v27 W
theorem LS.flag {X : Type} {enc : X → List Value} {n : Nat} {T : TypeId} {base : Nat} {W : World} {b a : Bool} {v v' : Value} {L : List X} (h : LS enc n T base W b a v v' L) : a = true → b = true := by
 rcases h with h | h | h
 ·
  intro e; rw [h.2.1] at e; cases e
 ·
  intro e; rw [h.2.1] at e; cases e
 ·
  intro _; exact h.1
structure BxB (w : World) (q : Nat) (x : BxD) : Prop where
 at_ : BxAt w q x
 fr : ∀ i, w.frozen? ⟨q, i, none⟩ = false
theorem BxB.keep {w w' : World} {q : Nat} {x : BxD} (h : BxB w q x) (k : w'.heap[q]? = w.heap[q]?) : BxB w' q x :=
 ⟨h.at_.keep k, fun i => (World.frozen?_of_block (a := ⟨q, i, none⟩) k).trans (h.fr i)⟩
theorem BxB.below {w w' : World} {q n : Nat} {x : BxD} (h : BxB w q x) (k : Below n w w') (hq : q < n) : BxB w' q x := h.keep (k.block q hq)
theorem BxB.lt {w : World} {q : Nat} {x : BxD} (h : BxB w q x) : q < w.heap.size := h.at_.lt
def BxD.zero : BxD := ⟨0, 0, ⟨0, 0, 0⟩, [], none, 0, [], none, 0, [], none, 0, [], none, 0, [], none, 0⟩
theorem pe_ {w : World} {q i j : Nat} {u v : Value} (h : w.cell? ⟨q, j, none⟩ = some u) (hij : i ≠ j := by decide) : (w.setCell ⟨q, i, none⟩ v).cell? ⟨q, j, none⟩ = some u := (pset_else hij).trans h
theorem ps_ {w : World} {q i : Nat} {u v : Value} (h : w.cell? ⟨q, i, none⟩ = some u) : (w.setCell ⟨q, i, none⟩ v).cell? ⟨q, i, none⟩ = some v := pset_same h
theorem BxB.put {w : World} {q : Nat} {x0 : BxD} (h : BxB w q x0) (x : BxD) : BxB ((((((((((w.setCell ⟨q, 0, none⟩ (.int .i64 x.id)).setCell ⟨q, 1, none⟩ (.int .i64 x.po)).setCell ⟨q, 2, none⟩ (.int .i64 x.rg.ep)).setCell ⟨q, 3, none⟩ (.int .i64 x.rg.ow)).setCell ⟨q, 4, none⟩ (.int .i64 x.rg.pa)).setCell ⟨q, 5, none⟩ (.slice x.aT x.two.length x.cT)).setCell ⟨q, 6, none⟩ (.slice x.aN x.net.length x.cN)).setCell ⟨q, 7, none⟩ (.slice x.aG x.ga.length x.cG)).setCell ⟨q, 8, none⟩ (.slice x.aL x.ln.length x.cL)).setCell ⟨q, 9, none⟩ (.slice x.aS x.sd.length x.cS)) q x := by
 obtain ⟨⟨h0, h1, h2, h3, h4, h5, h6, h7, h8, h9⟩, hf⟩ := h
 exact ⟨⟨pe_ (pe_ (pe_ (pe_ (pe_ (pe_ (pe_ (pe_ (pe_ (ps_ (h0)))))))))), pe_ (pe_ (pe_ (pe_ (pe_ (pe_ (pe_ (pe_ (ps_ (pe_ (h1)))))))))), pe_ (pe_ (pe_ (pe_ (pe_ (pe_ (pe_ (ps_ (pe_ (pe_ (h2)))))))))), pe_ (pe_ (pe_ (pe_ (pe_ (pe_ (ps_ (pe_ (pe_ (pe_ (h3)))))))))), pe_ (pe_ (pe_ (pe_ (pe_ (ps_ (pe_ (pe_ (pe_ (pe_ (h4)))))))))), pe_ (pe_ (pe_ (pe_ (ps_ (pe_ (pe_ (pe_ (pe_ (pe_ (h5)))))))))), pe_ (pe_ (pe_ (ps_ (pe_ (pe_ (pe_ (pe_ (pe_ (pe_ (h6)))))))))), pe_ (pe_ (ps_ (pe_ (pe_ (pe_ (pe_ (pe_ (pe_ (pe_ (h7)))))))))), pe_ (ps_ (pe_ (pe_ (pe_ (pe_ (pe_ (pe_ (pe_ (pe_ (h8)))))))))), ps_ (pe_ (pe_ (pe_ (pe_ (pe_ (pe_ (pe_ (pe_ (pe_ (h9))))))))))⟩, fun i => by simp only [World.frozen?_setCell]; exact hf i⟩
abbrev P10 (w : World) (q : Nat) (x : BxD) : World := ((((((((((w.setCell ⟨q, 0, none⟩ (.int .i64 x.id)).setCell ⟨q, 1, none⟩ (.int .i64 x.po)).setCell ⟨q, 2, none⟩ (.int .i64 x.rg.ep)).setCell ⟨q, 3, none⟩ (.int .i64 x.rg.ow)).setCell ⟨q, 4, none⟩ (.int .i64 x.rg.pa)).setCell ⟨q, 5, none⟩ (.slice x.aT x.two.length x.cT)).setCell ⟨q, 6, none⟩ (.slice x.aN x.net.length x.cN)).setCell ⟨q, 7, none⟩ (.slice x.aG x.ga.length x.cG)).setCell ⟨q, 8, none⟩ (.slice x.aL x.ln.length x.cL)).setCell ⟨q, 9, none⟩ (.slice x.aS x.sd.length x.cS))
abbrev bvx (x : BxD) : Value := .agg #[.int .i64 x.id, .int .i64 x.po, .int .i64 x.rg.ep, .int .i64 x.rg.ow, .int .i64 x.rg.pa, .slice x.aT x.two.length x.cT, .slice x.aN x.net.length x.cN, .slice x.aG x.ga.length x.cG, .slice x.aL x.ln.length x.cL, .slice x.aS x.sd.length x.cS]
end Go.Proofs.Ytnpiljegdiconaa
