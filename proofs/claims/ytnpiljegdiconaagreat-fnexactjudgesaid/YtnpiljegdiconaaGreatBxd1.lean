/- Boxes in memory. -/
import Derived.Test.YtnpiljegdiconaaGreatRows
import Derived.WalkKit
import Derived.ProofKit
import Derived.OpenShut
import Derived.ShutString
import Derived.ChangeOld
import Derived.Below
import Derived.Deep.QuietTactic
import Derived.BigQuiet
import Derived.WalkSmall
import Derived.Laws.OwnMore
import Derived.WalkSpells
import Derived.WalkLawsBesides
import Derived.Test.YtnpiljegdiconaaGreatBx14
import Derived.Test.YtnpiljegdiconaaGreatIs1
import Derived.Test.YtnpiljegdiconaaGreatGa1
import Derived.Test.YtnpiljegdiconaaGreatRe1
import Derived.Test.YtnpiljegdiconaaGreatFlat
import Derived.Test.YtnpiljegdiconaaGreatMi1
namespace Go.Proofs.YtnpiljegdiconaaGreat
open Go.ChangeShapes Go.WideShapes Go.ChangeAt Go.RowKit
open Go.ChangeMaps (open_string shut_string)
set_option linter.unusedVariables false
set_option maxRecDepth 100000

def Wi.nil : Wi := ⟨0, false, 0, 0, ikN⟩
/-- A minder in a list: where its log lies. -/
structure MiD where
  m : Mi
  ad : Option Addr
  cap : Nat
def MiD.nil : MiD := ⟨Mi.nil, none, 0⟩
def wiEnc (x : Wi) : List Value := [.int .i64 x.fr, .bool x.ak, .int .i64 x.li, .int .i64 x.n, .int .i64 x.x.k, .int .i64 x.x.q, .int .i64 x.x.r, .int .i64 x.x.c, .int .i64 x.x.b, .int .i64 x.x.p, .int .i64 x.x.h, .bool x.x.up]
theorem wiEnc_len (x : Wi) : (wiEnc x).length = 12 := rfl
theorem wiEnc_ones (L : List Wi) : ∀ u ∈ fcells wiEnc L, u.oneCell' = true := by
  induction L with
  | nil => intro u h; cases h
  | cons x L ih =>
    intro u h
    simp only [fcells, wiEnc, List.mem_append, List.mem_cons, List.not_mem_nil, or_false] at h
    rcases h with (rfl | rfl | rfl | rfl | rfl | rfl | rfl | rfl | rfl | rfl | rfl | rfl) | h
    · rfl
    · rfl
    · rfl
    · rfl
    · rfl
    · rfl
    · rfl
    · rfl
    · rfl
    · rfl
    · rfl
    · rfl
    · exact ih u h
structure WiAtO (w : World) (b o : Nat) (x : Wi) : Prop where
  c0 : w.cell? ⟨b, o, none⟩ = some (.int .i64 x.fr)
  c1 : w.cell? ⟨b, o + 1, none⟩ = some (.bool x.ak)
  c2 : w.cell? ⟨b, o + 2, none⟩ = some (.int .i64 x.li)
  c3 : w.cell? ⟨b, o + 3, none⟩ = some (.int .i64 x.n)
  c4 : w.cell? ⟨b, o + 4, none⟩ = some (.int .i64 x.x.k)
  c5 : w.cell? ⟨b, o + 5, none⟩ = some (.int .i64 x.x.q)
  c6 : w.cell? ⟨b, o + 6, none⟩ = some (.int .i64 x.x.r)
  c7 : w.cell? ⟨b, o + 7, none⟩ = some (.int .i64 x.x.c)
  c8 : w.cell? ⟨b, o + 8, none⟩ = some (.int .i64 x.x.b)
  c9 : w.cell? ⟨b, o + 9, none⟩ = some (.int .i64 x.x.p)
  c10 : w.cell? ⟨b, o + 10, none⟩ = some (.int .i64 x.x.h)
  c11 : w.cell? ⟨b, o + 11, none⟩ = some (.bool x.x.up)
theorem wiAtO_of {w : World} {b o : Nat} {x : Wi} (h : ∀ j v, (wiEnc x)[j]? = some v → w.cell? ⟨b, o + j, none⟩ = some v) : WiAtO w b o x := ⟨h 0 _ rfl, h 1 _ rfl, h 2 _ rfl, h 3 _ rfl, h 4 _ rfl, h 5 _ rfl, h 6 _ rfl, h 7 _ rfl, h 8 _ rfl, h 9 _ rfl, h 10 _ rfl, h 11 _ rfl⟩
def mdEnc (x : MiD) : List Value := [.bool x.m.up, .int .i64 x.m.li, .int .i64 x.m.ep, .slice x.ad x.m.lg.length x.cap, .int .i64 x.m.sd, .int .i64 x.m.ac, .int .i64 x.m.al]
theorem mdEnc_len (x : MiD) : (mdEnc x).length = 7 := rfl
theorem mdEnc_ones (L : List MiD) : ∀ u ∈ fcells mdEnc L, u.oneCell' = true := by
  induction L with
  | nil => intro u h; cases h
  | cons x L ih =>
    intro u h
    simp only [fcells, mdEnc, List.mem_append, List.mem_cons, List.not_mem_nil, or_false] at h
    rcases h with (rfl | rfl | rfl | rfl | rfl | rfl | rfl) | h
    · rfl
    · rfl
    · rfl
    · rfl
    · rfl
    · rfl
    · rfl
    · exact ih u h
structure MdAtO (w : World) (b o : Nat) (x : MiD) : Prop where
  c0 : w.cell? ⟨b, o, none⟩ = some (.bool x.m.up)
  c1 : w.cell? ⟨b, o + 1, none⟩ = some (.int .i64 x.m.li)
  c2 : w.cell? ⟨b, o + 2, none⟩ = some (.int .i64 x.m.ep)
  c3 : w.cell? ⟨b, o + 3, none⟩ = some (.slice x.ad x.m.lg.length x.cap)
  c4 : w.cell? ⟨b, o + 4, none⟩ = some (.int .i64 x.m.sd)
  c5 : w.cell? ⟨b, o + 5, none⟩ = some (.int .i64 x.m.ac)
  c6 : w.cell? ⟨b, o + 6, none⟩ = some (.int .i64 x.m.al)
theorem mdAtO_of {w : World} {b o : Nat} {x : MiD} (h : ∀ j v, (mdEnc x)[j]? = some v → w.cell? ⟨b, o + j, none⟩ = some v) : MdAtO w b o x := ⟨h 0 _ rfl, h 1 _ rfl, h 2 _ rfl, h 3 _ rfl, h 4 _ rfl, h 5 _ rfl, h 6 _ rfl⟩
/-- A box, as it lies in memory. -/
structure BxD where
  id : Int
  po : Int
  rg : Rg
  two : List MiD
  aT : Option Addr
  cT : Nat
  net : List Wi
  aN : Option Addr
  cN : Nat
  ga : List Bool
  aG : Option Addr
  cG : Nat
  ln : List Ik
  aL : Option Addr
  cL : Nat
  sd : List Ou
  aS : Option Addr
  cS : Nat
/-- What it is, in plain words. -/
def BxD.p (x : BxD) : Bx := ⟨x.id, x.po, x.rg, x.two.map MiD.m, x.net, x.ga, x.ln, x.sd⟩
structure BxAt (w : World) (q : Nat) (x : BxD) : Prop where
  c0 : w.cell? ⟨q, 0, none⟩ = some (.int .i64 x.id)
  c1 : w.cell? ⟨q, 1, none⟩ = some (.int .i64 x.po)
  c2 : w.cell? ⟨q, 2, none⟩ = some (.int .i64 x.rg.ep)
  c3 : w.cell? ⟨q, 3, none⟩ = some (.int .i64 x.rg.ow)
  c4 : w.cell? ⟨q, 4, none⟩ = some (.int .i64 x.rg.pa)
  c5 : w.cell? ⟨q, 5, none⟩ = some (.slice x.aT x.two.length x.cT)
  c6 : w.cell? ⟨q, 6, none⟩ = some (.slice x.aN x.net.length x.cN)
  c7 : w.cell? ⟨q, 7, none⟩ = some (.slice x.aG x.ga.length x.cG)
  c8 : w.cell? ⟨q, 8, none⟩ = some (.slice x.aL x.ln.length x.cL)
  c9 : w.cell? ⟨q, 9, none⟩ = some (.slice x.aS x.sd.length x.cS)
theorem BxAt.keep {w w' : World} {q : Nat} {x : BxD} (h : BxAt w q x) (k : w'.heap[q]? = w.heap[q]?) : BxAt w' q x :=
  ⟨(World.cell?_of_block (a := ⟨q, 0, none⟩) k).trans h.c0, (World.cell?_of_block (a := ⟨q, 1, none⟩) k).trans h.c1, (World.cell?_of_block (a := ⟨q, 2, none⟩) k).trans h.c2, (World.cell?_of_block (a := ⟨q, 3, none⟩) k).trans h.c3, (World.cell?_of_block (a := ⟨q, 4, none⟩) k).trans h.c4, (World.cell?_of_block (a := ⟨q, 5, none⟩) k).trans h.c5, (World.cell?_of_block (a := ⟨q, 6, none⟩) k).trans h.c6, (World.cell?_of_block (a := ⟨q, 7, none⟩) k).trans h.c7, (World.cell?_of_block (a := ⟨q, 8, none⟩) k).trans h.c8, (World.cell?_of_block (a := ⟨q, 9, none⟩) k).trans h.c9⟩
theorem BxAt.below {w w' : World} {q n : Nat} {x : BxD} (h : BxAt w q x) (k : Below n w w') (hq : q < n) : BxAt w' q x := h.keep (k.block q hq)
theorem BxAt.lt {w : World} {q : Nat} {x : BxD} (h : BxAt w q x) : q < w.heap.size := World.block_lt_of_cell? w _ h.c0
theorem BxAt.new (w : World) (t : TypeId) (x : BxD) : BxAt (w.alloc (Obj.cells #[.int .i64 x.id, .int .i64 x.po, .int .i64 x.rg.ep, .int .i64 x.rg.ow, .int .i64 x.rg.pa, .slice x.aT x.two.length x.cT, .slice x.aN x.net.length x.cN, .slice x.aG x.ga.length x.cG, .slice x.aL x.ln.length x.cL, .slice x.aS x.sd.length x.cS] t)) w.heap.size x := by
  refine ⟨?_, ?_, ?_, ?_, ?_, ?_, ?_, ?_, ?_, ?_⟩ <;> simp [go_sem]
/-- A box that can be read. -/
structure BxV (w : World) (x : BxD) : Prop where
  t : FView mdEnc w x.aT x.two
  l : ∀ i, i < x.two.length → FView ikEnc w (x.two.getD i MiD.nil).ad (x.two.getD i MiD.nil).m.lg
  n : FView wiEnc w x.aN x.net
  g : FView boEnc w x.aG x.ga
  i : FView ikEnc w x.aL x.ln
  s : FView ouEnc w x.aS x.sd
  bt : x.two.length ≤ 1048576
  bl : ∀ i, i < x.two.length → (x.two.getD i MiD.nil).m.lg.length ≤ 1048576
  bn : x.net.length ≤ 1048576
  bg : x.ga.length ≤ 1048576
  bi : x.ln.length ≤ 1048576
  bs : x.sd.length ≤ 1048576
  ct : x.two.length ≤ x.cT
theorem BxV.later {w w' : World} {x : BxD} (h : BxV w x) (k : Below w.heap.size w w') : BxV w' x :=
  ⟨h.t.below k (h.t.lt mdEnc_len (by omega)), fun i hi => (h.l i hi).below k ((h.l i hi).lt ikEnc_len (by omega)), h.n.below k (h.n.lt wiEnc_len (by omega)), h.g.below k (h.g.lt boEnc_len (by omega)), h.i.below k (h.i.lt ikEnc_len (by omega)), h.s.below k (h.s.lt ouEnc_len (by omega)), h.bt, h.bl, h.bn, h.bg, h.bi, h.bs, h.ct⟩
theorem mOf_p (x : BxD) (s : Int) : mOf x.p s = (x.two.getD s.toNat MiD.nil).m := by
  unfold mOf BxD.p
  simp only [List.getD, List.getElem?_map]
  cases x.two[s.toNat]? <;> rfl

end Go.Proofs.YtnpiljegdiconaaGreat
