/- Ports: copied, compared. -/
import Derived.Test.YtnpiljegdiconaaGreatRows
import Derived.WalkKit
import Derived.ProofKit
import Derived.OpenShut
import Derived.ShutString
import Derived.ChangeOld
import Derived.Below
import Derived.Deep.QuietTactic
import Derived.BigQuiet
import Derived.WalkSmall
import Derived.Laws.OwnMore
import Derived.WalkSpells
import Derived.WalkLawsBesides
import Derived.Lib.SmallJoins
import Derived.Deep.Cut
import Derived.Test.YtnpiljegdiconaaGreatVec2
import Derived.Test.YtnpiljegdiconaaGreatVecIn
namespace Go.Proofs.YtnpiljegdiconaaGreat
open Go.ChangeShapes Go.WideShapes Go.ChangeAt Go.RowKit
open Go.ChangeMaps (open_string shut_string)
set_option linter.unusedVariables false
set_option maxRecDepth 100000

/-- A port: eleven cells. -/
structure Pt where
  up : Bool
  has : Bool
  r : Int
  c : Int
  b : Int
  p : Int
  h : Int
  l : Int
  ro : Int
  wa : Int
  op : Bool
/-- What a port's cells hold, in a world. -/
structure PtAt (w : World) (q : Nat) (x : Pt) : Prop where
  c0 : w.cell? ⟨q, 0, none⟩ = some (.bool x.up)
  c1 : w.cell? ⟨q, 1, none⟩ = some (.bool x.has)
  c2 : w.cell? ⟨q, 2, none⟩ = some (.int .i64 x.r)
  c3 : w.cell? ⟨q, 3, none⟩ = some (.int .i64 x.c)
  c4 : w.cell? ⟨q, 4, none⟩ = some (.int .i64 x.b)
  c5 : w.cell? ⟨q, 5, none⟩ = some (.int .i64 x.p)
  c6 : w.cell? ⟨q, 6, none⟩ = some (.int .i64 x.h)
  c7 : w.cell? ⟨q, 7, none⟩ = some (.int .i64 x.l)
  c8 : w.cell? ⟨q, 8, none⟩ = some (.int .i64 x.ro)
  c9 : w.cell? ⟨q, 9, none⟩ = some (.int .i64 x.wa)
  c10 : w.cell? ⟨q, 10, none⟩ = some (.bool x.op)
theorem PtAt.keep {w w' : World} {q : Nat} {x : Pt} (h : PtAt w q x) (k : w'.heap[q]? = w.heap[q]?) : PtAt w' q x :=
  ⟨(World.cell?_of_block (a := ⟨q, 0, none⟩) k).trans h.c0, (World.cell?_of_block (a := ⟨q, 1, none⟩) k).trans h.c1, (World.cell?_of_block (a := ⟨q, 2, none⟩) k).trans h.c2, (World.cell?_of_block (a := ⟨q, 3, none⟩) k).trans h.c3, (World.cell?_of_block (a := ⟨q, 4, none⟩) k).trans h.c4, (World.cell?_of_block (a := ⟨q, 5, none⟩) k).trans h.c5, (World.cell?_of_block (a := ⟨q, 6, none⟩) k).trans h.c6, (World.cell?_of_block (a := ⟨q, 7, none⟩) k).trans h.c7, (World.cell?_of_block (a := ⟨q, 8, none⟩) k).trans h.c8, (World.cell?_of_block (a := ⟨q, 9, none⟩) k).trans h.c9, (World.cell?_of_block (a := ⟨q, 10, none⟩) k).trans h.c10⟩
theorem PtAt.below {w w' : World} {q n : Nat} {x : Pt} (h : PtAt w q x) (k : Below n w w') (hq : q < n) : PtAt w' q x := h.keep (k.block q hq)
theorem PtAt.lt {w : World} {q : Nat} {x : Pt} (h : PtAt w q x) : q < w.heap.size := World.block_lt_of_cell? w _ h.c0
theorem ptAt_box (w : World) (t : TypeId) (x : Pt) : PtAt (w.alloc (Obj.cells #[.bool x.up, .bool x.has, .int .i64 x.r, .int .i64 x.c, .int .i64 x.b, .int .i64 x.p, .int .i64 x.h, .int .i64 x.l, .int .i64 x.ro, .int .i64 x.wa, .bool x.op] t)) w.heap.size x := by
  refine ⟨?_, ?_, ?_, ?_, ?_, ?_, ?_, ?_, ?_, ?_, ?_⟩ <;> simp [go_sem]
/-- A port's box: what its cells hold, and that they may be written. -/
structure PBox (w : World) (q : Nat) (x : Pt) : Prop where
  at_ : PtAt w q x
  fr : ∀ i, w.frozen? ⟨q, i, none⟩ = false
theorem PBox.keep {w w' : World} {q : Nat} {x : Pt} (h : PBox w q x) (k : w'.heap[q]? = w.heap[q]?) : PBox w' q x :=
  ⟨h.at_.keep k, fun i => (World.frozen?_of_block (a := ⟨q, i, none⟩) k).trans (h.fr i)⟩
theorem PBox.lt {w : World} {q : Nat} {x : Pt} (h : PBox w q x) : q < w.heap.size := h.at_.lt
theorem PBox.new (w : World) (t : TypeId) (x : Pt) : PBox (w.alloc (Obj.cells #[.bool x.up, .bool x.has, .int .i64 x.r, .int .i64 x.c, .int .i64 x.b, .int .i64 x.p, .int .i64 x.h, .int .i64 x.l, .int .i64 x.ro, .int .i64 x.wa, .bool x.op] t)) w.heap.size x := ⟨ptAt_box w t x, fun i => by simp [go_sem]⟩
theorem PBox.alloc {w : World} {q : Nat} {x : Pt} (h : PBox w q x) (o : Obj) : PBox (w.alloc o) q x := h.keep (Below.heap_alloc w o q h.lt)
theorem PBox.grown {w w' : World} {q cb : Nat} {x : Pt} (h : PBox w q x) (g : w.grownBy w' (some cb)) (hne : q ≠ cb) : PBox w' q x := h.keep (g.block q h.lt (by simpa using hne))
theorem PBox.below {w w' : World} {q n : Nat} {x : Pt} (h : PBox w q x) (g : Below n w w') (hq : q < n) : PBox w' q x := h.keep (g.block q hq)
theorem PBox.other {w : World} {q q' i : Nat} {x : Pt} {v : Value} (h : PBox w q x) (hne : q ≠ q') : PBox (w.setCell ⟨q', i, none⟩ v) q x := h.keep (Below.heap_setCell _ _ _ _ hne)
theorem PtAt.other {w : World} {q q' i : Nat} {x : Pt} {v : Value} (h : PtAt w q x) (hne : q ≠ q') : PtAt (w.setCell ⟨q', i, none⟩ v) q x := h.keep (Below.heap_setCell _ _ _ _ hne)
theorem pset_same {w : World} {q i : Nat} {u v : Value} (h : w.cell? ⟨q, i, none⟩ = some u) : (w.setCell ⟨q, i, none⟩ v).cell? ⟨q, i, none⟩ = some v := cell_set_same ⟨_, h⟩
theorem pset_else {w : World} {q i j : Nat} {v : Value} (h : i ≠ j) : (w.setCell ⟨q, i, none⟩ v).cell? ⟨q, j, none⟩ = w.cell? ⟨q, j, none⟩ := cell_set_ne (Ne.symm h)
theorem PBox.set0 {w : World} {q : Nat} {x : Pt} (z : Bool) (h : PBox w q x) : PBox (w.setCell ⟨q, 0, none⟩ (.bool z)) q { x with up := z } :=
  ⟨⟨pset_same h.at_.c0, (pset_else (by decide)).trans h.at_.c1, (pset_else (by decide)).trans h.at_.c2, (pset_else (by decide)).trans h.at_.c3, (pset_else (by decide)).trans h.at_.c4, (pset_else (by decide)).trans h.at_.c5, (pset_else (by decide)).trans h.at_.c6, (pset_else (by decide)).trans h.at_.c7, (pset_else (by decide)).trans h.at_.c8, (pset_else (by decide)).trans h.at_.c9, (pset_else (by decide)).trans h.at_.c10⟩, fun i => by rw [World.frozen?_setCell]; exact h.fr i⟩
theorem PBox.set1 {w : World} {q : Nat} {x : Pt} (z : Bool) (h : PBox w q x) : PBox (w.setCell ⟨q, 1, none⟩ (.bool z)) q { x with has := z } :=
  ⟨⟨(pset_else (by decide)).trans h.at_.c0, pset_same h.at_.c1, (pset_else (by decide)).trans h.at_.c2, (pset_else (by decide)).trans h.at_.c3, (pset_else (by decide)).trans h.at_.c4, (pset_else (by decide)).trans h.at_.c5, (pset_else (by decide)).trans h.at_.c6, (pset_else (by decide)).trans h.at_.c7, (pset_else (by decide)).trans h.at_.c8, (pset_else (by decide)).trans h.at_.c9, (pset_else (by decide)).trans h.at_.c10⟩, fun i => by rw [World.frozen?_setCell]; exact h.fr i⟩
theorem PBox.set2 {w : World} {q : Nat} {x : Pt} (z : Int) (h : PBox w q x) : PBox (w.setCell ⟨q, 2, none⟩ (.int .i64 z)) q { x with r := z } :=
  ⟨⟨(pset_else (by decide)).trans h.at_.c0, (pset_else (by decide)).trans h.at_.c1, pset_same h.at_.c2, (pset_else (by decide)).trans h.at_.c3, (pset_else (by decide)).trans h.at_.c4, (pset_else (by decide)).trans h.at_.c5, (pset_else (by decide)).trans h.at_.c6, (pset_else (by decide)).trans h.at_.c7, (pset_else (by decide)).trans h.at_.c8, (pset_else (by decide)).trans h.at_.c9, (pset_else (by decide)).trans h.at_.c10⟩, fun i => by rw [World.frozen?_setCell]; exact h.fr i⟩
theorem PBox.set3 {w : World} {q : Nat} {x : Pt} (z : Int) (h : PBox w q x) : PBox (w.setCell ⟨q, 3, none⟩ (.int .i64 z)) q { x with c := z } :=
  ⟨⟨(pset_else (by decide)).trans h.at_.c0, (pset_else (by decide)).trans h.at_.c1, (pset_else (by decide)).trans h.at_.c2, pset_same h.at_.c3, (pset_else (by decide)).trans h.at_.c4, (pset_else (by decide)).trans h.at_.c5, (pset_else (by decide)).trans h.at_.c6, (pset_else (by decide)).trans h.at_.c7, (pset_else (by decide)).trans h.at_.c8, (pset_else (by decide)).trans h.at_.c9, (pset_else (by decide)).trans h.at_.c10⟩, fun i => by rw [World.frozen?_setCell]; exact h.fr i⟩
theorem PBox.set4 {w : World} {q : Nat} {x : Pt} (z : Int) (h : PBox w q x) : PBox (w.setCell ⟨q, 4, none⟩ (.int .i64 z)) q { x with b := z } :=
  ⟨⟨(pset_else (by decide)).trans h.at_.c0, (pset_else (by decide)).trans h.at_.c1, (pset_else (by decide)).trans h.at_.c2, (pset_else (by decide)).trans h.at_.c3, pset_same h.at_.c4, (pset_else (by decide)).trans h.at_.c5, (pset_else (by decide)).trans h.at_.c6, (pset_else (by decide)).trans h.at_.c7, (pset_else (by decide)).trans h.at_.c8, (pset_else (by decide)).trans h.at_.c9, (pset_else (by decide)).trans h.at_.c10⟩, fun i => by rw [World.frozen?_setCell]; exact h.fr i⟩
theorem PBox.set5 {w : World} {q : Nat} {x : Pt} (z : Int) (h : PBox w q x) : PBox (w.setCell ⟨q, 5, none⟩ (.int .i64 z)) q { x with p := z } :=
  ⟨⟨(pset_else (by decide)).trans h.at_.c0, (pset_else (by decide)).trans h.at_.c1, (pset_else (by decide)).trans h.at_.c2, (pset_else (by decide)).trans h.at_.c3, (pset_else (by decide)).trans h.at_.c4, pset_same h.at_.c5, (pset_else (by decide)).trans h.at_.c6, (pset_else (by decide)).trans h.at_.c7, (pset_else (by decide)).trans h.at_.c8, (pset_else (by decide)).trans h.at_.c9, (pset_else (by decide)).trans h.at_.c10⟩, fun i => by rw [World.frozen?_setCell]; exact h.fr i⟩
theorem PBox.set6 {w : World} {q : Nat} {x : Pt} (z : Int) (h : PBox w q x) : PBox (w.setCell ⟨q, 6, none⟩ (.int .i64 z)) q { x with h := z } :=
  ⟨⟨(pset_else (by decide)).trans h.at_.c0, (pset_else (by decide)).trans h.at_.c1, (pset_else (by decide)).trans h.at_.c2, (pset_else (by decide)).trans h.at_.c3, (pset_else (by decide)).trans h.at_.c4, (pset_else (by decide)).trans h.at_.c5, pset_same h.at_.c6, (pset_else (by decide)).trans h.at_.c7, (pset_else (by decide)).trans h.at_.c8, (pset_else (by decide)).trans h.at_.c9, (pset_else (by decide)).trans h.at_.c10⟩, fun i => by rw [World.frozen?_setCell]; exact h.fr i⟩
theorem PBox.set7 {w : World} {q : Nat} {x : Pt} (z : Int) (h : PBox w q x) : PBox (w.setCell ⟨q, 7, none⟩ (.int .i64 z)) q { x with l := z } :=
  ⟨⟨(pset_else (by decide)).trans h.at_.c0, (pset_else (by decide)).trans h.at_.c1, (pset_else (by decide)).trans h.at_.c2, (pset_else (by decide)).trans h.at_.c3, (pset_else (by decide)).trans h.at_.c4, (pset_else (by decide)).trans h.at_.c5, (pset_else (by decide)).trans h.at_.c6, pset_same h.at_.c7, (pset_else (by decide)).trans h.at_.c8, (pset_else (by decide)).trans h.at_.c9, (pset_else (by decide)).trans h.at_.c10⟩, fun i => by rw [World.frozen?_setCell]; exact h.fr i⟩
theorem PBox.set8 {w : World} {q : Nat} {x : Pt} (z : Int) (h : PBox w q x) : PBox (w.setCell ⟨q, 8, none⟩ (.int .i64 z)) q { x with ro := z } :=
  ⟨⟨(pset_else (by decide)).trans h.at_.c0, (pset_else (by decide)).trans h.at_.c1, (pset_else (by decide)).trans h.at_.c2, (pset_else (by decide)).trans h.at_.c3, (pset_else (by decide)).trans h.at_.c4, (pset_else (by decide)).trans h.at_.c5, (pset_else (by decide)).trans h.at_.c6, (pset_else (by decide)).trans h.at_.c7, pset_same h.at_.c8, (pset_else (by decide)).trans h.at_.c9, (pset_else (by decide)).trans h.at_.c10⟩, fun i => by rw [World.frozen?_setCell]; exact h.fr i⟩
theorem PBox.set9 {w : World} {q : Nat} {x : Pt} (z : Int) (h : PBox w q x) : PBox (w.setCell ⟨q, 9, none⟩ (.int .i64 z)) q { x with wa := z } :=
  ⟨⟨(pset_else (by decide)).trans h.at_.c0, (pset_else (by decide)).trans h.at_.c1, (pset_else (by decide)).trans h.at_.c2, (pset_else (by decide)).trans h.at_.c3, (pset_else (by decide)).trans h.at_.c4, (pset_else (by decide)).trans h.at_.c5, (pset_else (by decide)).trans h.at_.c6, (pset_else (by decide)).trans h.at_.c7, (pset_else (by decide)).trans h.at_.c8, pset_same h.at_.c9, (pset_else (by decide)).trans h.at_.c10⟩, fun i => by rw [World.frozen?_setCell]; exact h.fr i⟩
theorem PBox.set10 {w : World} {q : Nat} {x : Pt} (z : Bool) (h : PBox w q x) : PBox (w.setCell ⟨q, 10, none⟩ (.bool z)) q { x with op := z } :=
  ⟨⟨(pset_else (by decide)).trans h.at_.c0, (pset_else (by decide)).trans h.at_.c1, (pset_else (by decide)).trans h.at_.c2, (pset_else (by decide)).trans h.at_.c3, (pset_else (by decide)).trans h.at_.c4, (pset_else (by decide)).trans h.at_.c5, (pset_else (by decide)).trans h.at_.c6, (pset_else (by decide)).trans h.at_.c7, (pset_else (by decide)).trans h.at_.c8, (pset_else (by decide)).trans h.at_.c9, pset_same h.at_.c10⟩, fun i => by rw [World.frozen?_setCell]; exact h.fr i⟩
theorem eqVs (r c b p : Int) (w : World) :
    Calls Tryz.prog 198 #[.agg #[.int .i64 r, .int .i64 c, .int .i64 b, .int .i64 p], .agg #[.int .i64 r, .int .i64 c, .int .i64 b, .int .i64 p]] w fun e w' => e = .returned (.bool true) ∧ Below w.heap.size w w' := by
  go_enter Tryz.func198, Tryz.ntmps198
  go_wp2
  go_ret
  exact ⟨rfl, ((Below.refl _ _).alloc (Nat.le_refl _) _).alloc (by simp) _⟩
end Go.Proofs.YtnpiljegdiconaaGreat
