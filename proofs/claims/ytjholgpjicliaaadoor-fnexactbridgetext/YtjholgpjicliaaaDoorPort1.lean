/- Ports: copied, compared. -/
import Derived.Test.YtjholgpjicliaaaDoorRows
import Derived.WalkKit
import Derived.ProofKit
import Derived.OpenShut
import Derived.ShutString
import Derived.ChangeOld
import Derived.Below
import Derived.Deep.QuietTactic
import Derived.BigQuiet
import Derived.WalkSmall
import Derived.Laws.OwnMore
import Derived.WalkSpells
import Derived.WalkLawsBesides
import Derived.Lib.SmallJoins
import Derived.Deep.Cut
import Derived.Test.YtjholgpjicliaaaDoorVec2
import Derived.Test.YtjholgpjicliaaaDoorVecIn
namespace Go.Proofs.YtjholgpjicliaaaDoor
open Go.ChangeShapes Go.WideShapes Go.ChangeAt Go.RowKit
open Go.ChangeMaps (open_string shut_string)
set_option linter.unusedVariables false
set_option maxRecDepth 100000

/-- A port: eleven cells. -/
structure Pt where
  up : Bool
  has : Bool
  r : Int
  c : Int
  b : Int
  p : Int
  h : Int
  l : Int
  ro : Int
  wa : Int
  op : Bool
/-- What a port's cells hold, in a world. -/
structure PtAt (w : World) (q : Nat) (x : Pt) : Prop where
  c0 : w.cell? ⟨q, 0, none⟩ = some (.bool x.up)
  c1 : w.cell? ⟨q, 1, none⟩ = some (.bool x.has)
  c2 : w.cell? ⟨q, 2, none⟩ = some (.int .i64 x.r)
  c3 : w.cell? ⟨q, 3, none⟩ = some (.int .i64 x.c)
  c4 : w.cell? ⟨q, 4, none⟩ = some (.int .i64 x.b)
  c5 : w.cell? ⟨q, 5, none⟩ = some (.int .i64 x.p)
  c6 : w.cell? ⟨q, 6, none⟩ = some (.int .i64 x.h)
  c7 : w.cell? ⟨q, 7, none⟩ = some (.int .i64 x.l)
  c8 : w.cell? ⟨q, 8, none⟩ = some (.int .i64 x.ro)
  c9 : w.cell? ⟨q, 9, none⟩ = some (.int .i64 x.wa)
  c10 : w.cell? ⟨q, 10, none⟩ = some (.bool x.op)
theorem PtAt.keep {w w' : World} {q : Nat} {x : Pt} (h : PtAt w q x) (k : w'.heap[q]? = w.heap[q]?) : PtAt w' q x :=
  ⟨(World.cell?_of_block (a := ⟨q, 0, none⟩) k).trans h.c0, (World.cell?_of_block (a := ⟨q, 1, none⟩) k).trans h.c1, (World.cell?_of_block (a := ⟨q, 2, none⟩) k).trans h.c2, (World.cell?_of_block (a := ⟨q, 3, none⟩) k).trans h.c3, (World.cell?_of_block (a := ⟨q, 4, none⟩) k).trans h.c4, (World.cell?_of_block (a := ⟨q, 5, none⟩) k).trans h.c5, (World.cell?_of_block (a := ⟨q, 6, none⟩) k).trans h.c6, (World.cell?_of_block (a := ⟨q, 7, none⟩) k).trans h.c7, (World.cell?_of_block (a := ⟨q, 8, none⟩) k).trans h.c8, (World.cell?_of_block (a := ⟨q, 9, none⟩) k).trans h.c9, (World.cell?_of_block (a := ⟨q, 10, none⟩) k).trans h.c10⟩
theorem PtAt.below {w w' : World} {q n : Nat} {x : Pt} (h : PtAt w q x) (k : Below n w w') (hq : q < n) : PtAt w' q x := h.keep (k.block q hq)
theorem PtAt.lt {w : World} {q : Nat} {x : Pt} (h : PtAt w q x) : q < w.heap.size := World.block_lt_of_cell? w _ h.c0
theorem ptAt_box (w : World) (t : TypeId) (x : Pt) : PtAt (w.alloc (Obj.cells #[.bool x.up, .bool x.has, .int .i64 x.r, .int .i64 x.c, .int .i64 x.b, .int .i64 x.p, .int .i64 x.h, .int .i64 x.l, .int .i64 x.ro, .int .i64 x.wa, .bool x.op] t)) w.heap.size x := by
  refine ⟨?_, ?_, ?_, ?_, ?_, ?_, ?_, ?_, ?_, ?_, ?_⟩ <;> simp [go_sem]
/-- A port's box: what its cells hold, and that they may be written. -/
structure PBox (w : World) (q : Nat) (x : Pt) : Prop where
  at_ : PtAt w q x
  fr : ∀ i, w.frozen? ⟨q, i, none⟩ = false
theorem PBox.keep {w w' : World} {q : Nat} {x : Pt} (h : PBox w q x) (k : w'.heap[q]? = w.heap[q]?) : PBox w' q x :=
  ⟨h.at_.keep k, fun i => (World.frozen?_of_block (a := ⟨q, i, none⟩) k).trans (h.fr i)⟩
theorem PBox.lt {w : World} {q : Nat} {x : Pt} (h : PBox w q x) : q < w.heap.size := h.at_.lt
theorem PBox.new (w : World) (t : TypeId) (x : Pt) : PBox (w.alloc (Obj.cells #[.bool x.up, .bool x.has, .int .i64 x.r, .int .i64 x.c, .int .i64 x.b, .int .i64 x.p, .int .i64 x.h, .int .i64 x.l, .int .i64 x.ro, .int .i64 x.wa, .bool x.op] t)) w.heap.size x := ⟨ptAt_box w t x, fun i => by simp [go_sem]⟩
theorem PBox.alloc {w : World} {q : Nat} {x : Pt} (h : PBox w q x) (o : Obj) : PBox (w.alloc o) q x := h.keep (Below.heap_alloc w o q h.lt)
theorem PBox.grown {w w' : World} {q cb : Nat} {x : Pt} (h : PBox w q x) (g : w.grownBy w' (some cb)) (hne : q ≠ cb) : PBox w' q x := h.keep (g.block q h.lt (by simpa using hne))
theorem PBox.below {w w' : World} {q n : Nat} {x : Pt} (h : PBox w q x) (g : Below n w w') (hq : q < n) : PBox w' q x := h.keep (g.block q hq)
theorem PBox.other {w : World} {q q' i : Nat} {x : Pt} {v : Value} (h : PBox w q x) (hne : q ≠ q') : PBox (w.setCell ⟨q', i, none⟩ v) q x := h.keep (Below.heap_setCell _ _ _ _ hne)
theorem PtAt.other {w : World} {q q' i : Nat} {x : Pt} {v : Value} (h : PtAt w q x) (hne : q ≠ q') : PtAt (w.setCell ⟨q', i, none⟩ v) q x := h.keep (Below.heap_setCell _ _ _ _ hne)
theorem pset_same {w : World} {q i : Nat} {u v : Value} (h : w.cell? ⟨q, i, none⟩ = some u) : (w.setCell ⟨q, i, none⟩ v).cell? ⟨q, i, none⟩ = some v := cell_set_same ⟨_, h⟩
theorem pset_else {w : World} {q i j : Nat} {v : Value} (h : i ≠ j) : (w.setCell ⟨q, i, none⟩ v).cell? ⟨q, j, none⟩ = w.cell? ⟨q, j, none⟩ := cell_set_ne (Ne.symm h)
theorem PBox.set0 {w : World} {q : Nat} {x : Pt} (z : Bool) (h : PBox w q x) : PBox (w.setCell ⟨q, 0, none⟩ (.bool z)) q { x with up := z } :=
  ⟨⟨pset_same h.at_.c0, (pset_else (by decide)).trans h.at_.c1, (pset_else (by decide)).trans h.at_.c2, (pset_else (by decide)).trans h.at_.c3, (pset_else (by decide)).trans h.at_.c4, (pset_else (by decide)).trans h.at_.c5, (pset_else (by decide)).trans h.at_.c6, (pset_else (by decide)).trans h.at_.c7, (pset_else (by decide)).trans h.at_.c8, (pset_else (by decide)).trans h.at_.c9, (pset_else (by decide)).trans h.at_.c10⟩, fun i => by rw [World.frozen?_setCell]; exact h.fr i⟩
theorem PBox.set1 {w : World} {q : Nat} {x : Pt} (z : Bool) (h : PBox w q x) : PBox (w.setCell ⟨q, 1, none⟩ (.bool z)) q { x with has := z } :=
  ⟨⟨(pset_else (by decide)).trans h.at_.c0, pset_same h.at_.c1, (pset_else (by decide)).trans h.at_.c2, (pset_else (by decide)).trans h.at_.c3, (pset_else (by decide)).trans h.at_.c4, (pset_else (by decide)).trans h.at_.c5, (pset_else (by decide)).trans h.at_.c6, (pset_else (by decide)).trans h.at_.c7, (pset_else (by decide)).trans h.at_.c8, (pset_else (by decide)).trans h.at_.c9, (pset_else (by decide)).trans h.at_.c10⟩, fun i => by rw [World.frozen?_setCell]; exact h.fr i⟩
theorem PBox.set2 {w : World} {q : Nat} {x : Pt} (z : Int) (h : PBox w q x) : PBox (w.setCell ⟨q, 2, none⟩ (.int .i64 z)) q { x with r := z } :=
  ⟨⟨(pset_else (by decide)).trans h.at_.c0, (pset_else (by decide)).trans h.at_.c1, pset_same h.at_.c2, (pset_else (by decide)).trans h.at_.c3, (pset_else (by decide)).trans h.at_.c4, (pset_else (by decide)).trans h.at_.c5, (pset_else (by decide)).trans h.at_.c6, (pset_else (by decide)).trans h.at_.c7, (pset_else (by decide)).trans h.at_.c8, (pset_else (by decide)).trans h.at_.c9, (pset_else (by decide)).trans h.at_.c10⟩, fun i => by rw [World.frozen?_setCell]; exact h.fr i⟩
theorem PBox.set3 {w : World} {q : Nat} {x : Pt} (z : Int) (h : PBox w q x) : PBox (w.setCell ⟨q, 3, none⟩ (.int .i64 z)) q { x with c := z } :=
  ⟨⟨(pset_else (by decide)).trans h.at_.c0, (pset_else (by decide)).trans h.at_.c1, (pset_else (by decide)).trans h.at_.c2, pset_same h.at_.c3, (pset_else (by decide)).trans h.at_.c4, (pset_else (by decide)).trans h.at_.c5, (pset_else (by decide)).trans h.at_.c6, (pset_else (by decide)).trans h.at_.c7, (pset_else (by decide)).trans h.at_.c8, (pset_else (by decide)).trans h.at_.c9, (pset_else (by decide)).trans h.at_.c10⟩, fun i => by rw [World.frozen?_setCell]; exact h.fr i⟩
theorem PBox.set4 {w : World} {q : Nat} {x : Pt} (z : Int) (h : PBox w q x) : PBox (w.setCell ⟨q, 4, none⟩ (.int .i64 z)) q { x with b := z } :=
  ⟨⟨(pset_else (by decide)).trans h.at_.c0, (pset_else (by decide)).trans h.at_.c1, (pset_else (by decide)).trans h.at_.c2, (pset_else (by decide)).trans h.at_.c3, pset_same h.at_.c4, (pset_else (by decide)).trans h.at_.c5, (pset_else (by decide)).trans h.at_.c6, (pset_else (by decide)).trans h.at_.c7, (pset_else (by decide)).trans h.at_.c8, (pset_else (by decide)).trans h.at_.c9, (pset_else (by decide)).trans h.at_.c10⟩, fun i => by rw [World.frozen?_setCell]; exact h.fr i⟩
theorem PBox.set5 {w : World} {q : Nat} {x : Pt} (z : Int) (h : PBox w q x) : PBox (w.setCell ⟨q, 5, none⟩ (.int .i64 z)) q { x with p := z } :=
  ⟨⟨(pset_else (by decide)).trans h.at_.c0, (pset_else (by decide)).trans h.at_.c1, (pset_else (by decide)).trans h.at_.c2, (pset_else (by decide)).trans h.at_.c3, (pset_else (by decide)).trans h.at_.c4, pset_same h.at_.c5, (pset_else (by decide)).trans h.at_.c6, (pset_else (by decide)).trans h.at_.c7, (pset_else (by decide)).trans h.at_.c8, (pset_else (by decide)).trans h.at_.c9, (pset_else (by decide)).trans h.at_.c10⟩, fun i => by rw [World.frozen?_setCell]; exact h.fr i⟩
theorem PBox.set6 {w : World} {q : Nat} {x : Pt} (z : Int) (h : PBox w q x) : PBox (w.setCell ⟨q, 6, none⟩ (.int .i64 z)) q { x with h := z } :=
  ⟨⟨(pset_else (by decide)).trans h.at_.c0, (pset_else (by decide)).trans h.at_.c1, (pset_else (by decide)).trans h.at_.c2, (pset_else (by decide)).trans h.at_.c3, (pset_else (by decide)).trans h.at_.c4, (pset_else (by decide)).trans h.at_.c5, pset_same h.at_.c6, (pset_else (by decide)).trans h.at_.c7, (pset_else (by decide)).trans h.at_.c8, (pset_else (by decide)).trans h.at_.c9, (pset_else (by decide)).trans h.at_.c10⟩, fun i => by rw [World.frozen?_setCell]; exact h.fr i⟩
theorem PBox.set7 {w : World} {q : Nat} {x : Pt} (z : Int) (h : PBox w q x) : PBox (w.setCell ⟨q, 7, none⟩ (.int .i64 z)) q { x with l := z } :=
  ⟨⟨(pset_else (by decide)).trans h.at_.c0, (pset_else (by decide)).trans h.at_.c1, (pset_else (by decide)).trans h.at_.c2, (pset_else (by decide)).trans h.at_.c3, (pset_else (by decide)).trans h.at_.c4, (pset_else (by decide)).trans h.at_.c5, (pset_else (by decide)).trans h.at_.c6, pset_same h.at_.c7, (pset_else (by decide)).trans h.at_.c8, (pset_else (by decide)).trans h.at_.c9, (pset_else (by decide)).trans h.at_.c10⟩, fun i => by rw [World.frozen?_setCell]; exact h.fr i⟩
theorem PBox.set8 {w : World} {q : Nat} {x : Pt} (z : Int) (h : PBox w q x) : PBox (w.setCell ⟨q, 8, none⟩ (.int .i64 z)) q { x with ro := z } :=
  ⟨⟨(pset_else (by decide)).trans h.at_.c0, (pset_else (by decide)).trans h.at_.c1, (pset_else (by decide)).trans h.at_.c2, (pset_else (by decide)).trans h.at_.c3, (pset_else (by decide)).trans h.at_.c4, (pset_else (by decide)).trans h.at_.c5, (pset_else (by decide)).trans h.at_.c6, (pset_else (by decide)).trans h.at_.c7, pset_same h.at_.c8, (pset_else (by decide)).trans h.at_.c9, (pset_else (by decide)).trans h.at_.c10⟩, fun i => by rw [World.frozen?_setCell]; exact h.fr i⟩
theorem PBox.set9 {w : World} {q : Nat} {x : Pt} (z : Int) (h : PBox w q x) : PBox (w.setCell ⟨q, 9, none⟩ (.int .i64 z)) q { x with wa := z } :=
  ⟨⟨(pset_else (by decide)).trans h.at_.c0, (pset_else (by decide)).trans h.at_.c1, (pset_else (by decide)).trans h.at_.c2, (pset_else (by decide)).trans h.at_.c3, (pset_else (by decide)).trans h.at_.c4, (pset_else (by decide)).trans h.at_.c5, (pset_else (by decide)).trans h.at_.c6, (pset_else (by decide)).trans h.at_.c7, (pset_else (by decide)).trans h.at_.c8, pset_same h.at_.c9, (pset_else (by decide)).trans h.at_.c10⟩, fun i => by rw [World.frozen?_setCell]; exact h.fr i⟩
theorem PBox.set10 {w : World} {q : Nat} {x : Pt} (z : Bool) (h : PBox w q x) : PBox (w.setCell ⟨q, 10, none⟩ (.bool z)) q { x with op := z } :=
  ⟨⟨(pset_else (by decide)).trans h.at_.c0, (pset_else (by decide)).trans h.at_.c1, (pset_else (by decide)).trans h.at_.c2, (pset_else (by decide)).trans h.at_.c3, (pset_else (by decide)).trans h.at_.c4, (pset_else (by decide)).trans h.at_.c5, (pset_else (by decide)).trans h.at_.c6, (pset_else (by decide)).trans h.at_.c7, (pset_else (by decide)).trans h.at_.c8, (pset_else (by decide)).trans h.at_.c9, pset_same h.at_.c10⟩, fun i => by rw [World.frozen?_setCell]; exact h.fr i⟩
set_option maxRecDepth 100000 in
theorem portIn_open {H : Type} {enc : TypeId × Value → H} {w : World} {r : Reach} {b0 : Nat} {v : Value} {d : DataW H} {p : List MemPlace} (hv : Value.okWide Tryd.prog w r b0 40 v) (h : DataW.Trod enc Tryd.prog w 0 (fun _ => true) true 40 v d p) :
    ∃ x : Pt, v = .agg #[.bool x.up, .bool x.has, .int .i64 x.r, .int .i64 x.c, .int .i64 x.b, .int .i64 x.p, .int .i64 x.h, .int .i64 x.l, .int .i64 x.ro, .int .i64 x.wa, .bool x.op] := by
  obtain ⟨cs, rfl, hsz⟩ := okWide_struct Tryd.underlying40 hv
  rw [(by kernel_rfl : Tryd.prog.cellsOf 40 = 11)] at hsz
  obtain ⟨cs⟩ := cs
  obtain ⟨fuel, hf0⟩ := h
  simp only [Value.cells] at hf0
  have hlen : cs.length = 11 := by simpa using hsz
  obtain ⟨xs, k, hk, hxy, _, hxl, hf⟩ := DataW.trod_struct Tryd.underlying40 hf0
  match xs, hxl, cs, hlen with
  | [y0, y1, y2, y3, y4, y5, y6, y7], _, [c0, c1, c2, c3, c4, c5, c6, c7, c8, c9, c10], _ =>
    have g0 : DataW.trod enc Tryd.prog w 0 (fun _ => true) true k 4 ((List.drop 0 [c0, c1, c2, c3, c4, c5, c6, c7, c8, c9, c10]).take (Tryd.prog.cellsOf 4)) = some y0 := hf 0 _ rfl
    rw [(by kernel_rfl : Tryd.prog.cellsOf 4 = 1)] at g0
    have g1 : DataW.trod enc Tryd.prog w 0 (fun _ => true) true k 4 ((List.drop 1 [c0, c1, c2, c3, c4, c5, c6, c7, c8, c9, c10]).take (Tryd.prog.cellsOf 4)) = some y1 := hf 1 _ rfl
    rw [(by kernel_rfl : Tryd.prog.cellsOf 4 = 1)] at g1
    have g2 : DataW.trod enc Tryd.prog w 0 (fun _ => true) true k 23 ((List.drop 2 [c0, c1, c2, c3, c4, c5, c6, c7, c8, c9, c10]).take (Tryd.prog.cellsOf 23)) = some y2 := hf 2 _ rfl
    rw [(by kernel_rfl : Tryd.prog.cellsOf 23 = 4)] at g2
    have g3 : DataW.trod enc Tryd.prog w 0 (fun _ => true) true k 3 ((List.drop 6 [c0, c1, c2, c3, c4, c5, c6, c7, c8, c9, c10]).take (Tryd.prog.cellsOf 3)) = some y3 := hf 3 _ rfl
    rw [(by kernel_rfl : Tryd.prog.cellsOf 3 = 1)] at g3
    have g4 : DataW.trod enc Tryd.prog w 0 (fun _ => true) true k 3 ((List.drop 7 [c0, c1, c2, c3, c4, c5, c6, c7, c8, c9, c10]).take (Tryd.prog.cellsOf 3)) = some y4 := hf 4 _ rfl
    rw [(by kernel_rfl : Tryd.prog.cellsOf 3 = 1)] at g4
    have g5 : DataW.trod enc Tryd.prog w 0 (fun _ => true) true k 3 ((List.drop 8 [c0, c1, c2, c3, c4, c5, c6, c7, c8, c9, c10]).take (Tryd.prog.cellsOf 3)) = some y5 := hf 5 _ rfl
    rw [(by kernel_rfl : Tryd.prog.cellsOf 3 = 1)] at g5
    have g6 : DataW.trod enc Tryd.prog w 0 (fun _ => true) true k 3 ((List.drop 9 [c0, c1, c2, c3, c4, c5, c6, c7, c8, c9, c10]).take (Tryd.prog.cellsOf 3)) = some y6 := hf 6 _ rfl
    rw [(by kernel_rfl : Tryd.prog.cellsOf 3 = 1)] at g6
    have g7 : DataW.trod enc Tryd.prog w 0 (fun _ => true) true k 4 ((List.drop 10 [c0, c1, c2, c3, c4, c5, c6, c7, c8, c9, c10]).take (Tryd.prog.cellsOf 4)) = some y7 := hf 7 _ rfl
    rw [(by kernel_rfl : Tryd.prog.cellsOf 4 = 1)] at g7
    obtain ⟨us, k2, hk2, hxy2, _, hul, hg⟩ := DataW.trod_struct Tryd.underlying23 g2
    match us, hul with
    | [u0, u1, u2, u3], _ =>
      have q0 : DataW.trod enc Tryd.prog w 0 (fun _ => true) true k2 3 ((List.drop 0 [c2, c3, c4, c5]).take (Tryd.prog.cellsOf 3)) = some u0 := hg 0 _ rfl
      rw [(by kernel_rfl : Tryd.prog.cellsOf 3 = 1)] at q0
      have q1 : DataW.trod enc Tryd.prog w 0 (fun _ => true) true k2 3 ((List.drop 1 [c2, c3, c4, c5]).take (Tryd.prog.cellsOf 3)) = some u1 := hg 1 _ rfl
      rw [(by kernel_rfl : Tryd.prog.cellsOf 3 = 1)] at q1
      have q2 : DataW.trod enc Tryd.prog w 0 (fun _ => true) true k2 3 ((List.drop 2 [c2, c3, c4, c5]).take (Tryd.prog.cellsOf 3)) = some u2 := hg 2 _ rfl
      rw [(by kernel_rfl : Tryd.prog.cellsOf 3 = 1)] at q2
      have q3 : DataW.trod enc Tryd.prog w 0 (fun _ => true) true k2 3 ((List.drop 3 [c2, c3, c4, c5]).take (Tryd.prog.cellsOf 3)) = some u3 := hg 3 _ rfl
      rw [(by kernel_rfl : Tryd.prog.cellsOf 3 = 1)] at q3
      obtain ⟨z0, e0, _⟩ := DataW.trod_bool Tryd.underlying4 g0
      obtain ⟨z1, e1, _⟩ := DataW.trod_bool Tryd.underlying4 g1
      obtain ⟨z10, e10, _⟩ := DataW.trod_bool Tryd.underlying4 g7
      obtain ⟨z2, e2, _, _⟩ := DataW.trod_int Tryd.underlying3 q0
      obtain ⟨z3, e3, _, _⟩ := DataW.trod_int Tryd.underlying3 q1
      obtain ⟨z4, e4, _, _⟩ := DataW.trod_int Tryd.underlying3 q2
      obtain ⟨z5, e5, _, _⟩ := DataW.trod_int Tryd.underlying3 q3
      obtain ⟨z6, e6, _, _⟩ := DataW.trod_int Tryd.underlying3 g3
      obtain ⟨z7, e7, _, _⟩ := DataW.trod_int Tryd.underlying3 g4
      obtain ⟨z8, e8, _, _⟩ := DataW.trod_int Tryd.underlying3 g5
      obtain ⟨z9, e9, _, _⟩ := DataW.trod_int Tryd.underlying3 g6
      simp at e0 e1 e2 e3 e4 e5 e6 e7 e8 e9 e10
      subst e0 e1 e2 e3 e4 e5 e6 e7 e8 e9 e10
      exact ⟨⟨z0, z1, z2, z3, z4, z5, z6, z7, z8, z9, z10⟩, rfl⟩
set_option maxHeartbeats 2000000 in
theorem toP (x : Pt) (w : World) :
    Calls Tryd.prog 14 #[.agg #[.bool x.up, .bool x.has, .int .i64 x.r, .int .i64 x.c, .int .i64 x.b, .int .i64 x.p, .int .i64 x.h, .int .i64 x.l, .int .i64 x.ro, .int .i64 x.wa, .bool x.op]] w fun e w' => e = .returned (.agg #[.bool x.up, .bool x.has, .int .i64 x.r, .int .i64 x.c, .int .i64 x.b, .int .i64 x.p, .int .i64 x.h, .int .i64 x.l, .int .i64 x.ro, .int .i64 x.wa, .bool x.op]) ∧ Below w.heap.size w w' := by
  obtain ⟨w0, hw0⟩ : ∃ w0, w0 = (((w.alloc (Obj.cells #[.bool x.up, .bool x.has, .int .i64 x.r, .int .i64 x.c, .int .i64 x.b, .int .i64 x.p, .int .i64 x.h, .int .i64 x.l, .int .i64 x.ro, .int .i64 x.wa, .bool x.op] 40)).alloc (Obj.cells #[.bool false, .bool false, .int .i64 0, .int .i64 0, .int .i64 0, .int .i64 0, .int .i64 0, .int .i64 0, .int .i64 0, .int .i64 0, .bool false] 43)).alloc (Obj.cells #[.bool x.up, .bool x.has, .int .i64 0, .int .i64 0, .int .i64 0, .int .i64 0, .int .i64 0, .int .i64 0, .int .i64 0, .int .i64 0, .bool false] 43)) := ⟨_, rfl⟩
  obtain ⟨N, hN⟩ : ∃ N, N = w.heap.size := ⟨_, rfl⟩
  have b0 : Below w.heap.size w w0 := by rw [hw0]; exact (((Below.refl _ _).alloc (Nat.le_refl _) _).alloc (by simp) _).alloc (by simp; omega) _
  have P0 : PtAt w0 N x := by rw [hw0, hN]; constructor <;> simp [go_sem]
  have Q0 : PBox w0 (N + 1) ⟨false, false, 0, 0, 0, 0, 0, 0, 0, 0, false⟩ := by rw [hw0, hN]; refine ⟨?_, ?_⟩; constructor <;> simp [go_sem]; intro i; simp [go_sem]
  have R0 : PBox w0 (N + 1 + 1) ⟨x.up, x.has, 0, 0, 0, 0, 0, 0, 0, 0, false⟩ := by rw [hw0, hN]; refine ⟨?_, ?_⟩; constructor <;> simp [go_sem]; intro i; simp [go_sem]
  go_enter Tryd.func14, Tryd.ntmps14
  go_wp2_with fail
  go_at_call 23
  rw [← hw0, ← hN]
  have hN' : w.heap.size ≤ N := by omega
  clear hw0 hN
  refine (toV x.r x.c x.b x.p w0).mono ?_
  rintro e w1 ⟨rfl, k1⟩
  have hle : N + 1 + 1 < w0.heap.size := R0.lt
  have b1 := b0.trans (k1.mono (by omega))
  have P1 := P0.below k1 (by omega)
  have Q1 := Q0.below k1 (by omega)
  have R1 := R0.below k1 (by omega)
  clear P0 Q0 R0 k1 b0
  obtain ⟨p0, p1, p2, p3, p4, p5, p6, p7, p8, p9, p10⟩ := P1
  have R1' := R1
  obtain ⟨⟨r0, r1, r2, r3, r4, r5, r6, r7, r8, r9, r10⟩, rf⟩ := R1
  go_upto_region 5 with fail
  obtain ⟨y, hy⟩ : ∃ y, y = (((w1.setCell ⟨N + 1 + 1, 2, none⟩ (.int .i64 x.r)).setCell ⟨N + 1 + 1, 3, none⟩ (.int .i64 x.c)).setCell ⟨N + 1 + 1, 4, none⟩ (.int .i64 x.b)).setCell ⟨N + 1 + 1, 5, none⟩ (.int .i64 x.p) := ⟨_, rfl⟩
  have R2 : PBox y (N + 1 + 1) ⟨x.up, x.has, x.r, x.c, x.b, x.p, 0, 0, 0, 0, false⟩ := by rw [hy]; exact (((R1'.set2 x.r).set3 x.c).set4 x.b).set5 x.p
  have P2 : PtAt y N x := by rw [hy]; exact ((((⟨p0, p1, p2, p3, p4, p5, p6, p7, p8, p9, p10⟩ : PtAt w1 N x).other (by omega)).other (by omega)).other (by omega)).other (by omega)
  have Q2 : PBox y (N + 1) ⟨false, false, 0, 0, 0, 0, 0, 0, 0, 0, false⟩ := by rw [hy]; exact (((Q1.other (by omega)).other (by omega)).other (by omega)).other (by omega)
  have b2 : Below w.heap.size w y := by rw [hy]; exact (((b1.setCell (by show _ ≤ N + 1 + 1; omega) _).setCell (by show _ ≤ N + 1 + 1; omega) _).setCell (by show _ ≤ N + 1 + 1; omega) _).setCell (by show _ ≤ N + 1 + 1; omega) _
  rw [← hy]
  clear hy p0 r0 p1 r1 p2 r2 p3 r3 p4 r4 p5 r5 p6 r6 p7 r7 p8 r8 p9 r9 p10 r10 rf R1' Q1 b1
  obtain ⟨p0, p1, p2, p3, p4, p5, p6, p7, p8, p9, p10⟩ := P2
  have R2' := R2
  obtain ⟨⟨r0, r1, r2, r3, r4, r5, r6, r7, r8, r9, r10⟩, rf⟩ := R2
  go_upto_region 10 with fail
  obtain ⟨z, hz⟩ : ∃ z, z = ((((y.setCell ⟨N + 1 + 1, 6, none⟩ (.int .i64 x.h)).setCell ⟨N + 1 + 1, 7, none⟩ (.int .i64 x.l)).setCell ⟨N + 1 + 1, 8, none⟩ (.int .i64 x.ro)).setCell ⟨N + 1 + 1, 9, none⟩ (.int .i64 x.wa)).setCell ⟨N + 1 + 1, 10, none⟩ (.bool x.op) := ⟨_, rfl⟩
  have R3 : PBox z (N + 1 + 1) x := by rw [hz]; exact ((((R2'.set6 x.h).set7 x.l).set8 x.ro).set9 x.wa).set10 x.op
  have Q3 : PBox z (N + 1) ⟨false, false, 0, 0, 0, 0, 0, 0, 0, 0, false⟩ := by rw [hz]; exact ((((Q2.other (by omega)).other (by omega)).other (by omega)).other (by omega)).other (by omega)
  have b3 : Below w.heap.size w z := by rw [hz]; exact ((((b2.setCell (by show _ ≤ N + 1 + 1; omega) _).setCell (by show _ ≤ N + 1 + 1; omega) _).setCell (by show _ ≤ N + 1 + 1; omega) _).setCell (by show _ ≤ N + 1 + 1; omega) _).setCell (by show _ ≤ N + 1 + 1; omega) _
  rw [← hz]
  clear hz p0 r0 p1 r1 p2 r2 p3 r3 p4 r4 p5 r5 p6 r6 p7 r7 p8 r8 p9 r9 p10 r10 rf R2' Q2 b2
  obtain ⟨r0, r1, r2, r3, r4, r5, r6, r7, r8, r9, r10⟩ := R3.at_
  obtain ⟨⟨q0, q1, q2, q3, q4, q5, q6, q7, q8, q9, q10⟩, qf⟩ := Q3
  clear R3
  go_wp2
  refine bodyPost_ret (v := .agg #[.bool x.up, .bool x.has, .int .i64 x.r, .int .i64 x.c, .int .i64 x.b, .int .i64 x.p, .int .i64 x.h, .int .i64 x.l, .int .i64 x.ro, .int .i64 x.wa, .bool x.op]) (by simp [results, Tryd.results14, go_sem, *]) rfl ⟨rfl, ?_⟩
  repeat' (first | with_reducible exact b3 | refine Below.setCell ?_ (by show _ ≤ N + 1; omega) _)

theorem eqVs (r c b p : Int) (w : World) :
    Calls Tryd.prog 45 #[.agg #[.int .i64 r, .int .i64 c, .int .i64 b, .int .i64 p], .agg #[.int .i64 r, .int .i64 c, .int .i64 b, .int .i64 p]] w fun e w' => e = .returned (.bool true) ∧ Below w.heap.size w w' := by
  go_enter Tryd.func45, Tryd.ntmps45
  go_wp2
  go_ret
  exact ⟨rfl, ((Below.refl _ _).alloc (Nat.le_refl _) _).alloc (by simp) _⟩
set_option maxHeartbeats 2000000 in
theorem eqP (x : Pt) (w : World) :
    Calls Tryd.prog 39 #[.agg #[.bool x.up, .bool x.has, .int .i64 x.r, .int .i64 x.c, .int .i64 x.b, .int .i64 x.p, .int .i64 x.h, .int .i64 x.l, .int .i64 x.ro, .int .i64 x.wa, .bool x.op], .agg #[.bool x.up, .bool x.has, .int .i64 x.r, .int .i64 x.c, .int .i64 x.b, .int .i64 x.p, .int .i64 x.h, .int .i64 x.l, .int .i64 x.ro, .int .i64 x.wa, .bool x.op]] w fun e w' => e = .returned (.bool true) ∧ Below w.heap.size w w' := by
  obtain ⟨w0, hw0⟩ : ∃ w0, w0 = ((w.alloc (Obj.cells #[.bool x.up, .bool x.has, .int .i64 x.r, .int .i64 x.c, .int .i64 x.b, .int .i64 x.p, .int .i64 x.h, .int .i64 x.l, .int .i64 x.ro, .int .i64 x.wa, .bool x.op] 43)).alloc (Obj.cells #[.bool x.up, .bool x.has, .int .i64 x.r, .int .i64 x.c, .int .i64 x.b, .int .i64 x.p, .int .i64 x.h, .int .i64 x.l, .int .i64 x.ro, .int .i64 x.wa, .bool x.op] 43)) := ⟨_, rfl⟩
  obtain ⟨N, hN⟩ : ∃ N, N = w.heap.size := ⟨_, rfl⟩
  have b0 : Below w.heap.size w w0 := by rw [hw0]; exact ((Below.refl _ _).alloc (Nat.le_refl _) _).alloc (by simp) _
  have P0 : PtAt w0 N x := by rw [hw0, hN]; constructor <;> simp [go_sem]
  have R0 : PtAt w0 (N + 1) x := by rw [hw0, hN]; constructor <;> simp [go_sem]
  go_enter Tryd.func39, Tryd.ntmps39
  go_wp2_with fail
  go_at_call 45
  rw [← hw0, ← hN]
  have hN' : w.heap.size ≤ N := by omega
  clear hw0 hN
  refine (eqVs x.r x.c x.b x.p w0).mono ?_
  rintro e w1 ⟨rfl, k1⟩
  have hle : N + 1 < w0.heap.size := R0.lt
  have b1 := b0.trans (k1.mono (by omega))
  obtain ⟨p0, p1, p2, p3, p4, p5, p6, p7, p8, p9, p10⟩ := P0.below k1 (by omega)
  obtain ⟨r0, r1, r2, r3, r4, r5, r6, r7, r8, r9, r10⟩ := R0.below k1 (by omega)
  clear P0 R0 k1 b0
  go_wp2
  go_ret
  exact ⟨rfl, b1⟩

end Go.Proofs.YtjholgpjicliaaaDoor
