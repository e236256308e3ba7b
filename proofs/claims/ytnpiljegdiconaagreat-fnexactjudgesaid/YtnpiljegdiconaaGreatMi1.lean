/- Minders in memory. -/
import Derived.Test.YtnpiljegdiconaaGreatRows
import Derived.WalkKit
import Derived.ProofKit
import Derived.OpenShut
import Derived.ShutString
import Derived.ChangeOld
import Derived.Below
import Derived.Deep.QuietTactic
import Derived.BigQuiet
import Derived.WalkSmall
import Derived.Laws.OwnMore
import Derived.WalkSpells
import Derived.WalkLawsBesides
import Derived.Test.YtnpiljegdiconaaGreatMi0
import Derived.Test.YtnpiljegdiconaaGreatPort1
import Derived.Test.YtnpiljegdiconaaGreatBr1
namespace Go.Proofs.YtnpiljegdiconaaGreat
open Go.ChangeShapes Go.WideShapes Go.ChangeAt Go.RowKit
open Go.ChangeMaps (open_string shut_string)
set_option linter.unusedVariables false
set_option maxRecDepth 100000

/-- A minder's box. -/
structure MiAt (w : World) (q : Nat) (m : Mi) (v : Value) : Prop where
  c0 : w.cell? ⟨q, 0, none⟩ = some (.bool m.up)
  c1 : w.cell? ⟨q, 1, none⟩ = some (.int .i64 m.li)
  c2 : w.cell? ⟨q, 2, none⟩ = some (.int .i64 m.ep)
  c3 : w.cell? ⟨q, 3, none⟩ = some (v)
  c4 : w.cell? ⟨q, 4, none⟩ = some (.int .i64 m.sd)
  c5 : w.cell? ⟨q, 5, none⟩ = some (.int .i64 m.ac)
  c6 : w.cell? ⟨q, 6, none⟩ = some (.int .i64 m.al)
theorem MiAt.keep {w w' : World} {q : Nat} {m : Mi} {v : Value} (h : MiAt w q m v) (k : w'.heap[q]? = w.heap[q]?) : MiAt w' q m v :=
  ⟨(World.cell?_of_block (a := ⟨q, 0, none⟩) k).trans h.c0, (World.cell?_of_block (a := ⟨q, 1, none⟩) k).trans h.c1, (World.cell?_of_block (a := ⟨q, 2, none⟩) k).trans h.c2, (World.cell?_of_block (a := ⟨q, 3, none⟩) k).trans h.c3, (World.cell?_of_block (a := ⟨q, 4, none⟩) k).trans h.c4, (World.cell?_of_block (a := ⟨q, 5, none⟩) k).trans h.c5, (World.cell?_of_block (a := ⟨q, 6, none⟩) k).trans h.c6⟩
theorem MiAt.below {w w' : World} {q n : Nat} {m : Mi} {v : Value} (h : MiAt w q m v) (k : Below n w w') (hq : q < n) : MiAt w' q m v := h.keep (k.block q hq)
theorem MiAt.lt {w : World} {q : Nat} {m : Mi} {v : Value} (h : MiAt w q m v) : q < w.heap.size := World.block_lt_of_cell? w _ h.c0
theorem MiAt.new (w : World) (t : TypeId) (m : Mi) (v : Value) : MiAt (w.alloc (Obj.cells #[.bool m.up, .int .i64 m.li, .int .i64 m.ep, v, .int .i64 m.sd, .int .i64 m.ac, .int .i64 m.al] t)) w.heap.size m v := by
  refine ⟨?_, ?_, ?_, ?_, ?_, ?_, ?_⟩ <;> simp [go_sem]
/-- A minder's box that may be written. -/
structure MiBox (w : World) (q : Nat) (m : Mi) (v : Value) : Prop where
  c0 : w.cell? ⟨q, 0, none⟩ = some (.bool m.up)
  c1 : w.cell? ⟨q, 1, none⟩ = some (.int .i64 m.li)
  c2 : w.cell? ⟨q, 2, none⟩ = some (.int .i64 m.ep)
  c3 : w.cell? ⟨q, 3, none⟩ = some (v)
  c4 : w.cell? ⟨q, 4, none⟩ = some (.int .i64 m.sd)
  c5 : w.cell? ⟨q, 5, none⟩ = some (.int .i64 m.ac)
  c6 : w.cell? ⟨q, 6, none⟩ = some (.int .i64 m.al)
  fr : ∀ i, w.frozen? ⟨q, i, none⟩ = false
theorem MiBox.keep {w w' : World} {q : Nat} {m : Mi} {v : Value} (h : MiBox w q m v) (k : w'.heap[q]? = w.heap[q]?) : MiBox w' q m v :=
  ⟨(World.cell?_of_block (a := ⟨q, 0, none⟩) k).trans h.c0, (World.cell?_of_block (a := ⟨q, 1, none⟩) k).trans h.c1, (World.cell?_of_block (a := ⟨q, 2, none⟩) k).trans h.c2, (World.cell?_of_block (a := ⟨q, 3, none⟩) k).trans h.c3, (World.cell?_of_block (a := ⟨q, 4, none⟩) k).trans h.c4, (World.cell?_of_block (a := ⟨q, 5, none⟩) k).trans h.c5, (World.cell?_of_block (a := ⟨q, 6, none⟩) k).trans h.c6, fun i => (World.frozen?_of_block (a := ⟨q, i, none⟩) k).trans (h.fr i)⟩
theorem MiBox.below {w w' : World} {q n : Nat} {m : Mi} {v : Value} (h : MiBox w q m v) (k : Below n w w') (hq : q < n) : MiBox w' q m v := h.keep (k.block q hq)
theorem MiBox.lt {w : World} {q : Nat} {m : Mi} {v : Value} (h : MiBox w q m v) : q < w.heap.size := World.block_lt_of_cell? w _ h.c0
theorem MiBox.new (w : World) (t : TypeId) (m : Mi) (v : Value) : MiBox (w.alloc (Obj.cells #[.bool m.up, .int .i64 m.li, .int .i64 m.ep, v, .int .i64 m.sd, .int .i64 m.ac, .int .i64 m.al] t)) w.heap.size m v := by
  refine ⟨?_, ?_, ?_, ?_, ?_, ?_, ?_, ?_⟩ <;> simp [go_sem]
/-- A minder at work: its log, and what it tells beside it; it may be written. -/
structure MgBox (w : World) (q : Nat) (m : Mi) (v : Value) : Prop where
  c0 : w.cell? ⟨q, 0, none⟩ = some (v)
  c1 : w.cell? ⟨q, 1, none⟩ = some (.bool m.up)
  c2 : w.cell? ⟨q, 2, none⟩ = some (.int .i64 m.li)
  c3 : w.cell? ⟨q, 3, none⟩ = some (.int .i64 m.ep)
  c4 : w.cell? ⟨q, 4, none⟩ = some (.int .i64 m.sd)
  c5 : w.cell? ⟨q, 5, none⟩ = some (.int .i64 m.ac)
  c6 : w.cell? ⟨q, 6, none⟩ = some (.int .i64 m.al)
  fr : ∀ i, w.frozen? ⟨q, i, none⟩ = false
theorem MgBox.keep {w w' : World} {q : Nat} {m : Mi} {v : Value} (h : MgBox w q m v) (k : w'.heap[q]? = w.heap[q]?) : MgBox w' q m v :=
  ⟨(World.cell?_of_block (a := ⟨q, 0, none⟩) k).trans h.c0, (World.cell?_of_block (a := ⟨q, 1, none⟩) k).trans h.c1, (World.cell?_of_block (a := ⟨q, 2, none⟩) k).trans h.c2, (World.cell?_of_block (a := ⟨q, 3, none⟩) k).trans h.c3, (World.cell?_of_block (a := ⟨q, 4, none⟩) k).trans h.c4, (World.cell?_of_block (a := ⟨q, 5, none⟩) k).trans h.c5, (World.cell?_of_block (a := ⟨q, 6, none⟩) k).trans h.c6, fun i => (World.frozen?_of_block (a := ⟨q, i, none⟩) k).trans (h.fr i)⟩
theorem MgBox.below {w w' : World} {q n : Nat} {m : Mi} {v : Value} (h : MgBox w q m v) (k : Below n w w') (hq : q < n) : MgBox w' q m v := h.keep (k.block q hq)
theorem MgBox.lt {w : World} {q : Nat} {m : Mi} {v : Value} (h : MgBox w q m v) : q < w.heap.size := World.block_lt_of_cell? w _ h.c0
theorem MgBox.new (w : World) (t : TypeId) (m : Mi) (v : Value) : MgBox (w.alloc (Obj.cells #[v, .bool m.up, .int .i64 m.li, .int .i64 m.ep, .int .i64 m.sd, .int .i64 m.ac, .int .i64 m.al] t)) w.heap.size m v := by
  refine ⟨?_, ?_, ?_, ?_, ?_, ?_, ?_, ?_⟩ <;> simp [go_sem]
theorem MiBox.at_ {w : World} {q : Nat} {m : Mi} {v : Value} (h : MiBox w q m v) : MiAt w q m v := ⟨h.c0, h.c1, h.c2, h.c3, h.c4, h.c5, h.c6⟩
theorem MiBox.log {w : World} {q : Nat} {m : Mi} {v : Value} (h : MiBox w q m v) (v' : Value) : MiBox (w.setCell ⟨q, 3, none⟩ v') q m v' :=
  ⟨(pset_else (by decide)).trans h.c0, (pset_else (by decide)).trans h.c1, (pset_else (by decide)).trans h.c2, pset_same h.c3, (pset_else (by decide)).trans h.c4, (pset_else (by decide)).trans h.c5, (pset_else (by decide)).trans h.c6, fun i => by rw [World.frozen?_setCell]; exact h.fr i⟩
theorem MgBox.log {w : World} {q : Nat} {m : Mi} {v : Value} (h : MgBox w q m v) (v' : Value) : MgBox (w.setCell ⟨q, 0, none⟩ v') q m v' :=
  ⟨pset_same h.c0, (pset_else (by decide)).trans h.c1, (pset_else (by decide)).trans h.c2, (pset_else (by decide)).trans h.c3, (pset_else (by decide)).trans h.c4, (pset_else (by decide)).trans h.c5, (pset_else (by decide)).trans h.c6, fun i => by rw [World.frozen?_setCell]; exact h.fr i⟩
theorem MiAt.lg {w : World} {q : Nat} {m : Mi} {v : Value} (L : List Ik) (h : MiAt w q m v) : MiAt w q { m with lg := L } v := ⟨h.c0, h.c1, h.c2, h.c3, h.c4, h.c5, h.c6⟩
theorem MiBox.lg {w : World} {q : Nat} {m : Mi} {v : Value} (L : List Ik) (h : MiBox w q m v) : MiBox w q { m with lg := L } v := ⟨h.c0, h.c1, h.c2, h.c3, h.c4, h.c5, h.c6, h.fr⟩
theorem MgBox.lg {w : World} {q : Nat} {m : Mi} {v : Value} (L : List Ik) (h : MgBox w q m v) : MgBox w q { m with lg := L } v := ⟨h.c0, h.c1, h.c2, h.c3, h.c4, h.c5, h.c6, h.fr⟩

end Go.Proofs.YtnpiljegdiconaaGreat
