/- Registers in memory. -/
import Derived.Test.YtplejmkbdonkpabRows
import Derived.WalkKit
import Derived.ProofKit
import Derived.OpenShut
import Derived.ShutString
import Derived.ChangeOld
import Derived.Below
import Derived.Deep.QuietTactic
import Derived.BigQuiet
import Derived.WalkSmall
import Derived.Laws.OwnMore
import Derived.WalkSpells
import Derived.WalkLawsBesides
import Derived.Test.YtplejmkbdonkpabRg13
import Derived.Test.YtplejmkbdonkpabMi1
namespace Go.Proofs.Ytplejmkbdonkpab
open Go.ChangeShapes Go.WideShapes Go.ChangeAt Go.RowKit
open Go.ChangeMaps (open_string shut_string)
set_option linter.unusedVariables false
set_option maxRecDepth 100000

/-- A register's box. -/
structure RgAt (w : World) (q : Nat) (r : Rg) : Prop where
  c0 : w.cell? ⟨q, 0, none⟩ = some (.int .i64 r.ep)
  c1 : w.cell? ⟨q, 1, none⟩ = some (.int .i64 r.ow)
  c2 : w.cell? ⟨q, 2, none⟩ = some (.int .i64 r.pa)
theorem RgAt.keep {w w' : World} {q : Nat} {r : Rg} (h : RgAt w q r) (k : w'.heap[q]? = w.heap[q]?) : RgAt w' q r :=
  ⟨(World.cell?_of_block (a := ⟨q, 0, none⟩) k).trans h.c0, (World.cell?_of_block (a := ⟨q, 1, none⟩) k).trans h.c1, (World.cell?_of_block (a := ⟨q, 2, none⟩) k).trans h.c2⟩
theorem RgAt.below {w w' : World} {q n : Nat} {r : Rg} (h : RgAt w q r) (k : Below n w w') (hq : q < n) : RgAt w' q r := h.keep (k.block q hq)
theorem RgAt.lt {w : World} {q : Nat} {r : Rg} (h : RgAt w q r) : q < w.heap.size := World.block_lt_of_cell? w _ h.c0
theorem RgAt.new (w : World) (t : TypeId) (r : Rg) : RgAt (w.alloc (Obj.cells #[.int .i64 r.ep, .int .i64 r.ow, .int .i64 r.pa] t)) w.heap.size r := by
  refine ⟨?_, ?_, ?_⟩ <;> simp [go_sem]
/-- A register's box that may be written. -/
structure RgBox (w : World) (q : Nat) (r : Rg) : Prop where
  at_ : RgAt w q r
  fr : ∀ i, w.frozen? ⟨q, i, none⟩ = false
theorem RgBox.keep {w w' : World} {q : Nat} {r : Rg} (h : RgBox w q r) (k : w'.heap[q]? = w.heap[q]?) : RgBox w' q r :=
  ⟨h.at_.keep k, fun i => (World.frozen?_of_block (a := ⟨q, i, none⟩) k).trans (h.fr i)⟩
theorem RgBox.below {w w' : World} {q n : Nat} {r : Rg} (h : RgBox w q r) (k : Below n w w') (hq : q < n) : RgBox w' q r := h.keep (k.block q hq)
theorem RgBox.lt {w : World} {q : Nat} {r : Rg} (h : RgBox w q r) : q < w.heap.size := h.at_.lt
theorem RgBox.put {w : World} {q : Nat} {r : Rg} (h : RgBox w q r) (r' : Rg) : RgBox (((w.setCell ⟨q, 0, none⟩ (.int .i64 r'.ep)).setCell ⟨q, 1, none⟩ (.int .i64 r'.ow)).setCell ⟨q, 2, none⟩ (.int .i64 r'.pa)) q r' := by
  obtain ⟨⟨h0, h1, h2⟩, hf⟩ := h
  have h0 : (w.setCell ⟨q, 0, none⟩ (.int .i64 r'.ep)).cell? ⟨q, 0, none⟩ = some (.int .i64 r'.ep) := pset_same h0
  have h1 : (w.setCell ⟨q, 0, none⟩ (.int .i64 r'.ep)).cell? ⟨q, 1, none⟩ = _ := (pset_else (by decide)).trans h1
  have h2 : (w.setCell ⟨q, 0, none⟩ (.int .i64 r'.ep)).cell? ⟨q, 2, none⟩ = _ := (pset_else (by decide)).trans h2
  have h0 : ((w.setCell ⟨q, 0, none⟩ (.int .i64 r'.ep)).setCell ⟨q, 1, none⟩ (.int .i64 r'.ow)).cell? ⟨q, 0, none⟩ = _ := (pset_else (by decide)).trans h0
  have h1 : ((w.setCell ⟨q, 0, none⟩ (.int .i64 r'.ep)).setCell ⟨q, 1, none⟩ (.int .i64 r'.ow)).cell? ⟨q, 1, none⟩ = some (.int .i64 r'.ow) := pset_same h1
  have h2 : ((w.setCell ⟨q, 0, none⟩ (.int .i64 r'.ep)).setCell ⟨q, 1, none⟩ (.int .i64 r'.ow)).cell? ⟨q, 2, none⟩ = _ := (pset_else (by decide)).trans h2
  refine ⟨⟨(pset_else (by decide)).trans h0, (pset_else (by decide)).trans h1, pset_same h2⟩, fun i => ?_⟩
  rw [World.frozen?_setCell, World.frozen?_setCell, World.frozen?_setCell]; exact hf i
theorem heap_put3 (w : World) (q k : Nat) (r' : Rg) (h : k ≠ q) : (((w.setCell ⟨q, 0, none⟩ (.int .i64 r'.ep)).setCell ⟨q, 1, none⟩ (.int .i64 r'.ow)).setCell ⟨q, 2, none⟩ (.int .i64 r'.pa)).heap[k]? = w.heap[k]? := by
  rw [Below.heap_setCell _ _ _ _ h, Below.heap_setCell _ _ _ _ h, Below.heap_setCell _ _ _ _ h]
theorem below_put3 {a w : World} {q n : Nat} (r' : Rg) (h : Below n a w) (hq : n ≤ q) : Below n a (((w.setCell ⟨q, 0, none⟩ (.int .i64 r'.ep)).setCell ⟨q, 1, none⟩ (.int .i64 r'.ow)).setCell ⟨q, 2, none⟩ (.int .i64 r'.pa)) :=
  ((h.setCell (p := ⟨q, 0, none⟩) hq _).setCell (p := ⟨q, 1, none⟩) hq _).setCell (p := ⟨q, 2, none⟩) hq _

end Go.Proofs.Ytplejmkbdonkpab
