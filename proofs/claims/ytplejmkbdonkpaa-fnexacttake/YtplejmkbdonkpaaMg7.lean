/- spec.l12Copy, spec.Note, walked. -/
import Derived.Test.YtplejmkbdonkpaaRows
import Derived.WalkKit
import Derived.ProofKit
import Derived.OpenShut
import Derived.ShutString
import Derived.ChangeOld
import Derived.Below
import Derived.Deep.QuietTactic
import Derived.BigQuiet
import Derived.WalkSmall
import Derived.Laws.OwnMore
import Derived.WalkSpells
import Derived.WalkLawsBesides
import Derived.Deep.Cut
import Derived.Maps.AppendAt
import Derived.Test.YtplejmkbdonkpaaMg6
import Derived.Test.YtplejmkbdonkpaaMg1
namespace Go.Proofs.Ytplejmkbdonkpaa
open Go.ChangeShapes Go.WideShapes Go.ChangeAt Go.RowKit
open Go.ChangeMaps (open_string shut_string)
set_option linter.unusedVariables false
set_option maxRecDepth 100000

theorem MiBox.put {w : World} {q : Nat} {m : Mi} {v : Value} (h : MiBox w q m v) (m' : Mi) (v' : Value) : MiBox (((((((w.setCell ⟨q, 0, none⟩ (.bool m'.up)).setCell ⟨q, 1, none⟩ (.int .i64 m'.li)).setCell ⟨q, 2, none⟩ (.int .i64 m'.ep)).setCell ⟨q, 3, none⟩ (v')).setCell ⟨q, 4, none⟩ (.int .i64 m'.sd)).setCell ⟨q, 5, none⟩ (.int .i64 m'.ac)).setCell ⟨q, 6, none⟩ (.int .i64 m'.al)) q m' v' := by
  obtain ⟨h0, h1, h2, h3, h4, h5, h6, hf⟩ := h
  have h0 : (w.setCell ⟨q, 0, none⟩ (.bool m'.up)).cell? ⟨q, 0, none⟩ = some (.bool m'.up) := pset_same h0
  have h1 : (w.setCell ⟨q, 0, none⟩ (.bool m'.up)).cell? ⟨q, 1, none⟩ = _ := (pset_else (by decide)).trans h1
  have h2 : (w.setCell ⟨q, 0, none⟩ (.bool m'.up)).cell? ⟨q, 2, none⟩ = _ := (pset_else (by decide)).trans h2
  have h3 : (w.setCell ⟨q, 0, none⟩ (.bool m'.up)).cell? ⟨q, 3, none⟩ = _ := (pset_else (by decide)).trans h3
  have h4 : (w.setCell ⟨q, 0, none⟩ (.bool m'.up)).cell? ⟨q, 4, none⟩ = _ := (pset_else (by decide)).trans h4
  have h5 : (w.setCell ⟨q, 0, none⟩ (.bool m'.up)).cell? ⟨q, 5, none⟩ = _ := (pset_else (by decide)).trans h5
  have h6 : (w.setCell ⟨q, 0, none⟩ (.bool m'.up)).cell? ⟨q, 6, none⟩ = _ := (pset_else (by decide)).trans h6
  have h0 : ((w.setCell ⟨q, 0, none⟩ (.bool m'.up)).setCell ⟨q, 1, none⟩ (.int .i64 m'.li)).cell? ⟨q, 0, none⟩ = _ := (pset_else (by decide)).trans h0
  have h1 : ((w.setCell ⟨q, 0, none⟩ (.bool m'.up)).setCell ⟨q, 1, none⟩ (.int .i64 m'.li)).cell? ⟨q, 1, none⟩ = some (.int .i64 m'.li) := pset_same h1
  have h2 : ((w.setCell ⟨q, 0, none⟩ (.bool m'.up)).setCell ⟨q, 1, none⟩ (.int .i64 m'.li)).cell? ⟨q, 2, none⟩ = _ := (pset_else (by decide)).trans h2
  have h3 : ((w.setCell ⟨q, 0, none⟩ (.bool m'.up)).setCell ⟨q, 1, none⟩ (.int .i64 m'.li)).cell? ⟨q, 3, none⟩ = _ := (pset_else (by decide)).trans h3
  have h4 : ((w.setCell ⟨q, 0, none⟩ (.bool m'.up)).setCell ⟨q, 1, none⟩ (.int .i64 m'.li)).cell? ⟨q, 4, none⟩ = _ := (pset_else (by decide)).trans h4
  have h5 : ((w.setCell ⟨q, 0, none⟩ (.bool m'.up)).setCell ⟨q, 1, none⟩ (.int .i64 m'.li)).cell? ⟨q, 5, none⟩ = _ := (pset_else (by decide)).trans h5
  have h6 : ((w.setCell ⟨q, 0, none⟩ (.bool m'.up)).setCell ⟨q, 1, none⟩ (.int .i64 m'.li)).cell? ⟨q, 6, none⟩ = _ := (pset_else (by decide)).trans h6
  have h0 : (((w.setCell ⟨q, 0, none⟩ (.bool m'.up)).setCell ⟨q, 1, none⟩ (.int .i64 m'.li)).setCell ⟨q, 2, none⟩ (.int .i64 m'.ep)).cell? ⟨q, 0, none⟩ = _ := (pset_else (by decide)).trans h0
  have h1 : (((w.setCell ⟨q, 0, none⟩ (.bool m'.up)).setCell ⟨q, 1, none⟩ (.int .i64 m'.li)).setCell ⟨q, 2, none⟩ (.int .i64 m'.ep)).cell? ⟨q, 1, none⟩ = _ := (pset_else (by decide)).trans h1
  have h2 : (((w.setCell ⟨q, 0, none⟩ (.bool m'.up)).setCell ⟨q, 1, none⟩ (.int .i64 m'.li)).setCell ⟨q, 2, none⟩ (.int .i64 m'.ep)).cell? ⟨q, 2, none⟩ = some (.int .i64 m'.ep) := pset_same h2
  have h3 : (((w.setCell ⟨q, 0, none⟩ (.bool m'.up)).setCell ⟨q, 1, none⟩ (.int .i64 m'.li)).setCell ⟨q, 2, none⟩ (.int .i64 m'.ep)).cell? ⟨q, 3, none⟩ = _ := (pset_else (by decide)).trans h3
  have h4 : (((w.setCell ⟨q, 0, none⟩ (.bool m'.up)).setCell ⟨q, 1, none⟩ (.int .i64 m'.li)).setCell ⟨q, 2, none⟩ (.int .i64 m'.ep)).cell? ⟨q, 4, none⟩ = _ := (pset_else (by decide)).trans h4
  have h5 : (((w.setCell ⟨q, 0, none⟩ (.bool m'.up)).setCell ⟨q, 1, none⟩ (.int .i64 m'.li)).setCell ⟨q, 2, none⟩ (.int .i64 m'.ep)).cell? ⟨q, 5, none⟩ = _ := (pset_else (by decide)).trans h5
  have h6 : (((w.setCell ⟨q, 0, none⟩ (.bool m'.up)).setCell ⟨q, 1, none⟩ (.int .i64 m'.li)).setCell ⟨q, 2, none⟩ (.int .i64 m'.ep)).cell? ⟨q, 6, none⟩ = _ := (pset_else (by decide)).trans h6
  have h0 : ((((w.setCell ⟨q, 0, none⟩ (.bool m'.up)).setCell ⟨q, 1, none⟩ (.int .i64 m'.li)).setCell ⟨q, 2, none⟩ (.int .i64 m'.ep)).setCell ⟨q, 3, none⟩ (v')).cell? ⟨q, 0, none⟩ = _ := (pset_else (by decide)).trans h0
  have h1 : ((((w.setCell ⟨q, 0, none⟩ (.bool m'.up)).setCell ⟨q, 1, none⟩ (.int .i64 m'.li)).setCell ⟨q, 2, none⟩ (.int .i64 m'.ep)).setCell ⟨q, 3, none⟩ (v')).cell? ⟨q, 1, none⟩ = _ := (pset_else (by decide)).trans h1
  have h2 : ((((w.setCell ⟨q, 0, none⟩ (.bool m'.up)).setCell ⟨q, 1, none⟩ (.int .i64 m'.li)).setCell ⟨q, 2, none⟩ (.int .i64 m'.ep)).setCell ⟨q, 3, none⟩ (v')).cell? ⟨q, 2, none⟩ = _ := (pset_else (by decide)).trans h2
  have h3 : ((((w.setCell ⟨q, 0, none⟩ (.bool m'.up)).setCell ⟨q, 1, none⟩ (.int .i64 m'.li)).setCell ⟨q, 2, none⟩ (.int .i64 m'.ep)).setCell ⟨q, 3, none⟩ (v')).cell? ⟨q, 3, none⟩ = some (v') := pset_same h3
  have h4 : ((((w.setCell ⟨q, 0, none⟩ (.bool m'.up)).setCell ⟨q, 1, none⟩ (.int .i64 m'.li)).setCell ⟨q, 2, none⟩ (.int .i64 m'.ep)).setCell ⟨q, 3, none⟩ (v')).cell? ⟨q, 4, none⟩ = _ := (pset_else (by decide)).trans h4
  have h5 : ((((w.setCell ⟨q, 0, none⟩ (.bool m'.up)).setCell ⟨q, 1, none⟩ (.int .i64 m'.li)).setCell ⟨q, 2, none⟩ (.int .i64 m'.ep)).setCell ⟨q, 3, none⟩ (v')).cell? ⟨q, 5, none⟩ = _ := (pset_else (by decide)).trans h5
  have h6 : ((((w.setCell ⟨q, 0, none⟩ (.bool m'.up)).setCell ⟨q, 1, none⟩ (.int .i64 m'.li)).setCell ⟨q, 2, none⟩ (.int .i64 m'.ep)).setCell ⟨q, 3, none⟩ (v')).cell? ⟨q, 6, none⟩ = _ := (pset_else (by decide)).trans h6
  have h0 : (((((w.setCell ⟨q, 0, none⟩ (.bool m'.up)).setCell ⟨q, 1, none⟩ (.int .i64 m'.li)).setCell ⟨q, 2, none⟩ (.int .i64 m'.ep)).setCell ⟨q, 3, none⟩ (v')).setCell ⟨q, 4, none⟩ (.int .i64 m'.sd)).cell? ⟨q, 0, none⟩ = _ := (pset_else (by decide)).trans h0
  have h1 : (((((w.setCell ⟨q, 0, none⟩ (.bool m'.up)).setCell ⟨q, 1, none⟩ (.int .i64 m'.li)).setCell ⟨q, 2, none⟩ (.int .i64 m'.ep)).setCell ⟨q, 3, none⟩ (v')).setCell ⟨q, 4, none⟩ (.int .i64 m'.sd)).cell? ⟨q, 1, none⟩ = _ := (pset_else (by decide)).trans h1
  have h2 : (((((w.setCell ⟨q, 0, none⟩ (.bool m'.up)).setCell ⟨q, 1, none⟩ (.int .i64 m'.li)).setCell ⟨q, 2, none⟩ (.int .i64 m'.ep)).setCell ⟨q, 3, none⟩ (v')).setCell ⟨q, 4, none⟩ (.int .i64 m'.sd)).cell? ⟨q, 2, none⟩ = _ := (pset_else (by decide)).trans h2
  have h3 : (((((w.setCell ⟨q, 0, none⟩ (.bool m'.up)).setCell ⟨q, 1, none⟩ (.int .i64 m'.li)).setCell ⟨q, 2, none⟩ (.int .i64 m'.ep)).setCell ⟨q, 3, none⟩ (v')).setCell ⟨q, 4, none⟩ (.int .i64 m'.sd)).cell? ⟨q, 3, none⟩ = _ := (pset_else (by decide)).trans h3
  have h4 : (((((w.setCell ⟨q, 0, none⟩ (.bool m'.up)).setCell ⟨q, 1, none⟩ (.int .i64 m'.li)).setCell ⟨q, 2, none⟩ (.int .i64 m'.ep)).setCell ⟨q, 3, none⟩ (v')).setCell ⟨q, 4, none⟩ (.int .i64 m'.sd)).cell? ⟨q, 4, none⟩ = some (.int .i64 m'.sd) := pset_same h4
  have h5 : (((((w.setCell ⟨q, 0, none⟩ (.bool m'.up)).setCell ⟨q, 1, none⟩ (.int .i64 m'.li)).setCell ⟨q, 2, none⟩ (.int .i64 m'.ep)).setCell ⟨q, 3, none⟩ (v')).setCell ⟨q, 4, none⟩ (.int .i64 m'.sd)).cell? ⟨q, 5, none⟩ = _ := (pset_else (by decide)).trans h5
  have h6 : (((((w.setCell ⟨q, 0, none⟩ (.bool m'.up)).setCell ⟨q, 1, none⟩ (.int .i64 m'.li)).setCell ⟨q, 2, none⟩ (.int .i64 m'.ep)).setCell ⟨q, 3, none⟩ (v')).setCell ⟨q, 4, none⟩ (.int .i64 m'.sd)).cell? ⟨q, 6, none⟩ = _ := (pset_else (by decide)).trans h6
  have h0 : ((((((w.setCell ⟨q, 0, none⟩ (.bool m'.up)).setCell ⟨q, 1, none⟩ (.int .i64 m'.li)).setCell ⟨q, 2, none⟩ (.int .i64 m'.ep)).setCell ⟨q, 3, none⟩ (v')).setCell ⟨q, 4, none⟩ (.int .i64 m'.sd)).setCell ⟨q, 5, none⟩ (.int .i64 m'.ac)).cell? ⟨q, 0, none⟩ = _ := (pset_else (by decide)).trans h0
  have h1 : ((((((w.setCell ⟨q, 0, none⟩ (.bool m'.up)).setCell ⟨q, 1, none⟩ (.int .i64 m'.li)).setCell ⟨q, 2, none⟩ (.int .i64 m'.ep)).setCell ⟨q, 3, none⟩ (v')).setCell ⟨q, 4, none⟩ (.int .i64 m'.sd)).setCell ⟨q, 5, none⟩ (.int .i64 m'.ac)).cell? ⟨q, 1, none⟩ = _ := (pset_else (by decide)).trans h1
  have h2 : ((((((w.setCell ⟨q, 0, none⟩ (.bool m'.up)).setCell ⟨q, 1, none⟩ (.int .i64 m'.li)).setCell ⟨q, 2, none⟩ (.int .i64 m'.ep)).setCell ⟨q, 3, none⟩ (v')).setCell ⟨q, 4, none⟩ (.int .i64 m'.sd)).setCell ⟨q, 5, none⟩ (.int .i64 m'.ac)).cell? ⟨q, 2, none⟩ = _ := (pset_else (by decide)).trans h2
  have h3 : ((((((w.setCell ⟨q, 0, none⟩ (.bool m'.up)).setCell ⟨q, 1, none⟩ (.int .i64 m'.li)).setCell ⟨q, 2, none⟩ (.int .i64 m'.ep)).setCell ⟨q, 3, none⟩ (v')).setCell ⟨q, 4, none⟩ (.int .i64 m'.sd)).setCell ⟨q, 5, none⟩ (.int .i64 m'.ac)).cell? ⟨q, 3, none⟩ = _ := (pset_else (by decide)).trans h3
  have h4 : ((((((w.setCell ⟨q, 0, none⟩ (.bool m'.up)).setCell ⟨q, 1, none⟩ (.int .i64 m'.li)).setCell ⟨q, 2, none⟩ (.int .i64 m'.ep)).setCell ⟨q, 3, none⟩ (v')).setCell ⟨q, 4, none⟩ (.int .i64 m'.sd)).setCell ⟨q, 5, none⟩ (.int .i64 m'.ac)).cell? ⟨q, 4, none⟩ = _ := (pset_else (by decide)).trans h4
  have h5 : ((((((w.setCell ⟨q, 0, none⟩ (.bool m'.up)).setCell ⟨q, 1, none⟩ (.int .i64 m'.li)).setCell ⟨q, 2, none⟩ (.int .i64 m'.ep)).setCell ⟨q, 3, none⟩ (v')).setCell ⟨q, 4, none⟩ (.int .i64 m'.sd)).setCell ⟨q, 5, none⟩ (.int .i64 m'.ac)).cell? ⟨q, 5, none⟩ = some (.int .i64 m'.ac) := pset_same h5
  have h6 : ((((((w.setCell ⟨q, 0, none⟩ (.bool m'.up)).setCell ⟨q, 1, none⟩ (.int .i64 m'.li)).setCell ⟨q, 2, none⟩ (.int .i64 m'.ep)).setCell ⟨q, 3, none⟩ (v')).setCell ⟨q, 4, none⟩ (.int .i64 m'.sd)).setCell ⟨q, 5, none⟩ (.int .i64 m'.ac)).cell? ⟨q, 6, none⟩ = _ := (pset_else (by decide)).trans h6
  have h0 : (((((((w.setCell ⟨q, 0, none⟩ (.bool m'.up)).setCell ⟨q, 1, none⟩ (.int .i64 m'.li)).setCell ⟨q, 2, none⟩ (.int .i64 m'.ep)).setCell ⟨q, 3, none⟩ (v')).setCell ⟨q, 4, none⟩ (.int .i64 m'.sd)).setCell ⟨q, 5, none⟩ (.int .i64 m'.ac)).setCell ⟨q, 6, none⟩ (.int .i64 m'.al)).cell? ⟨q, 0, none⟩ = _ := (pset_else (by decide)).trans h0
  have h1 : (((((((w.setCell ⟨q, 0, none⟩ (.bool m'.up)).setCell ⟨q, 1, none⟩ (.int .i64 m'.li)).setCell ⟨q, 2, none⟩ (.int .i64 m'.ep)).setCell ⟨q, 3, none⟩ (v')).setCell ⟨q, 4, none⟩ (.int .i64 m'.sd)).setCell ⟨q, 5, none⟩ (.int .i64 m'.ac)).setCell ⟨q, 6, none⟩ (.int .i64 m'.al)).cell? ⟨q, 1, none⟩ = _ := (pset_else (by decide)).trans h1
  have h2 : (((((((w.setCell ⟨q, 0, none⟩ (.bool m'.up)).setCell ⟨q, 1, none⟩ (.int .i64 m'.li)).setCell ⟨q, 2, none⟩ (.int .i64 m'.ep)).setCell ⟨q, 3, none⟩ (v')).setCell ⟨q, 4, none⟩ (.int .i64 m'.sd)).setCell ⟨q, 5, none⟩ (.int .i64 m'.ac)).setCell ⟨q, 6, none⟩ (.int .i64 m'.al)).cell? ⟨q, 2, none⟩ = _ := (pset_else (by decide)).trans h2
  have h3 : (((((((w.setCell ⟨q, 0, none⟩ (.bool m'.up)).setCell ⟨q, 1, none⟩ (.int .i64 m'.li)).setCell ⟨q, 2, none⟩ (.int .i64 m'.ep)).setCell ⟨q, 3, none⟩ (v')).setCell ⟨q, 4, none⟩ (.int .i64 m'.sd)).setCell ⟨q, 5, none⟩ (.int .i64 m'.ac)).setCell ⟨q, 6, none⟩ (.int .i64 m'.al)).cell? ⟨q, 3, none⟩ = _ := (pset_else (by decide)).trans h3
  have h4 : (((((((w.setCell ⟨q, 0, none⟩ (.bool m'.up)).setCell ⟨q, 1, none⟩ (.int .i64 m'.li)).setCell ⟨q, 2, none⟩ (.int .i64 m'.ep)).setCell ⟨q, 3, none⟩ (v')).setCell ⟨q, 4, none⟩ (.int .i64 m'.sd)).setCell ⟨q, 5, none⟩ (.int .i64 m'.ac)).setCell ⟨q, 6, none⟩ (.int .i64 m'.al)).cell? ⟨q, 4, none⟩ = _ := (pset_else (by decide)).trans h4
  have h5 : (((((((w.setCell ⟨q, 0, none⟩ (.bool m'.up)).setCell ⟨q, 1, none⟩ (.int .i64 m'.li)).setCell ⟨q, 2, none⟩ (.int .i64 m'.ep)).setCell ⟨q, 3, none⟩ (v')).setCell ⟨q, 4, none⟩ (.int .i64 m'.sd)).setCell ⟨q, 5, none⟩ (.int .i64 m'.ac)).setCell ⟨q, 6, none⟩ (.int .i64 m'.al)).cell? ⟨q, 5, none⟩ = _ := (pset_else (by decide)).trans h5
  have h6 : (((((((w.setCell ⟨q, 0, none⟩ (.bool m'.up)).setCell ⟨q, 1, none⟩ (.int .i64 m'.li)).setCell ⟨q, 2, none⟩ (.int .i64 m'.ep)).setCell ⟨q, 3, none⟩ (v')).setCell ⟨q, 4, none⟩ (.int .i64 m'.sd)).setCell ⟨q, 5, none⟩ (.int .i64 m'.ac)).setCell ⟨q, 6, none⟩ (.int .i64 m'.al)).cell? ⟨q, 6, none⟩ = some (.int .i64 m'.al) := pset_same h6
  refine ⟨h0, h1, h2, h3, h4, h5, h6, fun i => ?_⟩
  rw [World.frozen?_setCell, World.frozen?_setCell, World.frozen?_setCell, World.frozen?_setCell, World.frozen?_setCell, World.frozen?_setCell, World.frozen?_setCell]
  exact hf i
theorem heap_put7 (w : World) (q k : Nat) (m' : Mi) (v' : Value) (h : k ≠ q) : ((((((((w.setCell ⟨q, 0, none⟩ (.bool m'.up)).setCell ⟨q, 1, none⟩ (.int .i64 m'.li)).setCell ⟨q, 2, none⟩ (.int .i64 m'.ep)).setCell ⟨q, 3, none⟩ (v')).setCell ⟨q, 4, none⟩ (.int .i64 m'.sd)).setCell ⟨q, 5, none⟩ (.int .i64 m'.ac)).setCell ⟨q, 6, none⟩ (.int .i64 m'.al))).heap[k]? = w.heap[k]? := by
  rw [Below.heap_setCell _ _ _ _ h, Below.heap_setCell _ _ _ _ h, Below.heap_setCell _ _ _ _ h, Below.heap_setCell _ _ _ _ h, Below.heap_setCell _ _ _ _ h, Below.heap_setCell _ _ _ _ h, Below.heap_setCell _ _ _ _ h]
theorem below_put7 {a w : World} {q n : Nat} (m' : Mi) (v' : Value) (h : Below n a w) (hq : n ≤ q) : Below n a (((((((w.setCell ⟨q, 0, none⟩ (.bool m'.up)).setCell ⟨q, 1, none⟩ (.int .i64 m'.li)).setCell ⟨q, 2, none⟩ (.int .i64 m'.ep)).setCell ⟨q, 3, none⟩ (v')).setCell ⟨q, 4, none⟩ (.int .i64 m'.sd)).setCell ⟨q, 5, none⟩ (.int .i64 m'.ac)).setCell ⟨q, 6, none⟩ (.int .i64 m'.al)) := (((((((h.setCell (p := ⟨q, 0, none⟩) hq _).setCell (p := ⟨q, 1, none⟩) hq _).setCell (p := ⟨q, 2, none⟩) hq _).setCell (p := ⟨q, 3, none⟩) hq _).setCell (p := ⟨q, 4, none⟩) hq _).setCell (p := ⟨q, 5, none⟩) hq _).setCell (p := ⟨q, 6, none⟩) hq _)
set_option maxHeartbeats 4000000 in
theorem miCop (m : Mi) (ad : Option Addr) (cap : Nat) (w : World) (hv : FView ikEnc w ad m.lg) (hl : m.lg.length ≤ 1048577) (hn : ad = none → cap = 0) :
    Calls Try.prog 40 #[.agg #[.bool m.up, .int .i64 m.li, .int .i64 m.ep, .slice ad m.lg.length cap, .int .i64 m.sd, .int .i64 m.ac, .int .i64 m.al]] w fun e w' => ∃ a c, e = .returned (.agg #[.bool m.up, .int .i64 m.li, .int .i64 m.ep, .slice a m.lg.length c, .int .i64 m.sd, .int .i64 m.ac, .int .i64 m.al]) ∧ FOwn ikEnc 8 30 w.heap.size w' (.slice a m.lg.length c) m.lg ∧ Below w.heap.size w w' := by
  have hB := hv.lt ikEnc_len (by omega)
  obtain ⟨y, hy⟩ : ∃ y, y = (w.alloc (Obj.cells #[.bool m.up, .int .i64 m.li, .int .i64 m.ep, .slice ad m.lg.length cap, .int .i64 m.sd, .int .i64 m.ac, .int .i64 m.al] 26)).alloc (Obj.cells #[.bool false, .int .i64 0, .int .i64 0, .slice none 0 0, .int .i64 0, .int .i64 0, .int .i64 0] 26) := ⟨_, rfl⟩
  have B0 : Below w.heap.size w y := by rw [hy]; exact ((Below.refl _ _).alloc (Nat.le_refl _) _).alloc (by simp) _
  have A0 : MiBox y w.heap.size m (.slice ad m.lg.length cap) := by rw [hy]; constructor <;> simp [go_sem]
  have A1 : MiBox y (w.heap.size + 1) ⟨false, 0, 0, [], 0, 0, 0⟩ (.slice none 0 0) := by rw [hy]; constructor <;> simp [go_sem]
  have S0 := A1.lt
  have hv1 := hv.below B0 hB
  have hB1 := hv1.lt ikEnc_len (by omega)
  obtain ⟨i1, hj, hy0, hy1, hy2⟩ := info_parts ikInfo
  have kx : Below y.heap.size y (y.alloc (Obj.cells #[] 30)) := below_new _
  have hv2 := hv1.below kx hB1
  have oE : FOwn ikEnc 8 30 y.heap.size (y.alloc (Obj.cells #[] 30)) (.slice (some ⟨y.heap.size, 0, none⟩) 0 0) ([] : List Ik) := FOwn.empty y
  have A0x := A0.below kx A0.lt
  have A1x := A1.below kx A1.lt
  go_enter Try.func40, Try.ntmps40
  go_upto_region 1 with fail
  rw [← hy]
  clear hy
  have cc := A0x
  obtain ⟨x0, x1, x2, x3, x4, x5, x6, xf⟩ := cc
  go_wp2_with (first | (at_builtin; refine fappL ikEnc_len ikEnc_ones rfl _ _ 24 rfl y.heap.size 30 i1 (.agg #[.int .i64 0, .int .i64 0, .int .i64 0, .int .i64 0, .int .i64 0, .int .i64 0, .int .i64 0, .bool false]) 64 Try.underlying24 hj hy0 hy1 hy2 rfl (by decide) (by decide) _ ([] : List Ik) rfl oE ad cap m.lg rfl hn hv2 ?z0 ?z1 ?_) | go_in)
  case z0 => simp; omega
  case z1 => simp
  intro vZ w1 hownZ hgrowZ _
  have bZ : Below y.heap.size y w1 := kx.grown hgrowZ (by simp) (fun j e => (oE.lt j e).1)
  replace hownZ : FOwn ikEnc 8 30 y.heap.size w1 vZ m.lg := hownZ
  obtain ⟨a1, c1, rfl⟩ := hownZ.open_
  clear hgrowZ x0 x1 x2 x3 x4 x5 x6 xf A0x A1x hv2 kx oE
  have A0 := A0.below bZ A0.lt
  have A1 := A1.below bZ A1.lt
  have A2 := A0.log (.slice a1 m.lg.length c1)
  have A3 := A1.keep (w' := w1.setCell ⟨w.heap.size, 3, none⟩ (.slice a1 m.lg.length c1)) (Below.heap_setCell _ _ _ _ (by show w.heap.size + 1 ≠ w.heap.size; omega))
  have lo := hownZ.lt
  have O2 : FOwn ikEnc 8 30 y.heap.size (w1.setCell ⟨w.heap.size, 3, none⟩ (.slice a1 m.lg.length c1)) (.slice a1 m.lg.length c1) m.lg := hownZ.keep (fun g e => Below.heap_setCell _ _ _ _ (by have := lo g e; show g ≠ w.heap.size; omega))
  have B2 : Below w.heap.size w (w1.setCell ⟨w.heap.size, 3, none⟩ (.slice a1 m.lg.length c1)) := (B0.trans (bZ.mono B0.size)).setCell (p := ⟨w.heap.size, 3, none⟩) (Nat.le_refl _) _
  clear bZ B0 hownZ hv1 hB1 hv hB
  have x3 := A0.c3
  have xf := A0.fr 3
  clear A0 A1
  go_upto_region 2 with fail
  obtain ⟨w2, hw2⟩ : ∃ w2, w2 = w1.setCell ⟨w.heap.size, 3, none⟩ (.slice a1 m.lg.length c1) := ⟨_, rfl⟩
  rw [← hw2] at A2 A3 O2 B2 ⊢
  clear hw2 x3 xf
  have B4 := below_put7 (q := w.heap.size + 1) m (.slice a1 m.lg.length c1) B2 (by omega)
  have O4 := (O2.base (base' := w.heap.size) (by omega)).keep (fun g e => heap_put7 w2 (w.heap.size + 1) g m (.slice a1 m.lg.length c1) (by have := (O2.lt g e).1; omega))
  clear B2 O2 lo
  obtain ⟨x0, x1, x2, x3, x4, x5, x6, xf⟩ := A2
  obtain ⟨z0, z1, z2, z3, z4, z5, z6, zf⟩ := A3
  have g0 := zf 0
  have g1 := zf 1
  have g2 := zf 2
  have g3 := zf 3
  have g4 := zf 4
  have g5 := zf 5
  have g6 := zf 6
  clear xf zf
  go_wp2
  refine bodyPost_ret (v := .agg #[.bool m.up, .int .i64 m.li, .int .i64 m.ep, .slice a1 m.lg.length c1, .int .i64 m.sd, .int .i64 m.ac, .int .i64 m.al]) (by simp [results, Try.results40, go_sem, *]) rfl ⟨a1, c1, rfl, O4, B4⟩

end Go.Proofs.Ytplejmkbdonkpaa
