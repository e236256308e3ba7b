import Derived.Test.YtjmnaeeknomiaaaGreatDoorRM6
namespace Go.Proofs.YtjmnaeeknomiaaaGreatDoor
open Go.ChangeShapes Go.WideShapes Go.ChangeAt Go.RowKit
open Go.ChangeMaps (open_string shut_string)
set_option linter.unusedVariables false
set_option maxRecDepth 100000
set_option maxHeartbeats 32000000
set_option linter.unusedSimpArgs false
open Go.Proofs.Tryz
attribute [local go_sem] ji ja
theorem Gs : (prog.info? 47).map (fun i => (i.zero, i.size, i.bytes)) = some (some (.agg #[.bool false, .bool false, ji 0, ji 0, ji 0, ji 0, ji 0, ji 0, ji 0, ji 0, .bool false]), 11, 80) := by kernel_rfl
structure Ap (w : World) (q : Nat) (id : Int) (v : Value) : Prop where
 c0 : w.cell? (ja q 0) = some (ji id)
 c1 : w.cell? (ja q 1) = some v
theorem Ap.keep {w w' : World} {q : Nat} {id : Int} {v : Value} (h : Ap w q id v) (k : w'.heap[q]? = w.heap[q]?) : Ap w' q id v :=
 ⟨(World.cell?_of_block (a := (ja q 0)) k).trans h.c0, (World.cell?_of_block (a := (ja q 1)) k).trans h.c1⟩
theorem Ap.below {w w' : World} {q n : Nat} {id : Int} {v : Value} (h : Ap w q id v) (k : Below n w w') (hq : q < n) : Ap w' q id v := h.keep (k.block q hq)
theorem Ap.lt {w : World} {q : Nat} {id : Int} {v : Value} (h : Ap w q id v) : q < w.heap.size := World.block_lt_of_cell? w _ h.c0
theorem Ap.new (w : World) (t : TypeId) (id : Int) (v : Value) : Ap (w.alloc (Obj.cells #[ji id, v] t)) w.heap.size id v := by
 refine ⟨?_, ?_⟩ <;> simp [go_sem]
theorem Ap.alloc {w : World} {q : Nat} {id : Int} {v : Value} (h : Ap w q id v) (o : Obj) : Ap (w.alloc o) q id v := h.keep (Below.heap_alloc w o q h.lt)
theorem Ax {w : World} (o : Obj) : Bw w (w.alloc o) := (Below.refl _ _).alloc (Nat.le_refl _) _
structure AR (w : World) (q : Nat) (id : Int) (v : Value) : Prop where
 at_ : Ap w q id v
 fr : ∀ i, w.frozen? (ja q i) = false
theorem AR.keep {w w' : World} {q : Nat} {id : Int} {v : Value} (h : AR w q id v) (k : w'.heap[q]? = w.heap[q]?) : AR w' q id v :=
 ⟨h.at_.keep k, fun i => (World.frozen?_of_block (a := (ja q i)) k).trans (h.fr i)⟩
theorem AR.lt {w : World} {q : Nat} {id : Int} {v : Value} (h : AR w q id v) : q < w.heap.size := h.at_.lt
theorem AR.below {w w' : World} {q n : Nat} {id : Int} {v : Value} (h : AR w q id v) (k : Below n w w') (hq : q < n) : AR w' q id v := h.keep (k.block q hq)
theorem AR.new (w : World) (t : TypeId) (id : Int) (v : Value) : AR (w.alloc (Obj.cells #[ji id, v] t)) w.heap.size id v := ⟨Ap.new w t id v, fun i => by simp [go_sem]⟩
theorem AR.put {w : World} {q : Nat} {id : Int} {v : Value} (h : AR w q id v) (id' : Int) (v' : Value) : AR ((w.setCell (ja q 0) (ji id')).setCell (ja q 1) v') q id' v' := by
 have e1 : (w.setCell (ja q 0) (ji id')).cell? (ja q 1) = some v := (AB (by decide)).trans h.at_.c1;refine ⟨⟨(AB (by decide)).trans (Al h.at_.c0), Al e1⟩, fun i => ?_⟩;rw [World.frozen?_setCell, World.frozen?_setCell]; exact h.fr i
end Go.Proofs.YtjmnaeeknomiaaaGreatDoor
