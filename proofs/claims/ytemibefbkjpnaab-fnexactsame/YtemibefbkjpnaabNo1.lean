/- The small functions of NetOk, walked. -/
import Derived.Test.YtemibefbkjpnaabRows
import Derived.WalkKit
import Derived.ProofKit
import Derived.OpenShut
import Derived.ShutString
import Derived.ChangeOld
import Derived.Below
import Derived.Deep.QuietTactic
import Derived.BigQuiet
import Derived.WalkSmall
import Derived.Laws.OwnMore
import Derived.WalkSpells
import Derived.WalkLawsBesides
import Derived.Laws.StructEq
import Derived.Test.YtemibefbkjpnaabNm0
import Derived.Test.YtemibefbkjpnaabNo0
import Derived.Test.YtemibefbkjpnaabNe0
import Derived.Test.YtemibefbkjpnaabTakes
namespace Go.Proofs.Ytemibefbkjpnaab
open Go.ChangeShapes Go.WideShapes Go.ChangeAt Go.RowKit
open Go.ChangeMaps (open_string shut_string)
set_option linter.unusedVariables false
set_option maxRecDepth 100000

theorem LkAtO.below {w w' : World} {q o n : Nat} {x : Lk} (h : LkAtO w q o x) (k : Below n w w') (hq : q < n) : LkAtO w' q o x :=
  ⟨(World.cell?_of_block (a := ⟨q, o, none⟩) (k.block q hq)).trans h.c0, (World.cell?_of_block (a := ⟨q, o + 1, none⟩) (k.block q hq)).trans h.c1, (World.cell?_of_block (a := ⟨q, o + 2, none⟩) (k.block q hq)).trans h.c2, (World.cell?_of_block (a := ⟨q, o + 3, none⟩) (k.block q hq)).trans h.c3⟩
/-- A box of two numbers. -/
structure EnAt (w : World) (q : Nat) (a p : Int) : Prop where
  c0 : w.cell? ⟨q, 0, none⟩ = some (.int .i64 a)
  c1 : w.cell? ⟨q, 1, none⟩ = some (.int .i64 p)
theorem EnAt.keep {w w' : World} {q : Nat} {a p : Int} (h : EnAt w q a p) (k : w'.heap[q]? = w.heap[q]?) : EnAt w' q a p :=
  ⟨(World.cell?_of_block (a := ⟨q, 0, none⟩) k).trans h.c0, (World.cell?_of_block (a := ⟨q, 1, none⟩) k).trans h.c1⟩
theorem EnAt.below {w w' : World} {q n : Nat} {a p : Int} (h : EnAt w q a p) (k : Below n w w') (hq : q < n) : EnAt w' q a p := h.keep (k.block q hq)
theorem EnAt.lt {w : World} {q : Nat} {a p : Int} (h : EnAt w q a p) : q < w.heap.size := World.block_lt_of_cell? w _ h.c0
theorem EnAt.new (w : World) (t : TypeId) (a p : Int) : EnAt (w.alloc (Obj.cells #[.int .i64 a, .int .i64 p] t)) w.heap.size a p := by
  refine ⟨?_, ?_⟩ <;> simp [go_sem]
theorem ixEnd0 (x : Lk) (w : World) : (Instr.index 90 (.agg #[.int .i64 x.a, .int .i64 x.p, .int .i64 x.b, .int .i64 x.q]) (.int .i64 0)).run Try.prog w = .ok (.agg #[.int .i64 x.a, .int .i64 x.p]) w := by kernel_rfl
theorem ixEnd1 (x : Lk) (w : World) : (Instr.index 90 (.agg #[.int .i64 x.a, .int .i64 x.p, .int .i64 x.b, .int .i64 x.q]) (.int .i64 1)).run Try.prog w = .ok (.agg #[.int .i64 x.b, .int .i64 x.q]) w := by kernel_rfl
theorem eqEnd (a p b q : Int) (w : World) : (binOp .eql 89 (.agg #[.int .i64 a, .int .i64 p]) (.agg #[.int .i64 b, .int .i64 q])).run Try.prog w = .ok (.bool (decide (a = b ∧ p = q))) w := by
  by_cases h1 : a = b
  · by_cases h2 : p = q
    · subst h1 h2
      simp [go_sem]
    · subst h1
      simp [go_sem, h2]
  · simp [go_sem, h1]
def bt (o : Bool) : Int := if o = true then 1 else 0
theorem bt01 (o : Bool) : 0 ≤ bt o ∧ bt o ≤ 1 := by cases o <;> simp [bt]
end Go.Proofs.Ytemibefbkjpnaab
