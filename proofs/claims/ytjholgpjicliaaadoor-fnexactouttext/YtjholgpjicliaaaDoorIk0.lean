/- What comes in or is said: eight cells. -/
import Derived.Test.YtjholgpjicliaaaDoorRows
import Derived.WalkKit
import Derived.ProofKit
import Derived.OpenShut
import Derived.ShutString
import Derived.ChangeOld
import Derived.Below
import Derived.Deep.QuietTactic
import Derived.BigQuiet
import Derived.WalkSmall
import Derived.Laws.OwnMore
import Derived.WalkSpells
import Derived.WalkLawsBesides
import Derived.Test.YtjholgpjicliaaaDoorBase
namespace Go.Proofs.YtjholgpjicliaaaDoor
open Go.ChangeShapes Go.WideShapes Go.ChangeAt Go.RowKit
open Go.ChangeMaps (open_string shut_string)
set_option linter.unusedVariables false
set_option maxRecDepth 100000

/-- What comes in: eight cells. -/
structure Ik where
  k : Int
  q : Int
  r : Int
  c : Int
  b : Int
  p : Int
  h : Int
  up : Bool
/-- Its box. -/
structure InAt (w : World) (o : Nat) (x : Ik) : Prop where
  c0 : w.cell? ⟨o, 0, none⟩ = some (.int .i64 x.k)
  c1 : w.cell? ⟨o, 1, none⟩ = some (.int .i64 x.q)
  c2 : w.cell? ⟨o, 2, none⟩ = some (.int .i64 x.r)
  c3 : w.cell? ⟨o, 3, none⟩ = some (.int .i64 x.c)
  c4 : w.cell? ⟨o, 4, none⟩ = some (.int .i64 x.b)
  c5 : w.cell? ⟨o, 5, none⟩ = some (.int .i64 x.p)
  c6 : w.cell? ⟨o, 6, none⟩ = some (.int .i64 x.h)
  c7 : w.cell? ⟨o, 7, none⟩ = some (.bool x.up)
theorem InAt.keep {w w' : World} {o : Nat} {x : Ik} (h : InAt w o x) (k : w'.heap[o]? = w.heap[o]?) : InAt w' o x :=
  ⟨(World.cell?_of_block (a := ⟨o, 0, none⟩) k).trans h.c0, (World.cell?_of_block (a := ⟨o, 1, none⟩) k).trans h.c1, (World.cell?_of_block (a := ⟨o, 2, none⟩) k).trans h.c2, (World.cell?_of_block (a := ⟨o, 3, none⟩) k).trans h.c3, (World.cell?_of_block (a := ⟨o, 4, none⟩) k).trans h.c4, (World.cell?_of_block (a := ⟨o, 5, none⟩) k).trans h.c5, (World.cell?_of_block (a := ⟨o, 6, none⟩) k).trans h.c6, (World.cell?_of_block (a := ⟨o, 7, none⟩) k).trans h.c7⟩
theorem InAt.below {w w' : World} {o n : Nat} {x : Ik} (h : InAt w o x) (k : Below n w w') (ho : o < n) : InAt w' o x := h.keep (k.block o ho)
theorem InAt.lt {w : World} {o : Nat} {x : Ik} (h : InAt w o x) : o < w.heap.size := World.block_lt_of_cell? w _ h.c0
theorem InAt.new (w : World) (t : TypeId) (x : Ik) : InAt (w.alloc (Obj.cells #[.int .i64 x.k, .int .i64 x.q, .int .i64 x.r, .int .i64 x.c, .int .i64 x.b, .int .i64 x.p, .int .i64 x.h, .bool x.up] t)) w.heap.size x := by
  constructor <;> simp [go_sem]

theorem below_new {w : World} (o : Obj) : Below w.heap.size w (w.alloc o) := (Below.refl _ _).alloc (Nat.le_refl _) _

end Go.Proofs.YtjholgpjicliaaaDoor
