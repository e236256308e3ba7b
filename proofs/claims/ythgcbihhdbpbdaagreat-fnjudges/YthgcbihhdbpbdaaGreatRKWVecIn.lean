import Derived.Lib.SmallJoins
import Derived.Test.YthgcbihhdbpbdaaGreatRM2
import Derived.Test.YthgcbihhdbpbdaaGreatRKWVec1
namespace Go.Proofs.YthgcbihhdbpbdaaGreat
open Go.ChangeShapes Go.WideShapes Go.ChangeAt Go.RowKit
open Go.ChangeMaps (open_string shut_string)
set_option linter.unusedVariables false
set_option maxRecDepth 100000
set_option maxHeartbeats 32000000
set_option linter.unusedSimpArgs false
open Go.Proofs.Tryz
attribute [local go_sem] ji ja
def Ds (w : World) (q : Nat) (r c b p : Int) : Prop :=
 w.cell? (ja q 0) = some (ji r) ∧ w.cell? (ja q 1) = some (ji c) ∧ w.cell? (ja q 2) = some (ji b) ∧ w.cell? (ja q 3) = some (ji p)
theorem Ds.all {w : World} {q : Nat} {r c b p : Int} (h : Ds w q r c b p) : w.cell? (ja q 0) = some (ji r) ∧ w.cell? (ja q 1) = some (ji c) ∧ w.cell? (ja q 2) = some (ji b) ∧ w.cell? (ja q 3) = some (ji p) := h
theorem Ds.below {w w' : World} {q n : Nat} {r c b p : Int} (h : Ds w q r c b p) (k : Below n w w') (hq : q < n) : Ds w' q r c b p :=
 ⟨(k.cell (p := (ja q 0)) hq).trans h.1, (k.cell (p := (ja q 1)) hq).trans h.2.1, (k.cell (p := (ja q 2)) hq).trans h.2.2.1, (k.cell (p := (ja q 3)) hq).trans h.2.2.2⟩
theorem GP (w : World) (t : TypeId) (r c b p : Int) : Ds (w.alloc (Obj.cells #[ji r, ji c, ji b, ji p] t)) w.heap.size r c b p := by
 refine ⟨?_, ?_, ?_, ?_⟩ <;> simp [go_sem]
end Go.Proofs.YthgcbihhdbpbdaaGreat
