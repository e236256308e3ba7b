/- counts, impl.Claim, walked. -/
import Derived.Test.YtjholgpjicliaaaDoorRows
import Derived.WalkKit
import Derived.ProofKit
import Derived.OpenShut
import Derived.ShutString
import Derived.ChangeOld
import Derived.Below
import Derived.Deep.QuietTactic
import Derived.BigQuiet
import Derived.WalkSmall
import Derived.Laws.OwnMore
import Derived.WalkSpells
import Derived.WalkLawsBesides
import Derived.Deep.Cut
import Derived.Test.YtjholgpjicliaaaDoorPort3
import Derived.Test.YtjholgpjicliaaaDoorTakes
namespace Go.Proofs.YtjholgpjicliaaaDoor
open Go.ChangeShapes Go.WideShapes Go.ChangeAt Go.RowKit
open Go.ChangeMaps (open_string shut_string)
set_option linter.unusedVariables false
set_option maxRecDepth 100000

/-- A claim counts at a port. -/
def cnt (x : Pt) (r2 c2 b2 p2 : Int) : Bool := !x.has || (!vLt x.r x.c x.b x.p r2 c2 b2 p2 || ((b2 == x.b) && (p2 == x.p)))
def takes (x : Pt) (r2 c2 b2 p2 k : Int) : Bool := pOk x && (x.up && (vOk r2 c2 b2 p2 && (decide (0 ≤ k ∧ k ≤ 8) && cnt x r2 c2 b2 p2)))
/-- What Claim answers. -/
def claimR (x : Pt) (r2 c2 b2 p2 k : Int) : Pt := if takes x r2 c2 b2 p2 k then ⟨x.up, true, r2, c2, b2, p2, k, 3, x.ro, x.wa, x.op⟩ else x
theorem claimR_no {x : Pt} {r2 c2 b2 p2 k : Int} (h : takes x r2 c2 b2 p2 k = false) : claimR x r2 c2 b2 p2 k = x := by unfold claimR; rw [h]; rfl
theorem claimR_yes {x : Pt} {r2 c2 b2 p2 k : Int} (h : takes x r2 c2 b2 p2 k = true) : claimR x r2 c2 b2 p2 k = ⟨x.up, true, r2, c2, b2, p2, k, 3, x.ro, x.wa, x.op⟩ := by unfold claimR; rw [h]; rfl
end Go.Proofs.YtjholgpjicliaaaDoor
