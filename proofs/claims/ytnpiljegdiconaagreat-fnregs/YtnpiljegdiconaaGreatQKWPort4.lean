import Derived.Test.YtnpiljegdiconaaGreatQKWPort3
namespace Go.Proofs.YtnpiljegdiconaaGreat
open Go.ChangeShapes Go.WideShapes Go.ChangeAt Go.RowKit
open Go.ChangeMaps (open_string shut_string)
set_option linter.unusedVariables false
set_option maxRecDepth 100000
def cnt (x : Pt) (r2 c2 b2 p2 : Int) : Bool := !x.has || (!vLt x.r x.c x.b x.p r2 c2 b2 p2 || ((b2 == x.b) && (p2 == x.p)))
def takes (x : Pt) (r2 c2 b2 p2 k : Int) : Bool := pOk x && (x.up && (vOk r2 c2 b2 p2 && (decide (0 ≤ k ∧ k ≤ 8) && cnt x r2 c2 b2 p2)))
def claimR (x : Pt) (r2 c2 b2 p2 k : Int) : Pt := if takes x r2 c2 b2 p2 k then ⟨x.up, true, r2, c2, b2, p2, k, 3, x.ro, x.wa, x.op⟩ else x
theorem claimR_no {x : Pt} {r2 c2 b2 p2 k : Int} (h : takes x r2 c2 b2 p2 k = false) : claimR x r2 c2 b2 p2 k = x := by unfold claimR; rw [h]; rfl
theorem claimR_yes {x : Pt} {r2 c2 b2 p2 k : Int} (h : takes x r2 c2 b2 p2 k = true) : claimR x r2 c2 b2 p2 k = ⟨x.up, true, r2, c2, b2, p2, k, 3, x.ro, x.wa, x.op⟩ := by unfold claimR; rw [h]; rfl
end Go.Proofs.YtnpiljegdiconaaGreat
