import Derived.Test.YtjmnaeeknomiaaaGreatRKWPort3
namespace Go.Proofs.YtjmnaeeknomiaaaGreat
open Go.ChangeShapes Go.WideShapes Go.ChangeAt Go.RowKit
open Go.ChangeMaps (open_string shut_string)
set_option linter.unusedVariables false
set_option maxRecDepth 100000
set_option maxHeartbeats 32000000
set_option linter.unusedSimpArgs false
open Go.Proofs.Tryz
attribute [local go_sem] ji ja
def H1 (x : Pt) (r2 c2 b2 p2 : Int) : Bool := !x.has || (!Cv x.r x.c x.b x.p r2 c2 b2 p2 || ((b2 == x.b) && (p2 == x.p)))
def Ef (x : Pt) (r2 c2 b2 p2 k : Int) : Bool := Ax x && (x.up && (Ad r2 c2 b2 p2 && (decide (0 ≤ k ∧ k ≤ 8) && H1 x r2 c2 b2 p2)))
def CD (x : Pt) (r2 c2 b2 p2 k : Int) : Pt := if Ef x r2 c2 b2 p2 k then ⟨x.up, true, r2, c2, b2, p2, k, 3, x.ro, x.wa, x.op⟩ else x
theorem IU {x : Pt} {r2 c2 b2 p2 k : Int} (h : Ef x r2 c2 b2 p2 k = false) : CD x r2 c2 b2 p2 k = x := by unfold CD; rw [h]; rfl
theorem IE {x : Pt} {r2 c2 b2 p2 k : Int} (h : Ef x r2 c2 b2 p2 k = true) : CD x r2 c2 b2 p2 k = ⟨x.up, true, r2, c2, b2, p2, k, 3, x.ro, x.wa, x.op⟩ := by unfold CD; rw [h]; rfl
end Go.Proofs.YtjmnaeeknomiaaaGreat
