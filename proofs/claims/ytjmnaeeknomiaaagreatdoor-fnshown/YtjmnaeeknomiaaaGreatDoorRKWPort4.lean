import Derived.Test.YtjmnaeeknomiaaaGreatDoorRKWPort3
namespace Go.Proofs.YtjmnaeeknomiaaaGreatDoor
open Go.ChangeShapes Go.WideShapes Go.ChangeAt Go.RowKit
open Go.ChangeMaps (open_string shut_string)
set_option linter.unusedVariables false
set_option maxRecDepth 100000
set_option maxHeartbeats 32000000
set_option linter.unusedSimpArgs false
open Go.Proofs.Tryz
attribute [local go_sem] ji ja
def Iv (x : Pt) (r2 c2 b2 p2 : Int) : Bool := !x.has || (!DF x.r x.c x.b x.p r2 c2 b2 p2 || ((b2 == x.b) && (p2 == x.p)))
def Ek (x : Pt) (r2 c2 b2 p2 k : Int) : Bool := Ae x && (x.up && (Bc r2 c2 b2 p2 && (decide (0 ≤ k ∧ k ≤ 8) && Iv x r2 c2 b2 p2)))
def Bf (x : Pt) (r2 c2 b2 p2 k : Int) : Pt := if Ek x r2 c2 b2 p2 k then ⟨x.up, true, r2, c2, b2, p2, k, 3, x.ro, x.wa, x.op⟩ else x
theorem Hd {x : Pt} {r2 c2 b2 p2 k : Int} (h : Ek x r2 c2 b2 p2 k = false) : Bf x r2 c2 b2 p2 k = x := by unfold Bf; rw [h]; rfl
theorem HO {x : Pt} {r2 c2 b2 p2 k : Int} (h : Ek x r2 c2 b2 p2 k = true) : Bf x r2 c2 b2 p2 k = ⟨x.up, true, r2, c2, b2, p2, k, 3, x.ro, x.wa, x.op⟩ := by unfold Bf; rw [h]; rfl
end Go.Proofs.YtjmnaeeknomiaaaGreatDoor
