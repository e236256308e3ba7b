/- claimFits, both PortOk, walked. -/
import Derived.Test.YtjholgpjicliaaaDoorRows
import Derived.WalkKit
import Derived.ProofKit
import Derived.OpenShut
import Derived.ShutString
import Derived.ChangeOld
import Derived.Below
import Derived.Deep.QuietTactic
import Derived.BigQuiet
import Derived.WalkSmall
import Derived.Laws.OwnMore
import Derived.WalkSpells
import Derived.WalkLawsBesides
import Derived.Deep.Cut
import Derived.Test.YtjholgpjicliaaaDoorPort2
import Derived.Test.YtjholgpjicliaaaDoorTakes
namespace Go.Proofs.YtjholgpjicliaaaDoor
open Go.ChangeShapes Go.WideShapes Go.ChangeAt Go.RowKit
open Go.ChangeMaps (open_string shut_string)
set_option linter.unusedVariables false
set_option maxRecDepth 100000

def fitsB (x : Pt) : Bool := if x.has then x.up && (vOk x.r x.c x.b x.p && (decide (0 ≤ x.h ∧ x.h ≤ 8) && decide (1 ≤ x.l ∧ x.l ≤ 3))) else decide (x.r = 0 ∧ x.c = 0 ∧ x.b = 0 ∧ x.p = 0 ∧ x.h = 0 ∧ x.l = 0)
def pOk (x : Pt) : Bool := raIs x.ro && ((x.up == raUp x.ro) && ((x.op == raOp x.ro x.wa) && (decide (0 ≤ x.wa ∧ x.wa ≤ 4) && fitsB x)))
/-- A port that has nothing. -/
def Pt.bare (x : Pt) : Pt := ⟨x.up, false, 0, 0, 0, 0, 0, 0, x.ro, x.wa, x.op⟩
theorem inB (x lo hi : Int) (w : World) : Calls Tryd.prog 26 #[.int .i64 x, .int .i64 lo, .int .i64 hi] w fun e w' => e = .returned (.bool (decide (lo ≤ x ∧ x ≤ hi))) ∧ w' = w := by
  by_cases h : lo ≤ x ∧ x ≤ hi
  · rw [decide_eq_true h]; exact inYes _ _ _ _ h
  · rw [decide_eq_false h]; exact inNo _ _ _ _ (by omega)
theorem pOk_spec (x : Pt) (ld : Bool) (hld : ld = ((x.ro == 1) || (x.ro == 2))) : pOk x = (fitsB x && (decide (0 ≤ x.ro ∧ x.ro ≤ 3) && (((x.ro == 0) == !x.up) && (decide (0 ≤ x.wa ∧ x.wa ≤ 4) && (x.op == (ld && (x.wa == 0))))))) := by
  unfold pOk raIs raUp raOp
  generalize fitsB x = F
  generalize decide (0 ≤ x.wa ∧ x.wa ≤ 4) = W
  obtain ⟨up, has, r, c, b, p, h, l, ro, wa, op⟩ := x
  dsimp only at hld ⊢
  by_cases hr : 0 ≤ ro ∧ ro ≤ 3
  rotate_left
  · rw [decide_eq_false hr]; cases F <;> rfl
  rw [decide_eq_true hr]
  have e1 : (up == decide (1 ≤ ro ∧ ro ≤ 3)) = ((ro == 0) == !up) := by
    obtain rfl | hn : ro = 0 ∨ ro ≠ 0 := by omega
    · cases up <;> rfl
    · rw [decide_eq_true (by omega), beq_eq_false_iff_ne.2 hn]; cases up <;> rfl
  have e2 : decide ((ro = 1 ∨ ro = 2) ∧ wa = 0) = (ld && (wa == 0)) := by
    rw [hld, Bool.eq_iff_iff]; simp
  rw [e1, e2]
  generalize ((ro == 0) == !up) = A
  generalize (op == (ld && (wa == 0))) = B
  cases F <;> cases A <;> cases B <;> cases W <;> rfl
end Go.Proofs.YtjholgpjicliaaaDoor
