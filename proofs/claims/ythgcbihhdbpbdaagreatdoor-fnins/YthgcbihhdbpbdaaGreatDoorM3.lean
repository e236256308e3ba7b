/- counts, impl.Claim, walked. waitTurned, l7Open, impl.Turn, walked. -/
import Derived.Test.YthgcbihhdbpbdaaGreatDoorRows
import Derived.WalkKit
import Derived.ProofKit
import Derived.OpenShut
import Derived.ShutString
import Derived.ChangeOld
import Derived.Below
import Derived.Deep.QuietTactic
import Derived.BigQuiet
import Derived.WalkSmall
import Derived.Laws.OwnMore
import Derived.WalkSpells
import Derived.WalkLawsBesides
import Derived.Deep.Cut
import Derived.Test.YthgcbihhdbpbdaaGreatDoorKPort3
import Derived.Test.YthgcbihhdbpbdaaGreatDoorM1
namespace Go.Proofs.YthgcbihhdbpbdaaGreatDoor
open Go.ChangeShapes Go.WideShapes Go.ChangeAt Go.RowKit
open Go.ChangeMaps (open_string shut_string)
set_option linter.unusedVariables false
set_option maxRecDepth 100000

/-- A claim counts at a port. -/
def cnt (x : Pt) (r2 c2 b2 p2 : Int) : Bool := !x.has || (!vLt x.r x.c x.b x.p r2 c2 b2 p2 || ((b2 == x.b) && (p2 == x.p)))
def takes (x : Pt) (r2 c2 b2 p2 k : Int) : Bool := pOk x && (x.up && (vOk r2 c2 b2 p2 && (decide (0 ≤ k ∧ k ≤ 8) && cnt x r2 c2 b2 p2)))
/-- What Claim answers. -/
def claimR (x : Pt) (r2 c2 b2 p2 k : Int) : Pt := if takes x r2 c2 b2 p2 k then ⟨x.up, true, r2, c2, b2, p2, k, 3, x.ro, x.wa, x.op⟩ else x
theorem claimR_no {x : Pt} {r2 c2 b2 p2 k : Int} (h : takes x r2 c2 b2 p2 k = false) : claimR x r2 c2 b2 p2 k = x := by unfold claimR; rw [h]; rfl
theorem claimR_yes {x : Pt} {r2 c2 b2 p2 k : Int} (h : takes x r2 c2 b2 p2 k = true) : claimR x r2 c2 b2 p2 k = ⟨x.up, true, r2, c2, b2, p2, k, 3, x.ro, x.wa, x.op⟩ := by unfold claimR; rw [h]; rfl
end Go.Proofs.YthgcbihhdbpbdaaGreatDoor
namespace Go.Proofs.YthgcbihhdbpbdaaGreatDoor
open Go.ChangeShapes Go.WideShapes Go.ChangeAt Go.RowKit
open Go.ChangeMaps (open_string shut_string)
set_option linter.unusedVariables false
set_option maxRecDepth 100000

/-- How long a port waits once it is turned. -/
def waitR (ro wa role : Int) : Int := if role = 3 then 0 else if ro = 3 then 4 else wa
/-- What Turn answers. -/
def turnR (x : Pt) (role : Int) : Pt := if pOk x && (x.up && raUp role) then ⟨x.up, x.has, x.r, x.c, x.b, x.p, x.h, x.l, role, waitR x.ro x.wa role, raOp role (waitR x.ro x.wa role)⟩ else x
set_option maxHeartbeats 4000000 in
theorem openS (x : Pt) (w : World) : Calls Tryz.prog 123 #[.agg #[.bool x.up, .bool x.has, .int .i64 x.r, .int .i64 x.c, .int .i64 x.b, .int .i64 x.p, .int .i64 x.h, .int .i64 x.l, .int .i64 x.ro, .int .i64 x.wa, .bool x.op]] w fun e w' => e = .returned (.agg #[.bool x.up, .bool x.has, .int .i64 x.r, .int .i64 x.c, .int .i64 x.b, .int .i64 x.p, .int .i64 x.h, .int .i64 x.l, .int .i64 x.ro, .int .i64 x.wa, .bool (raOp x.ro x.wa)]) ∧ Below w.heap.size w w' := by
  obtain ⟨up, has, r, c, b, p, h, l, ro, wa, op⟩ := x
  dsimp only
  have e : Hid (raOp ro wa = (((ro == 1) || (ro == 2)) && (wa == 0))) := by unfold raOp; rw [Hid, Bool.eq_iff_iff]; simp
  generalize raOp ro wa = o at e ⊢
  cases l1 : (ro == 1)
  · cases l2 : (ro == 2)
    · replace e : Hid (o = false) := e.out.trans (by rw [l1, l2]; rfl)
      go_enter Tryz.func123, Tryz.ntmps123
      go_wp2
      refine bodyPost_ret (v := .agg #[.bool up, .bool has, .int .i64 r, .int .i64 c, .int .i64 b, .int .i64 p, .int .i64 h, .int .i64 l, .int .i64 ro, .int .i64 wa, .bool false]) (by simp [results, Tryz.results123, go_sem]) rfl ⟨by rw [e.out], ?_⟩
      exact ((Below.refl _ _).alloc (Nat.le_refl _) _).alloc (by simp) _

    · replace e : Hid (o = (wa == 0)) := e.out.trans (by rw [l1, l2]; rfl)
      go_enter Tryz.func123, Tryz.ntmps123
      go_wp2
      refine bodyPost_ret (v := .agg #[.bool up, .bool has, .int .i64 r, .int .i64 c, .int .i64 b, .int .i64 p, .int .i64 h, .int .i64 l, .int .i64 ro, .int .i64 wa, .bool (wa == 0)]) (by simp [results, Tryz.results123, go_sem]) rfl ⟨by rw [e.out], ?_⟩
      exact ((Below.refl _ _).alloc (Nat.le_refl _) _).alloc (by simp) _

  · replace e : Hid (o = (wa == 0)) := e.out.trans (by rw [l1]; rfl)
    go_enter Tryz.func123, Tryz.ntmps123
    go_wp2
    refine bodyPost_ret (v := .agg #[.bool up, .bool has, .int .i64 r, .int .i64 c, .int .i64 b, .int .i64 p, .int .i64 h, .int .i64 l, .int .i64 ro, .int .i64 wa, .bool (wa == 0)]) (by simp [results, Tryz.results123, go_sem]) rfl ⟨by rw [e.out], ?_⟩
    exact ((Below.refl _ _).alloc (Nat.le_refl _) _).alloc (by simp) _

end Go.Proofs.YthgcbihhdbpbdaaGreatDoor
