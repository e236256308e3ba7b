import Derived.Test.YtjmnaeeknomiaaaGreatDoorRKWPort4
namespace Go.Proofs.YtjmnaeeknomiaaaGreatDoor
open Go.ChangeShapes Go.WideShapes Go.ChangeAt Go.RowKit
open Go.ChangeMaps (open_string shut_string)
set_option linter.unusedVariables false
set_option maxRecDepth 100000
set_option maxHeartbeats 32000000
set_option linter.unusedSimpArgs false
open Go.Proofs.Tryz
attribute [local go_sem] ji ja
def Cu (ro wa role : Int) : Int := if role = 3 then 0 else if ro = 3 then 4 else wa
def Bo (x : Pt) (role : Int) : Pt := if Ae x && (x.up && E4 role) then ⟨x.up, x.has, x.r, x.c, x.b, x.p, x.h, x.l, role, Cu x.ro x.wa role, Ay role (Cu x.ro x.wa role)⟩ else x
theorem EH (x : Pt) (w : World) : Calls prog 123 #[.agg #[.bool x.up, .bool x.has, ji x.r, ji x.c, ji x.b, ji x.p, ji x.h, ji x.l, ji x.ro, ji x.wa, .bool x.op]] w fun e w' => e = .returned (.agg #[.bool x.up, .bool x.has, ji x.r, ji x.c, ji x.b, ji x.p, ji x.h, ji x.l, ji x.ro, ji x.wa, .bool (Ay x.ro x.wa)]) ∧ Bw w w' := by
 obtain ⟨up, has, r, c, b, p, h, l, ro, wa, op⟩ := x;dsimp only
 have e : Hid (Ay ro wa = (((ro == 1) || (ro == 2)) && (wa == 0))) := by unfold Ay; rw [Hid, Bool.eq_iff_iff]; simp
 generalize Ay ro wa = o at e ⊢
 cases l1 : (ro == 1)
 focus
  cases l2 : (ro == 2)
  ·
   replace e : Hid (o = false) := e.out.trans (by rw [l1, l2]; rfl);go_enter func123, ntmps123
   go_wp2
   refine bodyPost_ret (v := .agg #[.bool up, .bool has, ji r, ji c, ji b, ji p, ji h, ji l, ji ro, ji wa, .bool false]) (by simp [results, results123, go_sem]) rfl ⟨by rw [e.out], ?_⟩;exact ((Below.refl _ _).alloc (Nat.le_refl _) _).alloc (by simp) _
  focus
   replace e : Hid (o = (wa == 0)) := e.out.trans (by rw [l1, l2]; rfl)
  rotate_left
 rotate_left;focus
  replace e : Hid (o = (wa == 0)) := e.out.trans (by rw [l1]; rfl)
 rotate_left;all_goals
  go_enter func123, ntmps123
  go_wp2
  refine bodyPost_ret (v := .agg #[.bool up, .bool has, ji r, ji c, ji b, ji p, ji h, ji l, ji ro, ji wa, .bool (wa == 0)]) (by simp [results, results123, go_sem]) rfl ⟨by rw [e.out], ?_⟩;exact ((Below.refl _ _).alloc (Nat.le_refl _) _).alloc (by simp) _
end Go.Proofs.YtjmnaeeknomiaaaGreatDoor
