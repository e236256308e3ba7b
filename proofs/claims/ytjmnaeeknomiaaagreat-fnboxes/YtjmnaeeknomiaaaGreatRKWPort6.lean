import Derived.Test.YtjmnaeeknomiaaaGreatRKWPort4
namespace Go.Proofs.YtjmnaeeknomiaaaGreat
open Go.ChangeShapes Go.WideShapes Go.ChangeAt Go.RowKit
open Go.ChangeMaps (open_string shut_string)
set_option linter.unusedVariables false
set_option maxRecDepth 100000
set_option maxHeartbeats 32000000
set_option linter.unusedSimpArgs false
open Go.Proofs.Tryz
attribute [local go_sem] ji ja
def DS (ro wa role : Int) : Int := if role = 3 then 0 else if ro = 3 then 4 else wa
def Ci (x : Pt) (role : Int) : Pt := if Ax x && (x.up && CY role) then ⟨x.up, x.has, x.r, x.c, x.b, x.p, x.h, x.l, role, DS x.ro x.wa role, BG role (DS x.ro x.wa role)⟩ else x
theorem EW (x : Pt) (w : World) : Calls prog 152 #[.agg #[.bool x.up, .bool x.has, ji x.r, ji x.c, ji x.b, ji x.p, ji x.h, ji x.l, ji x.ro, ji x.wa, .bool x.op]] w fun e w' => e = .returned (.agg #[.bool x.up, .bool x.has, ji x.r, ji x.c, ji x.b, ji x.p, ji x.h, ji x.l, ji x.ro, ji x.wa, .bool (BG x.ro x.wa)]) ∧ Bw w w' := by
 obtain ⟨up, has, r, c, b, p, h, l, ro, wa, op⟩ := x;dsimp only
 have e : Hid (BG ro wa = (((ro == 1) || (ro == 2)) && (wa == 0))) := by unfold BG; rw [Hid, Bool.eq_iff_iff]; simp
 generalize BG ro wa = o at e ⊢
 cases l1 : (ro == 1)
 focus
  cases l2 : (ro == 2)
  ·
   replace e : Hid (o = false) := e.out.trans (by rw [l1, l2]; rfl);go_enter func152, ntmps152
   go_wp2
   refine bodyPost_ret (v := .agg #[.bool up, .bool has, ji r, ji c, ji b, ji p, ji h, ji l, ji ro, ji wa, .bool false]) (by simp [results, results152, go_sem]) rfl ⟨by rw [e.out], ?_⟩;exact ((Below.refl _ _).alloc (Nat.le_refl _) _).alloc (by simp) _
  focus
   replace e : Hid (o = (wa == 0)) := e.out.trans (by rw [l1, l2]; rfl)
  rotate_left
 rotate_left;focus
  replace e : Hid (o = (wa == 0)) := e.out.trans (by rw [l1]; rfl)
 rotate_left;all_goals
  go_enter func152, ntmps152
  go_wp2
  refine bodyPost_ret (v := .agg #[.bool up, .bool has, ji r, ji c, ji b, ji p, ji h, ji l, ji ro, ji wa, .bool (wa == 0)]) (by simp [results, results152, go_sem]) rfl ⟨by rw [e.out], ?_⟩;exact ((Below.refl _ _).alloc (Nat.le_refl _) _).alloc (by simp) _
end Go.Proofs.YtjmnaeeknomiaaaGreat
