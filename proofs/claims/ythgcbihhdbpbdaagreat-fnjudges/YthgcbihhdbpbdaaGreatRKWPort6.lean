import Derived.Test.YthgcbihhdbpbdaaGreatRM3
namespace Go.Proofs.YthgcbihhdbpbdaaGreat
open Go.ChangeShapes Go.WideShapes Go.ChangeAt Go.RowKit
open Go.ChangeMaps (open_string shut_string)
set_option linter.unusedVariables false
set_option maxRecDepth 100000
set_option maxHeartbeats 32000000
set_option linter.unusedSimpArgs false
open Go.Proofs.Tryz
attribute [local go_sem] ji ja
def CY (ro wa role : Int) : Int := if role = 3 then 0 else if ro = 3 then 4 else wa
def CA (x : Pt) (role : Int) : Pt := if Ai x && (x.up && Cb role) then ⟨x.up, x.has, x.r, x.c, x.b, x.p, x.h, x.l, role, CY x.ro x.wa role, BC role (CY x.ro x.wa role)⟩ else x
theorem Ig (x : Pt) (role : Int) (w : World) : Calls prog 204 #[.agg #[.bool x.up, .bool x.has, ji x.r, ji x.c, ji x.b, ji x.p, ji x.h, ji x.l, ji x.ro, ji x.wa, .bool x.op], ji role] w fun e w' => e = .returned (ji (CY x.ro x.wa role)) ∧ Bw w w' := by
 obtain ⟨up, has, r, c, b, p, h, l, ro, wa, op⟩ := x;dsimp only
 by_cases h3 : role = 3
 focus
  have f1 : (role == 3) = true := by simp [h3]
  rw [show CY ro wa role = 0 by simp [CY, h3]];clear h3
 rotate_left;have f1 : (role == 3) = false := by simp [h3]
 by_cases g3 : ro = 3
 focus
  have f2 : (ro == 3) = true := by simp [g3]
  rw [show CY ro wa role = 4 by simp [CY, h3, g3]];clear h3 g3
 rotate_left;have f2 : (ro == 3) = false := by simp [g3]
 rw [show CY ro wa role = wa by simp [CY, h3, g3]];clear h3 g3;all_goals
  go_enter func204, ntmps204
  go_wp2
  go_ret
  exact ⟨rfl, (Below.refl _ _).alloc (Nat.le_refl _) _⟩
theorem Ei (x : Pt) (w : World) : Calls prog 152 #[.agg #[.bool x.up, .bool x.has, ji x.r, ji x.c, ji x.b, ji x.p, ji x.h, ji x.l, ji x.ro, ji x.wa, .bool x.op]] w fun e w' => e = .returned (.agg #[.bool x.up, .bool x.has, ji x.r, ji x.c, ji x.b, ji x.p, ji x.h, ji x.l, ji x.ro, ji x.wa, .bool (BC x.ro x.wa)]) ∧ Bw w w' := by
 obtain ⟨up, has, r, c, b, p, h, l, ro, wa, op⟩ := x;dsimp only
 have e : Hid (BC ro wa = (((ro == 1) || (ro == 2)) && (wa == 0))) := by unfold BC; rw [Hid, Bool.eq_iff_iff]; simp
 generalize BC ro wa = o at e ⊢
 cases l1 : (ro == 1)
 focus
  cases l2 : (ro == 2)
  ·
   replace e : Hid (o = false) := e.out.trans (by rw [l1, l2]; rfl);go_enter func152, ntmps152
   go_wp2
   refine bodyPost_ret (v := .agg #[.bool up, .bool has, ji r, ji c, ji b, ji p, ji h, ji l, ji ro, ji wa, .bool false]) (by simp [results, results152, go_sem]) rfl ⟨by rw [e.out], ?_⟩;exact ((Below.refl _ _).alloc (Nat.le_refl _) _).alloc (by simp) _
  focus
   replace e : Hid (o = (wa == 0)) := e.out.trans (by rw [l1, l2]; rfl)
  rotate_left
 rotate_left;focus
  replace e : Hid (o = (wa == 0)) := e.out.trans (by rw [l1]; rfl)
 rotate_left;all_goals
  go_enter func152, ntmps152
  go_wp2
  refine bodyPost_ret (v := .agg #[.bool up, .bool has, ji r, ji c, ji b, ji p, ji h, ji l, ji ro, ji wa, .bool (wa == 0)]) (by simp [results, results152, go_sem]) rfl ⟨by rw [e.out], ?_⟩;exact ((Below.refl _ _).alloc (Nat.le_refl _) _).alloc (by simp) _
theorem Kn (x : Pt) (role : Int) (w : World) : Calls prog 185 #[.agg #[.bool x.up, .bool x.has, ji x.r, ji x.c, ji x.b, ji x.p, ji x.h, ji x.l, ji x.ro, ji x.wa, .bool x.op], ji role] w fun e w' => e = .returned (.agg #[.bool (CA x role).up, .bool (CA x role).has, ji (CA x role).r, ji (CA x role).c, ji (CA x role).b, ji (CA x role).p, ji (CA x role).h, ji (CA x role).l, ji (CA x role).ro, ji (CA x role).wa, .bool (CA x role).op]) ∧ Bw w w' := by
 obtain ⟨up, has, r, c, b, p, h, l, ro, wa, op⟩ := x;dsimp only
 have hY : Hid (CA ⟨up, has, r, c, b, p, h, l, ro, wa, op⟩ role = if Ai ⟨up, has, r, c, b, p, h, l, ro, wa, op⟩ && (up && Cb role) then ⟨up, has, r, c, b, p, h, l, role, (CY ro wa role), (BC role (CY ro wa role))⟩ else ⟨up, has, r, c, b, p, h, l, ro, wa, op⟩) := rfl;generalize CA ⟨up, has, r, c, b, p, h, l, ro, wa, op⟩ role = Y at hY ⊢
 obtain ⟨y, hy⟩ := AB ((w.alloc (Obj.cells #[.bool up, .bool has, ji r, ji c, ji b, ji p, ji h, ji l, ji ro, ji wa, .bool op] 70)).alloc (Obj.cells #[.bool false, .bool false, ji 0, ji 0, ji 0, ji 0, ji 0, ji 0, ji 0, ji 0, .bool false] 70));have P0 : Ae y w.heap.size ⟨up, has, r, c, b, p, h, l, ro, wa, op⟩ := by rw [hy]; refine ⟨?_, fun i => by simp [go_sem]⟩; constructor <;> simp [go_sem]
 have Q0 : Ae y (w.heap.size + 1) ⟨false, false, 0, 0, 0, 0, 0, 0, 0, 0, false⟩ := by rw [hy]; refine ⟨?_, fun i => by simp [go_sem]⟩; constructor <;> simp [go_sem]
 have B0 : Bw w y := by rw [hy]; exact ((Below.refl _ _).alloc (Nat.le_refl _) _).alloc (by simp) _
 have S0 : w.heap.size + 1 < y.heap.size := Q0.lt;go_enter func185, ntmps185
 go_wp2_with fail
 go_at_call 204
 rw [← hy];clear hy;refine (Ig ⟨up, has, r, c, b, p, h, l, ro, wa, op⟩ role y).mono ?_;rintro e w1 ⟨rfl, k1⟩;dsimp only
 have B1 := AA B0 k1;have S1 := Nat.lt_of_lt_of_le S0 k1.size;replace P0 := P0.below k1 (by omega);have P1 := P0;replace Q0 := Q0.below k1 (by omega);have Q1 := Q0;clear P0 Q0 B0 S0 k1;generalize CY ro wa role = wt at hY ⊢
 go_wp2_with fail
 go_at_call 154
 refine (HX role wt w1).mono ?_;rintro e w9 ⟨rfl, rfl⟩;generalize Cb role = ru at hY ⊢
 generalize BC role wt = rop at hY ⊢
 generalize Cv role = ri
 have cp0 := P1.at_.all;go_wp2_with fail
 go_at_call 130
 refine (GB ⟨up, has, r, c, b, p, h, l, ro, wa, op⟩ _).mono ?_;rintro e w2 ⟨rfl, k2⟩;clear cp0;have B2 := AA B1 k2;have S2 := Nat.lt_of_lt_of_le S1 k2.size;replace P1 := P1.below k2 (by omega);have P2 := P1;replace Q1 := Q1.below k2 (by omega);have Q2 := Q1;clear P1 Q1 B1 S1 k2;generalize Ai ⟨up, has, r, c, b, p, h, l, ro, wa, op⟩ = ok at hY ⊢
 cases ok
 ·
  have cp0 := P2.at_.all;obtain ⟨⟨cq0, cq1, cq2, cq3, cq4, cq5, cq6, cq7, cq8, cq9, cq10⟩, cqf⟩ := Q2;replace hY : Hid (Y = ⟨up, has, r, c, b, p, h, l, ro, wa, op⟩) := hY.out;go_wp2
  refine bodyPost_ret (v := .agg #[.bool up, .bool has, ji r, ji c, ji b, ji p, ji h, ji l, ji ro, ji wa, .bool op]) (by simp [results, results185, go_sem, *]) rfl ⟨by rw [hY.out], ?_⟩;repeat' (first | with_reducible exact B2 | with_reducible refine Below.setCell ?_ (by simp <;> omega) _ | with_reducible refine Below.drew ?_)
 cases up
 ·
  have cp0 := P2.at_.all;obtain ⟨⟨cq0, cq1, cq2, cq3, cq4, cq5, cq6, cq7, cq8, cq9, cq10⟩, cqf⟩ := Q2;replace hY : Hid (Y = ⟨false, has, r, c, b, p, h, l, ro, wa, op⟩) := hY.out;go_wp2
  refine bodyPost_ret (v := .agg #[.bool false, .bool has, ji r, ji c, ji b, ji p, ji h, ji l, ji ro, ji wa, .bool op]) (by simp [results, results185, go_sem, *]) rfl ⟨by rw [hY.out], ?_⟩;repeat' (first | with_reducible exact B2 | with_reducible refine Below.setCell ?_ (by simp <;> omega) _ | with_reducible refine Below.drew ?_)
 cases ru
 ·
  have cp0 := P2.at_.all;obtain ⟨⟨cq0, cq1, cq2, cq3, cq4, cq5, cq6, cq7, cq8, cq9, cq10⟩, cqf⟩ := Q2;replace hY : Hid (Y = ⟨true, has, r, c, b, p, h, l, ro, wa, op⟩) := hY.out;go_wp2
  refine bodyPost_ret (v := .agg #[.bool true, .bool has, ji r, ji c, ji b, ji p, ji h, ji l, ji ro, ji wa, .bool op]) (by simp [results, results185, go_sem, *]) rfl ⟨by rw [hY.out], ?_⟩;repeat' (first | with_reducible exact B2 | with_reducible refine Below.setCell ?_ (by simp <;> omega) _ | with_reducible refine Below.drew ?_)
 replace hY : Hid (Y = ⟨true, has, r, c, b, p, h, l, role, wt, rop⟩) := hY.out;obtain ⟨⟨cp0, cp1, cp2, cp3, cp4, cp5, cp6, cp7, cp8, cp9, cp10⟩, cpf⟩ := P2;obtain ⟨⟨cq0, cq1, cq2, cq3, cq4, cq5, cq6, cq7, cq8, cq9, cq10⟩, cqf⟩ := Q2;go_wp2
 refine bodyPost_ret (v := .agg #[.bool true, .bool has, ji r, ji c, ji b, ji p, ji h, ji l, ji role, ji wt, .bool rop]) (by simp [results, results185, go_sem, *]) rfl ⟨by rw [hY.out], ?_⟩;repeat' (first | with_reducible exact B2 | with_reducible refine Below.setCell ?_ (by simp <;> omega) _ | with_reducible refine Below.drew ?_)
end Go.Proofs.YthgcbihhdbpbdaaGreat
