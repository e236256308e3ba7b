import Derived.Test.YtnpiljegdiconabGreatQKWPort4
namespace Go.Proofs.YtnpiljegdiconabGreat
open Go.ChangeShapes Go.WideShapes Go.ChangeAt Go.RowKit
open Go.ChangeMaps (open_string shut_string)
set_option linter.unusedVariables false
set_option maxRecDepth 100000
def waitR (ro wa role : Int) : Int := if role = 3 then 0 else if ro = 3 then 4 else wa
def turnR (x : Pt) (role : Int) : Pt := if pOk x && (x.up && raUp role) then ⟨x.up, x.has, x.r, x.c, x.b, x.p, x.h, x.l, role, waitR x.ro x.wa role, raOp role (waitR x.ro x.wa role)⟩ else x
set_option maxHeartbeats 4000000 in
theorem waitTurnedI (x : Pt) (role : Int) (w : World) : Calls Tryz.prog 153 #[.agg #[.bool x.up, .bool x.has, .int .i64 x.r, .int .i64 x.c, .int .i64 x.b, .int .i64 x.p, .int .i64 x.h, .int .i64 x.l, .int .i64 x.ro, .int .i64 x.wa, .bool x.op], .int .i64 role] w fun e w' => e = .returned (.int .i64 (waitR x.ro x.wa role)) ∧ Below w.heap.size w w' := by
 obtain ⟨up, has, r, c, b, p, h, l, ro, wa, op⟩ := x
 dsimp only
 by_cases h3 : role = 3
 ·
  have f1 : (role == 3) = true := by simp [h3]
  rw [show waitR ro wa role = 0 by simp [waitR, h3]]
  clear h3
  go_enter Tryz.func153, Tryz.ntmps153
  go_wp2
  go_ret
  exact ⟨rfl, (Below.refl _ _).alloc (Nat.le_refl _) _⟩
 have f1 : (role == 3) = false := by simp [h3]
 by_cases g3 : ro = 3
 ·
  have f2 : (ro == 3) = true := by simp [g3]
  rw [show waitR ro wa role = 4 by simp [waitR, h3, g3]]
  clear h3 g3
  go_enter Tryz.func153, Tryz.ntmps153
  go_wp2
  go_ret
  exact ⟨rfl, (Below.refl _ _).alloc (Nat.le_refl _) _⟩
 have f2 : (ro == 3) = false := by simp [g3]
 rw [show waitR ro wa role = wa by simp [waitR, h3, g3]]
 clear h3 g3
 go_enter Tryz.func153, Tryz.ntmps153
 go_wp2
 go_ret
 exact ⟨rfl, (Below.refl _ _).alloc (Nat.le_refl _) _⟩
set_option maxHeartbeats 4000000 in
theorem openS (x : Pt) (w : World) : Calls Tryz.prog 129 #[.agg #[.bool x.up, .bool x.has, .int .i64 x.r, .int .i64 x.c, .int .i64 x.b, .int .i64 x.p, .int .i64 x.h, .int .i64 x.l, .int .i64 x.ro, .int .i64 x.wa, .bool x.op]] w fun e w' => e = .returned (.agg #[.bool x.up, .bool x.has, .int .i64 x.r, .int .i64 x.c, .int .i64 x.b, .int .i64 x.p, .int .i64 x.h, .int .i64 x.l, .int .i64 x.ro, .int .i64 x.wa, .bool (raOp x.ro x.wa)]) ∧ Below w.heap.size w w' := by
 obtain ⟨up, has, r, c, b, p, h, l, ro, wa, op⟩ := x
 dsimp only
 have e : Hid (raOp ro wa = (((ro == 1) || (ro == 2)) && (wa == 0))) := by unfold raOp; rw [Hid, Bool.eq_iff_iff]; simp
 generalize raOp ro wa = o at e ⊢
 cases l1 : (ro == 1)
 ·
  cases l2 : (ro == 2)
  ·
   replace e : Hid (o = false) := e.out.trans (by rw [l1, l2]; rfl)
   go_enter Tryz.func129, Tryz.ntmps129
   go_wp2
   refine bodyPost_ret (v := .agg #[.bool up, .bool has, .int .i64 r, .int .i64 c, .int .i64 b, .int .i64 p, .int .i64 h, .int .i64 l, .int .i64 ro, .int .i64 wa, .bool false]) (by simp [results, Tryz.results129, go_sem]) rfl ⟨by rw [e.out], ?_⟩
   exact ((Below.refl _ _).alloc (Nat.le_refl _) _).alloc (by simp) _
  ·
   replace e : Hid (o = (wa == 0)) := e.out.trans (by rw [l1, l2]; rfl)
   go_enter Tryz.func129, Tryz.ntmps129
   go_wp2
   refine bodyPost_ret (v := .agg #[.bool up, .bool has, .int .i64 r, .int .i64 c, .int .i64 b, .int .i64 p, .int .i64 h, .int .i64 l, .int .i64 ro, .int .i64 wa, .bool (wa == 0)]) (by simp [results, Tryz.results129, go_sem]) rfl ⟨by rw [e.out], ?_⟩
   exact ((Below.refl _ _).alloc (Nat.le_refl _) _).alloc (by simp) _
 ·
  replace e : Hid (o = (wa == 0)) := e.out.trans (by rw [l1]; rfl)
  go_enter Tryz.func129, Tryz.ntmps129
  go_wp2
  refine bodyPost_ret (v := .agg #[.bool up, .bool has, .int .i64 r, .int .i64 c, .int .i64 b, .int .i64 p, .int .i64 h, .int .i64 l, .int .i64 ro, .int .i64 wa, .bool (wa == 0)]) (by simp [results, Tryz.results129, go_sem]) rfl ⟨by rw [e.out], ?_⟩
  exact ((Below.refl _ _).alloc (Nat.le_refl _) _).alloc (by simp) _
set_option maxHeartbeats 4000000 in
theorem turnI (x : Pt) (role : Int) (w : World) : Calls Tryz.prog 137 #[.agg #[.bool x.up, .bool x.has, .int .i64 x.r, .int .i64 x.c, .int .i64 x.b, .int .i64 x.p, .int .i64 x.h, .int .i64 x.l, .int .i64 x.ro, .int .i64 x.wa, .bool x.op], .int .i64 role] w fun e w' => e = .returned (.agg #[.bool (turnR x role).up, .bool (turnR x role).has, .int .i64 (turnR x role).r, .int .i64 (turnR x role).c, .int .i64 (turnR x role).b, .int .i64 (turnR x role).p, .int .i64 (turnR x role).h, .int .i64 (turnR x role).l, .int .i64 (turnR x role).ro, .int .i64 (turnR x role).wa, .bool (turnR x role).op]) ∧ Below w.heap.size w w' := by
 obtain ⟨up, has, r, c, b, p, h, l, ro, wa, op⟩ := x
 dsimp only
 have hY : Hid (turnR ⟨up, has, r, c, b, p, h, l, ro, wa, op⟩ role = if pOk ⟨up, has, r, c, b, p, h, l, ro, wa, op⟩ && (up && raUp role) then ⟨up, has, r, c, b, p, h, l, role, (waitR ro wa role), (raOp role (waitR ro wa role))⟩ else ⟨up, has, r, c, b, p, h, l, ro, wa, op⟩) := rfl
 generalize turnR ⟨up, has, r, c, b, p, h, l, ro, wa, op⟩ role = Y at hY ⊢
 obtain ⟨y, hy⟩ := mk_ ((w.alloc (Obj.cells #[.bool up, .bool has, .int .i64 r, .int .i64 c, .int .i64 b, .int .i64 p, .int .i64 h, .int .i64 l, .int .i64 ro, .int .i64 wa, .bool op] 113)).alloc (Obj.cells #[.bool false, .bool false, .int .i64 0, .int .i64 0, .int .i64 0, .int .i64 0, .int .i64 0, .int .i64 0, .int .i64 0, .int .i64 0, .bool false] 113))
 have P0 : PBox y w.heap.size ⟨up, has, r, c, b, p, h, l, ro, wa, op⟩ := by rw [hy]; refine ⟨?_, fun i => by simp [go_sem]⟩; constructor <;> simp [go_sem]
 have Q0 : PBox y (w.heap.size + 1) ⟨false, false, 0, 0, 0, 0, 0, 0, 0, 0, false⟩ := by rw [hy]; refine ⟨?_, fun i => by simp [go_sem]⟩; constructor <;> simp [go_sem]
 have B0 : Below w.heap.size w y := by rw [hy]; exact ((Below.refl _ _).alloc (Nat.le_refl _) _).alloc (by simp) _
 have S0 : w.heap.size + 1 < y.heap.size := Q0.lt
 go_enter Tryz.func137, Tryz.ntmps137
 go_wp2_with fail
 go_at_call 153
 rw [← hy]
 clear hy
 refine (waitTurnedI ⟨up, has, r, c, b, p, h, l, ro, wa, op⟩ role y).mono ?_
 rintro e w1 ⟨rfl, k1⟩
 dsimp only
 have B1 := B0.trans (k1.mono B0.size)
 have S1 := Nat.lt_of_lt_of_le S0 k1.size
 replace P0 := P0.below k1 (by omega)
 have P1 := P0
 replace Q0 := Q0.below k1 (by omega)
 have Q1 := Q0
 clear P0 Q0 B0 S0 k1
 generalize waitR ro wa role = wt at hY ⊢
 go_wp2_with fail
 go_at_call 149
 refine (roleAsksI role wt w1).mono ?_
 rintro e w9 ⟨rfl, rfl⟩
 generalize raUp role = ru at hY ⊢
 generalize raOp role wt = rop at hY ⊢
 generalize raIs role = ri
 obtain ⟨cp0, cp1, cp2, cp3, cp4, cp5, cp6, cp7, cp8, cp9, cp10⟩ := P1.at_
 go_wp2_with fail
 go_at_call 132
 refine (pOkI ⟨up, has, r, c, b, p, h, l, ro, wa, op⟩ _).mono ?_
 rintro e w2 ⟨rfl, k2⟩
 clear cp0 cp1 cp2 cp3 cp4 cp5 cp6 cp7 cp8 cp9 cp10
 have B2 := B1.trans (k2.mono B1.size)
 have S2 := Nat.lt_of_lt_of_le S1 k2.size
 replace P1 := P1.below k2 (by omega)
 have P2 := P1
 replace Q1 := Q1.below k2 (by omega)
 have Q2 := Q1
 clear P1 Q1 B1 S1 k2
 generalize pOk ⟨up, has, r, c, b, p, h, l, ro, wa, op⟩ = ok at hY ⊢
 cases ok
 ·
  obtain ⟨cp0, cp1, cp2, cp3, cp4, cp5, cp6, cp7, cp8, cp9, cp10⟩ := P2.at_
  obtain ⟨⟨cq0, cq1, cq2, cq3, cq4, cq5, cq6, cq7, cq8, cq9, cq10⟩, cqf⟩ := Q2
  replace hY : Hid (Y = ⟨up, has, r, c, b, p, h, l, ro, wa, op⟩) := hY.out
  go_wp2
  refine bodyPost_ret (v := .agg #[.bool up, .bool has, .int .i64 r, .int .i64 c, .int .i64 b, .int .i64 p, .int .i64 h, .int .i64 l, .int .i64 ro, .int .i64 wa, .bool op]) (by simp [results, Tryz.results137, go_sem, *]) rfl ⟨by rw [hY.out], ?_⟩
  repeat' (first | with_reducible exact B2 | with_reducible refine Below.setCell ?_ (by simp <;> omega) _ | with_reducible refine Below.drew ?_)
 cases up
 ·
  obtain ⟨cp0, cp1, cp2, cp3, cp4, cp5, cp6, cp7, cp8, cp9, cp10⟩ := P2.at_
  obtain ⟨⟨cq0, cq1, cq2, cq3, cq4, cq5, cq6, cq7, cq8, cq9, cq10⟩, cqf⟩ := Q2
  replace hY : Hid (Y = ⟨false, has, r, c, b, p, h, l, ro, wa, op⟩) := hY.out
  go_wp2
  refine bodyPost_ret (v := .agg #[.bool false, .bool has, .int .i64 r, .int .i64 c, .int .i64 b, .int .i64 p, .int .i64 h, .int .i64 l, .int .i64 ro, .int .i64 wa, .bool op]) (by simp [results, Tryz.results137, go_sem, *]) rfl ⟨by rw [hY.out], ?_⟩
  repeat' (first | with_reducible exact B2 | with_reducible refine Below.setCell ?_ (by simp <;> omega) _ | with_reducible refine Below.drew ?_)
 cases ru
 ·
  obtain ⟨cp0, cp1, cp2, cp3, cp4, cp5, cp6, cp7, cp8, cp9, cp10⟩ := P2.at_
  obtain ⟨⟨cq0, cq1, cq2, cq3, cq4, cq5, cq6, cq7, cq8, cq9, cq10⟩, cqf⟩ := Q2
  replace hY : Hid (Y = ⟨true, has, r, c, b, p, h, l, ro, wa, op⟩) := hY.out
  go_wp2
  refine bodyPost_ret (v := .agg #[.bool true, .bool has, .int .i64 r, .int .i64 c, .int .i64 b, .int .i64 p, .int .i64 h, .int .i64 l, .int .i64 ro, .int .i64 wa, .bool op]) (by simp [results, Tryz.results137, go_sem, *]) rfl ⟨by rw [hY.out], ?_⟩
  repeat' (first | with_reducible exact B2 | with_reducible refine Below.setCell ?_ (by simp <;> omega) _ | with_reducible refine Below.drew ?_)
 replace hY : Hid (Y = ⟨true, has, r, c, b, p, h, l, role, wt, rop⟩) := hY.out
 obtain ⟨⟨cp0, cp1, cp2, cp3, cp4, cp5, cp6, cp7, cp8, cp9, cp10⟩, cpf⟩ := P2
 obtain ⟨⟨cq0, cq1, cq2, cq3, cq4, cq5, cq6, cq7, cq8, cq9, cq10⟩, cqf⟩ := Q2
 go_wp2
 refine bodyPost_ret (v := .agg #[.bool true, .bool has, .int .i64 r, .int .i64 c, .int .i64 b, .int .i64 p, .int .i64 h, .int .i64 l, .int .i64 role, .int .i64 wt, .bool rop]) (by simp [results, Tryz.results137, go_sem, *]) rfl ⟨by rw [hY.out], ?_⟩
 repeat' (first | with_reducible exact B2 | with_reducible refine Below.setCell ?_ (by simp <;> omega) _ | with_reducible refine Below.drew ?_)
end Go.Proofs.YtnpiljegdiconabGreat
