import Derived.Test.YtjmnaeeknomiaaaGreatDoorRKWPort6
namespace Go.Proofs.YtjmnaeeknomiaaaGreatDoor
open Go.ChangeShapes Go.WideShapes Go.ChangeAt Go.RowKit
open Go.ChangeMaps (open_string shut_string)
set_option linter.unusedVariables false
set_option maxRecDepth 100000
set_option maxHeartbeats 32000000
set_option linter.unusedSimpArgs false
open Go.Proofs.Tryz
attribute [local go_sem] ji ja
theorem FH (x : Pt) (role : Int) (w : World) : Calls prog 125 #[.agg #[.bool x.up, .bool x.has, ji x.r, ji x.c, ji x.b, ji x.p, ji x.h, ji x.l, ji x.ro, ji x.wa, .bool x.op], ji role] w fun e w' => e = .returned (.agg #[.bool (Bo x role).up, .bool (Bo x role).has, ji (Bo x role).r, ji (Bo x role).c, ji (Bo x role).b, ji (Bo x role).p, ji (Bo x role).h, ji (Bo x role).l, ji (Bo x role).ro, ji (Bo x role).wa, .bool (Bo x role).op]) ∧ Bw w w' := by
 obtain ⟨up, has, r, c, b, p, h, l, ro, wa, op⟩ := x;dsimp only
 have hY : Hid (Bo ⟨up, has, r, c, b, p, h, l, ro, wa, op⟩ role = if Ae ⟨up, has, r, c, b, p, h, l, ro, wa, op⟩ && (up && E4 role) then ⟨up, has, r, c, b, p, h, l, role, (Cu ro wa role), (Ay role (Cu ro wa role))⟩ else ⟨up, has, r, c, b, p, h, l, ro, wa, op⟩) := rfl;generalize Bo ⟨up, has, r, c, b, p, h, l, ro, wa, op⟩ role = Y at hY ⊢
 obtain ⟨y, hy⟩ := AC ((w.alloc (Obj.cells #[.bool up, .bool has, ji r, ji c, ji b, ji p, ji h, ji l, ji ro, ji wa, .bool op] 47)).alloc (Obj.cells #[.bool false, .bool false, ji 0, ji 0, ji 0, ji 0, ji 0, ji 0, ji 0, ji 0, .bool false] 47));have P0 : AO y w.heap.size ⟨up, has, r, c, b, p, h, l, ro, wa, op⟩ := by rw [hy]; refine ⟨?_, fun i => by simp [go_sem]⟩; constructor <;> simp [go_sem]
 have Q0 : AO y (w.heap.size + 1) ⟨false, false, 0, 0, 0, 0, 0, 0, 0, 0, false⟩ := by rw [hy]; refine ⟨?_, fun i => by simp [go_sem]⟩; constructor <;> simp [go_sem]
 have B0 : Bw w y := by rw [hy]; exact ((Below.refl _ _).alloc (Nat.le_refl _) _).alloc (by simp) _
 have S0 : w.heap.size + 1 < y.heap.size := Q0.lt;go_enter func125, ntmps125
 go_wp2_with fail
 go_at_call 112
 rw [← hy];clear hy;refine (GQ ⟨up, has, r, c, b, p, h, l, ro, wa, op⟩ y).mono ?_;rintro e w1 ⟨rfl, k1⟩;have B1 := AG B0 k1;have S1 := Nat.lt_of_lt_of_le S0 k1.size;replace P0 := P0.below k1 (by omega);have P1 := P0;replace Q0 := Q0.below k1 (by omega);have Q1 := Q0;clear P0 Q0 B0 S0 k1;generalize Ae ⟨up, has, r, c, b, p, h, l, ro, wa, op⟩ = ok at hY ⊢
 cases ok
 ·
  have cp0 := P1.at_.all;obtain ⟨⟨cq0, cq1, cq2, cq3, cq4, cq5, cq6, cq7, cq8, cq9, cq10⟩, cqf⟩ := Q1;replace hY : Hid (Y = ⟨up, has, r, c, b, p, h, l, ro, wa, op⟩) := hY.out;go_wp2
  refine bodyPost_ret (v := .agg #[.bool up, .bool has, ji r, ji c, ji b, ji p, ji h, ji l, ji ro, ji wa, .bool op]) (by simp [results, results125, go_sem, *]) rfl ⟨by rw [hY.out], ?_⟩;repeat' (first | with_reducible exact B1 | with_reducible refine Below.setCell ?_ (by simp <;> omega) _ | with_reducible refine Below.drew ?_)
 cases up
 ·
  have cp0 := P1.at_.all;obtain ⟨⟨cq0, cq1, cq2, cq3, cq4, cq5, cq6, cq7, cq8, cq9, cq10⟩, cqf⟩ := Q1;replace hY : Hid (Y = ⟨false, has, r, c, b, p, h, l, ro, wa, op⟩) := hY.out;go_wp2
  refine bodyPost_ret (v := .agg #[.bool false, .bool has, ji r, ji c, ji b, ji p, ji h, ji l, ji ro, ji wa, .bool op]) (by simp [results, results125, go_sem, *]) rfl ⟨by rw [hY.out], ?_⟩;repeat' (first | with_reducible exact B1 | with_reducible refine Below.setCell ?_ (by simp <;> omega) _ | with_reducible refine Below.drew ?_)
 have cp0 := P1.at_.all;go_wp2_with fail
 go_at_call 66
 refine (BE role 1 3 _).mono ?_;rintro e w1 ⟨rfl, rfl⟩;clear cp0;replace hY : Hid (Y = if decide (1 ≤ role ∧ role ≤ 3) then ⟨true, has, r, c, b, p, h, l, role, (Cu ro wa role), (Ay role (Cu ro wa role))⟩ else ⟨true, has, r, c, b, p, h, l, ro, wa, op⟩) := hY.out;generalize decide (1 ≤ role ∧ role ≤ 3) = ok at hY ⊢
 cases ok
 ·
  have cp0 := P1.at_.all;obtain ⟨⟨cq0, cq1, cq2, cq3, cq4, cq5, cq6, cq7, cq8, cq9, cq10⟩, cqf⟩ := Q1;replace hY : Hid (Y = ⟨true, has, r, c, b, p, h, l, ro, wa, op⟩) := hY.out;go_wp2
  refine bodyPost_ret (v := .agg #[.bool true, .bool has, ji r, ji c, ji b, ji p, ji h, ji l, ji ro, ji wa, .bool op]) (by simp [results, results125, go_sem, *]) rfl ⟨by rw [hY.out], ?_⟩;repeat' (first | with_reducible exact B1 | with_reducible refine Below.setCell ?_ (by simp <;> omega) _ | with_reducible refine Below.drew ?_)
 replace hY : Hid (Y = ⟨true, has, r, c, b, p, h, l, role, (Cu ro wa role), (Ay role (Cu ro wa role))⟩) := hY.out;by_cases h3 : role = 3
 ·
  subst h3;by_cases g3 : ro = 3
  focus
   have f2b : (ro == 3) = true := by simp [g3]
   have f2n : (ro != 3) = false := by simp [g3]
  rotate_left;focus
   have f2b : (ro == 3) = false := by simp [g3]
   have f2n : (ro != 3) = true := by simp [g3]
  rotate_left;all_goals
   replace hY : Hid (Y = ⟨true, has, r, c, b, p, h, l, 3, 0, (Ay 3 0)⟩) := hY.out.trans (by rw [show Cu ro wa 3 = 0 by simp [Cu]]);clear g3;have P1' := P1;have Q1' := Q1;obtain ⟨⟨cp0, cp1, cp2, cp3, cp4, cp5, cp6, cp7, cp8, cp9, cp10⟩, cpf⟩ := P1;obtain ⟨⟨cq0, cq1, cq2, cq3, cq4, cq5, cq6, cq7, cq8, cq9, cq10⟩, cqf⟩ := Q1;go_wp2_with fail
   go_at_call 123
   obtain ⟨z, hz⟩ := AC ((w1.setCell (ja w.heap.size 9) (ji 0)).setCell (ja w.heap.size 8) (ji 3));have P2 := ((P1'.set9 0).set8 3);have Q2 : AO ((w1.setCell (ja w.heap.size 9) (ji 0)).setCell (ja w.heap.size 8) (ji 3)) (w.heap.size + 1) ⟨false, false, 0, 0, 0, 0, 0, 0, 0, 0, false⟩ := ((Q1'.other (by omega)).other (by omega));have B2 : Bw w z := by rw [hz]; exact ((B1.setCell (Nat.le_refl _) _).setCell (Nat.le_refl _) _)
   have S2 : w.heap.size + 1 < z.heap.size := by rw [hz]; simpa using S1
   rw [← hz] at P2 Q2 ⊢;clear hz P1' Q1' B1 S1 cp0 cp1 cp2 cp3 cp4 cp5 cp6 cp7 cp8 cp9 cp10 cq0 cq1 cq2 cq3 cq4 cq5 cq6 cq7 cq8 cq9 cq10 cpf cqf;refine (EH ⟨true, has, r, c, b, p, h, l, 3, 0, op⟩ z).mono ?_;rintro e w3 ⟨rfl, k3⟩;dsimp only
   have B3 := AG B2 k3;have S3 := Nat.lt_of_lt_of_le S2 k3.size;replace P2 := P2.below k3 (by omega);have P3 := P2;replace Q2 := Q2.below k3 (by omega);have Q3 := Q2;clear P2 Q2 B2 S2 k3;skip
   obtain ⟨⟨cq0, cq1, cq2, cq3, cq4, cq5, cq6, cq7, cq8, cq9, cq10⟩, cqf⟩ := Q3;generalize Ay 3 0 = rop at hY ⊢
   go_wp2
   refine bodyPost_ret (v := .agg #[.bool true, .bool has, ji r, ji c, ji b, ji p, ji h, ji l, ji 3, ji 0, .bool rop]) (by simp [results, results125, go_sem, *]) rfl ⟨by rw [hY.out], ?_⟩;repeat' (first | with_reducible exact B3 | with_reducible refine Below.setCell ?_ (by simp <;> omega) _ | with_reducible refine Below.drew ?_)
 by_cases g3 : ro = 3
 ·
  have f1b : (role == 3) = false := by simp [h3]
  have f1n : (role != 3) = true := by simp [h3]
  have f2b : (ro == 3) = true := by simp [g3]
  have f2n : (ro != 3) = false := by simp [g3]
  replace hY : Hid (Y = ⟨true, has, r, c, b, p, h, l, role, 4, (Ay role 4)⟩) := hY.out.trans (by rw [show Cu ro wa role = 4 by simp [Cu, h3, g3]]);clear h3 g3;have P1' := P1;have Q1' := Q1;obtain ⟨⟨cp0, cp1, cp2, cp3, cp4, cp5, cp6, cp7, cp8, cp9, cp10⟩, cpf⟩ := P1;obtain ⟨⟨cq0, cq1, cq2, cq3, cq4, cq5, cq6, cq7, cq8, cq9, cq10⟩, cqf⟩ := Q1;go_wp2_with fail
  go_at_call 123
  obtain ⟨z, hz⟩ := AC ((w1.setCell (ja w.heap.size 9) (ji 4)).setCell (ja w.heap.size 8) (ji role));have P2 := ((P1'.set9 4).set8 role);have Q2 : AO ((w1.setCell (ja w.heap.size 9) (ji 4)).setCell (ja w.heap.size 8) (ji role)) (w.heap.size + 1) ⟨false, false, 0, 0, 0, 0, 0, 0, 0, 0, false⟩ := ((Q1'.other (by omega)).other (by omega));have B2 : Bw w z := by rw [hz]; exact ((B1.setCell (Nat.le_refl _) _).setCell (Nat.le_refl _) _)
  have S2 : w.heap.size + 1 < z.heap.size := by rw [hz]; simpa using S1
  rw [← hz] at P2 Q2 ⊢;clear hz P1' Q1' B1 S1 cp0 cp1 cp2 cp3 cp4 cp5 cp6 cp7 cp8 cp9 cp10 cq0 cq1 cq2 cq3 cq4 cq5 cq6 cq7 cq8 cq9 cq10 cpf cqf;refine (EH ⟨true, has, r, c, b, p, h, l, role, 4, op⟩ z).mono ?_;rintro e w3 ⟨rfl, k3⟩;dsimp only
  have B3 := AG B2 k3;have S3 := Nat.lt_of_lt_of_le S2 k3.size;replace P2 := P2.below k3 (by omega);have P3 := P2;replace Q2 := Q2.below k3 (by omega);have Q3 := Q2;clear P2 Q2 B2 S2 k3;skip
  obtain ⟨⟨cq0, cq1, cq2, cq3, cq4, cq5, cq6, cq7, cq8, cq9, cq10⟩, cqf⟩ := Q3;generalize Ay role 4 = rop at hY ⊢
  go_wp2
  refine bodyPost_ret (v := .agg #[.bool true, .bool has, ji r, ji c, ji b, ji p, ji h, ji l, ji role, ji 4, .bool rop]) (by simp [results, results125, go_sem, *]) rfl ⟨by rw [hY.out], ?_⟩;repeat' (first | with_reducible exact B3 | with_reducible refine Below.setCell ?_ (by simp <;> omega) _ | with_reducible refine Below.drew ?_)
 have f1b : (role == 3) = false := by simp [h3]
 have f1n : (role != 3) = true := by simp [h3]
 have f2b : (ro == 3) = false := by simp [g3]
 have f2n : (ro != 3) = true := by simp [g3]
 replace hY : Hid (Y = ⟨true, has, r, c, b, p, h, l, role, wa, (Ay role wa)⟩) := hY.out.trans (by rw [show Cu ro wa role = wa by simp [Cu, h3, g3]]);clear h3 g3;have P1' := P1;have Q1' := Q1;obtain ⟨⟨cp0, cp1, cp2, cp3, cp4, cp5, cp6, cp7, cp8, cp9, cp10⟩, cpf⟩ := P1;obtain ⟨⟨cq0, cq1, cq2, cq3, cq4, cq5, cq6, cq7, cq8, cq9, cq10⟩, cqf⟩ := Q1;go_wp2_with fail
 go_at_call 123
 obtain ⟨z, hz⟩ := AC (w1.setCell (ja w.heap.size 8) (ji role));have P2 := (P1'.set8 role);have Q2 : AO (w1.setCell (ja w.heap.size 8) (ji role)) (w.heap.size + 1) ⟨false, false, 0, 0, 0, 0, 0, 0, 0, 0, false⟩ := (Q1'.other (by omega));have B2 : Bw w z := by rw [hz]; exact (B1.setCell (Nat.le_refl _) _)
 have S2 : w.heap.size + 1 < z.heap.size := by rw [hz]; simpa using S1
 rw [← hz] at P2 Q2 ⊢;clear hz P1' Q1' B1 S1 cp0 cp1 cp2 cp3 cp4 cp5 cp6 cp7 cp8 cp9 cp10 cq0 cq1 cq2 cq3 cq4 cq5 cq6 cq7 cq8 cq9 cq10 cpf cqf;refine (EH ⟨true, has, r, c, b, p, h, l, role, wa, op⟩ z).mono ?_;rintro e w3 ⟨rfl, k3⟩;dsimp only
 have B3 := AG B2 k3;have S3 := Nat.lt_of_lt_of_le S2 k3.size;replace P2 := P2.below k3 (by omega);have P3 := P2;replace Q2 := Q2.below k3 (by omega);have Q3 := Q2;clear P2 Q2 B2 S2 k3;skip
 obtain ⟨⟨cq0, cq1, cq2, cq3, cq4, cq5, cq6, cq7, cq8, cq9, cq10⟩, cqf⟩ := Q3;generalize Ay role wa = rop at hY ⊢
 go_wp2
 refine bodyPost_ret (v := .agg #[.bool true, .bool has, ji r, ji c, ji b, ji p, ji h, ji l, ji role, ji wa, .bool rop]) (by simp [results, results125, go_sem, *]) rfl ⟨by rw [hY.out], ?_⟩;repeat' (first | with_reducible exact B3 | with_reducible refine Below.setCell ?_ (by simp <;> omega) _ | with_reducible refine Below.drew ?_)
end Go.Proofs.YtjmnaeeknomiaaaGreatDoor
