import Derived.Test.YtjmnaeeknomiaaaGreatRKWPort6
namespace Go.Proofs.YtjmnaeeknomiaaaGreat
open Go.ChangeShapes Go.WideShapes Go.ChangeAt Go.RowKit
open Go.ChangeMaps (open_string shut_string)
set_option linter.unusedVariables false
set_option maxRecDepth 100000
set_option maxHeartbeats 32000000
set_option linter.unusedSimpArgs false
open Go.Proofs.Tryz
attribute [local go_sem] ji ja
theorem Jv (x : Pt) (r2 c2 b2 p2 k : Int) (w : World) : Calls prog 124 #[.agg #[.bool x.up, .bool x.has, ji x.r, ji x.c, ji x.b, ji x.p, ji x.h, ji x.l, ji x.ro, ji x.wa, .bool x.op], .agg #[ji r2, ji c2, ji b2, ji p2], ji k] w fun e w' => e = .returned (.agg #[.bool (CD x r2 c2 b2 p2 k).up, .bool (CD x r2 c2 b2 p2 k).has, ji (CD x r2 c2 b2 p2 k).r, ji (CD x r2 c2 b2 p2 k).c, ji (CD x r2 c2 b2 p2 k).b, ji (CD x r2 c2 b2 p2 k).p, ji (CD x r2 c2 b2 p2 k).h, ji (CD x r2 c2 b2 p2 k).l, ji (CD x r2 c2 b2 p2 k).ro, ji (CD x r2 c2 b2 p2 k).wa, .bool (CD x r2 c2 b2 p2 k).op]) ∧ Bw w w' := by
 obtain ⟨up, has, r, c, b, p, h, l, ro, wa, op⟩ := x;dsimp only
 have hR : Hid (Ef ⟨up, has, r, c, b, p, h, l, ro, wa, op⟩ r2 c2 b2 p2 k = (Ax ⟨up, has, r, c, b, p, h, l, ro, wa, op⟩ && (up && (Ad r2 c2 b2 p2 && (decide (0 ≤ k ∧ k ≤ 8) && H1 ⟨up, has, r, c, b, p, h, l, ro, wa, op⟩ r2 c2 b2 p2))))) := rfl;have hY : Hid ((Ef ⟨up, has, r, c, b, p, h, l, ro, wa, op⟩ r2 c2 b2 p2 k = false → CD ⟨up, has, r, c, b, p, h, l, ro, wa, op⟩ r2 c2 b2 p2 k = ⟨up, has, r, c, b, p, h, l, ro, wa, op⟩) ∧ (Ef ⟨up, has, r, c, b, p, h, l, ro, wa, op⟩ r2 c2 b2 p2 k = true → CD ⟨up, has, r, c, b, p, h, l, ro, wa, op⟩ r2 c2 b2 p2 k = ⟨up, true, r2, c2, b2, p2, k, 3, ro, wa, op⟩)) := ⟨fun h => IU h, fun h => IE h⟩;generalize Ef ⟨up, has, r, c, b, p, h, l, ro, wa, op⟩ r2 c2 b2 p2 k = R at hR hY
 generalize CD ⟨up, has, r, c, b, p, h, l, ro, wa, op⟩ r2 c2 b2 p2 k = Y at hY ⊢
 obtain ⟨y, hy⟩ := AC (((w.alloc (Obj.cells #[.bool up, .bool has, ji r, ji c, ji b, ji p, ji h, ji l, ji ro, ji wa, .bool op] 70)).alloc (Obj.cells #[ji r2, ji c2, ji b2, ji p2] 62)).alloc (Obj.cells #[.bool false, .bool false, ji 0, ji 0, ji 0, ji 0, ji 0, ji 0, ji 0, ji 0, .bool false] 70));have P0 : An y w.heap.size ⟨up, has, r, c, b, p, h, l, ro, wa, op⟩ := by rw [hy]; refine ⟨?_, fun i => by simp [go_sem]⟩; constructor <;> simp [go_sem]
 have V0 : EC y (w.heap.size + 1) r2 c2 b2 p2 := by rw [hy]; refine ⟨?_, ?_, ?_, ?_⟩ <;> simp [go_sem]
 have Q0 : An y (w.heap.size + 1 + 1) ⟨false, false, 0, 0, 0, 0, 0, 0, 0, 0, false⟩ := by rw [hy]; refine ⟨?_, fun i => by simp [go_sem]⟩; constructor <;> simp [go_sem]
 have B0 : Bw w y := by rw [hy]; exact (((Below.refl _ _).alloc (Nat.le_refl _) _).alloc (by simp) _).alloc (by simp; omega) _
 have S0 : w.heap.size + 1 + 1 < y.heap.size := Q0.lt;go_enter func124, ntmps124
 go_wp2_with fail
 go_at_call 91
 rw [← hy];clear hy;refine (Fk ⟨up, has, r, c, b, p, h, l, ro, wa, op⟩ y).mono ?_;rintro e w1 ⟨rfl, k1⟩;have B1 := AE B0 k1;have S1 := Nat.lt_of_lt_of_le S0 k1.size;replace P0 := P0.below k1 (by omega);have P1 := P0;replace V0 := V0.below k1 (by omega);have V1 := V0;replace Q0 := Q0.below k1 (by omega);have Q1 := Q0;clear P0 V0 Q0 B0 S0 k1;generalize Ax ⟨up, has, r, c, b, p, h, l, ro, wa, op⟩ = ok at hR ⊢
 cases ok
 ·
  have cp0 := P1.at_.all;replace V1 := V1.all;obtain ⟨⟨cq0, cq1, cq2, cq3, cq4, cq5, cq6, cq7, cq8, cq9, cq10⟩, cqf⟩ := Q1;have hZ := hY.out.1 (by rw [hR.out]; rfl);clear hY;replace hZ : Hid _ := hZ;go_wp2
  refine bodyPost_ret (v := .agg #[.bool up, .bool has, ji r, ji c, ji b, ji p, ji h, ji l, ji ro, ji wa, .bool op]) (by simp [results, results124, go_sem, *]) rfl ⟨by rw [hZ.out], ?_⟩;repeat' (first | with_reducible exact B1 | with_reducible refine Below.setCell ?_ (by simp <;> omega) _ | with_reducible refine Below.drew ?_)
 cases up
 ·
  have cp0 := P1.at_.all;replace V1 := V1.all;obtain ⟨⟨cq0, cq1, cq2, cq3, cq4, cq5, cq6, cq7, cq8, cq9, cq10⟩, cqf⟩ := Q1;have hZ := hY.out.1 (by rw [hR.out]; rfl);clear hY;replace hZ : Hid _ := hZ;go_wp2
  refine bodyPost_ret (v := .agg #[.bool false, .bool has, ji r, ji c, ji b, ji p, ji h, ji l, ji ro, ji wa, .bool op]) (by simp [results, results124, go_sem, *]) rfl ⟨by rw [hZ.out], ?_⟩;repeat' (first | with_reducible exact B1 | with_reducible refine Below.setCell ?_ (by simp <;> omega) _ | with_reducible refine Below.drew ?_)
 have V1' := V1;have cp0 := P1.at_.all;obtain ⟨cv0, cv1, cv2, cv3⟩ := V1';go_wp2_with fail
 go_at_call 123
 refine (Gd r2 c2 b2 p2 w1).mono ?_;rintro e w2 ⟨rfl, k2⟩;clear cp0 cv0 cv1 cv2 cv3;have B2 := AE B1 k2;have S2 := Nat.lt_of_lt_of_le S1 k2.size;replace P1 := P1.below k2 (by omega);have P2 := P1;replace V1 := V1.below k2 (by omega);have V2 := V1;replace Q1 := Q1.below k2 (by omega);have Q2 := Q1;clear P1 V1 Q1 B1 S1 k2;generalize Ad r2 c2 b2 p2 = ok at hR ⊢
 cases ok
 ·
  have cp0 := P2.at_.all;replace V2 := V2.all;obtain ⟨⟨cq0, cq1, cq2, cq3, cq4, cq5, cq6, cq7, cq8, cq9, cq10⟩, cqf⟩ := Q2;have hZ := hY.out.1 (by rw [hR.out]; rfl);clear hY;replace hZ : Hid _ := hZ;go_wp2
  refine bodyPost_ret (v := .agg #[.bool true, .bool has, ji r, ji c, ji b, ji p, ji h, ji l, ji ro, ji wa, .bool op]) (by simp [results, results124, go_sem, *]) rfl ⟨by rw [hZ.out], ?_⟩;repeat' (first | with_reducible exact B2 | with_reducible refine Below.setCell ?_ (by simp <;> omega) _ | with_reducible refine Below.drew ?_)
 go_wp2_with fail
 go_at_call 65
 refine (BK k 0 8 w2).mono ?_;rintro e w2 ⟨rfl, rfl⟩;generalize decide (0 ≤ k ∧ k ≤ 8) = ok at hR ⊢
 cases ok
 ·
  have cp0 := P2.at_.all;replace V2 := V2.all;obtain ⟨⟨cq0, cq1, cq2, cq3, cq4, cq5, cq6, cq7, cq8, cq9, cq10⟩, cqf⟩ := Q2;have hZ := hY.out.1 (by rw [hR.out]; rfl);clear hY;replace hZ : Hid _ := hZ;go_wp2
  refine bodyPost_ret (v := .agg #[.bool true, .bool has, ji r, ji c, ji b, ji p, ji h, ji l, ji ro, ji wa, .bool op]) (by simp [results, results124, go_sem, *]) rfl ⟨by rw [hZ.out], ?_⟩;repeat' (first | with_reducible exact B2 | with_reducible refine Below.setCell ?_ (by simp <;> omega) _ | with_reducible refine Below.drew ?_)
 replace hR : Hid (R = (!has || (!Cv r c b p r2 c2 b2 p2 || ((b2 == b) && (p2 == p))))) := hR.out;cases has
 ·
  have hZ := hY.out.2 (by rw [hR.out]; rfl);clear hY;replace hZ : Hid _ := hZ;obtain ⟨⟨cp0, cp1, cp2, cp3, cp4, cp5, cp6, cp7, cp8, cp9, cp10⟩, cpf⟩ := P2;replace V2 := V2.all;obtain ⟨⟨cq0, cq1, cq2, cq3, cq4, cq5, cq6, cq7, cq8, cq9, cq10⟩, cqf⟩ := Q2;go_wp2
  refine bodyPost_ret (v := .agg #[.bool true, .bool true, ji r2, ji c2, ji b2, ji p2, ji k, ji 3, ji ro, ji wa, .bool op]) (by simp [results, results124, go_sem, *]) rfl ⟨by rw [hZ.out], ?_⟩;repeat' (first | with_reducible exact B2 | with_reducible refine Below.setCell ?_ (by simp <;> omega) _ | with_reducible refine Below.drew ?_)
 have V2' := V2;have cp0 := P2.at_.all;obtain ⟨cv0, cv1, cv2, cv3⟩ := V2';go_wp2_with fail
 go_at_call 150
 refine (FD r c b p r2 c2 b2 p2 w2).mono ?_;rintro e w3 ⟨rfl, k3⟩;clear cp0 cv0 cv1 cv2 cv3;have B3 := AE B2 k3;have S3 := Nat.lt_of_lt_of_le S2 k3.size;replace P2 := P2.below k3 (by omega);have P3 := P2;replace V2 := V2.below k3 (by omega);have V3 := V2;replace Q2 := Q2.below k3 (by omega);have Q3 := Q2;clear P2 V2 Q2 B2 S2 k3;generalize Cv r c b p r2 c2 b2 p2 = ok at hR ⊢
 cases ok
 ·
  have hZ := hY.out.2 (by rw [hR.out]; rfl);clear hY;replace hZ : Hid _ := hZ;obtain ⟨⟨cp0, cp1, cp2, cp3, cp4, cp5, cp6, cp7, cp8, cp9, cp10⟩, cpf⟩ := P3;replace V3 := V3.all;obtain ⟨⟨cq0, cq1, cq2, cq3, cq4, cq5, cq6, cq7, cq8, cq9, cq10⟩, cqf⟩ := Q3;go_wp2
  refine bodyPost_ret (v := .agg #[.bool true, .bool true, ji r2, ji c2, ji b2, ji p2, ji k, ji 3, ji ro, ji wa, .bool op]) (by simp [results, results124, go_sem, *]) rfl ⟨by rw [hZ.out], ?_⟩;repeat' (first | with_reducible exact B3 | with_reducible refine Below.setCell ?_ (by simp <;> omega) _ | with_reducible refine Below.drew ?_)
 cases q1 : (b2 == b)
 ·
  have q2 : (b == b2) = false := by have := beq_eq_false_iff_ne.1 q1; simp; omega
  have q3 : (b != b2) = true := by have := beq_eq_false_iff_ne.1 q1; simp; omega
  have cp0 := P3.at_.all;replace V3 := V3.all;obtain ⟨⟨cq0, cq1, cq2, cq3, cq4, cq5, cq6, cq7, cq8, cq9, cq10⟩, cqf⟩ := Q3;have hZ := hY.out.1 (by rw [hR.out, q1]; rfl);clear hY;replace hZ : Hid _ := hZ;go_wp2
  refine bodyPost_ret (v := .agg #[.bool true, .bool true, ji r, ji c, ji b, ji p, ji h, ji l, ji ro, ji wa, .bool op]) (by simp [results, results124, go_sem, *]) rfl ⟨by rw [hZ.out], ?_⟩;repeat' (first | with_reducible exact B3 | with_reducible refine Below.setCell ?_ (by simp <;> omega) _ | with_reducible refine Below.drew ?_)
 have q2 : (b == b2) = true := by have := beq_iff_eq.1 q1; simp; omega
 have q3 : (b != b2) = false := by have := beq_iff_eq.1 q1; simp; omega
 cases q4 : (p2 == p)
 ·
  have q5 : (p == p2) = false := by have := beq_eq_false_iff_ne.1 q4; simp; omega
  have q6 : (p != p2) = true := by have := beq_eq_false_iff_ne.1 q4; simp; omega
  have cp0 := P3.at_.all;replace V3 := V3.all;obtain ⟨⟨cq0, cq1, cq2, cq3, cq4, cq5, cq6, cq7, cq8, cq9, cq10⟩, cqf⟩ := Q3;have hZ := hY.out.1 (by rw [hR.out, q1, q4]; rfl);clear hY;replace hZ : Hid _ := hZ;go_wp2
  refine bodyPost_ret (v := .agg #[.bool true, .bool true, ji r, ji c, ji b, ji p, ji h, ji l, ji ro, ji wa, .bool op]) (by simp [results, results124, go_sem, *]) rfl ⟨by rw [hZ.out], ?_⟩;repeat' (first | with_reducible exact B3 | with_reducible refine Below.setCell ?_ (by simp <;> omega) _ | with_reducible refine Below.drew ?_)
 have q5 : (p == p2) = true := by have := beq_iff_eq.1 q4; simp; omega
 have q6 : (p != p2) = false := by have := beq_iff_eq.1 q4; simp; omega
 have hZ := hY.out.2 (by rw [hR.out, q1, q4]; rfl);clear hY;replace hZ : Hid _ := hZ;obtain ⟨⟨cp0, cp1, cp2, cp3, cp4, cp5, cp6, cp7, cp8, cp9, cp10⟩, cpf⟩ := P3;replace V3 := V3.all;obtain ⟨⟨cq0, cq1, cq2, cq3, cq4, cq5, cq6, cq7, cq8, cq9, cq10⟩, cqf⟩ := Q3;go_wp2
 refine bodyPost_ret (v := .agg #[.bool true, .bool true, ji r2, ji c2, ji b2, ji p2, ji k, ji 3, ji ro, ji wa, .bool op]) (by simp [results, results124, go_sem, *]) rfl ⟨by rw [hZ.out], ?_⟩;repeat' (first | with_reducible exact B3 | with_reducible refine Below.setCell ?_ (by simp <;> omega) _ | with_reducible refine Below.drew ?_)
theorem Fh (x : Pt) (role : Int) (w : World) : Calls prog 153 #[.agg #[.bool x.up, .bool x.has, ji x.r, ji x.c, ji x.b, ji x.p, ji x.h, ji x.l, ji x.ro, ji x.wa, .bool x.op], ji role] w fun e w' => e = .returned (.agg #[.bool (Ci x role).up, .bool (Ci x role).has, ji (Ci x role).r, ji (Ci x role).c, ji (Ci x role).b, ji (Ci x role).p, ji (Ci x role).h, ji (Ci x role).l, ji (Ci x role).ro, ji (Ci x role).wa, .bool (Ci x role).op]) ∧ Bw w w' := by
 obtain ⟨up, has, r, c, b, p, h, l, ro, wa, op⟩ := x;dsimp only
 have hY : Hid (Ci ⟨up, has, r, c, b, p, h, l, ro, wa, op⟩ role = if Ax ⟨up, has, r, c, b, p, h, l, ro, wa, op⟩ && (up && CY role) then ⟨up, has, r, c, b, p, h, l, role, (DS ro wa role), (BG role (DS ro wa role))⟩ else ⟨up, has, r, c, b, p, h, l, ro, wa, op⟩) := rfl;generalize Ci ⟨up, has, r, c, b, p, h, l, ro, wa, op⟩ role = Y at hY ⊢
 obtain ⟨y, hy⟩ := AC ((w.alloc (Obj.cells #[.bool up, .bool has, ji r, ji c, ji b, ji p, ji h, ji l, ji ro, ji wa, .bool op] 70)).alloc (Obj.cells #[.bool false, .bool false, ji 0, ji 0, ji 0, ji 0, ji 0, ji 0, ji 0, ji 0, .bool false] 70));have P0 : An y w.heap.size ⟨up, has, r, c, b, p, h, l, ro, wa, op⟩ := by rw [hy]; refine ⟨?_, fun i => by simp [go_sem]⟩; constructor <;> simp [go_sem]
 have Q0 : An y (w.heap.size + 1) ⟨false, false, 0, 0, 0, 0, 0, 0, 0, 0, false⟩ := by rw [hy]; refine ⟨?_, fun i => by simp [go_sem]⟩; constructor <;> simp [go_sem]
 have B0 : Bw w y := by rw [hy]; exact ((Below.refl _ _).alloc (Nat.le_refl _) _).alloc (by simp) _
 have S0 : w.heap.size + 1 < y.heap.size := Q0.lt;go_enter func153, ntmps153
 go_wp2_with fail
 go_at_call 91
 rw [← hy];clear hy;refine (Fk ⟨up, has, r, c, b, p, h, l, ro, wa, op⟩ y).mono ?_;rintro e w1 ⟨rfl, k1⟩;have B1 := AE B0 k1;have S1 := Nat.lt_of_lt_of_le S0 k1.size;replace P0 := P0.below k1 (by omega);have P1 := P0;replace Q0 := Q0.below k1 (by omega);have Q1 := Q0;clear P0 Q0 B0 S0 k1;generalize Ax ⟨up, has, r, c, b, p, h, l, ro, wa, op⟩ = ok at hY ⊢
 cases ok
 ·
  have cp0 := P1.at_.all;obtain ⟨⟨cq0, cq1, cq2, cq3, cq4, cq5, cq6, cq7, cq8, cq9, cq10⟩, cqf⟩ := Q1;replace hY : Hid (Y = ⟨up, has, r, c, b, p, h, l, ro, wa, op⟩) := hY.out;go_wp2
  refine bodyPost_ret (v := .agg #[.bool up, .bool has, ji r, ji c, ji b, ji p, ji h, ji l, ji ro, ji wa, .bool op]) (by simp [results, results153, go_sem, *]) rfl ⟨by rw [hY.out], ?_⟩;repeat' (first | with_reducible exact B1 | with_reducible refine Below.setCell ?_ (by simp <;> omega) _ | with_reducible refine Below.drew ?_)
 cases up
 ·
  have cp0 := P1.at_.all;obtain ⟨⟨cq0, cq1, cq2, cq3, cq4, cq5, cq6, cq7, cq8, cq9, cq10⟩, cqf⟩ := Q1;replace hY : Hid (Y = ⟨false, has, r, c, b, p, h, l, ro, wa, op⟩) := hY.out;go_wp2
  refine bodyPost_ret (v := .agg #[.bool false, .bool has, ji r, ji c, ji b, ji p, ji h, ji l, ji ro, ji wa, .bool op]) (by simp [results, results153, go_sem, *]) rfl ⟨by rw [hY.out], ?_⟩;repeat' (first | with_reducible exact B1 | with_reducible refine Below.setCell ?_ (by simp <;> omega) _ | with_reducible refine Below.drew ?_)
 have cp0 := P1.at_.all;go_wp2_with fail
 go_at_call 65
 refine (BK role 1 3 _).mono ?_;rintro e w1 ⟨rfl, rfl⟩;clear cp0;replace hY : Hid (Y = if decide (1 ≤ role ∧ role ≤ 3) then ⟨true, has, r, c, b, p, h, l, role, (DS ro wa role), (BG role (DS ro wa role))⟩ else ⟨true, has, r, c, b, p, h, l, ro, wa, op⟩) := hY.out;generalize decide (1 ≤ role ∧ role ≤ 3) = ok at hY ⊢
 cases ok
 ·
  have cp0 := P1.at_.all;obtain ⟨⟨cq0, cq1, cq2, cq3, cq4, cq5, cq6, cq7, cq8, cq9, cq10⟩, cqf⟩ := Q1;replace hY : Hid (Y = ⟨true, has, r, c, b, p, h, l, ro, wa, op⟩) := hY.out;go_wp2
  refine bodyPost_ret (v := .agg #[.bool true, .bool has, ji r, ji c, ji b, ji p, ji h, ji l, ji ro, ji wa, .bool op]) (by simp [results, results153, go_sem, *]) rfl ⟨by rw [hY.out], ?_⟩;repeat' (first | with_reducible exact B1 | with_reducible refine Below.setCell ?_ (by simp <;> omega) _ | with_reducible refine Below.drew ?_)
 replace hY : Hid (Y = ⟨true, has, r, c, b, p, h, l, role, (DS ro wa role), (BG role (DS ro wa role))⟩) := hY.out;by_cases h3 : role = 3
 ·
  subst h3;by_cases g3 : ro = 3
  focus
   have f2b : (ro == 3) = true := by simp [g3]
   have f2n : (ro != 3) = false := by simp [g3]
  rotate_left;focus
   have f2b : (ro == 3) = false := by simp [g3]
   have f2n : (ro != 3) = true := by simp [g3]
  rotate_left;all_goals
   replace hY : Hid (Y = ⟨true, has, r, c, b, p, h, l, 3, 0, (BG 3 0)⟩) := hY.out.trans (by rw [show DS ro wa 3 = 0 by simp [DS]]);clear g3;have P1' := P1;have Q1' := Q1;obtain ⟨⟨cp0, cp1, cp2, cp3, cp4, cp5, cp6, cp7, cp8, cp9, cp10⟩, cpf⟩ := P1;obtain ⟨⟨cq0, cq1, cq2, cq3, cq4, cq5, cq6, cq7, cq8, cq9, cq10⟩, cqf⟩ := Q1;go_wp2_with fail
   go_at_call 152
   obtain ⟨z, hz⟩ := AC ((w1.setCell (ja w.heap.size 9) (ji 0)).setCell (ja w.heap.size 8) (ji 3));have P2 := ((P1'.set9 0).set8 3);have Q2 : An ((w1.setCell (ja w.heap.size 9) (ji 0)).setCell (ja w.heap.size 8) (ji 3)) (w.heap.size + 1) ⟨false, false, 0, 0, 0, 0, 0, 0, 0, 0, false⟩ := ((Q1'.other (by omega)).other (by omega));have B2 : Bw w z := by rw [hz]; exact ((B1.setCell (Nat.le_refl _) _).setCell (Nat.le_refl _) _)
   have S2 : w.heap.size + 1 < z.heap.size := by rw [hz]; simpa using S1
   rw [← hz] at P2 Q2 ⊢;clear hz P1' Q1' B1 S1 cp0 cp1 cp2 cp3 cp4 cp5 cp6 cp7 cp8 cp9 cp10 cq0 cq1 cq2 cq3 cq4 cq5 cq6 cq7 cq8 cq9 cq10 cpf cqf;refine (EW ⟨true, has, r, c, b, p, h, l, 3, 0, op⟩ z).mono ?_;rintro e w3 ⟨rfl, k3⟩;dsimp only
   have B3 := AE B2 k3;have S3 := Nat.lt_of_lt_of_le S2 k3.size;replace P2 := P2.below k3 (by omega);have P3 := P2;replace Q2 := Q2.below k3 (by omega);have Q3 := Q2;clear P2 Q2 B2 S2 k3;skip
   obtain ⟨⟨cq0, cq1, cq2, cq3, cq4, cq5, cq6, cq7, cq8, cq9, cq10⟩, cqf⟩ := Q3;generalize BG 3 0 = rop at hY ⊢
   go_wp2
   refine bodyPost_ret (v := .agg #[.bool true, .bool has, ji r, ji c, ji b, ji p, ji h, ji l, ji 3, ji 0, .bool rop]) (by simp [results, results153, go_sem, *]) rfl ⟨by rw [hY.out], ?_⟩;repeat' (first | with_reducible exact B3 | with_reducible refine Below.setCell ?_ (by simp <;> omega) _ | with_reducible refine Below.drew ?_)
 by_cases g3 : ro = 3
 ·
  have f1b : (role == 3) = false := by simp [h3]
  have f1n : (role != 3) = true := by simp [h3]
  have f2b : (ro == 3) = true := by simp [g3]
  have f2n : (ro != 3) = false := by simp [g3]
  replace hY : Hid (Y = ⟨true, has, r, c, b, p, h, l, role, 4, (BG role 4)⟩) := hY.out.trans (by rw [show DS ro wa role = 4 by simp [DS, h3, g3]]);clear h3 g3;have P1' := P1;have Q1' := Q1;obtain ⟨⟨cp0, cp1, cp2, cp3, cp4, cp5, cp6, cp7, cp8, cp9, cp10⟩, cpf⟩ := P1;obtain ⟨⟨cq0, cq1, cq2, cq3, cq4, cq5, cq6, cq7, cq8, cq9, cq10⟩, cqf⟩ := Q1;go_wp2_with fail
  go_at_call 152
  obtain ⟨z, hz⟩ := AC ((w1.setCell (ja w.heap.size 9) (ji 4)).setCell (ja w.heap.size 8) (ji role));have P2 := ((P1'.set9 4).set8 role);have Q2 : An ((w1.setCell (ja w.heap.size 9) (ji 4)).setCell (ja w.heap.size 8) (ji role)) (w.heap.size + 1) ⟨false, false, 0, 0, 0, 0, 0, 0, 0, 0, false⟩ := ((Q1'.other (by omega)).other (by omega));have B2 : Bw w z := by rw [hz]; exact ((B1.setCell (Nat.le_refl _) _).setCell (Nat.le_refl _) _)
  have S2 : w.heap.size + 1 < z.heap.size := by rw [hz]; simpa using S1
  rw [← hz] at P2 Q2 ⊢;clear hz P1' Q1' B1 S1 cp0 cp1 cp2 cp3 cp4 cp5 cp6 cp7 cp8 cp9 cp10 cq0 cq1 cq2 cq3 cq4 cq5 cq6 cq7 cq8 cq9 cq10 cpf cqf;refine (EW ⟨true, has, r, c, b, p, h, l, role, 4, op⟩ z).mono ?_;rintro e w3 ⟨rfl, k3⟩;dsimp only
  have B3 := AE B2 k3;have S3 := Nat.lt_of_lt_of_le S2 k3.size;replace P2 := P2.below k3 (by omega);have P3 := P2;replace Q2 := Q2.below k3 (by omega);have Q3 := Q2;clear P2 Q2 B2 S2 k3;skip
  obtain ⟨⟨cq0, cq1, cq2, cq3, cq4, cq5, cq6, cq7, cq8, cq9, cq10⟩, cqf⟩ := Q3;generalize BG role 4 = rop at hY ⊢
  go_wp2
  refine bodyPost_ret (v := .agg #[.bool true, .bool has, ji r, ji c, ji b, ji p, ji h, ji l, ji role, ji 4, .bool rop]) (by simp [results, results153, go_sem, *]) rfl ⟨by rw [hY.out], ?_⟩;repeat' (first | with_reducible exact B3 | with_reducible refine Below.setCell ?_ (by simp <;> omega) _ | with_reducible refine Below.drew ?_)
 have f1b : (role == 3) = false := by simp [h3]
 have f1n : (role != 3) = true := by simp [h3]
 have f2b : (ro == 3) = false := by simp [g3]
 have f2n : (ro != 3) = true := by simp [g3]
 replace hY : Hid (Y = ⟨true, has, r, c, b, p, h, l, role, wa, (BG role wa)⟩) := hY.out.trans (by rw [show DS ro wa role = wa by simp [DS, h3, g3]]);clear h3 g3;have P1' := P1;have Q1' := Q1;obtain ⟨⟨cp0, cp1, cp2, cp3, cp4, cp5, cp6, cp7, cp8, cp9, cp10⟩, cpf⟩ := P1;obtain ⟨⟨cq0, cq1, cq2, cq3, cq4, cq5, cq6, cq7, cq8, cq9, cq10⟩, cqf⟩ := Q1;go_wp2_with fail
 go_at_call 152
 obtain ⟨z, hz⟩ := AC (w1.setCell (ja w.heap.size 8) (ji role));have P2 := (P1'.set8 role);have Q2 : An (w1.setCell (ja w.heap.size 8) (ji role)) (w.heap.size + 1) ⟨false, false, 0, 0, 0, 0, 0, 0, 0, 0, false⟩ := (Q1'.other (by omega));have B2 : Bw w z := by rw [hz]; exact (B1.setCell (Nat.le_refl _) _)
 have S2 : w.heap.size + 1 < z.heap.size := by rw [hz]; simpa using S1
 rw [← hz] at P2 Q2 ⊢;clear hz P1' Q1' B1 S1 cp0 cp1 cp2 cp3 cp4 cp5 cp6 cp7 cp8 cp9 cp10 cq0 cq1 cq2 cq3 cq4 cq5 cq6 cq7 cq8 cq9 cq10 cpf cqf;refine (EW ⟨true, has, r, c, b, p, h, l, role, wa, op⟩ z).mono ?_;rintro e w3 ⟨rfl, k3⟩;dsimp only
 have B3 := AE B2 k3;have S3 := Nat.lt_of_lt_of_le S2 k3.size;replace P2 := P2.below k3 (by omega);have P3 := P2;replace Q2 := Q2.below k3 (by omega);have Q3 := Q2;clear P2 Q2 B2 S2 k3;skip
 obtain ⟨⟨cq0, cq1, cq2, cq3, cq4, cq5, cq6, cq7, cq8, cq9, cq10⟩, cqf⟩ := Q3;generalize BG role wa = rop at hY ⊢
 go_wp2
 refine bodyPost_ret (v := .agg #[.bool true, .bool has, ji r, ji c, ji b, ji p, ji h, ji l, ji role, ji wa, .bool rop]) (by simp [results, results153, go_sem, *]) rfl ⟨by rw [hY.out], ?_⟩;repeat' (first | with_reducible exact B3 | with_reducible refine Below.setCell ?_ (by simp <;> omega) _ | with_reducible refine Below.drew ?_)
end Go.Proofs.YtjmnaeeknomiaaaGreat
