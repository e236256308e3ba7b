import Derived.Test.YthgcbihhdbpbdaaGreatRKWPort6
namespace Go.Proofs.YthgcbihhdbpbdaaGreat
open Go.ChangeShapes Go.WideShapes Go.ChangeAt Go.RowKit
open Go.ChangeMaps (open_string shut_string)
set_option linter.unusedVariables false
set_option maxRecDepth 100000
set_option maxHeartbeats 32000000
set_option linter.unusedSimpArgs false
open Go.Proofs.Tryz
attribute [local go_sem] ji ja
theorem Kc (x : Pt) (r2 c2 b2 p2 k : Int) (w : World) : Calls prog 124 #[.agg #[.bool x.up, .bool x.has, ji x.r, ji x.c, ji x.b, ji x.p, ji x.h, ji x.l, ji x.ro, ji x.wa, .bool x.op], .agg #[ji r2, ji c2, ji b2, ji p2], ji k] w fun e w' => e = .returned (.agg #[.bool (BD x r2 c2 b2 p2 k).up, .bool (BD x r2 c2 b2 p2 k).has, ji (BD x r2 c2 b2 p2 k).r, ji (BD x r2 c2 b2 p2 k).c, ji (BD x r2 c2 b2 p2 k).b, ji (BD x r2 c2 b2 p2 k).p, ji (BD x r2 c2 b2 p2 k).h, ji (BD x r2 c2 b2 p2 k).l, ji (BD x r2 c2 b2 p2 k).ro, ji (BD x r2 c2 b2 p2 k).wa, .bool (BD x r2 c2 b2 p2 k).op]) ∧ Bw w w' := by
 obtain ⟨up, has, r, c, b, p, h, l, ro, wa, op⟩ := x;dsimp only
 have hR : Hid (EC ⟨up, has, r, c, b, p, h, l, ro, wa, op⟩ r2 c2 b2 p2 k = (Ai ⟨up, has, r, c, b, p, h, l, ro, wa, op⟩ && (up && (Af r2 c2 b2 p2 && (decide (0 ≤ k ∧ k ≤ 8) && Eu ⟨up, has, r, c, b, p, h, l, ro, wa, op⟩ r2 c2 b2 p2))))) := rfl;have hY : Hid ((EC ⟨up, has, r, c, b, p, h, l, ro, wa, op⟩ r2 c2 b2 p2 k = false → BD ⟨up, has, r, c, b, p, h, l, ro, wa, op⟩ r2 c2 b2 p2 k = ⟨up, has, r, c, b, p, h, l, ro, wa, op⟩) ∧ (EC ⟨up, has, r, c, b, p, h, l, ro, wa, op⟩ r2 c2 b2 p2 k = true → BD ⟨up, has, r, c, b, p, h, l, ro, wa, op⟩ r2 c2 b2 p2 k = ⟨up, true, r2, c2, b2, p2, k, 3, ro, wa, op⟩)) := ⟨fun h => Hh h, fun h => HS h⟩;generalize EC ⟨up, has, r, c, b, p, h, l, ro, wa, op⟩ r2 c2 b2 p2 k = R at hR hY
 generalize BD ⟨up, has, r, c, b, p, h, l, ro, wa, op⟩ r2 c2 b2 p2 k = Y at hY ⊢
 obtain ⟨y, hy⟩ := AB (((w.alloc (Obj.cells #[.bool up, .bool has, ji r, ji c, ji b, ji p, ji h, ji l, ji ro, ji wa, .bool op] 70)).alloc (Obj.cells #[ji r2, ji c2, ji b2, ji p2] 62)).alloc (Obj.cells #[.bool false, .bool false, ji 0, ji 0, ji 0, ji 0, ji 0, ji 0, ji 0, ji 0, .bool false] 70));have P0 : Ae y w.heap.size ⟨up, has, r, c, b, p, h, l, ro, wa, op⟩ := by rw [hy]; refine ⟨?_, fun i => by simp [go_sem]⟩; constructor <;> simp [go_sem]
 have V0 : Ds y (w.heap.size + 1) r2 c2 b2 p2 := by rw [hy]; refine ⟨?_, ?_, ?_, ?_⟩ <;> simp [go_sem]
 have Q0 : Ae y (w.heap.size + 1 + 1) ⟨false, false, 0, 0, 0, 0, 0, 0, 0, 0, false⟩ := by rw [hy]; refine ⟨?_, fun i => by simp [go_sem]⟩; constructor <;> simp [go_sem]
 have B0 : Bw w y := by rw [hy]; exact (((Below.refl _ _).alloc (Nat.le_refl _) _).alloc (by simp) _).alloc (by simp; omega) _
 have S0 : w.heap.size + 1 + 1 < y.heap.size := Q0.lt;go_enter func124, ntmps124
 go_wp2_with fail
 go_at_call 91
 rw [← hy];clear hy;refine (GA ⟨up, has, r, c, b, p, h, l, ro, wa, op⟩ y).mono ?_;rintro e w1 ⟨rfl, k1⟩;have B1 := AA B0 k1;have S1 := Nat.lt_of_lt_of_le S0 k1.size;replace P0 := P0.below k1 (by omega);have P1 := P0;replace V0 := V0.below k1 (by omega);have V1 := V0;replace Q0 := Q0.below k1 (by omega);have Q1 := Q0;clear P0 V0 Q0 B0 S0 k1;generalize Ai ⟨up, has, r, c, b, p, h, l, ro, wa, op⟩ = ok at hR ⊢
 cases ok
 ·
  have cp0 := P1.at_.all;replace V1 := V1.all;obtain ⟨⟨cq0, cq1, cq2, cq3, cq4, cq5, cq6, cq7, cq8, cq9, cq10⟩, cqf⟩ := Q1;have hZ := hY.out.1 (by rw [hR.out]; rfl);clear hY;replace hZ : Hid _ := hZ;go_wp2
  refine bodyPost_ret (v := .agg #[.bool up, .bool has, ji r, ji c, ji b, ji p, ji h, ji l, ji ro, ji wa, .bool op]) (by simp [results, results124, go_sem, *]) rfl ⟨by rw [hZ.out], ?_⟩;repeat' (first | with_reducible exact B1 | with_reducible refine Below.setCell ?_ (by simp <;> omega) _ | with_reducible refine Below.drew ?_)
 cases up
 ·
  have cp0 := P1.at_.all;replace V1 := V1.all;obtain ⟨⟨cq0, cq1, cq2, cq3, cq4, cq5, cq6, cq7, cq8, cq9, cq10⟩, cqf⟩ := Q1;have hZ := hY.out.1 (by rw [hR.out]; rfl);clear hY;replace hZ : Hid _ := hZ;go_wp2
  refine bodyPost_ret (v := .agg #[.bool false, .bool has, ji r, ji c, ji b, ji p, ji h, ji l, ji ro, ji wa, .bool op]) (by simp [results, results124, go_sem, *]) rfl ⟨by rw [hZ.out], ?_⟩;repeat' (first | with_reducible exact B1 | with_reducible refine Below.setCell ?_ (by simp <;> omega) _ | with_reducible refine Below.drew ?_)
 have V1' := V1;have cp0 := P1.at_.all;obtain ⟨cv0, cv1, cv2, cv3⟩ := V1';go_wp2_with fail
 go_at_call 123
 refine (Gy r2 c2 b2 p2 w1).mono ?_;rintro e w2 ⟨rfl, k2⟩;clear cp0 cv0 cv1 cv2 cv3;have B2 := AA B1 k2;have S2 := Nat.lt_of_lt_of_le S1 k2.size;replace P1 := P1.below k2 (by omega);have P2 := P1;replace V1 := V1.below k2 (by omega);have V2 := V1;replace Q1 := Q1.below k2 (by omega);have Q2 := Q1;clear P1 V1 Q1 B1 S1 k2;generalize Af r2 c2 b2 p2 = ok at hR ⊢
 cases ok
 ·
  have cp0 := P2.at_.all;replace V2 := V2.all;obtain ⟨⟨cq0, cq1, cq2, cq3, cq4, cq5, cq6, cq7, cq8, cq9, cq10⟩, cqf⟩ := Q2;have hZ := hY.out.1 (by rw [hR.out]; rfl);clear hY;replace hZ : Hid _ := hZ;go_wp2
  refine bodyPost_ret (v := .agg #[.bool true, .bool has, ji r, ji c, ji b, ji p, ji h, ji l, ji ro, ji wa, .bool op]) (by simp [results, results124, go_sem, *]) rfl ⟨by rw [hZ.out], ?_⟩;repeat' (first | with_reducible exact B2 | with_reducible refine Below.setCell ?_ (by simp <;> omega) _ | with_reducible refine Below.drew ?_)
 go_wp2_with fail
 go_at_call 65
 refine (BM k 0 8 w2).mono ?_;rintro e w2 ⟨rfl, rfl⟩;generalize decide (0 ≤ k ∧ k ≤ 8) = ok at hR ⊢
 cases ok
 ·
  have cp0 := P2.at_.all;replace V2 := V2.all;obtain ⟨⟨cq0, cq1, cq2, cq3, cq4, cq5, cq6, cq7, cq8, cq9, cq10⟩, cqf⟩ := Q2;have hZ := hY.out.1 (by rw [hR.out]; rfl);clear hY;replace hZ : Hid _ := hZ;go_wp2
  refine bodyPost_ret (v := .agg #[.bool true, .bool has, ji r, ji c, ji b, ji p, ji h, ji l, ji ro, ji wa, .bool op]) (by simp [results, results124, go_sem, *]) rfl ⟨by rw [hZ.out], ?_⟩;repeat' (first | with_reducible exact B2 | with_reducible refine Below.setCell ?_ (by simp <;> omega) _ | with_reducible refine Below.drew ?_)
 replace hR : Hid (R = (!has || (!CD r c b p r2 c2 b2 p2 || ((b2 == b) && (p2 == p))))) := hR.out;cases has
 ·
  have hZ := hY.out.2 (by rw [hR.out]; rfl);clear hY;replace hZ : Hid _ := hZ;obtain ⟨⟨cp0, cp1, cp2, cp3, cp4, cp5, cp6, cp7, cp8, cp9, cp10⟩, cpf⟩ := P2;replace V2 := V2.all;obtain ⟨⟨cq0, cq1, cq2, cq3, cq4, cq5, cq6, cq7, cq8, cq9, cq10⟩, cqf⟩ := Q2;go_wp2
  refine bodyPost_ret (v := .agg #[.bool true, .bool true, ji r2, ji c2, ji b2, ji p2, ji k, ji 3, ji ro, ji wa, .bool op]) (by simp [results, results124, go_sem, *]) rfl ⟨by rw [hZ.out], ?_⟩;repeat' (first | with_reducible exact B2 | with_reducible refine Below.setCell ?_ (by simp <;> omega) _ | with_reducible refine Below.drew ?_)
 have V2' := V2;have cp0 := P2.at_.all;obtain ⟨cv0, cv1, cv2, cv3⟩ := V2';go_wp2_with fail
 go_at_call 150
 refine (FT r c b p r2 c2 b2 p2 w2).mono ?_;rintro e w3 ⟨rfl, k3⟩;clear cp0 cv0 cv1 cv2 cv3;have B3 := AA B2 k3;have S3 := Nat.lt_of_lt_of_le S2 k3.size;replace P2 := P2.below k3 (by omega);have P3 := P2;replace V2 := V2.below k3 (by omega);have V3 := V2;replace Q2 := Q2.below k3 (by omega);have Q3 := Q2;clear P2 V2 Q2 B2 S2 k3;generalize CD r c b p r2 c2 b2 p2 = ok at hR ⊢
 cases ok
 ·
  have hZ := hY.out.2 (by rw [hR.out]; rfl);clear hY;replace hZ : Hid _ := hZ;obtain ⟨⟨cp0, cp1, cp2, cp3, cp4, cp5, cp6, cp7, cp8, cp9, cp10⟩, cpf⟩ := P3;replace V3 := V3.all;obtain ⟨⟨cq0, cq1, cq2, cq3, cq4, cq5, cq6, cq7, cq8, cq9, cq10⟩, cqf⟩ := Q3;go_wp2
  refine bodyPost_ret (v := .agg #[.bool true, .bool true, ji r2, ji c2, ji b2, ji p2, ji k, ji 3, ji ro, ji wa, .bool op]) (by simp [results, results124, go_sem, *]) rfl ⟨by rw [hZ.out], ?_⟩;repeat' (first | with_reducible exact B3 | with_reducible refine Below.setCell ?_ (by simp <;> omega) _ | with_reducible refine Below.drew ?_)
 cases q1 : (b2 == b)
 ·
  have q2 : (b == b2) = false := by have := beq_eq_false_iff_ne.1 q1; simp; omega
  have q3 : (b != b2) = true := by have := beq_eq_false_iff_ne.1 q1; simp; omega
  have cp0 := P3.at_.all;replace V3 := V3.all;obtain ⟨⟨cq0, cq1, cq2, cq3, cq4, cq5, cq6, cq7, cq8, cq9, cq10⟩, cqf⟩ := Q3;have hZ := hY.out.1 (by rw [hR.out, q1]; rfl);clear hY;replace hZ : Hid _ := hZ;go_wp2
  refine bodyPost_ret (v := .agg #[.bool true, .bool true, ji r, ji c, ji b, ji p, ji h, ji l, ji ro, ji wa, .bool op]) (by simp [results, results124, go_sem, *]) rfl ⟨by rw [hZ.out], ?_⟩;repeat' (first | with_reducible exact B3 | with_reducible refine Below.setCell ?_ (by simp <;> omega) _ | with_reducible refine Below.drew ?_)
 have q2 : (b == b2) = true := by have := beq_iff_eq.1 q1; simp; omega
 have q3 : (b != b2) = false := by have := beq_iff_eq.1 q1; simp; omega
 cases q4 : (p2 == p)
 ·
  have q5 : (p == p2) = false := by have := beq_eq_false_iff_ne.1 q4; simp; omega
  have q6 : (p != p2) = true := by have := beq_eq_false_iff_ne.1 q4; simp; omega
  have cp0 := P3.at_.all;replace V3 := V3.all;obtain ⟨⟨cq0, cq1, cq2, cq3, cq4, cq5, cq6, cq7, cq8, cq9, cq10⟩, cqf⟩ := Q3;have hZ := hY.out.1 (by rw [hR.out, q1, q4]; rfl);clear hY;replace hZ : Hid _ := hZ;go_wp2
  refine bodyPost_ret (v := .agg #[.bool true, .bool true, ji r, ji c, ji b, ji p, ji h, ji l, ji ro, ji wa, .bool op]) (by simp [results, results124, go_sem, *]) rfl ⟨by rw [hZ.out], ?_⟩;repeat' (first | with_reducible exact B3 | with_reducible refine Below.setCell ?_ (by simp <;> omega) _ | with_reducible refine Below.drew ?_)
 have q5 : (p == p2) = true := by have := beq_iff_eq.1 q4; simp; omega
 have q6 : (p != p2) = false := by have := beq_iff_eq.1 q4; simp; omega
 have hZ := hY.out.2 (by rw [hR.out, q1, q4]; rfl);clear hY;replace hZ : Hid _ := hZ;obtain ⟨⟨cp0, cp1, cp2, cp3, cp4, cp5, cp6, cp7, cp8, cp9, cp10⟩, cpf⟩ := P3;replace V3 := V3.all;obtain ⟨⟨cq0, cq1, cq2, cq3, cq4, cq5, cq6, cq7, cq8, cq9, cq10⟩, cqf⟩ := Q3;go_wp2
 refine bodyPost_ret (v := .agg #[.bool true, .bool true, ji r2, ji c2, ji b2, ji p2, ji k, ji 3, ji ro, ji wa, .bool op]) (by simp [results, results124, go_sem, *]) rfl ⟨by rw [hZ.out], ?_⟩;repeat' (first | with_reducible exact B3 | with_reducible refine Below.setCell ?_ (by simp <;> omega) _ | with_reducible refine Below.drew ?_)
theorem Fx (x : Pt) (role : Int) (w : World) : Calls prog 153 #[.agg #[.bool x.up, .bool x.has, ji x.r, ji x.c, ji x.b, ji x.p, ji x.h, ji x.l, ji x.ro, ji x.wa, .bool x.op], ji role] w fun e w' => e = .returned (.agg #[.bool (CA x role).up, .bool (CA x role).has, ji (CA x role).r, ji (CA x role).c, ji (CA x role).b, ji (CA x role).p, ji (CA x role).h, ji (CA x role).l, ji (CA x role).ro, ji (CA x role).wa, .bool (CA x role).op]) ∧ Bw w w' := by
 obtain ⟨up, has, r, c, b, p, h, l, ro, wa, op⟩ := x;dsimp only
 have hY : Hid (CA ⟨up, has, r, c, b, p, h, l, ro, wa, op⟩ role = if Ai ⟨up, has, r, c, b, p, h, l, ro, wa, op⟩ && (up && Cb role) then ⟨up, has, r, c, b, p, h, l, role, (CY ro wa role), (BC role (CY ro wa role))⟩ else ⟨up, has, r, c, b, p, h, l, ro, wa, op⟩) := rfl;generalize CA ⟨up, has, r, c, b, p, h, l, ro, wa, op⟩ role = Y at hY ⊢
 obtain ⟨y, hy⟩ := AB ((w.alloc (Obj.cells #[.bool up, .bool has, ji r, ji c, ji b, ji p, ji h, ji l, ji ro, ji wa, .bool op] 70)).alloc (Obj.cells #[.bool false, .bool false, ji 0, ji 0, ji 0, ji 0, ji 0, ji 0, ji 0, ji 0, .bool false] 70));have P0 : Ae y w.heap.size ⟨up, has, r, c, b, p, h, l, ro, wa, op⟩ := by rw [hy]; refine ⟨?_, fun i => by simp [go_sem]⟩; constructor <;> simp [go_sem]
 have Q0 : Ae y (w.heap.size + 1) ⟨false, false, 0, 0, 0, 0, 0, 0, 0, 0, false⟩ := by rw [hy]; refine ⟨?_, fun i => by simp [go_sem]⟩; constructor <;> simp [go_sem]
 have B0 : Bw w y := by rw [hy]; exact ((Below.refl _ _).alloc (Nat.le_refl _) _).alloc (by simp) _
 have S0 : w.heap.size + 1 < y.heap.size := Q0.lt;go_enter func153, ntmps153
 go_wp2_with fail
 go_at_call 91
 rw [← hy];clear hy;refine (GA ⟨up, has, r, c, b, p, h, l, ro, wa, op⟩ y).mono ?_;rintro e w1 ⟨rfl, k1⟩;have B1 := AA B0 k1;have S1 := Nat.lt_of_lt_of_le S0 k1.size;replace P0 := P0.below k1 (by omega);have P1 := P0;replace Q0 := Q0.below k1 (by omega);have Q1 := Q0;clear P0 Q0 B0 S0 k1;generalize Ai ⟨up, has, r, c, b, p, h, l, ro, wa, op⟩ = ok at hY ⊢
 cases ok
 ·
  have cp0 := P1.at_.all;obtain ⟨⟨cq0, cq1, cq2, cq3, cq4, cq5, cq6, cq7, cq8, cq9, cq10⟩, cqf⟩ := Q1;replace hY : Hid (Y = ⟨up, has, r, c, b, p, h, l, ro, wa, op⟩) := hY.out;go_wp2
  refine bodyPost_ret (v := .agg #[.bool up, .bool has, ji r, ji c, ji b, ji p, ji h, ji l, ji ro, ji wa, .bool op]) (by simp [results, results153, go_sem, *]) rfl ⟨by rw [hY.out], ?_⟩;repeat' (first | with_reducible exact B1 | with_reducible refine Below.setCell ?_ (by simp <;> omega) _ | with_reducible refine Below.drew ?_)
 cases up
 ·
  have cp0 := P1.at_.all;obtain ⟨⟨cq0, cq1, cq2, cq3, cq4, cq5, cq6, cq7, cq8, cq9, cq10⟩, cqf⟩ := Q1;replace hY : Hid (Y = ⟨false, has, r, c, b, p, h, l, ro, wa, op⟩) := hY.out;go_wp2
  refine bodyPost_ret (v := .agg #[.bool false, .bool has, ji r, ji c, ji b, ji p, ji h, ji l, ji ro, ji wa, .bool op]) (by simp [results, results153, go_sem, *]) rfl ⟨by rw [hY.out], ?_⟩;repeat' (first | with_reducible exact B1 | with_reducible refine Below.setCell ?_ (by simp <;> omega) _ | with_reducible refine Below.drew ?_)
 have cp0 := P1.at_.all;go_wp2_with fail
 go_at_call 65
 refine (BM role 1 3 _).mono ?_;rintro e w1 ⟨rfl, rfl⟩;clear cp0;replace hY : Hid (Y = if decide (1 ≤ role ∧ role ≤ 3) then ⟨true, has, r, c, b, p, h, l, role, (CY ro wa role), (BC role (CY ro wa role))⟩ else ⟨true, has, r, c, b, p, h, l, ro, wa, op⟩) := hY.out;generalize decide (1 ≤ role ∧ role ≤ 3) = ok at hY ⊢
 cases ok
 ·
  have cp0 := P1.at_.all;obtain ⟨⟨cq0, cq1, cq2, cq3, cq4, cq5, cq6, cq7, cq8, cq9, cq10⟩, cqf⟩ := Q1;replace hY : Hid (Y = ⟨true, has, r, c, b, p, h, l, ro, wa, op⟩) := hY.out;go_wp2
  refine bodyPost_ret (v := .agg #[.bool true, .bool has, ji r, ji c, ji b, ji p, ji h, ji l, ji ro, ji wa, .bool op]) (by simp [results, results153, go_sem, *]) rfl ⟨by rw [hY.out], ?_⟩;repeat' (first | with_reducible exact B1 | with_reducible refine Below.setCell ?_ (by simp <;> omega) _ | with_reducible refine Below.drew ?_)
 replace hY : Hid (Y = ⟨true, has, r, c, b, p, h, l, role, (CY ro wa role), (BC role (CY ro wa role))⟩) := hY.out;by_cases h3 : role = 3
 ·
  subst h3;by_cases g3 : ro = 3
  focus
   have f2b : (ro == 3) = true := by simp [g3]
   have f2n : (ro != 3) = false := by simp [g3]
  rotate_left;focus
   have f2b : (ro == 3) = false := by simp [g3]
   have f2n : (ro != 3) = true := by simp [g3]
  rotate_left;all_goals
   replace hY : Hid (Y = ⟨true, has, r, c, b, p, h, l, 3, 0, (BC 3 0)⟩) := hY.out.trans (by rw [show CY ro wa 3 = 0 by simp [CY]]);clear g3;have P1' := P1;have Q1' := Q1;obtain ⟨⟨cp0, cp1, cp2, cp3, cp4, cp5, cp6, cp7, cp8, cp9, cp10⟩, cpf⟩ := P1;obtain ⟨⟨cq0, cq1, cq2, cq3, cq4, cq5, cq6, cq7, cq8, cq9, cq10⟩, cqf⟩ := Q1;go_wp2_with fail
   go_at_call 152
   obtain ⟨z, hz⟩ := AB ((w1.setCell (ja w.heap.size 9) (ji 0)).setCell (ja w.heap.size 8) (ji 3));have P2 := ((P1'.set9 0).set8 3);have Q2 : Ae ((w1.setCell (ja w.heap.size 9) (ji 0)).setCell (ja w.heap.size 8) (ji 3)) (w.heap.size + 1) ⟨false, false, 0, 0, 0, 0, 0, 0, 0, 0, false⟩ := ((Q1'.other (by omega)).other (by omega));have B2 : Bw w z := by rw [hz]; exact ((B1.setCell (Nat.le_refl _) _).setCell (Nat.le_refl _) _)
   have S2 : w.heap.size + 1 < z.heap.size := by rw [hz]; simpa using S1
   rw [← hz] at P2 Q2 ⊢;clear hz P1' Q1' B1 S1 cp0 cp1 cp2 cp3 cp4 cp5 cp6 cp7 cp8 cp9 cp10 cq0 cq1 cq2 cq3 cq4 cq5 cq6 cq7 cq8 cq9 cq10 cpf cqf;refine (Ei ⟨true, has, r, c, b, p, h, l, 3, 0, op⟩ z).mono ?_;rintro e w3 ⟨rfl, k3⟩;dsimp only
   have B3 := AA B2 k3;have S3 := Nat.lt_of_lt_of_le S2 k3.size;replace P2 := P2.below k3 (by omega);have P3 := P2;replace Q2 := Q2.below k3 (by omega);have Q3 := Q2;clear P2 Q2 B2 S2 k3;skip
   obtain ⟨⟨cq0, cq1, cq2, cq3, cq4, cq5, cq6, cq7, cq8, cq9, cq10⟩, cqf⟩ := Q3;generalize BC 3 0 = rop at hY ⊢
   go_wp2
   refine bodyPost_ret (v := .agg #[.bool true, .bool has, ji r, ji c, ji b, ji p, ji h, ji l, ji 3, ji 0, .bool rop]) (by simp [results, results153, go_sem, *]) rfl ⟨by rw [hY.out], ?_⟩;repeat' (first | with_reducible exact B3 | with_reducible refine Below.setCell ?_ (by simp <;> omega) _ | with_reducible refine Below.drew ?_)
 by_cases g3 : ro = 3
 ·
  have f1b : (role == 3) = false := by simp [h3]
  have f1n : (role != 3) = true := by simp [h3]
  have f2b : (ro == 3) = true := by simp [g3]
  have f2n : (ro != 3) = false := by simp [g3]
  replace hY : Hid (Y = ⟨true, has, r, c, b, p, h, l, role, 4, (BC role 4)⟩) := hY.out.trans (by rw [show CY ro wa role = 4 by simp [CY, h3, g3]]);clear h3 g3;have P1' := P1;have Q1' := Q1;obtain ⟨⟨cp0, cp1, cp2, cp3, cp4, cp5, cp6, cp7, cp8, cp9, cp10⟩, cpf⟩ := P1;obtain ⟨⟨cq0, cq1, cq2, cq3, cq4, cq5, cq6, cq7, cq8, cq9, cq10⟩, cqf⟩ := Q1;go_wp2_with fail
  go_at_call 152
  obtain ⟨z, hz⟩ := AB ((w1.setCell (ja w.heap.size 9) (ji 4)).setCell (ja w.heap.size 8) (ji role));have P2 := ((P1'.set9 4).set8 role);have Q2 : Ae ((w1.setCell (ja w.heap.size 9) (ji 4)).setCell (ja w.heap.size 8) (ji role)) (w.heap.size + 1) ⟨false, false, 0, 0, 0, 0, 0, 0, 0, 0, false⟩ := ((Q1'.other (by omega)).other (by omega));have B2 : Bw w z := by rw [hz]; exact ((B1.setCell (Nat.le_refl _) _).setCell (Nat.le_refl _) _)
  have S2 : w.heap.size + 1 < z.heap.size := by rw [hz]; simpa using S1
  rw [← hz] at P2 Q2 ⊢;clear hz P1' Q1' B1 S1 cp0 cp1 cp2 cp3 cp4 cp5 cp6 cp7 cp8 cp9 cp10 cq0 cq1 cq2 cq3 cq4 cq5 cq6 cq7 cq8 cq9 cq10 cpf cqf;refine (Ei ⟨true, has, r, c, b, p, h, l, role, 4, op⟩ z).mono ?_;rintro e w3 ⟨rfl, k3⟩;dsimp only
  have B3 := AA B2 k3;have S3 := Nat.lt_of_lt_of_le S2 k3.size;replace P2 := P2.below k3 (by omega);have P3 := P2;replace Q2 := Q2.below k3 (by omega);have Q3 := Q2;clear P2 Q2 B2 S2 k3;skip
  obtain ⟨⟨cq0, cq1, cq2, cq3, cq4, cq5, cq6, cq7, cq8, cq9, cq10⟩, cqf⟩ := Q3;generalize BC role 4 = rop at hY ⊢
  go_wp2
  refine bodyPost_ret (v := .agg #[.bool true, .bool has, ji r, ji c, ji b, ji p, ji h, ji l, ji role, ji 4, .bool rop]) (by simp [results, results153, go_sem, *]) rfl ⟨by rw [hY.out], ?_⟩;repeat' (first | with_reducible exact B3 | with_reducible refine Below.setCell ?_ (by simp <;> omega) _ | with_reducible refine Below.drew ?_)
 have f1b : (role == 3) = false := by simp [h3]
 have f1n : (role != 3) = true := by simp [h3]
 have f2b : (ro == 3) = false := by simp [g3]
 have f2n : (ro != 3) = true := by simp [g3]
 replace hY : Hid (Y = ⟨true, has, r, c, b, p, h, l, role, wa, (BC role wa)⟩) := hY.out.trans (by rw [show CY ro wa role = wa by simp [CY, h3, g3]]);clear h3 g3;have P1' := P1;have Q1' := Q1;obtain ⟨⟨cp0, cp1, cp2, cp3, cp4, cp5, cp6, cp7, cp8, cp9, cp10⟩, cpf⟩ := P1;obtain ⟨⟨cq0, cq1, cq2, cq3, cq4, cq5, cq6, cq7, cq8, cq9, cq10⟩, cqf⟩ := Q1;go_wp2_with fail
 go_at_call 152
 obtain ⟨z, hz⟩ := AB (w1.setCell (ja w.heap.size 8) (ji role));have P2 := (P1'.set8 role);have Q2 : Ae (w1.setCell (ja w.heap.size 8) (ji role)) (w.heap.size + 1) ⟨false, false, 0, 0, 0, 0, 0, 0, 0, 0, false⟩ := (Q1'.other (by omega));have B2 : Bw w z := by rw [hz]; exact (B1.setCell (Nat.le_refl _) _)
 have S2 : w.heap.size + 1 < z.heap.size := by rw [hz]; simpa using S1
 rw [← hz] at P2 Q2 ⊢;clear hz P1' Q1' B1 S1 cp0 cp1 cp2 cp3 cp4 cp5 cp6 cp7 cp8 cp9 cp10 cq0 cq1 cq2 cq3 cq4 cq5 cq6 cq7 cq8 cq9 cq10 cpf cqf;refine (Ei ⟨true, has, r, c, b, p, h, l, role, wa, op⟩ z).mono ?_;rintro e w3 ⟨rfl, k3⟩;dsimp only
 have B3 := AA B2 k3;have S3 := Nat.lt_of_lt_of_le S2 k3.size;replace P2 := P2.below k3 (by omega);have P3 := P2;replace Q2 := Q2.below k3 (by omega);have Q3 := Q2;clear P2 Q2 B2 S2 k3;skip
 obtain ⟨⟨cq0, cq1, cq2, cq3, cq4, cq5, cq6, cq7, cq8, cq9, cq10⟩, cqf⟩ := Q3;generalize BC role wa = rop at hY ⊢
 go_wp2
 refine bodyPost_ret (v := .agg #[.bool true, .bool has, ji r, ji c, ji b, ji p, ji h, ji l, ji role, ji wa, .bool rop]) (by simp [results, results153, go_sem, *]) rfl ⟨by rw [hY.out], ?_⟩;repeat' (first | with_reducible exact B3 | with_reducible refine Below.setCell ?_ (by simp <;> omega) _ | with_reducible refine Below.drew ?_)
def Ah (w : World) (q : Nat) (r c b p : Int) : Prop := Ds w q r c b p ∧ ∀ i, w.frozen? (ja q i) = false
theorem Ah.keep {w w' : World} {q : Nat} {r c b p : Int} (h : Ah w q r c b p) (k : w'.heap[q]? = w.heap[q]?) : Ah w' q r c b p :=
 ⟨⟨(World.cell?_of_block (a := (ja q 0)) k).trans h.1.1, (World.cell?_of_block (a := (ja q 1)) k).trans h.1.2.1, (World.cell?_of_block (a := (ja q 2)) k).trans h.1.2.2.1, (World.cell?_of_block (a := (ja q 3)) k).trans h.1.2.2.2⟩, fun i => (World.frozen?_of_block (a := (ja q i)) k).trans (h.2 i)⟩
theorem Ah.lt {w : World} {q : Nat} {r c b p : Int} (h : Ah w q r c b p) : q < w.heap.size := World.block_lt_of_cell? w _ h.1.1
theorem Ah.new (w : World) (t : TypeId) (r c b p : Int) : Ah (w.alloc (Obj.cells #[ji r, ji c, ji b, ji p] t)) w.heap.size r c b p :=
 ⟨GP w t r c b p, fun i => by simp [go_sem]⟩
theorem Ah.alloc {w : World} {q : Nat} {r c b p : Int} (h : Ah w q r c b p) (o : Obj) : Ah (w.alloc o) q r c b p := h.keep (Below.heap_alloc w o q h.lt)
theorem Ah.grown {w w' : World} {q cb : Nat} {r c b p : Int} (h : Ah w q r c b p) (g : w.grownBy w' (some cb)) (hne : q ≠ cb) : Ah w' q r c b p := h.keep (g.block q h.lt (by simpa using hne))
theorem Ah.other {w : World} {q q' i : Nat} {r c b p : Int} {v : Value} (h : Ah w q r c b p) (hne : q ≠ q') : Ah (w.setCell ⟨q', i, none⟩ v) q r c b p := h.keep (AE hne)
theorem Fo {w : World} {q i : Nat} {u v : Value} (h : w.cell? (ja q i) = some u) : (w.setCell (ja q i) v).cell? (ja q i) = some v := HE ⟨_, h⟩
theorem Dw {w : World} {q i j : Nat} {v : Value} (h : i ≠ j) : (w.setCell (ja q i) v).cell? (ja q j) = w.cell? (ja q j) := HI (Ne.symm h)
theorem Ah.set0 {w : World} {q : Nat} {r c b p : Int} (x : Int) (h : Ah w q r c b p) : Ah (w.setCell (ja q 0) (ji x)) q x c b p :=
 ⟨⟨Fo h.1.1, (Dw (by decide)).trans h.1.2.1, (Dw (by decide)).trans h.1.2.2.1, (Dw (by decide)).trans h.1.2.2.2⟩, fun i => by rw [World.frozen?_setCell]; exact h.2 i⟩
theorem Ah.set1 {w : World} {q : Nat} {r c b p : Int} (x : Int) (h : Ah w q r c b p) : Ah (w.setCell (ja q 1) (ji x)) q r x b p :=
 ⟨⟨(Dw (by decide)).trans h.1.1, Fo h.1.2.1, (Dw (by decide)).trans h.1.2.2.1, (Dw (by decide)).trans h.1.2.2.2⟩, fun i => by rw [World.frozen?_setCell]; exact h.2 i⟩
theorem Ah.set2 {w : World} {q : Nat} {r c b p : Int} (x : Int) (h : Ah w q r c b p) : Ah (w.setCell (ja q 2) (ji x)) q r c x p :=
 ⟨⟨(Dw (by decide)).trans h.1.1, (Dw (by decide)).trans h.1.2.1, Fo h.1.2.2.1, (Dw (by decide)).trans h.1.2.2.2⟩, fun i => by rw [World.frozen?_setCell]; exact h.2 i⟩
theorem Ah.set3 {w : World} {q : Nat} {r c b p : Int} (x : Int) (h : Ah w q r c b p) : Ah (w.setCell (ja q 3) (ji x)) q r c b x :=
 ⟨⟨(Dw (by decide)).trans h.1.1, (Dw (by decide)).trans h.1.2.1, (Dw (by decide)).trans h.1.2.2.1, Fo h.1.2.2.2⟩, fun i => by rw [World.frozen?_setCell]; exact h.2 i⟩
theorem Ah.put {w : World} {q : Nat} {r c b p : Int} (r2 c2 b2 p2 : Int) (h : Ah w q r c b p) : Ah ((((w.setCell (ja q 0) (ji r2)).setCell (ja q 1) (ji c2)).setCell (ja q 2) (ji b2)).setCell (ja q 3) (ji p2)) q r2 c2 b2 p2 := (((h.set0 r2).set1 c2).set2 b2).set3 p2
structure DV (w : World) (cb : Nat) (ad : Option Addr) (len cap : Nat) (y : World) : Prop where
 cur : Dv y cb ad len cap
 gr : w.grownBy y (some cb)
theorem DV.src {w y : World} {cb : Nat} {ad : Option Addr} {len cap : Nat} {f : Nat → Int} (h : DV w cb ad len cap y) (hs : BN w cb ad len cap f) : BN y cb ad len cap f := hs.grown h.cur h.gr
theorem DV.start {w : World} {cb : Nat} {ad : Option Addr} {len cap : Nat} {f : Nat → Int} (hs : BN w cb ad len cap f) : DV w cb ad len cap w := ⟨hs.cur, GM _ _⟩
theorem DV.step {w y z : World} {cb : Nat} {ad : Option Addr} {len cap : Nat} {f : Nat → Int} (h : DV w cb ad len cap y) (hs : BN z cb ad len cap f) (g : y.grownBy z (some cb)) : DV w cb ad len cap z := ⟨hs.cur, Hu h.gr g⟩
theorem DV.alloc {w y : World} {cb : Nat} {ad : Option Addr} {len cap : Nat} (h : DV w cb ad len cap y) (o : Obj) : DV w cb ad len cap (y.alloc o) :=
 ⟨h.cur.carry (Below.heap_alloc y o cb h.cur.lt), h.gr.os, h.gr.tape, h.gr.output, by have := h.gr.size; simp; omega, fun k hk hn => (Below.heap_alloc y o k (by have := h.gr.size; omega)).trans (h.gr.block k hk hn)⟩
theorem DV.set {w y : World} {cb : Nat} {ad : Option Addr} {len cap : Nat} {N i : Nat} (h : DV w cb ad len cap y) (hN : w.heap.size ≤ N) (hcb : cb < w.heap.size) (v : Value) : DV w cb ad len cap (y.setCell (ja N i) v) :=
 ⟨h.cur.carry (AE (by show cb ≠ N; omega)), h.gr.os, h.gr.tape, h.gr.output, by have := h.gr.size; simp; omega, fun k hk hn => (AE (by show k ≠ N; omega)).trans (h.gr.block k hk hn)⟩
theorem DV.drew {w y : World} {cb : Nat} {ad : Option Addr} {len cap : Nat} (h : DV w cb ad len cap y) : DV w cb ad len cap y.drew := ⟨h.cur, h.gr.os, h.gr.tape, h.gr.output, h.gr.size, h.gr.block⟩
def V4 (r c b p : Int) : Prop := (-1 ≤ r ∧ r ≤ 100) ∧ (-1 ≤ c ∧ c ≤ 100) ∧ (-1 ≤ b ∧ b ≤ 100) ∧ (-1 ≤ p ∧ p ≤ 100)
def IT (w : World) (cb : Nat) (ad : Option Addr) (len cap : Nat) (f : Nat → Int) (e : Ending) (w' : World) : Prop := ∃ r c b p, e = .returned (.agg #[ji r, ji c, ji b, ji p]) ∧ V4 r c b p ∧ BN w' cb ad len cap f ∧ w.grownBy w' (some cb)
theorem If {P : Program} {reg : Code} {K : Act → World → Prop} {Q : Exit → Act → World → Prop} {l : List Value} {ds : List Deferred} {W : World} (R : List Value → List Value → World → Prop) (h1 : ∀ l' W', R l l' W' → K ⟨l'.toArray, ds⟩ W') (h2 : ∀ K2 : Act → World → Prop, Hid (∀ l' W', R l l' W' → K2 ⟨l'.toArray, ds⟩ W') → Code.wp P reg (Exit.then K2 Q) ⟨l.toArray, ds⟩ W) : Code.wp P reg (Exit.then K Q) ⟨l.toArray, ds⟩ W := h2 K h1
theorem Gn {cb : Nat} {ad : Option Addr} {len cap : Nat} {f : Nat → Int} (w : World) (hs : BN w cb ad len cap f) (hcb : cb < w.heap.size) :
  Calls prog 128 #[.pointer (some (ja cb 0))] w fun e w' => IT w cb ad len cap f e w' := by
 obtain ⟨R, hRe⟩ := AB w.heap.size;have hR : w.heap.size ≤ R := by omega
 have hRc : R ≠ cb := by omega
 obtain ⟨x0, hx0⟩ := AB (w.alloc (Obj.cells #[ji 0, ji 0, ji 0, ji 0] 62));have D0 : DV w cb ad len cap x0 := by rw [hx0]; exact (DV.start hs).alloc _
 have Q0 : Ah x0 R 0 0 0 0 := by rw [hx0, hRe]; exact Ah.new w _ _ _ _ _
 go_enter func128, ntmps128
 go_wp2_with fail
 go_at_call 38
 rw [← hx0, ← hRe];clear hx0 hRe;refine (Bz (D0.src hs) 4 (by omega) (by omega)).mono ?_;rintro e y1 ⟨r, rfl, r0, r1, s1, g1⟩;have D1 := D0.step s1 g1;have Q1 := Q0.grown g1 hRc;go_wp2_with fail
 go_at_call 38
 refine (Bz s1 4 (by omega) (by omega)).mono ?_;rintro e y2 ⟨p, rfl, p0, p1, s2, g2⟩;have D2 := D1.step s2 g2;have Q2 := Q1.grown g2 hRc;clear D0 Q0 D1 Q1 s1 g1 g2;obtain ⟨N, hNe⟩ := AB y2.heap.size;have hN : w.heap.size ≤ N := by have := D2.gr.size; omega
 have hNc : N ≠ cb := by omega
 have hRN : R ≠ N := by have := Q2.lt; omega
 obtain ⟨x3, hx3⟩ := AB (y2.alloc (Obj.cells #[ji (1 + r), ji 0, ji 0, ji p] 62));have D3 : DV w cb ad len cap x3 := by rw [hx3]; exact D2.alloc _
 have Q3 : Ah x3 R 0 0 0 0 := by rw [hx3]; exact Q2.alloc _
 have V3 : Ah x3 N (1 + r) 0 0 p := by rw [hx3, hNe]; exact Ah.new y2 _ _ _ _ _
 go_wp2
 rw [← hx3, ← hNe];clear hx3 hNe D2 Q2;refine If (fun l l' W' => ∃ (u : Int) (us : List Value), 0 ≤ u ∧ u < 3 ∧ us.length = 6 ∧ l' = l.take 10 ++ us ++ l.drop 16 ∧ Ah W' N (1 + r) 0 (1 + r + u) p ∧ Ah W' R 0 0 0 0 ∧ DV w cb ad len cap W') ?_ ?_;rotate_left
 ·
  intro K2 hT;refine wp_region_held (S := fun Y => (∃ z, Ah Y N (1 + r) 0 z p) ∧ Ah Y R 0 0 0 0 ∧ DV w cb ad len cap Y) (by kernel_rfl) ?_;change wpAnyH _ _ _ _ _ _ _ _ (World.drew _);have hb0 : (∃ z, Ah x3.drew N (1 + r) 0 z p) ∧ Ah x3.drew R 0 0 0 0 ∧ DV w cb ad len cap x3.drew := ⟨⟨_, V3⟩, Q3, D3.drew⟩;obtain ⟨y0, hy0⟩ := AB x3.drew;rw [← hy0] at hb0 ⊢;clear hy0;refine tw 0 10 (.pointer (some (ja N 0))) ?_;refine tw 1 11 (ji (1 + r)) ?_ (hy := by intro Y hSw; obtain ⟨⟨_, ⟨C1, C2, C3, C4⟩, _⟩, _, _⟩ := hSw; go_simp);refine tw 2 12 (.pointer (some (ja cb 0))) ?_;refine wpAnyH_all (rs := [3]) (by kernel_rfl) (by simp) ?_;intro i hi; obtain rfl : i = 3 := by simpa using hi
  refine wpOp_step rfl (fun K hK => ?_);rw [if_pos (by kernel_rfl)];go_simp
  go_at_call 38
  refine (Bz (hb0.2.2.src hs) 3 (by omega) (by omega)).mono ?_;rintro e y1 ⟨u, rfl, u0, u1, s3, g3⟩;have hwr : IntKind.i64.wrap (1 + r + u) = 1 + r + u := by rw [IntKind.wrap_i64]; omega
  obtain ⟨⟨z0, hz0⟩, hq0, hd0⟩ := hb0;have hb1 : (∃ z, Ah y1 N (1 + r) 0 z p) ∧ Ah y1 R 0 0 0 0 ∧ DV w cb ad len cap y1 := ⟨⟨_, hz0.grown g3 hNc⟩, hq0.grown g3 hRc, hd0.step s3 g3⟩;refine hK _ _ ⟨hb1, ?_⟩;clear hK K hi;refine tw 4 14 (ji (1 + r + u)) ?_;refine tw 5 15 (.pointer (some (ja N 2))) ?_;refine wpAnyH_all (rs := [6]) (by kernel_rfl) (by simp) ?_;intro i hi; obtain rfl : i = 6 := by simpa using hi
  refine wpOp_step rfl (fun K hK => ?_);rw [if_pos (by kernel_rfl)];obtain ⟨⟨z1, hz1⟩, hq1, hd1⟩ := hb1;have c3 := hz1.1.2.2.1;have f3 := hz1.2 2;go_simp
  clear c3 f3;obtain ⟨x4, hx4⟩ := AB (y1.setCell (ja N 2) (ji (1 + r + u)));have V4' : Ah x4 N (1 + r) 0 (1 + r + u) p := by rw [hx4]; exact hz1.set2 _
  have Q4 : Ah x4 R 0 0 0 0 := by rw [hx4]; exact hq1.other hRN
  have D4 : DV w cb ad len cap x4 := by rw [hx4]; exact hd1.set hN hcb _
  rw [← hx4];clear hx4;refine hK _ _ ⟨⟨⟨_, V4'⟩, Q4, D4⟩, ?_⟩;clear hK K hi;refine AM ?_;exact hT.out _ _ ⟨u, [.pointer (some (ja N 0)), ji (1 + r), .pointer (some (ja cb 0)), ji u, ji (1 + r + u), .pointer (some (ja N 2))], u0, u1, rfl, by kernel_rfl, V4', Q4, D4⟩
 rintro l' x4 ⟨u, us, u0, u1, hul, rfl, V4', Q4, D4⟩;obtain ⟨u10, us, rfl⟩ : ∃ a b, us = a :: b := List.exists_cons_of_length_eq_add_one hul;replace hul := Nat.succ.inj hul;obtain ⟨u11, us, rfl⟩ : ∃ a b, us = a :: b := List.exists_cons_of_length_eq_add_one hul;replace hul := Nat.succ.inj hul;obtain ⟨u12, us, rfl⟩ : ∃ a b, us = a :: b := List.exists_cons_of_length_eq_add_one hul;replace hul := Nat.succ.inj hul;obtain ⟨u13, us, rfl⟩ : ∃ a b, us = a :: b := List.exists_cons_of_length_eq_add_one hul;replace hul := Nat.succ.inj hul;obtain ⟨u14, us, rfl⟩ : ∃ a b, us = a :: b := List.exists_cons_of_length_eq_add_one hul;replace hul := Nat.succ.inj hul;obtain ⟨u15, us, rfl⟩ : ∃ a b, us = a :: b := List.exists_cons_of_length_eq_add_one hul;replace hul := Nat.succ.inj hul;obtain rfl : us = [] := List.eq_nil_of_length_eq_zero hul;clear hul;simp only [List.take, List.drop, List.cons_append, List.nil_append];have VV := V4';obtain ⟨⟨c1, c2, c3, c4⟩, ff⟩ := V4';by_cases hu : 0 < u
 ·
  have hd : decide (1 + r < 1 + r + u) = true := by simp; omega
  go_wp2_with fail
  go_at_call 38
  refine (Bz (D4.src hs) 3 (by omega) (by omega)).mono ?_;rintro e y5 ⟨t, rfl, t0, t1, s5, g5⟩;have D5 := D4.step s5 g5;have Q5 := Q4.grown g5 hRc;have V5 := VV.grown g5 hNc;clear c1 c2 c3 c4 ff;obtain ⟨x6, hx6⟩ := AB (y5.setCell (ja N 1) (ji (1 + t)));have D6 : DV w cb ad len cap x6 := by rw [hx6]; exact D5.set hN hcb _
  have Q6 : Ah x6 R 0 0 0 0 := by rw [hx6]; exact Q5.other hRN
  have V6 : Ah x6 N (1 + r) (1 + t) (1 + r + u) p := by rw [hx6]; exact V5.set1 _
  have V6' := V6;obtain ⟨⟨c1, c2, c3, c4⟩, ff⟩ := V5;have f1 := ff 1;have Q6' := Q6;obtain ⟨⟨d1, d2, d3, d4⟩, gg⟩ := Q6;have g0 := gg 0;have g1 := gg 1;have g2 := gg 2;have g3 := gg 3;obtain ⟨⟨h1, h2, h3, h4⟩, hh⟩ := V6;rw [hx6] at h1 h2 h3 h4 d1 d2 d3 d4 g0 g1 g2 g3;go_wp2
  rw [← hx6];obtain ⟨z, hz⟩ := AB ((((x6.setCell (ja R 0) (ji (1 + r))).setCell (ja R 1) (ji (1 + t))).setCell (ja R 2) (ji (1 + r + u))).setCell (ja R 3) (ji (p)));have Z := Q6'.put (1 + r) (1 + t) (1 + r + u) (p);rw [← hz] at Z ⊢;have DZ : DV w cb ad len cap z := by rw [hz]; exact (((D6.set hR hcb _).set hR hcb _).set hR hcb _).set hR hcb _
  clear hz;obtain ⟨⟨e1, e2, e3, e4⟩, _⟩ := Z;exact bodyPost_ret (v := .agg #[ji (1 + r), ji (1 + t), ji (1 + r + u), ji (p)]) (by simp only [results, results128]; simp [go_sem, e1, e2, e3, e4]) rfl ⟨_, _, _, _, rfl, ⟨by omega, by omega, by omega, by omega⟩, DZ.src hs, DZ.gr⟩
 have hd : decide (1 + r < 1 + r + u) = false := by simp; omega
 have Q4' := Q4;obtain ⟨⟨d1, d2, d3, d4⟩, gg⟩ := Q4;have g0 := gg 0;have g1 := gg 1;have g2 := gg 2;have g3 := gg 3;go_wp2
 obtain ⟨z, hz⟩ := AB ((((x4.setCell (ja R 0) (ji (1 + r))).setCell (ja R 1) (ji (0))).setCell (ja R 2) (ji (1 + r + u))).setCell (ja R 3) (ji (p)));have Z := Q4'.put (1 + r) (0) (1 + r + u) (p);rw [← hz] at Z ⊢;have DZ : DV w cb ad len cap z := by rw [hz]; exact (((D4.set hR hcb _).set hR hcb _).set hR hcb _).set hR hcb _
 clear hz;obtain ⟨⟨e1, e2, e3, e4⟩, _⟩ := Z;exact bodyPost_ret (v := .agg #[ji (1 + r), ji (0), ji (1 + r + u), ji (p)]) (by simp only [results, results128]; simp [go_sem, e1, e2, e3, e4]) rfl ⟨_, _, _, _, rfl, ⟨by omega, by omega, by omega, by omega⟩, DZ.src hs, DZ.gr⟩
theorem KO {cb : Nat} {ad : Option Addr} {len cap : Nat} {f : Nat → Int} (w : World) (hs : BN w cb ad len cap f) (hcb : cb < w.heap.size) :
  Calls prog 122 #[.pointer (some (ja cb 0))] w fun e w' => IT w cb ad len cap f e w' := by
 obtain ⟨R, hRe⟩ := AB w.heap.size;have hR : w.heap.size ≤ R := by omega
 have hRc : R ≠ cb := by omega
 obtain ⟨x0, hx0⟩ := AB (w.alloc (Obj.cells #[ji 0, ji 0, ji 0, ji 0] 62));have D0 : DV w cb ad len cap x0 := by rw [hx0]; exact (DV.start hs).alloc _
 have Q0 : Ah x0 R 0 0 0 0 := by rw [hx0, hRe]; exact Ah.new w _ _ _ _ _
 have h0 : cb < x0.heap.size := by have := D0.gr.size; omega
 go_enter func122, ntmps122
 go_wp2_with fail
 go_at_call 128
 rw [← hx0, ← hRe];clear hx0 hRe;refine (Gn x0 (D0.src hs) h0).mono ?_;rintro e y1 ⟨r, c, b, p, rfl, ⟨hr, hc, hb, hp⟩, s1, g1⟩;have D1 := D0.step s1 g1;have Q1 := Q0.grown g1 hRc;clear D0 Q0 s1 g1 h0;obtain ⟨N, hNe⟩ := AB y1.heap.size;have hN : w.heap.size ≤ N := by have := D1.gr.size; omega
 have hNc : N ≠ cb := by omega
 have hRN : R ≠ N := by have := Q1.lt; omega
 obtain ⟨x2, hx2⟩ := AB (y1.alloc (Obj.cells #[ji r, ji c, ji b, ji p] 62));have D2 : DV w cb ad len cap x2 := by rw [hx2]; exact D1.alloc _
 have Q2 : Ah x2 R 0 0 0 0 := by rw [hx2]; exact Q1.alloc _
 have V2 : Ah x2 N r c b p := by rw [hx2, hNe]; exact Ah.new y1 _ _ _ _ _
 go_wp2_with fail
 go_at_call 38
 rw [← hx2, ← hNe];clear hx2 hNe D1 Q1;refine (Bz (D2.src hs) 10 (by omega) (by omega)).mono ?_;rintro e y3 ⟨k, rfl, k0, k1, s3, g3⟩;have D3 := D2.step s3 g3;have Q3 := Q2.grown g3 hRc;have V3 := V2.grown g3 hNc;clear D2 Q2 V2 s3 g3;obtain ⟨B, hBe⟩ := AB y3.heap.size;have hBc : B ≠ cb := by have := D3.gr.size; omega
 by_cases hk0 : k = 0
 ·
  subst hk0;obtain ⟨x4, hx4⟩ := AB (y3.alloc (Obj.cells #[ji 0, ji 9, ji 10] 3));have D4 : DV w cb ad len cap x4 := by rw [hx4]; exact D3.alloc _
  have Q4 : Ah x4 R 0 0 0 0 := by rw [hx4]; exact Q3.alloc _
  have V4' : Ah x4 N r c b p := by rw [hx4]; exact V3.alloc _
  have hg : ∀ i, i < 3 → ∃ y, x4.cell? (ja B i) = some (ji y) ∧ (-1 ≤ y ∧ y ≤ 100) := by
   intro i hi;rw [hx4, hBe];obtain rfl | rfl | rfl : i = 0 ∨ i = 1 ∨ i = 2 := by omega
   ·
    exact ⟨_, Dl y3 _ _ 0 rfl, by omega⟩
   ·
    exact ⟨_, Dl y3 _ _ 1 rfl, by omega⟩
   exact ⟨_, Dl y3 _ _ 2 rfl, by omega⟩
  go_wp2_with fail
  go_at_call 41
  rw [← hx4, ← hBe];clear hx4 hBe D3 Q3 V3;refine (EQ (D4.src hs) (fun y => -1 ≤ y ∧ y ≤ 100) B 3 3 hBc (by omega) (by omega) hg).mono ?_;rintro e y5 ⟨v, rfl, hv, s5, g5⟩;have D5 := D4.step s5 g5;have Q5 := Q4.grown g5 hRc;have V5 := V4'.grown g5 hNc;clear hg D4 Q4 V4' s5 g5;obtain ⟨x6, hx6⟩ := AB (y5.setCell (ja N 0) (ji v));have D6 : DV w cb ad len cap x6 := by rw [hx6]; exact D5.set hN hcb _
  have Q6 : Ah x6 R 0 0 0 0 := by rw [hx6]; exact Q5.other hRN
  have V6 : Ah x6 N v c b p := by rw [hx6]; exact V5.set0 _
  obtain ⟨⟨c1, c2, c3, c4⟩, ff⟩ := V5;have f1 := ff 0;have Q6' := Q6;obtain ⟨⟨d1, d2, d3, d4⟩, gg⟩ := Q6;have g0 := gg 0;have g1 := gg 1;have g2 := gg 2;have g3 := gg 3;obtain ⟨⟨h1, h2, h3, h4⟩, hh⟩ := V6;rw [hx6] at h1 h2 h3 h4 d1 d2 d3 d4 g0 g1 g2 g3;go_wp2
  rw [← hx6];obtain ⟨z, hz⟩ := AB ((((x6.setCell (ja R 0) (ji (v))).setCell (ja R 1) (ji (c))).setCell (ja R 2) (ji (b))).setCell (ja R 3) (ji (p)));have Z := Q6'.put (v) (c) (b) (p);rw [← hz] at Z ⊢;have DZ : DV w cb ad len cap z := by rw [hz]; exact (((D6.set hR hcb _).set hR hcb _).set hR hcb _).set hR hcb _
  clear hz;obtain ⟨⟨e1, e2, e3, e4⟩, _⟩ := Z;exact bodyPost_ret (v := .agg #[ji (v), ji (c), ji (b), ji (p)]) (by simp only [results, results122]; simp [go_sem, e1, e2, e3, e4]) rfl ⟨_, _, _, _, rfl, ⟨by omega, by omega, by omega, by omega⟩, DZ.src hs, DZ.gr⟩
 have e0 : (k == 0) = false := by simp; omega
 by_cases hk1 : k = 1
 ·
  subst hk1;obtain ⟨x4, hx4⟩ := AB (y3.alloc (Obj.cells #[ji (-1), ji 0, ji 20, ji 21] 3));have D4 : DV w cb ad len cap x4 := by rw [hx4]; exact D3.alloc _
  have Q4 : Ah x4 R 0 0 0 0 := by rw [hx4]; exact Q3.alloc _
  have V4' : Ah x4 N r c b p := by rw [hx4]; exact V3.alloc _
  have hg : ∀ i, i < 4 → ∃ y, x4.cell? (ja B i) = some (ji y) ∧ (-1 ≤ y ∧ y ≤ 100) := by
   intro i hi;rw [hx4, hBe];obtain rfl | rfl | rfl | rfl : i = 0 ∨ i = 1 ∨ i = 2 ∨ i = 3 := by omega
   ·
    exact ⟨_, Dl y3 _ _ 0 rfl, by omega⟩
   ·
    exact ⟨_, Dl y3 _ _ 1 rfl, by omega⟩
   ·
    exact ⟨_, Dl y3 _ _ 2 rfl, by omega⟩
   exact ⟨_, Dl y3 _ _ 3 rfl, by omega⟩
  go_wp2_with fail
  go_at_call 41
  rw [← hx4, ← hBe];clear hx4 hBe D3 Q3 V3;refine (EQ (D4.src hs) (fun y => -1 ≤ y ∧ y ≤ 100) B 4 4 hBc (by omega) (by omega) hg).mono ?_;rintro e y5 ⟨v, rfl, hv, s5, g5⟩;have D5 := D4.step s5 g5;have Q5 := Q4.grown g5 hRc;have V5 := V4'.grown g5 hNc;clear hg D4 Q4 V4' s5 g5;obtain ⟨x6, hx6⟩ := AB (y5.setCell (ja N 1) (ji v));have D6 : DV w cb ad len cap x6 := by rw [hx6]; exact D5.set hN hcb _
  have Q6 : Ah x6 R 0 0 0 0 := by rw [hx6]; exact Q5.other hRN
  have V6 : Ah x6 N r v b p := by rw [hx6]; exact V5.set1 _
  obtain ⟨⟨c1, c2, c3, c4⟩, ff⟩ := V5;have f1 := ff 1;have Q6' := Q6;obtain ⟨⟨d1, d2, d3, d4⟩, gg⟩ := Q6;have g0 := gg 0;have g1 := gg 1;have g2 := gg 2;have g3 := gg 3;obtain ⟨⟨h1, h2, h3, h4⟩, hh⟩ := V6;rw [hx6] at h1 h2 h3 h4 d1 d2 d3 d4 g0 g1 g2 g3;go_wp2
  rw [← hx6];obtain ⟨z, hz⟩ := AB ((((x6.setCell (ja R 0) (ji (r))).setCell (ja R 1) (ji (v))).setCell (ja R 2) (ji (b))).setCell (ja R 3) (ji (p)));have Z := Q6'.put (r) (v) (b) (p);rw [← hz] at Z ⊢;have DZ : DV w cb ad len cap z := by rw [hz]; exact (((D6.set hR hcb _).set hR hcb _).set hR hcb _).set hR hcb _
  clear hz;obtain ⟨⟨e1, e2, e3, e4⟩, _⟩ := Z;exact bodyPost_ret (v := .agg #[ji (r), ji (v), ji (b), ji (p)]) (by simp only [results, results122]; simp [go_sem, e1, e2, e3, e4]) rfl ⟨_, _, _, _, rfl, ⟨by omega, by omega, by omega, by omega⟩, DZ.src hs, DZ.gr⟩
 have e1 : (k == 1) = false := by simp; omega
 by_cases hk2 : k = 2
 ·
  subst hk2;obtain ⟨x4, hx4⟩ := AB (y3.alloc (Obj.cells #[ji 0, ji 9, ji 10] 3));have D4 : DV w cb ad len cap x4 := by rw [hx4]; exact D3.alloc _
  have Q4 : Ah x4 R 0 0 0 0 := by rw [hx4]; exact Q3.alloc _
  have V4' : Ah x4 N r c b p := by rw [hx4]; exact V3.alloc _
  have hg : ∀ i, i < 3 → ∃ y, x4.cell? (ja B i) = some (ji y) ∧ (-1 ≤ y ∧ y ≤ 100) := by
   intro i hi;rw [hx4, hBe];obtain rfl | rfl | rfl : i = 0 ∨ i = 1 ∨ i = 2 := by omega
   ·
    exact ⟨_, Dl y3 _ _ 0 rfl, by omega⟩
   ·
    exact ⟨_, Dl y3 _ _ 1 rfl, by omega⟩
   exact ⟨_, Dl y3 _ _ 2 rfl, by omega⟩
  go_wp2_with fail
  go_at_call 41
  rw [← hx4, ← hBe];clear hx4 hBe D3 Q3 V3;refine (EQ (D4.src hs) (fun y => -1 ≤ y ∧ y ≤ 100) B 3 3 hBc (by omega) (by omega) hg).mono ?_;rintro e y5 ⟨v, rfl, hv, s5, g5⟩;have D5 := D4.step s5 g5;have Q5 := Q4.grown g5 hRc;have V5 := V4'.grown g5 hNc;clear hg D4 Q4 V4' s5 g5;obtain ⟨x6, hx6⟩ := AB (y5.setCell (ja N 2) (ji v));have D6 : DV w cb ad len cap x6 := by rw [hx6]; exact D5.set hN hcb _
  have Q6 : Ah x6 R 0 0 0 0 := by rw [hx6]; exact Q5.other hRN
  have V6 : Ah x6 N r c v p := by rw [hx6]; exact V5.set2 _
  obtain ⟨⟨c1, c2, c3, c4⟩, ff⟩ := V5;have f1 := ff 2;have Q6' := Q6;obtain ⟨⟨d1, d2, d3, d4⟩, gg⟩ := Q6;have g0 := gg 0;have g1 := gg 1;have g2 := gg 2;have g3 := gg 3;obtain ⟨⟨h1, h2, h3, h4⟩, hh⟩ := V6;rw [hx6] at h1 h2 h3 h4 d1 d2 d3 d4 g0 g1 g2 g3;go_wp2
  rw [← hx6];obtain ⟨z, hz⟩ := AB ((((x6.setCell (ja R 0) (ji (r))).setCell (ja R 1) (ji (c))).setCell (ja R 2) (ji (v))).setCell (ja R 3) (ji (p)));have Z := Q6'.put (r) (c) (v) (p);rw [← hz] at Z ⊢;have DZ : DV w cb ad len cap z := by rw [hz]; exact (((D6.set hR hcb _).set hR hcb _).set hR hcb _).set hR hcb _
  clear hz;obtain ⟨⟨e1, e2, e3, e4⟩, _⟩ := Z;exact bodyPost_ret (v := .agg #[ji (r), ji (c), ji (v), ji (p)]) (by simp only [results, results122]; simp [go_sem, e1, e2, e3, e4]) rfl ⟨_, _, _, _, rfl, ⟨by omega, by omega, by omega, by omega⟩, DZ.src hs, DZ.gr⟩
 have e2 : (k == 2) = false := by simp; omega
 by_cases hk3 : k = 3
 ·
  subst hk3;obtain ⟨x4, hx4⟩ := AB (y3.alloc (Obj.cells #[ji (-1), ji 3, ji 4] 3));have D4 : DV w cb ad len cap x4 := by rw [hx4]; exact D3.alloc _
  have Q4 : Ah x4 R 0 0 0 0 := by rw [hx4]; exact Q3.alloc _
  have V4' : Ah x4 N r c b p := by rw [hx4]; exact V3.alloc _
  have hg : ∀ i, i < 3 → ∃ y, x4.cell? (ja B i) = some (ji y) ∧ (-1 ≤ y ∧ y ≤ 100) := by
   intro i hi;rw [hx4, hBe];obtain rfl | rfl | rfl : i = 0 ∨ i = 1 ∨ i = 2 := by omega
   ·
    exact ⟨_, Dl y3 _ _ 0 rfl, by omega⟩
   ·
    exact ⟨_, Dl y3 _ _ 1 rfl, by omega⟩
   exact ⟨_, Dl y3 _ _ 2 rfl, by omega⟩
  go_wp2_with fail
  go_at_call 41
  rw [← hx4, ← hBe];clear hx4 hBe D3 Q3 V3;refine (EQ (D4.src hs) (fun y => -1 ≤ y ∧ y ≤ 100) B 3 3 hBc (by omega) (by omega) hg).mono ?_;rintro e y5 ⟨v, rfl, hv, s5, g5⟩;have D5 := D4.step s5 g5;have Q5 := Q4.grown g5 hRc;have V5 := V4'.grown g5 hNc;clear hg D4 Q4 V4' s5 g5;obtain ⟨x6, hx6⟩ := AB (y5.setCell (ja N 3) (ji v));have D6 : DV w cb ad len cap x6 := by rw [hx6]; exact D5.set hN hcb _
  have Q6 : Ah x6 R 0 0 0 0 := by rw [hx6]; exact Q5.other hRN
  have V6 : Ah x6 N r c b v := by rw [hx6]; exact V5.set3 _
  obtain ⟨⟨c1, c2, c3, c4⟩, ff⟩ := V5;have f1 := ff 3;have Q6' := Q6;obtain ⟨⟨d1, d2, d3, d4⟩, gg⟩ := Q6;have g0 := gg 0;have g1 := gg 1;have g2 := gg 2;have g3 := gg 3;obtain ⟨⟨h1, h2, h3, h4⟩, hh⟩ := V6;rw [hx6] at h1 h2 h3 h4 d1 d2 d3 d4 g0 g1 g2 g3;go_wp2
  rw [← hx6];obtain ⟨z, hz⟩ := AB ((((x6.setCell (ja R 0) (ji (r))).setCell (ja R 1) (ji (c))).setCell (ja R 2) (ji (b))).setCell (ja R 3) (ji (v)));have Z := Q6'.put (r) (c) (b) (v);rw [← hz] at Z ⊢;have DZ : DV w cb ad len cap z := by rw [hz]; exact (((D6.set hR hcb _).set hR hcb _).set hR hcb _).set hR hcb _
  clear hz;obtain ⟨⟨e1, e2, e3, e4⟩, _⟩ := Z;exact bodyPost_ret (v := .agg #[ji (r), ji (c), ji (b), ji (v)]) (by simp only [results, results122]; simp [go_sem, e1, e2, e3, e4]) rfl ⟨_, _, _, _, rfl, ⟨by omega, by omega, by omega, by omega⟩, DZ.src hs, DZ.gr⟩
 have e3 : (k == 3) = false := by simp; omega
 clear hBc;have Q3' := Q3;obtain ⟨⟨d1, d2, d3, d4⟩, gg⟩ := Q3;have g0 := gg 0;have g1 := gg 1;have g2 := gg 2;have g3 := gg 3;obtain ⟨⟨h1, h2, h3, h4⟩, hh⟩ := V3;clear hk0 hk1 hk2 hk3;go_wp2
 obtain ⟨z, hz⟩ := AB ((((y3.setCell (ja R 0) (ji (r))).setCell (ja R 1) (ji (c))).setCell (ja R 2) (ji (b))).setCell (ja R 3) (ji (p)));have Z := Q3'.put (r) (c) (b) (p);rw [← hz] at Z ⊢;have DZ : DV w cb ad len cap z := by rw [hz]; exact (((D3.set hR hcb _).set hR hcb _).set hR hcb _).set hR hcb _
 clear hz;obtain ⟨⟨e1, e2, e3, e4⟩, _⟩ := Z;exact bodyPost_ret (v := .agg #[ji (r), ji (c), ji (b), ji (p)]) (by simp only [results, results122]; simp [go_sem, e1, e2, e3, e4]) rfl ⟨_, _, _, _, rfl, ⟨by omega, by omega, by omega, by omega⟩, DZ.src hs, DZ.gr⟩
theorem ED {w y : World} {cb : Nat} {ad : Option Addr} {len cap N : Nat} (h : DV w cb ad len cap y) (hN : w.heap.size ≤ N) (hcb : cb < w.heap.size) (v0 v1 v2 v3 v4 v5 v6 v7 v8 v9 : Value) : DV w cb ad len cap ((((((((((y.setCell (ja N 0) v0).setCell (ja N 1) v1).setCell (ja N 2) v2).setCell (ja N 3) v3).setCell (ja N 4) v4).setCell (ja N 5) v5).setCell (ja N 6) v6).setCell (ja N 7) v7).setCell (ja N 8) v8).setCell (ja N 9) v9) :=
 ((((((((((h.set hN hcb _).set hN hcb _).set hN hcb _).set hN hcb _).set hN hcb _).set hN hcb _).set hN hcb _).set hN hcb _).set hN hcb _).set hN hcb _)
end Go.Proofs.YthgcbihhdbpbdaaGreat
