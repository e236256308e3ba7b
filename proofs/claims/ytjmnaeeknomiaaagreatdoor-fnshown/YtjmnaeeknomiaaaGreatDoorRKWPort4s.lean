import Derived.Test.YtjmnaeeknomiaaaGreatDoorRKWPort4
namespace Go.Proofs.YtjmnaeeknomiaaaGreatDoor
open Go.ChangeShapes Go.WideShapes Go.ChangeAt Go.RowKit
open Go.ChangeMaps (open_string shut_string)
set_option linter.unusedVariables false
set_option maxRecDepth 100000
set_option maxHeartbeats 32000000
set_option linter.unusedSimpArgs false
open Go.Proofs.Tryz
attribute [local go_sem] ji ja
theorem IQ (x : Pt) (r2 c2 b2 p2 k : Int) (w : World) : Calls prog 113 #[.agg #[.bool x.up, .bool x.has, ji x.r, ji x.c, ji x.b, ji x.p, ji x.h, ji x.l, ji x.ro, ji x.wa, .bool x.op], .agg #[ji r2, ji c2, ji b2, ji p2], ji k] w fun e w' => e = .returned (.agg #[.bool (Bf x r2 c2 b2 p2 k).up, .bool (Bf x r2 c2 b2 p2 k).has, ji (Bf x r2 c2 b2 p2 k).r, ji (Bf x r2 c2 b2 p2 k).c, ji (Bf x r2 c2 b2 p2 k).b, ji (Bf x r2 c2 b2 p2 k).p, ji (Bf x r2 c2 b2 p2 k).h, ji (Bf x r2 c2 b2 p2 k).l, ji (Bf x r2 c2 b2 p2 k).ro, ji (Bf x r2 c2 b2 p2 k).wa, .bool (Bf x r2 c2 b2 p2 k).op]) ∧ Bw w w' := by
 obtain ⟨up, has, r, c, b, p, h, l, ro, wa, op⟩ := x;dsimp only
 have hR : Hid (Ek ⟨up, has, r, c, b, p, h, l, ro, wa, op⟩ r2 c2 b2 p2 k = (Ae ⟨up, has, r, c, b, p, h, l, ro, wa, op⟩ && (up && (Bc r2 c2 b2 p2 && (decide (0 ≤ k ∧ k ≤ 8) && Iv ⟨up, has, r, c, b, p, h, l, ro, wa, op⟩ r2 c2 b2 p2))))) := rfl;have hY : Hid ((Ek ⟨up, has, r, c, b, p, h, l, ro, wa, op⟩ r2 c2 b2 p2 k = false → Bf ⟨up, has, r, c, b, p, h, l, ro, wa, op⟩ r2 c2 b2 p2 k = ⟨up, has, r, c, b, p, h, l, ro, wa, op⟩) ∧ (Ek ⟨up, has, r, c, b, p, h, l, ro, wa, op⟩ r2 c2 b2 p2 k = true → Bf ⟨up, has, r, c, b, p, h, l, ro, wa, op⟩ r2 c2 b2 p2 k = ⟨up, true, r2, c2, b2, p2, k, 3, ro, wa, op⟩)) := ⟨fun h => Hd h, fun h => HO h⟩;generalize Ek ⟨up, has, r, c, b, p, h, l, ro, wa, op⟩ r2 c2 b2 p2 k = R at hR hY
 generalize Bf ⟨up, has, r, c, b, p, h, l, ro, wa, op⟩ r2 c2 b2 p2 k = Y at hY ⊢
 obtain ⟨y, hy⟩ := AC (((w.alloc (Obj.cells #[.bool up, .bool has, ji r, ji c, ji b, ji p, ji h, ji l, ji ro, ji wa, .bool op] 47)).alloc (Obj.cells #[ji r2, ji c2, ji b2, ji p2] 25)).alloc (Obj.cells #[.bool false, .bool false, ji 0, ji 0, ji 0, ji 0, ji 0, ji 0, ji 0, ji 0, .bool false] 47));have P0 : AO y w.heap.size ⟨up, has, r, c, b, p, h, l, ro, wa, op⟩ := by rw [hy]; refine ⟨?_, fun i => by simp [go_sem]⟩; constructor <;> simp [go_sem]
 have V0 : DC y (w.heap.size + 1) r2 c2 b2 p2 := by rw [hy]; refine ⟨?_, ?_, ?_, ?_⟩ <;> simp [go_sem]
 have Q0 : AO y (w.heap.size + 1 + 1) ⟨false, false, 0, 0, 0, 0, 0, 0, 0, 0, false⟩ := by rw [hy]; refine ⟨?_, fun i => by simp [go_sem]⟩; constructor <;> simp [go_sem]
 have B0 : Bw w y := by rw [hy]; exact (((Below.refl _ _).alloc (Nat.le_refl _) _).alloc (by simp) _).alloc (by simp; omega) _
 have S0 : w.heap.size + 1 + 1 < y.heap.size := Q0.lt;go_enter func113, ntmps113
 go_wp2_with fail
 go_at_call 112
 rw [← hy];clear hy;refine (GQ ⟨up, has, r, c, b, p, h, l, ro, wa, op⟩ y).mono ?_;rintro e w1 ⟨rfl, k1⟩;have B1 := AG B0 k1;have S1 := Nat.lt_of_lt_of_le S0 k1.size;replace P0 := P0.below k1 (by omega);have P1 := P0;replace V0 := V0.below k1 (by omega);have V1 := V0;replace Q0 := Q0.below k1 (by omega);have Q1 := Q0;clear P0 V0 Q0 B0 S0 k1;generalize Ae ⟨up, has, r, c, b, p, h, l, ro, wa, op⟩ = ok at hR ⊢
 cases ok
 ·
  have cp0 := P1.at_.all;replace V1 := V1.all;obtain ⟨⟨cq0, cq1, cq2, cq3, cq4, cq5, cq6, cq7, cq8, cq9, cq10⟩, cqf⟩ := Q1;have hZ := hY.out.1 (by rw [hR.out]; rfl);clear hY;replace hZ : Hid _ := hZ;go_wp2
  refine bodyPost_ret (v := .agg #[.bool up, .bool has, ji r, ji c, ji b, ji p, ji h, ji l, ji ro, ji wa, .bool op]) (by simp [results, results113, go_sem, *]) rfl ⟨by rw [hZ.out], ?_⟩;repeat' (first | with_reducible exact B1 | with_reducible refine Below.setCell ?_ (by simp <;> omega) _ | with_reducible refine Below.drew ?_)
 cases up
 ·
  have cp0 := P1.at_.all;replace V1 := V1.all;obtain ⟨⟨cq0, cq1, cq2, cq3, cq4, cq5, cq6, cq7, cq8, cq9, cq10⟩, cqf⟩ := Q1;have hZ := hY.out.1 (by rw [hR.out]; rfl);clear hY;replace hZ : Hid _ := hZ;go_wp2
  refine bodyPost_ret (v := .agg #[.bool false, .bool has, ji r, ji c, ji b, ji p, ji h, ji l, ji ro, ji wa, .bool op]) (by simp [results, results113, go_sem, *]) rfl ⟨by rw [hZ.out], ?_⟩;repeat' (first | with_reducible exact B1 | with_reducible refine Below.setCell ?_ (by simp <;> omega) _ | with_reducible refine Below.drew ?_)
 have V1' := V1;have cp0 := P1.at_.all;obtain ⟨cv0, cv1, cv2, cv3⟩ := V1';go_wp2_with fail
 go_at_call 67
 refine (G5 r2 c2 b2 p2 w1).mono ?_;rintro e w2 ⟨rfl, k2⟩;clear cp0 cv0 cv1 cv2 cv3;have B2 := AG B1 k2;have S2 := Nat.lt_of_lt_of_le S1 k2.size;replace P1 := P1.below k2 (by omega);have P2 := P1;replace V1 := V1.below k2 (by omega);have V2 := V1;replace Q1 := Q1.below k2 (by omega);have Q2 := Q1;clear P1 V1 Q1 B1 S1 k2;generalize Bc r2 c2 b2 p2 = ok at hR ⊢
 cases ok
 ·
  have cp0 := P2.at_.all;replace V2 := V2.all;obtain ⟨⟨cq0, cq1, cq2, cq3, cq4, cq5, cq6, cq7, cq8, cq9, cq10⟩, cqf⟩ := Q2;have hZ := hY.out.1 (by rw [hR.out]; rfl);clear hY;replace hZ : Hid _ := hZ;go_wp2
  refine bodyPost_ret (v := .agg #[.bool true, .bool has, ji r, ji c, ji b, ji p, ji h, ji l, ji ro, ji wa, .bool op]) (by simp [results, results113, go_sem, *]) rfl ⟨by rw [hZ.out], ?_⟩;repeat' (first | with_reducible exact B2 | with_reducible refine Below.setCell ?_ (by simp <;> omega) _ | with_reducible refine Below.drew ?_)
 go_wp2_with fail
 go_at_call 66
 refine (BE k 0 8 w2).mono ?_;rintro e w2 ⟨rfl, rfl⟩;generalize decide (0 ≤ k ∧ k ≤ 8) = ok at hR ⊢
 cases ok
 ·
  have cp0 := P2.at_.all;replace V2 := V2.all;obtain ⟨⟨cq0, cq1, cq2, cq3, cq4, cq5, cq6, cq7, cq8, cq9, cq10⟩, cqf⟩ := Q2;have hZ := hY.out.1 (by rw [hR.out]; rfl);clear hY;replace hZ : Hid _ := hZ;go_wp2
  refine bodyPost_ret (v := .agg #[.bool true, .bool has, ji r, ji c, ji b, ji p, ji h, ji l, ji ro, ji wa, .bool op]) (by simp [results, results113, go_sem, *]) rfl ⟨by rw [hZ.out], ?_⟩;repeat' (first | with_reducible exact B2 | with_reducible refine Below.setCell ?_ (by simp <;> omega) _ | with_reducible refine Below.drew ?_)
 replace hR : Hid (R = (!has || (!DF r c b p r2 c2 b2 p2 || ((b2 == b) && (p2 == p))))) := hR.out;cases has
 ·
  have hZ := hY.out.2 (by rw [hR.out]; rfl);clear hY;replace hZ : Hid _ := hZ;obtain ⟨⟨cp0, cp1, cp2, cp3, cp4, cp5, cp6, cp7, cp8, cp9, cp10⟩, cpf⟩ := P2;replace V2 := V2.all;obtain ⟨⟨cq0, cq1, cq2, cq3, cq4, cq5, cq6, cq7, cq8, cq9, cq10⟩, cqf⟩ := Q2;go_wp2
  refine bodyPost_ret (v := .agg #[.bool true, .bool true, ji r2, ji c2, ji b2, ji p2, ji k, ji 3, ji ro, ji wa, .bool op]) (by simp [results, results113, go_sem, *]) rfl ⟨by rw [hZ.out], ?_⟩;repeat' (first | with_reducible exact B2 | with_reducible refine Below.setCell ?_ (by simp <;> omega) _ | with_reducible refine Below.drew ?_)
 have V2' := V2;have cp0 := P2.at_.all;obtain ⟨cv0, cv1, cv2, cv3⟩ := V2';go_wp2_with fail
 go_at_call 128
 refine (Fr r c b p r2 c2 b2 p2 w2).mono ?_;rintro e w3 ⟨rfl, k3⟩;clear cp0 cv0 cv1 cv2 cv3;have B3 := AG B2 k3;have S3 := Nat.lt_of_lt_of_le S2 k3.size;replace P2 := P2.below k3 (by omega);have P3 := P2;replace V2 := V2.below k3 (by omega);have V3 := V2;replace Q2 := Q2.below k3 (by omega);have Q3 := Q2;clear P2 V2 Q2 B2 S2 k3;generalize DF r c b p r2 c2 b2 p2 = ok at hR ⊢
 cases ok
 ·
  have hZ := hY.out.2 (by rw [hR.out]; rfl);clear hY;replace hZ : Hid _ := hZ;obtain ⟨⟨cp0, cp1, cp2, cp3, cp4, cp5, cp6, cp7, cp8, cp9, cp10⟩, cpf⟩ := P3;replace V3 := V3.all;obtain ⟨⟨cq0, cq1, cq2, cq3, cq4, cq5, cq6, cq7, cq8, cq9, cq10⟩, cqf⟩ := Q3;go_wp2
  refine bodyPost_ret (v := .agg #[.bool true, .bool true, ji r2, ji c2, ji b2, ji p2, ji k, ji 3, ji ro, ji wa, .bool op]) (by simp [results, results113, go_sem, *]) rfl ⟨by rw [hZ.out], ?_⟩;repeat' (first | with_reducible exact B3 | with_reducible refine Below.setCell ?_ (by simp <;> omega) _ | with_reducible refine Below.drew ?_)
 cases q1 : (b2 == b)
 ·
  have q2 : (b == b2) = false := by have := beq_eq_false_iff_ne.1 q1; simp; omega
  have q3 : (b != b2) = true := by have := beq_eq_false_iff_ne.1 q1; simp; omega
  have cp0 := P3.at_.all;replace V3 := V3.all;obtain ⟨⟨cq0, cq1, cq2, cq3, cq4, cq5, cq6, cq7, cq8, cq9, cq10⟩, cqf⟩ := Q3;have hZ := hY.out.1 (by rw [hR.out, q1]; rfl);clear hY;replace hZ : Hid _ := hZ;go_wp2
  refine bodyPost_ret (v := .agg #[.bool true, .bool true, ji r, ji c, ji b, ji p, ji h, ji l, ji ro, ji wa, .bool op]) (by simp [results, results113, go_sem, *]) rfl ⟨by rw [hZ.out], ?_⟩;repeat' (first | with_reducible exact B3 | with_reducible refine Below.setCell ?_ (by simp <;> omega) _ | with_reducible refine Below.drew ?_)
 have q2 : (b == b2) = true := by have := beq_iff_eq.1 q1; simp; omega
 have q3 : (b != b2) = false := by have := beq_iff_eq.1 q1; simp; omega
 cases q4 : (p2 == p)
 ·
  have q5 : (p == p2) = false := by have := beq_eq_false_iff_ne.1 q4; simp; omega
  have q6 : (p != p2) = true := by have := beq_eq_false_iff_ne.1 q4; simp; omega
  have cp0 := P3.at_.all;replace V3 := V3.all;obtain ⟨⟨cq0, cq1, cq2, cq3, cq4, cq5, cq6, cq7, cq8, cq9, cq10⟩, cqf⟩ := Q3;have hZ := hY.out.1 (by rw [hR.out, q1, q4]; rfl);clear hY;replace hZ : Hid _ := hZ;go_wp2
  refine bodyPost_ret (v := .agg #[.bool true, .bool true, ji r, ji c, ji b, ji p, ji h, ji l, ji ro, ji wa, .bool op]) (by simp [results, results113, go_sem, *]) rfl ⟨by rw [hZ.out], ?_⟩;repeat' (first | with_reducible exact B3 | with_reducible refine Below.setCell ?_ (by simp <;> omega) _ | with_reducible refine Below.drew ?_)
 have q5 : (p == p2) = true := by have := beq_iff_eq.1 q4; simp; omega
 have q6 : (p != p2) = false := by have := beq_iff_eq.1 q4; simp; omega
 have hZ := hY.out.2 (by rw [hR.out, q1, q4]; rfl);clear hY;replace hZ : Hid _ := hZ;obtain ⟨⟨cp0, cp1, cp2, cp3, cp4, cp5, cp6, cp7, cp8, cp9, cp10⟩, cpf⟩ := P3;replace V3 := V3.all;obtain ⟨⟨cq0, cq1, cq2, cq3, cq4, cq5, cq6, cq7, cq8, cq9, cq10⟩, cqf⟩ := Q3;go_wp2
 refine bodyPost_ret (v := .agg #[.bool true, .bool true, ji r2, ji c2, ji b2, ji p2, ji k, ji 3, ji ro, ji wa, .bool op]) (by simp [results, results113, go_sem, *]) rfl ⟨by rw [hZ.out], ?_⟩;repeat' (first | with_reducible exact B3 | with_reducible refine Below.setCell ?_ (by simp <;> omega) _ | with_reducible refine Below.drew ?_)
end Go.Proofs.YtjmnaeeknomiaaaGreatDoor
