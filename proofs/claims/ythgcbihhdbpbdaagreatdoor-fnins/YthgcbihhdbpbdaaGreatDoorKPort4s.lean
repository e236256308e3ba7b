/- spec.Claim, walked. -/
import Derived.Test.YthgcbihhdbpbdaaGreatDoorRows
import Derived.WalkKit
import Derived.ProofKit
import Derived.OpenShut
import Derived.ShutString
import Derived.ChangeOld
import Derived.Below
import Derived.Deep.QuietTactic
import Derived.BigQuiet
import Derived.WalkSmall
import Derived.Laws.OwnMore
import Derived.WalkSpells
import Derived.WalkLawsBesides
import Derived.Test.YthgcbihhdbpbdaaGreatDoorM3
namespace Go.Proofs.YthgcbihhdbpbdaaGreatDoor
open Go.ChangeShapes Go.WideShapes Go.ChangeAt Go.RowKit
open Go.ChangeMaps (open_string shut_string)
set_option linter.unusedVariables false
set_option maxRecDepth 100000

set_option maxHeartbeats 4000000 in
theorem claimS (x : Pt) (r2 c2 b2 p2 k : Int) (w : World) : Calls Tryz.prog 113 #[.agg #[.bool x.up, .bool x.has, .int .i64 x.r, .int .i64 x.c, .int .i64 x.b, .int .i64 x.p, .int .i64 x.h, .int .i64 x.l, .int .i64 x.ro, .int .i64 x.wa, .bool x.op], .agg #[.int .i64 r2, .int .i64 c2, .int .i64 b2, .int .i64 p2], .int .i64 k] w fun e w' => e = .returned (.agg #[.bool (claimR x r2 c2 b2 p2 k).up, .bool (claimR x r2 c2 b2 p2 k).has, .int .i64 (claimR x r2 c2 b2 p2 k).r, .int .i64 (claimR x r2 c2 b2 p2 k).c, .int .i64 (claimR x r2 c2 b2 p2 k).b, .int .i64 (claimR x r2 c2 b2 p2 k).p, .int .i64 (claimR x r2 c2 b2 p2 k).h, .int .i64 (claimR x r2 c2 b2 p2 k).l, .int .i64 (claimR x r2 c2 b2 p2 k).ro, .int .i64 (claimR x r2 c2 b2 p2 k).wa, .bool (claimR x r2 c2 b2 p2 k).op]) ∧ Below w.heap.size w w' := by
  obtain ⟨up, has, r, c, b, p, h, l, ro, wa, op⟩ := x
  dsimp only
  have hR : Hid (takes ⟨up, has, r, c, b, p, h, l, ro, wa, op⟩ r2 c2 b2 p2 k = (pOk ⟨up, has, r, c, b, p, h, l, ro, wa, op⟩ && (up && (vOk r2 c2 b2 p2 && (decide (0 ≤ k ∧ k ≤ 8) && cnt ⟨up, has, r, c, b, p, h, l, ro, wa, op⟩ r2 c2 b2 p2))))) := rfl
  have hY : Hid ((takes ⟨up, has, r, c, b, p, h, l, ro, wa, op⟩ r2 c2 b2 p2 k = false → claimR ⟨up, has, r, c, b, p, h, l, ro, wa, op⟩ r2 c2 b2 p2 k = ⟨up, has, r, c, b, p, h, l, ro, wa, op⟩) ∧ (takes ⟨up, has, r, c, b, p, h, l, ro, wa, op⟩ r2 c2 b2 p2 k = true → claimR ⟨up, has, r, c, b, p, h, l, ro, wa, op⟩ r2 c2 b2 p2 k = ⟨up, true, r2, c2, b2, p2, k, 3, ro, wa, op⟩)) := ⟨fun h => claimR_no h, fun h => claimR_yes h⟩
  generalize takes ⟨up, has, r, c, b, p, h, l, ro, wa, op⟩ r2 c2 b2 p2 k = R at hR hY
  generalize claimR ⟨up, has, r, c, b, p, h, l, ro, wa, op⟩ r2 c2 b2 p2 k = Y at hY ⊢
  obtain ⟨y, hy⟩ : ∃ y, y = ((w.alloc (Obj.cells #[.bool up, .bool has, .int .i64 r, .int .i64 c, .int .i64 b, .int .i64 p, .int .i64 h, .int .i64 l, .int .i64 ro, .int .i64 wa, .bool op] 47)).alloc (Obj.cells #[.int .i64 r2, .int .i64 c2, .int .i64 b2, .int .i64 p2] 25)).alloc (Obj.cells #[.bool false, .bool false, .int .i64 0, .int .i64 0, .int .i64 0, .int .i64 0, .int .i64 0, .int .i64 0, .int .i64 0, .int .i64 0, .bool false] 47) := ⟨_, rfl⟩
  have P0 : PBox y w.heap.size ⟨up, has, r, c, b, p, h, l, ro, wa, op⟩ := by rw [hy]; refine ⟨?_, fun i => by simp [go_sem]⟩; constructor <;> simp [go_sem]
  have V0 : VecAt y (w.heap.size + 1) r2 c2 b2 p2 := by rw [hy]; refine ⟨?_, ?_, ?_, ?_⟩ <;> simp [go_sem]
  have Q0 : PBox y (w.heap.size + 1 + 1) ⟨false, false, 0, 0, 0, 0, 0, 0, 0, 0, false⟩ := by rw [hy]; refine ⟨?_, fun i => by simp [go_sem]⟩; constructor <;> simp [go_sem]
  have B0 : Below w.heap.size w y := by rw [hy]; exact (((Below.refl _ _).alloc (Nat.le_refl _) _).alloc (by simp) _).alloc (by simp; omega) _
  have S0 : w.heap.size + 1 + 1 < y.heap.size := Q0.lt
  go_enter Tryz.func113, Tryz.ntmps113
  go_wp2_with fail
  go_at_call 112
  rw [← hy]
  clear hy
  refine (pOkS ⟨up, has, r, c, b, p, h, l, ro, wa, op⟩ y).mono ?_
  rintro e w1 ⟨rfl, k1⟩
  have B1 := B0.trans (k1.mono B0.size)
  have S1 := Nat.lt_of_lt_of_le S0 k1.size
  replace P0 := P0.below k1 (by omega)
  have P1 := P0
  replace V0 := V0.below k1 (by omega)
  have V1 := V0
  replace Q0 := Q0.below k1 (by omega)
  have Q1 := Q0
  clear P0 V0 Q0 B0 S0 k1
  generalize pOk ⟨up, has, r, c, b, p, h, l, ro, wa, op⟩ = ok at hR ⊢
  cases ok
  · obtain ⟨cp0, cp1, cp2, cp3, cp4, cp5, cp6, cp7, cp8, cp9, cp10⟩ := P1.at_
    obtain ⟨cv0, cv1, cv2, cv3⟩ := V1
    obtain ⟨⟨cq0, cq1, cq2, cq3, cq4, cq5, cq6, cq7, cq8, cq9, cq10⟩, cqf⟩ := Q1
    have hZ := hY.out.1 (by rw [hR.out]; rfl)
    clear hY
    replace hZ : Hid _ := hZ
    go_wp2
    refine bodyPost_ret (v := .agg #[.bool up, .bool has, .int .i64 r, .int .i64 c, .int .i64 b, .int .i64 p, .int .i64 h, .int .i64 l, .int .i64 ro, .int .i64 wa, .bool op]) (by simp [results, Tryz.results113, go_sem, *]) rfl ⟨by rw [hZ.out], ?_⟩
    repeat' (first | with_reducible exact B1 | with_reducible refine Below.setCell ?_ (by simp <;> omega) _ | with_reducible refine Below.drew ?_)
  cases up
  · obtain ⟨cp0, cp1, cp2, cp3, cp4, cp5, cp6, cp7, cp8, cp9, cp10⟩ := P1.at_
    obtain ⟨cv0, cv1, cv2, cv3⟩ := V1
    obtain ⟨⟨cq0, cq1, cq2, cq3, cq4, cq5, cq6, cq7, cq8, cq9, cq10⟩, cqf⟩ := Q1
    have hZ := hY.out.1 (by rw [hR.out]; rfl)
    clear hY
    replace hZ : Hid _ := hZ
    go_wp2
    refine bodyPost_ret (v := .agg #[.bool false, .bool has, .int .i64 r, .int .i64 c, .int .i64 b, .int .i64 p, .int .i64 h, .int .i64 l, .int .i64 ro, .int .i64 wa, .bool op]) (by simp [results, Tryz.results113, go_sem, *]) rfl ⟨by rw [hZ.out], ?_⟩
    repeat' (first | with_reducible exact B1 | with_reducible refine Below.setCell ?_ (by simp <;> omega) _ | with_reducible refine Below.drew ?_)
  have V1' := V1
  obtain ⟨cp0, cp1, cp2, cp3, cp4, cp5, cp6, cp7, cp8, cp9, cp10⟩ := P1.at_
  obtain ⟨cv0, cv1, cv2, cv3⟩ := V1'
  go_wp2_with fail
  go_at_call 67
  refine (vOkS r2 c2 b2 p2 w1).mono ?_
  rintro e w2 ⟨rfl, k2⟩
  clear cp0 cp1 cp2 cp3 cp4 cp5 cp6 cp7 cp8 cp9 cp10 cv0 cv1 cv2 cv3
  have B2 := B1.trans (k2.mono B1.size)
  have S2 := Nat.lt_of_lt_of_le S1 k2.size
  replace P1 := P1.below k2 (by omega)
  have P2 := P1
  replace V1 := V1.below k2 (by omega)
  have V2 := V1
  replace Q1 := Q1.below k2 (by omega)
  have Q2 := Q1
  clear P1 V1 Q1 B1 S1 k2
  generalize vOk r2 c2 b2 p2 = ok at hR ⊢
  cases ok
  · obtain ⟨cp0, cp1, cp2, cp3, cp4, cp5, cp6, cp7, cp8, cp9, cp10⟩ := P2.at_
    obtain ⟨cv0, cv1, cv2, cv3⟩ := V2
    obtain ⟨⟨cq0, cq1, cq2, cq3, cq4, cq5, cq6, cq7, cq8, cq9, cq10⟩, cqf⟩ := Q2
    have hZ := hY.out.1 (by rw [hR.out]; rfl)
    clear hY
    replace hZ : Hid _ := hZ
    go_wp2
    refine bodyPost_ret (v := .agg #[.bool true, .bool has, .int .i64 r, .int .i64 c, .int .i64 b, .int .i64 p, .int .i64 h, .int .i64 l, .int .i64 ro, .int .i64 wa, .bool op]) (by simp [results, Tryz.results113, go_sem, *]) rfl ⟨by rw [hZ.out], ?_⟩
    repeat' (first | with_reducible exact B2 | with_reducible refine Below.setCell ?_ (by simp <;> omega) _ | with_reducible refine Below.drew ?_)
  go_wp2_with fail
  go_at_call 66
  refine (inB k 0 8 w2).mono ?_
  rintro e w2 ⟨rfl, rfl⟩
  generalize decide (0 ≤ k ∧ k ≤ 8) = ok at hR ⊢
  cases ok
  · obtain ⟨cp0, cp1, cp2, cp3, cp4, cp5, cp6, cp7, cp8, cp9, cp10⟩ := P2.at_
    obtain ⟨cv0, cv1, cv2, cv3⟩ := V2
    obtain ⟨⟨cq0, cq1, cq2, cq3, cq4, cq5, cq6, cq7, cq8, cq9, cq10⟩, cqf⟩ := Q2
    have hZ := hY.out.1 (by rw [hR.out]; rfl)
    clear hY
    replace hZ : Hid _ := hZ
    go_wp2
    refine bodyPost_ret (v := .agg #[.bool true, .bool has, .int .i64 r, .int .i64 c, .int .i64 b, .int .i64 p, .int .i64 h, .int .i64 l, .int .i64 ro, .int .i64 wa, .bool op]) (by simp [results, Tryz.results113, go_sem, *]) rfl ⟨by rw [hZ.out], ?_⟩
    repeat' (first | with_reducible exact B2 | with_reducible refine Below.setCell ?_ (by simp <;> omega) _ | with_reducible refine Below.drew ?_)
  replace hR : Hid (R = (!has || (!vLt r c b p r2 c2 b2 p2 || ((b2 == b) && (p2 == p))))) := hR.out
  cases has
  · have hZ := hY.out.2 (by rw [hR.out]; rfl)
    clear hY
    replace hZ : Hid _ := hZ
    obtain ⟨⟨cp0, cp1, cp2, cp3, cp4, cp5, cp6, cp7, cp8, cp9, cp10⟩, cpf⟩ := P2
    obtain ⟨cv0, cv1, cv2, cv3⟩ := V2
    obtain ⟨⟨cq0, cq1, cq2, cq3, cq4, cq5, cq6, cq7, cq8, cq9, cq10⟩, cqf⟩ := Q2
    go_wp2
    refine bodyPost_ret (v := .agg #[.bool true, .bool true, .int .i64 r2, .int .i64 c2, .int .i64 b2, .int .i64 p2, .int .i64 k, .int .i64 3, .int .i64 ro, .int .i64 wa, .bool op]) (by simp [results, Tryz.results113, go_sem, *]) rfl ⟨by rw [hZ.out], ?_⟩
    repeat' (first | with_reducible exact B2 | with_reducible refine Below.setCell ?_ (by simp <;> omega) _ | with_reducible refine Below.drew ?_)
  have V2' := V2
  obtain ⟨cp0, cp1, cp2, cp3, cp4, cp5, cp6, cp7, cp8, cp9, cp10⟩ := P2.at_
  obtain ⟨cv0, cv1, cv2, cv3⟩ := V2'
  go_wp2_with fail
  go_at_call 128
  refine (betterS r c b p r2 c2 b2 p2 w2).mono ?_
  rintro e w3 ⟨rfl, k3⟩
  clear cp0 cp1 cp2 cp3 cp4 cp5 cp6 cp7 cp8 cp9 cp10 cv0 cv1 cv2 cv3
  have B3 := B2.trans (k3.mono B2.size)
  have S3 := Nat.lt_of_lt_of_le S2 k3.size
  replace P2 := P2.below k3 (by omega)
  have P3 := P2
  replace V2 := V2.below k3 (by omega)
  have V3 := V2
  replace Q2 := Q2.below k3 (by omega)
  have Q3 := Q2
  clear P2 V2 Q2 B2 S2 k3
  generalize vLt r c b p r2 c2 b2 p2 = ok at hR ⊢
  cases ok
  · have hZ := hY.out.2 (by rw [hR.out]; rfl)
    clear hY
    replace hZ : Hid _ := hZ
    obtain ⟨⟨cp0, cp1, cp2, cp3, cp4, cp5, cp6, cp7, cp8, cp9, cp10⟩, cpf⟩ := P3
    obtain ⟨cv0, cv1, cv2, cv3⟩ := V3
    obtain ⟨⟨cq0, cq1, cq2, cq3, cq4, cq5, cq6, cq7, cq8, cq9, cq10⟩, cqf⟩ := Q3
    go_wp2
    refine bodyPost_ret (v := .agg #[.bool true, .bool true, .int .i64 r2, .int .i64 c2, .int .i64 b2, .int .i64 p2, .int .i64 k, .int .i64 3, .int .i64 ro, .int .i64 wa, .bool op]) (by simp [results, Tryz.results113, go_sem, *]) rfl ⟨by rw [hZ.out], ?_⟩
    repeat' (first | with_reducible exact B3 | with_reducible refine Below.setCell ?_ (by simp <;> omega) _ | with_reducible refine Below.drew ?_)
  cases q1 : (b2 == b)
  · have q2 : (b == b2) = false := by have := beq_eq_false_iff_ne.1 q1; simp; omega
    have q3 : (b != b2) = true := by have := beq_eq_false_iff_ne.1 q1; simp; omega
    obtain ⟨cp0, cp1, cp2, cp3, cp4, cp5, cp6, cp7, cp8, cp9, cp10⟩ := P3.at_
    obtain ⟨cv0, cv1, cv2, cv3⟩ := V3
    obtain ⟨⟨cq0, cq1, cq2, cq3, cq4, cq5, cq6, cq7, cq8, cq9, cq10⟩, cqf⟩ := Q3
    have hZ := hY.out.1 (by rw [hR.out, q1]; rfl)
    clear hY
    replace hZ : Hid _ := hZ
    go_wp2
    refine bodyPost_ret (v := .agg #[.bool true, .bool true, .int .i64 r, .int .i64 c, .int .i64 b, .int .i64 p, .int .i64 h, .int .i64 l, .int .i64 ro, .int .i64 wa, .bool op]) (by simp [results, Tryz.results113, go_sem, *]) rfl ⟨by rw [hZ.out], ?_⟩
    repeat' (first | with_reducible exact B3 | with_reducible refine Below.setCell ?_ (by simp <;> omega) _ | with_reducible refine Below.drew ?_)
  have q2 : (b == b2) = true := by have := beq_iff_eq.1 q1; simp; omega
  have q3 : (b != b2) = false := by have := beq_iff_eq.1 q1; simp; omega
  cases q4 : (p2 == p)
  · have q5 : (p == p2) = false := by have := beq_eq_false_iff_ne.1 q4; simp; omega
    have q6 : (p != p2) = true := by have := beq_eq_false_iff_ne.1 q4; simp; omega
    obtain ⟨cp0, cp1, cp2, cp3, cp4, cp5, cp6, cp7, cp8, cp9, cp10⟩ := P3.at_
    obtain ⟨cv0, cv1, cv2, cv3⟩ := V3
    obtain ⟨⟨cq0, cq1, cq2, cq3, cq4, cq5, cq6, cq7, cq8, cq9, cq10⟩, cqf⟩ := Q3
    have hZ := hY.out.1 (by rw [hR.out, q1, q4]; rfl)
    clear hY
    replace hZ : Hid _ := hZ
    go_wp2
    refine bodyPost_ret (v := .agg #[.bool true, .bool true, .int .i64 r, .int .i64 c, .int .i64 b, .int .i64 p, .int .i64 h, .int .i64 l, .int .i64 ro, .int .i64 wa, .bool op]) (by simp [results, Tryz.results113, go_sem, *]) rfl ⟨by rw [hZ.out], ?_⟩
    repeat' (first | with_reducible exact B3 | with_reducible refine Below.setCell ?_ (by simp <;> omega) _ | with_reducible refine Below.drew ?_)
  have q5 : (p == p2) = true := by have := beq_iff_eq.1 q4; simp; omega
  have q6 : (p != p2) = false := by have := beq_iff_eq.1 q4; simp; omega
  have hZ := hY.out.2 (by rw [hR.out, q1, q4]; rfl)
  clear hY
  replace hZ : Hid _ := hZ
  obtain ⟨⟨cp0, cp1, cp2, cp3, cp4, cp5, cp6, cp7, cp8, cp9, cp10⟩, cpf⟩ := P3
  obtain ⟨cv0, cv1, cv2, cv3⟩ := V3
  obtain ⟨⟨cq0, cq1, cq2, cq3, cq4, cq5, cq6, cq7, cq8, cq9, cq10⟩, cqf⟩ := Q3
  go_wp2
  refine bodyPost_ret (v := .agg #[.bool true, .bool true, .int .i64 r2, .int .i64 c2, .int .i64 b2, .int .i64 p2, .int .i64 k, .int .i64 3, .int .i64 ro, .int .i64 wa, .bool op]) (by simp [results, Tryz.results113, go_sem, *]) rfl ⟨by rw [hZ.out], ?_⟩
  repeat' (first | with_reducible exact B3 | with_reducible refine Below.setCell ?_ (by simp <;> omega) _ | with_reducible refine Below.drew ?_)

end Go.Proofs.YthgcbihhdbpbdaaGreatDoor
