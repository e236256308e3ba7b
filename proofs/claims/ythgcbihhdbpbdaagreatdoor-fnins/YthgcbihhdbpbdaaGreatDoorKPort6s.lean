/- spec.Turn, walked. -/
import Derived.Test.YthgcbihhdbpbdaaGreatDoorRows
import Derived.WalkKit
import Derived.ProofKit
import Derived.OpenShut
import Derived.ShutString
import Derived.ChangeOld
import Derived.Below
import Derived.Deep.QuietTactic
import Derived.BigQuiet
import Derived.WalkSmall
import Derived.Laws.OwnMore
import Derived.WalkSpells
import Derived.WalkLawsBesides
import Derived.Test.YthgcbihhdbpbdaaGreatDoorM3
namespace Go.Proofs.YthgcbihhdbpbdaaGreatDoor
open Go.ChangeShapes Go.WideShapes Go.ChangeAt Go.RowKit
open Go.ChangeMaps (open_string shut_string)
set_option linter.unusedVariables false
set_option maxRecDepth 100000

set_option maxHeartbeats 4000000 in
theorem turnS (x : Pt) (role : Int) (w : World) : Calls Tryz.prog 125 #[.agg #[.bool x.up, .bool x.has, .int .i64 x.r, .int .i64 x.c, .int .i64 x.b, .int .i64 x.p, .int .i64 x.h, .int .i64 x.l, .int .i64 x.ro, .int .i64 x.wa, .bool x.op], .int .i64 role] w fun e w' => e = .returned (.agg #[.bool (turnR x role).up, .bool (turnR x role).has, .int .i64 (turnR x role).r, .int .i64 (turnR x role).c, .int .i64 (turnR x role).b, .int .i64 (turnR x role).p, .int .i64 (turnR x role).h, .int .i64 (turnR x role).l, .int .i64 (turnR x role).ro, .int .i64 (turnR x role).wa, .bool (turnR x role).op]) ∧ Below w.heap.size w w' := by
  obtain ⟨up, has, r, c, b, p, h, l, ro, wa, op⟩ := x
  dsimp only
  have hY : Hid (turnR ⟨up, has, r, c, b, p, h, l, ro, wa, op⟩ role = if pOk ⟨up, has, r, c, b, p, h, l, ro, wa, op⟩ && (up && raUp role) then ⟨up, has, r, c, b, p, h, l, role, (waitR ro wa role), (raOp role (waitR ro wa role))⟩ else ⟨up, has, r, c, b, p, h, l, ro, wa, op⟩) := rfl
  generalize turnR ⟨up, has, r, c, b, p, h, l, ro, wa, op⟩ role = Y at hY ⊢
  obtain ⟨y, hy⟩ : ∃ y, y = (w.alloc (Obj.cells #[.bool up, .bool has, .int .i64 r, .int .i64 c, .int .i64 b, .int .i64 p, .int .i64 h, .int .i64 l, .int .i64 ro, .int .i64 wa, .bool op] 47)).alloc (Obj.cells #[.bool false, .bool false, .int .i64 0, .int .i64 0, .int .i64 0, .int .i64 0, .int .i64 0, .int .i64 0, .int .i64 0, .int .i64 0, .bool false] 47) := ⟨_, rfl⟩
  have P0 : PBox y w.heap.size ⟨up, has, r, c, b, p, h, l, ro, wa, op⟩ := by rw [hy]; refine ⟨?_, fun i => by simp [go_sem]⟩; constructor <;> simp [go_sem]
  have Q0 : PBox y (w.heap.size + 1) ⟨false, false, 0, 0, 0, 0, 0, 0, 0, 0, false⟩ := by rw [hy]; refine ⟨?_, fun i => by simp [go_sem]⟩; constructor <;> simp [go_sem]
  have B0 : Below w.heap.size w y := by rw [hy]; exact ((Below.refl _ _).alloc (Nat.le_refl _) _).alloc (by simp) _
  have S0 : w.heap.size + 1 < y.heap.size := Q0.lt
  go_enter Tryz.func125, Tryz.ntmps125
  go_wp2_with fail
  go_at_call 112
  rw [← hy]
  clear hy
  refine (pOkS ⟨up, has, r, c, b, p, h, l, ro, wa, op⟩ y).mono ?_
  rintro e w1 ⟨rfl, k1⟩
  have B1 := B0.trans (k1.mono B0.size)
  have S1 := Nat.lt_of_lt_of_le S0 k1.size
  replace P0 := P0.below k1 (by omega)
  have P1 := P0
  replace Q0 := Q0.below k1 (by omega)
  have Q1 := Q0
  clear P0 Q0 B0 S0 k1
  generalize pOk ⟨up, has, r, c, b, p, h, l, ro, wa, op⟩ = ok at hY ⊢
  cases ok
  · obtain ⟨cp0, cp1, cp2, cp3, cp4, cp5, cp6, cp7, cp8, cp9, cp10⟩ := P1.at_
    obtain ⟨⟨cq0, cq1, cq2, cq3, cq4, cq5, cq6, cq7, cq8, cq9, cq10⟩, cqf⟩ := Q1
    replace hY : Hid (Y = ⟨up, has, r, c, b, p, h, l, ro, wa, op⟩) := hY.out
    go_wp2
    refine bodyPost_ret (v := .agg #[.bool up, .bool has, .int .i64 r, .int .i64 c, .int .i64 b, .int .i64 p, .int .i64 h, .int .i64 l, .int .i64 ro, .int .i64 wa, .bool op]) (by simp [results, Tryz.results125, go_sem, *]) rfl ⟨by rw [hY.out], ?_⟩
    repeat' (first | with_reducible exact B1 | with_reducible refine Below.setCell ?_ (by simp <;> omega) _ | with_reducible refine Below.drew ?_)
  cases up
  · obtain ⟨cp0, cp1, cp2, cp3, cp4, cp5, cp6, cp7, cp8, cp9, cp10⟩ := P1.at_
    obtain ⟨⟨cq0, cq1, cq2, cq3, cq4, cq5, cq6, cq7, cq8, cq9, cq10⟩, cqf⟩ := Q1
    replace hY : Hid (Y = ⟨false, has, r, c, b, p, h, l, ro, wa, op⟩) := hY.out
    go_wp2
    refine bodyPost_ret (v := .agg #[.bool false, .bool has, .int .i64 r, .int .i64 c, .int .i64 b, .int .i64 p, .int .i64 h, .int .i64 l, .int .i64 ro, .int .i64 wa, .bool op]) (by simp [results, Tryz.results125, go_sem, *]) rfl ⟨by rw [hY.out], ?_⟩
    repeat' (first | with_reducible exact B1 | with_reducible refine Below.setCell ?_ (by simp <;> omega) _ | with_reducible refine Below.drew ?_)
  obtain ⟨cp0, cp1, cp2, cp3, cp4, cp5, cp6, cp7, cp8, cp9, cp10⟩ := P1.at_
  go_wp2_with fail
  go_at_call 66
  refine (inB role 1 3 _).mono ?_
  rintro e w1 ⟨rfl, rfl⟩
  clear cp0 cp1 cp2 cp3 cp4 cp5 cp6 cp7 cp8 cp9 cp10
  replace hY : Hid (Y = if decide (1 ≤ role ∧ role ≤ 3) then ⟨true, has, r, c, b, p, h, l, role, (waitR ro wa role), (raOp role (waitR ro wa role))⟩ else ⟨true, has, r, c, b, p, h, l, ro, wa, op⟩) := hY.out
  generalize decide (1 ≤ role ∧ role ≤ 3) = ok at hY ⊢
  cases ok
  · obtain ⟨cp0, cp1, cp2, cp3, cp4, cp5, cp6, cp7, cp8, cp9, cp10⟩ := P1.at_
    obtain ⟨⟨cq0, cq1, cq2, cq3, cq4, cq5, cq6, cq7, cq8, cq9, cq10⟩, cqf⟩ := Q1
    replace hY : Hid (Y = ⟨true, has, r, c, b, p, h, l, ro, wa, op⟩) := hY.out
    go_wp2
    refine bodyPost_ret (v := .agg #[.bool true, .bool has, .int .i64 r, .int .i64 c, .int .i64 b, .int .i64 p, .int .i64 h, .int .i64 l, .int .i64 ro, .int .i64 wa, .bool op]) (by simp [results, Tryz.results125, go_sem, *]) rfl ⟨by rw [hY.out], ?_⟩
    repeat' (first | with_reducible exact B1 | with_reducible refine Below.setCell ?_ (by simp <;> omega) _ | with_reducible refine Below.drew ?_)
  replace hY : Hid (Y = ⟨true, has, r, c, b, p, h, l, role, (waitR ro wa role), (raOp role (waitR ro wa role))⟩) := hY.out
  by_cases h3 : role = 3
  · subst h3
    by_cases g3 : ro = 3
    · have f2b : (ro == 3) = true := by simp [g3]
      have f2n : (ro != 3) = false := by simp [g3]
      replace hY : Hid (Y = ⟨true, has, r, c, b, p, h, l, 3, 0, (raOp 3 0)⟩) := hY.out.trans (by rw [show waitR ro wa 3 = 0 by simp [waitR]])
      clear g3
      have P1' := P1
      have Q1' := Q1
      obtain ⟨⟨cp0, cp1, cp2, cp3, cp4, cp5, cp6, cp7, cp8, cp9, cp10⟩, cpf⟩ := P1
      obtain ⟨⟨cq0, cq1, cq2, cq3, cq4, cq5, cq6, cq7, cq8, cq9, cq10⟩, cqf⟩ := Q1
      go_wp2_with fail
      go_at_call 123
      obtain ⟨z, hz⟩ : ∃ z, z = ((w1.setCell ⟨w.heap.size, 9, none⟩ (.int .i64 0)).setCell ⟨w.heap.size, 8, none⟩ (.int .i64 3)) := ⟨_, rfl⟩
      have P2 := ((P1'.set9 0).set8 3)
      have Q2 : PBox ((w1.setCell ⟨w.heap.size, 9, none⟩ (.int .i64 0)).setCell ⟨w.heap.size, 8, none⟩ (.int .i64 3)) (w.heap.size + 1) ⟨false, false, 0, 0, 0, 0, 0, 0, 0, 0, false⟩ := ((Q1'.other (by omega)).other (by omega))
      have B2 : Below w.heap.size w z := by rw [hz]; exact ((B1.setCell (Nat.le_refl _) _).setCell (Nat.le_refl _) _)
      have S2 : w.heap.size + 1 < z.heap.size := by rw [hz]; simpa using S1
      rw [← hz] at P2 Q2 ⊢
      clear hz P1' Q1' B1 S1 cp0 cp1 cp2 cp3 cp4 cp5 cp6 cp7 cp8 cp9 cp10 cq0 cq1 cq2 cq3 cq4 cq5 cq6 cq7 cq8 cq9 cq10 cpf cqf
      refine (openS ⟨true, has, r, c, b, p, h, l, 3, 0, op⟩ z).mono ?_
      rintro e w3 ⟨rfl, k3⟩
      dsimp only
      have B3 := B2.trans (k3.mono B2.size)
      have S3 := Nat.lt_of_lt_of_le S2 k3.size
      replace P2 := P2.below k3 (by omega)
      have P3 := P2
      replace Q2 := Q2.below k3 (by omega)
      have Q3 := Q2
      clear P2 Q2 B2 S2 k3
      skip
      obtain ⟨⟨cq0, cq1, cq2, cq3, cq4, cq5, cq6, cq7, cq8, cq9, cq10⟩, cqf⟩ := Q3
      generalize raOp 3 0 = rop at hY ⊢
      go_wp2
      refine bodyPost_ret (v := .agg #[.bool true, .bool has, .int .i64 r, .int .i64 c, .int .i64 b, .int .i64 p, .int .i64 h, .int .i64 l, .int .i64 3, .int .i64 0, .bool rop]) (by simp [results, Tryz.results125, go_sem, *]) rfl ⟨by rw [hY.out], ?_⟩
      repeat' (first | with_reducible exact B3 | with_reducible refine Below.setCell ?_ (by simp <;> omega) _ | with_reducible refine Below.drew ?_)
    · have f2b : (ro == 3) = false := by simp [g3]
      have f2n : (ro != 3) = true := by simp [g3]
      replace hY : Hid (Y = ⟨true, has, r, c, b, p, h, l, 3, 0, (raOp 3 0)⟩) := hY.out.trans (by rw [show waitR ro wa 3 = 0 by simp [waitR]])
      clear g3
      have P1' := P1
      have Q1' := Q1
      obtain ⟨⟨cp0, cp1, cp2, cp3, cp4, cp5, cp6, cp7, cp8, cp9, cp10⟩, cpf⟩ := P1
      obtain ⟨⟨cq0, cq1, cq2, cq3, cq4, cq5, cq6, cq7, cq8, cq9, cq10⟩, cqf⟩ := Q1
      go_wp2_with fail
      go_at_call 123
      obtain ⟨z, hz⟩ : ∃ z, z = ((w1.setCell ⟨w.heap.size, 9, none⟩ (.int .i64 0)).setCell ⟨w.heap.size, 8, none⟩ (.int .i64 3)) := ⟨_, rfl⟩
      have P2 := ((P1'.set9 0).set8 3)
      have Q2 : PBox ((w1.setCell ⟨w.heap.size, 9, none⟩ (.int .i64 0)).setCell ⟨w.heap.size, 8, none⟩ (.int .i64 3)) (w.heap.size + 1) ⟨false, false, 0, 0, 0, 0, 0, 0, 0, 0, false⟩ := ((Q1'.other (by omega)).other (by omega))
      have B2 : Below w.heap.size w z := by rw [hz]; exact ((B1.setCell (Nat.le_refl _) _).setCell (Nat.le_refl _) _)
      have S2 : w.heap.size + 1 < z.heap.size := by rw [hz]; simpa using S1
      rw [← hz] at P2 Q2 ⊢
      clear hz P1' Q1' B1 S1 cp0 cp1 cp2 cp3 cp4 cp5 cp6 cp7 cp8 cp9 cp10 cq0 cq1 cq2 cq3 cq4 cq5 cq6 cq7 cq8 cq9 cq10 cpf cqf
      refine (openS ⟨true, has, r, c, b, p, h, l, 3, 0, op⟩ z).mono ?_
      rintro e w3 ⟨rfl, k3⟩
      dsimp only
      have B3 := B2.trans (k3.mono B2.size)
      have S3 := Nat.lt_of_lt_of_le S2 k3.size
      replace P2 := P2.below k3 (by omega)
      have P3 := P2
      replace Q2 := Q2.below k3 (by omega)
      have Q3 := Q2
      clear P2 Q2 B2 S2 k3
      skip
      obtain ⟨⟨cq0, cq1, cq2, cq3, cq4, cq5, cq6, cq7, cq8, cq9, cq10⟩, cqf⟩ := Q3
      generalize raOp 3 0 = rop at hY ⊢
      go_wp2
      refine bodyPost_ret (v := .agg #[.bool true, .bool has, .int .i64 r, .int .i64 c, .int .i64 b, .int .i64 p, .int .i64 h, .int .i64 l, .int .i64 3, .int .i64 0, .bool rop]) (by simp [results, Tryz.results125, go_sem, *]) rfl ⟨by rw [hY.out], ?_⟩
      repeat' (first | with_reducible exact B3 | with_reducible refine Below.setCell ?_ (by simp <;> omega) _ | with_reducible refine Below.drew ?_)
  · by_cases g3 : ro = 3
    · have f1b : (role == 3) = false := by simp [h3]
      have f1n : (role != 3) = true := by simp [h3]
      have f2b : (ro == 3) = true := by simp [g3]
      have f2n : (ro != 3) = false := by simp [g3]
      replace hY : Hid (Y = ⟨true, has, r, c, b, p, h, l, role, 4, (raOp role 4)⟩) := hY.out.trans (by rw [show waitR ro wa role = 4 by simp [waitR, h3, g3]])
      clear h3 g3
      have P1' := P1
      have Q1' := Q1
      obtain ⟨⟨cp0, cp1, cp2, cp3, cp4, cp5, cp6, cp7, cp8, cp9, cp10⟩, cpf⟩ := P1
      obtain ⟨⟨cq0, cq1, cq2, cq3, cq4, cq5, cq6, cq7, cq8, cq9, cq10⟩, cqf⟩ := Q1
      go_wp2_with fail
      go_at_call 123
      obtain ⟨z, hz⟩ : ∃ z, z = ((w1.setCell ⟨w.heap.size, 9, none⟩ (.int .i64 4)).setCell ⟨w.heap.size, 8, none⟩ (.int .i64 role)) := ⟨_, rfl⟩
      have P2 := ((P1'.set9 4).set8 role)
      have Q2 : PBox ((w1.setCell ⟨w.heap.size, 9, none⟩ (.int .i64 4)).setCell ⟨w.heap.size, 8, none⟩ (.int .i64 role)) (w.heap.size + 1) ⟨false, false, 0, 0, 0, 0, 0, 0, 0, 0, false⟩ := ((Q1'.other (by omega)).other (by omega))
      have B2 : Below w.heap.size w z := by rw [hz]; exact ((B1.setCell (Nat.le_refl _) _).setCell (Nat.le_refl _) _)
      have S2 : w.heap.size + 1 < z.heap.size := by rw [hz]; simpa using S1
      rw [← hz] at P2 Q2 ⊢
      clear hz P1' Q1' B1 S1 cp0 cp1 cp2 cp3 cp4 cp5 cp6 cp7 cp8 cp9 cp10 cq0 cq1 cq2 cq3 cq4 cq5 cq6 cq7 cq8 cq9 cq10 cpf cqf
      refine (openS ⟨true, has, r, c, b, p, h, l, role, 4, op⟩ z).mono ?_
      rintro e w3 ⟨rfl, k3⟩
      dsimp only
      have B3 := B2.trans (k3.mono B2.size)
      have S3 := Nat.lt_of_lt_of_le S2 k3.size
      replace P2 := P2.below k3 (by omega)
      have P3 := P2
      replace Q2 := Q2.below k3 (by omega)
      have Q3 := Q2
      clear P2 Q2 B2 S2 k3
      skip
      obtain ⟨⟨cq0, cq1, cq2, cq3, cq4, cq5, cq6, cq7, cq8, cq9, cq10⟩, cqf⟩ := Q3
      generalize raOp role 4 = rop at hY ⊢
      go_wp2
      refine bodyPost_ret (v := .agg #[.bool true, .bool has, .int .i64 r, .int .i64 c, .int .i64 b, .int .i64 p, .int .i64 h, .int .i64 l, .int .i64 role, .int .i64 4, .bool rop]) (by simp [results, Tryz.results125, go_sem, *]) rfl ⟨by rw [hY.out], ?_⟩
      repeat' (first | with_reducible exact B3 | with_reducible refine Below.setCell ?_ (by simp <;> omega) _ | with_reducible refine Below.drew ?_)
    · have f1b : (role == 3) = false := by simp [h3]
      have f1n : (role != 3) = true := by simp [h3]
      have f2b : (ro == 3) = false := by simp [g3]
      have f2n : (ro != 3) = true := by simp [g3]
      replace hY : Hid (Y = ⟨true, has, r, c, b, p, h, l, role, wa, (raOp role wa)⟩) := hY.out.trans (by rw [show waitR ro wa role = wa by simp [waitR, h3, g3]])
      clear h3 g3
      have P1' := P1
      have Q1' := Q1
      obtain ⟨⟨cp0, cp1, cp2, cp3, cp4, cp5, cp6, cp7, cp8, cp9, cp10⟩, cpf⟩ := P1
      obtain ⟨⟨cq0, cq1, cq2, cq3, cq4, cq5, cq6, cq7, cq8, cq9, cq10⟩, cqf⟩ := Q1
      go_wp2_with fail
      go_at_call 123
      obtain ⟨z, hz⟩ : ∃ z, z = (w1.setCell ⟨w.heap.size, 8, none⟩ (.int .i64 role)) := ⟨_, rfl⟩
      have P2 := (P1'.set8 role)
      have Q2 : PBox (w1.setCell ⟨w.heap.size, 8, none⟩ (.int .i64 role)) (w.heap.size + 1) ⟨false, false, 0, 0, 0, 0, 0, 0, 0, 0, false⟩ := (Q1'.other (by omega))
      have B2 : Below w.heap.size w z := by rw [hz]; exact (B1.setCell (Nat.le_refl _) _)
      have S2 : w.heap.size + 1 < z.heap.size := by rw [hz]; simpa using S1
      rw [← hz] at P2 Q2 ⊢
      clear hz P1' Q1' B1 S1 cp0 cp1 cp2 cp3 cp4 cp5 cp6 cp7 cp8 cp9 cp10 cq0 cq1 cq2 cq3 cq4 cq5 cq6 cq7 cq8 cq9 cq10 cpf cqf
      refine (openS ⟨true, has, r, c, b, p, h, l, role, wa, op⟩ z).mono ?_
      rintro e w3 ⟨rfl, k3⟩
      dsimp only
      have B3 := B2.trans (k3.mono B2.size)
      have S3 := Nat.lt_of_lt_of_le S2 k3.size
      replace P2 := P2.below k3 (by omega)
      have P3 := P2
      replace Q2 := Q2.below k3 (by omega)
      have Q3 := Q2
      clear P2 Q2 B2 S2 k3
      skip
      obtain ⟨⟨cq0, cq1, cq2, cq3, cq4, cq5, cq6, cq7, cq8, cq9, cq10⟩, cqf⟩ := Q3
      generalize raOp role wa = rop at hY ⊢
      go_wp2
      refine bodyPost_ret (v := .agg #[.bool true, .bool has, .int .i64 r, .int .i64 c, .int .i64 b, .int .i64 p, .int .i64 h, .int .i64 l, .int .i64 role, .int .i64 wa, .bool rop]) (by simp [results, Tryz.results125, go_sem, *]) rfl ⟨by rw [hY.out], ?_⟩
      repeat' (first | with_reducible exact B3 | with_reducible refine Below.setCell ?_ (by simp <;> omega) _ | with_reducible refine Below.drew ?_)

end Go.Proofs.YthgcbihhdbpbdaaGreatDoor
