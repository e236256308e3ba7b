/- spec.Turn, walked. spec.Decide, walked. spec.Claim, walked. spec.l8In: a claim, walked. spec.l8Tick, walked. spec.l8In: a tick, walked. spec.l8In: a link, walked. spec.React, walked. How much is said. What a log makes and says. The judges, in plain words. slices.Equal of what comes in, what goes out, and flags. spec.BridgeNew, walked. spec.l14Minds, spec.l15Who, walked. -/
import Derived.Test.YtnpiljegdiconaaGreatZg1
import Derived.Test.YtnpiljegdiconaaGreatRows
import Derived.WalkKit
import Derived.ProofKit
import Derived.OpenShut
import Derived.ShutString
import Derived.ChangeOld
import Derived.Below
import Derived.Deep.QuietTactic
import Derived.BigQuiet
import Derived.WalkSmall
import Derived.Laws.OwnMore
import Derived.WalkSpells
import Derived.WalkLawsBesides
import Derived.Test.YtnpiljegdiconaaGreatPort6
import Derived.Deep.Cut
import Derived.Test.YtnpiljegdiconaaGreatBr7
import Derived.Test.YtnpiljegdiconaaGreatTakes
import Derived.Test.YtnpiljegdiconaaGreatPort4
import Derived.Test.YtnpiljegdiconaaGreatRe2
import Derived.Test.YtnpiljegdiconaaGreatIn3
import Derived.Maps.AppendAt
import Derived.Test.YtnpiljegdiconaaGreatRe3
import Derived.Test.YtnpiljegdiconaaGreatMd12
import Derived.Test.YtnpiljegdiconaaGreatBr9
import Derived.Test.YtnpiljegdiconaaGreatIs1
import Derived.Test.YtnpiljegdiconaaGreatBxd1
import Derived.Test.YtnpiljegdiconaaGreatGa1
import Derived.Laws.StructEq
namespace Go.Proofs.YtnpiljegdiconaaGreat
open Go.ChangeShapes Go.WideShapes Go.ChangeAt Go.RowKit
open Go.ChangeMaps (open_string shut_string)
set_option linter.unusedVariables false
set_option maxRecDepth 100000

set_option maxHeartbeats 4000000 in
theorem turnS (x : Pt) (role : Int) (w : World) : Calls Tryz.prog 213 #[.agg #[.bool x.up, .bool x.has, .int .i64 x.r, .int .i64 x.c, .int .i64 x.b, .int .i64 x.p, .int .i64 x.h, .int .i64 x.l, .int .i64 x.ro, .int .i64 x.wa, .bool x.op], .int .i64 role] w fun e w' => e = .returned (.agg #[.bool (turnR x role).up, .bool (turnR x role).has, .int .i64 (turnR x role).r, .int .i64 (turnR x role).c, .int .i64 (turnR x role).b, .int .i64 (turnR x role).p, .int .i64 (turnR x role).h, .int .i64 (turnR x role).l, .int .i64 (turnR x role).ro, .int .i64 (turnR x role).wa, .bool (turnR x role).op]) ∧ Below w.heap.size w w' := by
  obtain ⟨up, has, r, c, b, p, h, l, ro, wa, op⟩ := x
  dsimp only
  have hY : Hid (turnR ⟨up, has, r, c, b, p, h, l, ro, wa, op⟩ role = if pOk ⟨up, has, r, c, b, p, h, l, ro, wa, op⟩ && (up && raUp role) then ⟨up, has, r, c, b, p, h, l, role, (waitR ro wa role), (raOp role (waitR ro wa role))⟩ else ⟨up, has, r, c, b, p, h, l, ro, wa, op⟩) := rfl
  generalize turnR ⟨up, has, r, c, b, p, h, l, ro, wa, op⟩ role = Y at hY ⊢
  obtain ⟨y, hy⟩ : ∃ y, y = (w.alloc (Obj.cells #[.bool up, .bool has, .int .i64 r, .int .i64 c, .int .i64 b, .int .i64 p, .int .i64 h, .int .i64 l, .int .i64 ro, .int .i64 wa, .bool op] 109)).alloc (Obj.cells #[.bool false, .bool false, .int .i64 0, .int .i64 0, .int .i64 0, .int .i64 0, .int .i64 0, .int .i64 0, .int .i64 0, .int .i64 0, .bool false] 109) := ⟨_, rfl⟩
  have P0 : PBox y w.heap.size ⟨up, has, r, c, b, p, h, l, ro, wa, op⟩ := by rw [hy]; refine ⟨?_, fun i => by simp [go_sem]⟩; constructor <;> simp [go_sem]
  have Q0 : PBox y (w.heap.size + 1) ⟨false, false, 0, 0, 0, 0, 0, 0, 0, 0, false⟩ := by rw [hy]; refine ⟨?_, fun i => by simp [go_sem]⟩; constructor <;> simp [go_sem]
  have B0 : Below w.heap.size w y := by rw [hy]; exact ((Below.refl _ _).alloc (Nat.le_refl _) _).alloc (by simp) _
  have S0 : w.heap.size + 1 < y.heap.size := Q0.lt
  go_enter Tryz.func213, Tryz.ntmps213
  go_wp2_with fail
  go_at_call 142
  rw [← hy]
  clear hy
  refine (pOkS ⟨up, has, r, c, b, p, h, l, ro, wa, op⟩ y).mono ?_
  rintro e w1 ⟨rfl, k1⟩
  have B1 := B0.trans (k1.mono B0.size)
  have S1 := Nat.lt_of_lt_of_le S0 k1.size
  replace P0 := P0.below k1 (by omega)
  have P1 := P0
  replace Q0 := Q0.below k1 (by omega)
  have Q1 := Q0
  clear P0 Q0 B0 S0 k1
  generalize pOk ⟨up, has, r, c, b, p, h, l, ro, wa, op⟩ = ok at hY ⊢
  cases ok
  · obtain ⟨cp0, cp1, cp2, cp3, cp4, cp5, cp6, cp7, cp8, cp9, cp10⟩ := P1.at_
    obtain ⟨⟨cq0, cq1, cq2, cq3, cq4, cq5, cq6, cq7, cq8, cq9, cq10⟩, cqf⟩ := Q1
    replace hY : Hid (Y = ⟨up, has, r, c, b, p, h, l, ro, wa, op⟩) := hY.out
    go_wp2
    refine bodyPost_ret (v := .agg #[.bool up, .bool has, .int .i64 r, .int .i64 c, .int .i64 b, .int .i64 p, .int .i64 h, .int .i64 l, .int .i64 ro, .int .i64 wa, .bool op]) (by simp [results, Tryz.results213, go_sem, *]) rfl ⟨by rw [hY.out], ?_⟩
    repeat' (first | with_reducible exact B1 | with_reducible refine Below.setCell ?_ (by simp <;> omega) _ | with_reducible refine Below.drew ?_)
  cases up
  · obtain ⟨cp0, cp1, cp2, cp3, cp4, cp5, cp6, cp7, cp8, cp9, cp10⟩ := P1.at_
    obtain ⟨⟨cq0, cq1, cq2, cq3, cq4, cq5, cq6, cq7, cq8, cq9, cq10⟩, cqf⟩ := Q1
    replace hY : Hid (Y = ⟨false, has, r, c, b, p, h, l, ro, wa, op⟩) := hY.out
    go_wp2
    refine bodyPost_ret (v := .agg #[.bool false, .bool has, .int .i64 r, .int .i64 c, .int .i64 b, .int .i64 p, .int .i64 h, .int .i64 l, .int .i64 ro, .int .i64 wa, .bool op]) (by simp [results, Tryz.results213, go_sem, *]) rfl ⟨by rw [hY.out], ?_⟩
    repeat' (first | with_reducible exact B1 | with_reducible refine Below.setCell ?_ (by simp <;> omega) _ | with_reducible refine Below.drew ?_)
  obtain ⟨cp0, cp1, cp2, cp3, cp4, cp5, cp6, cp7, cp8, cp9, cp10⟩ := P1.at_
  go_wp2_with fail
  go_at_call 65
  refine (inB role 1 3 _).mono ?_
  rintro e w1 ⟨rfl, rfl⟩
  clear cp0 cp1 cp2 cp3 cp4 cp5 cp6 cp7 cp8 cp9 cp10
  replace hY : Hid (Y = if decide (1 ≤ role ∧ role ≤ 3) then ⟨true, has, r, c, b, p, h, l, role, (waitR ro wa role), (raOp role (waitR ro wa role))⟩ else ⟨true, has, r, c, b, p, h, l, ro, wa, op⟩) := hY.out
  generalize decide (1 ≤ role ∧ role ≤ 3) = ok at hY ⊢
  cases ok
  · obtain ⟨cp0, cp1, cp2, cp3, cp4, cp5, cp6, cp7, cp8, cp9, cp10⟩ := P1.at_
    obtain ⟨⟨cq0, cq1, cq2, cq3, cq4, cq5, cq6, cq7, cq8, cq9, cq10⟩, cqf⟩ := Q1
    replace hY : Hid (Y = ⟨true, has, r, c, b, p, h, l, ro, wa, op⟩) := hY.out
    go_wp2
    refine bodyPost_ret (v := .agg #[.bool true, .bool has, .int .i64 r, .int .i64 c, .int .i64 b, .int .i64 p, .int .i64 h, .int .i64 l, .int .i64 ro, .int .i64 wa, .bool op]) (by simp [results, Tryz.results213, go_sem, *]) rfl ⟨by rw [hY.out], ?_⟩
    repeat' (first | with_reducible exact B1 | with_reducible refine Below.setCell ?_ (by simp <;> omega) _ | with_reducible refine Below.drew ?_)
  replace hY : Hid (Y = ⟨true, has, r, c, b, p, h, l, role, (waitR ro wa role), (raOp role (waitR ro wa role))⟩) := hY.out
  by_cases h3 : role = 3
  · subst h3
    by_cases g3 : ro = 3
    · have f2b : (ro == 3) = true := by simp [g3]
      have f2n : (ro != 3) = false := by simp [g3]
      replace hY : Hid (Y = ⟨true, has, r, c, b, p, h, l, 3, 0, (raOp 3 0)⟩) := hY.out.trans (by rw [show waitR ro wa 3 = 0 by simp [waitR]])
      clear g3
      have P1' := P1
      have Q1' := Q1
      obtain ⟨⟨cp0, cp1, cp2, cp3, cp4, cp5, cp6, cp7, cp8, cp9, cp10⟩, cpf⟩ := P1
      obtain ⟨⟨cq0, cq1, cq2, cq3, cq4, cq5, cq6, cq7, cq8, cq9, cq10⟩, cqf⟩ := Q1
      go_wp2_with fail
      go_at_call 212
      obtain ⟨z, hz⟩ : ∃ z, z = ((w1.setCell ⟨w.heap.size, 9, none⟩ (.int .i64 0)).setCell ⟨w.heap.size, 8, none⟩ (.int .i64 3)) := ⟨_, rfl⟩
      have P2 := ((P1'.set9 0).set8 3)
      have Q2 : PBox ((w1.setCell ⟨w.heap.size, 9, none⟩ (.int .i64 0)).setCell ⟨w.heap.size, 8, none⟩ (.int .i64 3)) (w.heap.size + 1) ⟨false, false, 0, 0, 0, 0, 0, 0, 0, 0, false⟩ := ((Q1'.other (by omega)).other (by omega))
      have B2 : Below w.heap.size w z := by rw [hz]; exact ((B1.setCell (Nat.le_refl _) _).setCell (Nat.le_refl _) _)
      have S2 : w.heap.size + 1 < z.heap.size := by rw [hz]; simpa using S1
      rw [← hz] at P2 Q2 ⊢
      clear hz P1' Q1' B1 S1 cp0 cp1 cp2 cp3 cp4 cp5 cp6 cp7 cp8 cp9 cp10 cq0 cq1 cq2 cq3 cq4 cq5 cq6 cq7 cq8 cq9 cq10 cpf cqf
      refine (openS ⟨true, has, r, c, b, p, h, l, 3, 0, op⟩ z).mono ?_
      rintro e w3 ⟨rfl, k3⟩
      dsimp only
      have B3 := B2.trans (k3.mono B2.size)
      have S3 := Nat.lt_of_lt_of_le S2 k3.size
      replace P2 := P2.below k3 (by omega)
      have P3 := P2
      replace Q2 := Q2.below k3 (by omega)
      have Q3 := Q2
      clear P2 Q2 B2 S2 k3
      skip
      obtain ⟨⟨cq0, cq1, cq2, cq3, cq4, cq5, cq6, cq7, cq8, cq9, cq10⟩, cqf⟩ := Q3
      generalize raOp 3 0 = rop at hY ⊢
      go_wp2
      refine bodyPost_ret (v := .agg #[.bool true, .bool has, .int .i64 r, .int .i64 c, .int .i64 b, .int .i64 p, .int .i64 h, .int .i64 l, .int .i64 3, .int .i64 0, .bool rop]) (by simp [results, Tryz.results213, go_sem, *]) rfl ⟨by rw [hY.out], ?_⟩
      repeat' (first | with_reducible exact B3 | with_reducible refine Below.setCell ?_ (by simp <;> omega) _ | with_reducible refine Below.drew ?_)
    · have f2b : (ro == 3) = false := by simp [g3]
      have f2n : (ro != 3) = true := by simp [g3]
      replace hY : Hid (Y = ⟨true, has, r, c, b, p, h, l, 3, 0, (raOp 3 0)⟩) := hY.out.trans (by rw [show waitR ro wa 3 = 0 by simp [waitR]])
      clear g3
      have P1' := P1
      have Q1' := Q1
      obtain ⟨⟨cp0, cp1, cp2, cp3, cp4, cp5, cp6, cp7, cp8, cp9, cp10⟩, cpf⟩ := P1
      obtain ⟨⟨cq0, cq1, cq2, cq3, cq4, cq5, cq6, cq7, cq8, cq9, cq10⟩, cqf⟩ := Q1
      go_wp2_with fail
      go_at_call 212
      obtain ⟨z, hz⟩ : ∃ z, z = ((w1.setCell ⟨w.heap.size, 9, none⟩ (.int .i64 0)).setCell ⟨w.heap.size, 8, none⟩ (.int .i64 3)) := ⟨_, rfl⟩
      have P2 := ((P1'.set9 0).set8 3)
      have Q2 : PBox ((w1.setCell ⟨w.heap.size, 9, none⟩ (.int .i64 0)).setCell ⟨w.heap.size, 8, none⟩ (.int .i64 3)) (w.heap.size + 1) ⟨false, false, 0, 0, 0, 0, 0, 0, 0, 0, false⟩ := ((Q1'.other (by omega)).other (by omega))
      have B2 : Below w.heap.size w z := by rw [hz]; exact ((B1.setCell (Nat.le_refl _) _).setCell (Nat.le_refl _) _)
      have S2 : w.heap.size + 1 < z.heap.size := by rw [hz]; simpa using S1
      rw [← hz] at P2 Q2 ⊢
      clear hz P1' Q1' B1 S1 cp0 cp1 cp2 cp3 cp4 cp5 cp6 cp7 cp8 cp9 cp10 cq0 cq1 cq2 cq3 cq4 cq5 cq6 cq7 cq8 cq9 cq10 cpf cqf
      refine (openS ⟨true, has, r, c, b, p, h, l, 3, 0, op⟩ z).mono ?_
      rintro e w3 ⟨rfl, k3⟩
      dsimp only
      have B3 := B2.trans (k3.mono B2.size)
      have S3 := Nat.lt_of_lt_of_le S2 k3.size
      replace P2 := P2.below k3 (by omega)
      have P3 := P2
      replace Q2 := Q2.below k3 (by omega)
      have Q3 := Q2
      clear P2 Q2 B2 S2 k3
      skip
      obtain ⟨⟨cq0, cq1, cq2, cq3, cq4, cq5, cq6, cq7, cq8, cq9, cq10⟩, cqf⟩ := Q3
      generalize raOp 3 0 = rop at hY ⊢
      go_wp2
      refine bodyPost_ret (v := .agg #[.bool true, .bool has, .int .i64 r, .int .i64 c, .int .i64 b, .int .i64 p, .int .i64 h, .int .i64 l, .int .i64 3, .int .i64 0, .bool rop]) (by simp [results, Tryz.results213, go_sem, *]) rfl ⟨by rw [hY.out], ?_⟩
      repeat' (first | with_reducible exact B3 | with_reducible refine Below.setCell ?_ (by simp <;> omega) _ | with_reducible refine Below.drew ?_)
  · by_cases g3 : ro = 3
    · have f1b : (role == 3) = false := by simp [h3]
      have f1n : (role != 3) = true := by simp [h3]
      have f2b : (ro == 3) = true := by simp [g3]
      have f2n : (ro != 3) = false := by simp [g3]
      replace hY : Hid (Y = ⟨true, has, r, c, b, p, h, l, role, 4, (raOp role 4)⟩) := hY.out.trans (by rw [show waitR ro wa role = 4 by simp [waitR, h3, g3]])
      clear h3 g3
      have P1' := P1
      have Q1' := Q1
      obtain ⟨⟨cp0, cp1, cp2, cp3, cp4, cp5, cp6, cp7, cp8, cp9, cp10⟩, cpf⟩ := P1
      obtain ⟨⟨cq0, cq1, cq2, cq3, cq4, cq5, cq6, cq7, cq8, cq9, cq10⟩, cqf⟩ := Q1
      go_wp2_with fail
      go_at_call 212
      obtain ⟨z, hz⟩ : ∃ z, z = ((w1.setCell ⟨w.heap.size, 9, none⟩ (.int .i64 4)).setCell ⟨w.heap.size, 8, none⟩ (.int .i64 role)) := ⟨_, rfl⟩
      have P2 := ((P1'.set9 4).set8 role)
      have Q2 : PBox ((w1.setCell ⟨w.heap.size, 9, none⟩ (.int .i64 4)).setCell ⟨w.heap.size, 8, none⟩ (.int .i64 role)) (w.heap.size + 1) ⟨false, false, 0, 0, 0, 0, 0, 0, 0, 0, false⟩ := ((Q1'.other (by omega)).other (by omega))
      have B2 : Below w.heap.size w z := by rw [hz]; exact ((B1.setCell (Nat.le_refl _) _).setCell (Nat.le_refl _) _)
      have S2 : w.heap.size + 1 < z.heap.size := by rw [hz]; simpa using S1
      rw [← hz] at P2 Q2 ⊢
      clear hz P1' Q1' B1 S1 cp0 cp1 cp2 cp3 cp4 cp5 cp6 cp7 cp8 cp9 cp10 cq0 cq1 cq2 cq3 cq4 cq5 cq6 cq7 cq8 cq9 cq10 cpf cqf
      refine (openS ⟨true, has, r, c, b, p, h, l, role, 4, op⟩ z).mono ?_
      rintro e w3 ⟨rfl, k3⟩
      dsimp only
      have B3 := B2.trans (k3.mono B2.size)
      have S3 := Nat.lt_of_lt_of_le S2 k3.size
      replace P2 := P2.below k3 (by omega)
      have P3 := P2
      replace Q2 := Q2.below k3 (by omega)
      have Q3 := Q2
      clear P2 Q2 B2 S2 k3
      skip
      obtain ⟨⟨cq0, cq1, cq2, cq3, cq4, cq5, cq6, cq7, cq8, cq9, cq10⟩, cqf⟩ := Q3
      generalize raOp role 4 = rop at hY ⊢
      go_wp2
      refine bodyPost_ret (v := .agg #[.bool true, .bool has, .int .i64 r, .int .i64 c, .int .i64 b, .int .i64 p, .int .i64 h, .int .i64 l, .int .i64 role, .int .i64 4, .bool rop]) (by simp [results, Tryz.results213, go_sem, *]) rfl ⟨by rw [hY.out], ?_⟩
      repeat' (first | with_reducible exact B3 | with_reducible refine Below.setCell ?_ (by simp <;> omega) _ | with_reducible refine Below.drew ?_)
    · have f1b : (role == 3) = false := by simp [h3]
      have f1n : (role != 3) = true := by simp [h3]
      have f2b : (ro == 3) = false := by simp [g3]
      have f2n : (ro != 3) = true := by simp [g3]
      replace hY : Hid (Y = ⟨true, has, r, c, b, p, h, l, role, wa, (raOp role wa)⟩) := hY.out.trans (by rw [show waitR ro wa role = wa by simp [waitR, h3, g3]])
      clear h3 g3
      have P1' := P1
      have Q1' := Q1
      obtain ⟨⟨cp0, cp1, cp2, cp3, cp4, cp5, cp6, cp7, cp8, cp9, cp10⟩, cpf⟩ := P1
      obtain ⟨⟨cq0, cq1, cq2, cq3, cq4, cq5, cq6, cq7, cq8, cq9, cq10⟩, cqf⟩ := Q1
      go_wp2_with fail
      go_at_call 212
      obtain ⟨z, hz⟩ : ∃ z, z = (w1.setCell ⟨w.heap.size, 8, none⟩ (.int .i64 role)) := ⟨_, rfl⟩
      have P2 := (P1'.set8 role)
      have Q2 : PBox (w1.setCell ⟨w.heap.size, 8, none⟩ (.int .i64 role)) (w.heap.size + 1) ⟨false, false, 0, 0, 0, 0, 0, 0, 0, 0, false⟩ := (Q1'.other (by omega))
      have B2 : Below w.heap.size w z := by rw [hz]; exact (B1.setCell (Nat.le_refl _) _)
      have S2 : w.heap.size + 1 < z.heap.size := by rw [hz]; simpa using S1
      rw [← hz] at P2 Q2 ⊢
      clear hz P1' Q1' B1 S1 cp0 cp1 cp2 cp3 cp4 cp5 cp6 cp7 cp8 cp9 cp10 cq0 cq1 cq2 cq3 cq4 cq5 cq6 cq7 cq8 cq9 cq10 cpf cqf
      refine (openS ⟨true, has, r, c, b, p, h, l, role, wa, op⟩ z).mono ?_
      rintro e w3 ⟨rfl, k3⟩
      dsimp only
      have B3 := B2.trans (k3.mono B2.size)
      have S3 := Nat.lt_of_lt_of_le S2 k3.size
      replace P2 := P2.below k3 (by omega)
      have P3 := P2
      replace Q2 := Q2.below k3 (by omega)
      have Q3 := Q2
      clear P2 Q2 B2 S2 k3
      skip
      obtain ⟨⟨cq0, cq1, cq2, cq3, cq4, cq5, cq6, cq7, cq8, cq9, cq10⟩, cqf⟩ := Q3
      generalize raOp role wa = rop at hY ⊢
      go_wp2
      refine bodyPost_ret (v := .agg #[.bool true, .bool has, .int .i64 r, .int .i64 c, .int .i64 b, .int .i64 p, .int .i64 h, .int .i64 l, .int .i64 role, .int .i64 wa, .bool rop]) (by simp [results, Tryz.results213, go_sem, *]) rfl ⟨by rw [hY.out], ?_⟩
      repeat' (first | with_reducible exact B3 | with_reducible refine Below.setCell ?_ (by simp <;> omega) _ | with_reducible refine Below.drew ?_)

end Go.Proofs.YtnpiljegdiconaaGreat
namespace Go.Proofs.YtnpiljegdiconaaGreat
open Go.ChangeShapes Go.WideShapes Go.ChangeAt Go.RowKit
open Go.ChangeMaps (open_string shut_string)
set_option linter.unusedVariables false
set_option maxRecDepth 100000

theorem markd_same {X : Type} {mk : Nat → X} {L : List X} {k : Nat} (d : X) (h : k < L.length) (e : mk k = L.getD k d) : markd mk L (k + 1) = markd mk L k := by
  unfold markd
  rw [List.range_succ, List.map_append, List.drop_eq_getElem_cons h]
  simp [e, List.getD, h]
theorem pOk_down {x : Pt} (h : pOk x = true) (hu : x.up = false) : x.has = false := by
  cases hh : x.has
  · rfl
  · rw [(pOk_has h hh).1] at hu; cases hu
theorem root_has {id : Int} {L : List Pt} {k : Nat} {h : Pt} (hr : rootO id L = some k) (hh : L.getD k Pt.nil = h) : h.has = true := by
  have := (rootO_some hr).2.2
  rw [hh] at this
  simp only [cand, Bool.and_eq_true] at this
  exact this.1
set_option maxHeartbeats 8000000 in
theorem decideS (id : Int) (ad : Option Addr) (cap : Nat) (L : List Pt) (w : World) (hv : FView ptEnc w ad L) (hl : L.length ≤ 1048576) (hn : ad = none → cap = 0) :
    Calls Tryz.prog 184 #[.agg #[.int .i64 id, .slice ad L.length cap]] w fun e w' => ∃ ad' cap', e = .returned (.agg #[.int .i64 id, .slice ad' (decideR id L).length cap']) ∧ FOwn ptEnc 11 109 w.heap.size w' (.slice ad' (decideR id L).length cap') (decideR id L) ∧ Below w.heap.size w w' := by
  have hB := hv.lt ptEnc_len (by omega)
  obtain ⟨y, hy⟩ : ∃ y, y = (w.alloc (Obj.cells #[.int .i64 id, .slice ad L.length cap] 56)).alloc (Obj.cells #[.int .i64 0, .slice none 0 0] 56) := ⟨_, rfl⟩
  have B0 : Below w.heap.size w y := by rw [hy]; exact ((Below.refl _ _).alloc (Nat.le_refl _) _).alloc (by simp) _
  have A0 : BrAt y w.heap.size id (.slice ad L.length cap) := by rw [hy]; constructor <;> simp [go_sem]
  have R0 : BBox y (w.heap.size + 1) 0 (.slice none 0 0) := by rw [hy]; refine ⟨?_, fun i => ?_⟩; constructor <;> simp [go_sem]; simp [go_sem]
  have S0 := R0.lt
  have hv1 := hv.below B0 hB
  have hB1 := hv1.lt ptEnc_len (by omega)
  obtain ⟨D, hD⟩ : ∃ D, D = decideR id L := ⟨_, rfl⟩
  rw [← hD]
  replace hD : Hid _ := hD
  go_enter Tryz.func184, Tryz.ntmps184
  go_wp2_with fail
  go_at_call 135
  rw [← hy]
  clear hy hv hB
  refine (copS id ad cap L y hv1 hl hn).mono ?_
  rintro e w1 ⟨adN, capN, rfl, oN, k1⟩
  have B1 := B0.trans (k1.mono B0.size)
  have A1 := A0.below k1 (by omega)
  have R1 := R0.below k1 (by omega)
  have S1 : w.heap.size + 1 < w1.heap.size := R1.lt
  have hv2 := hv1.below k1 hB1
  have hB2 := hv2.lt ptEnc_len (by omega)
  have bt : ∀ a, ad = some a → 0 < L.length → a.block < y.heap.size := hB1
  clear A0 R0 hv1 hB1
  obtain ⟨y2, hy2⟩ : ∃ y_, y_ = w1.alloc (Obj.cells #[.int .i64 id, .slice adN L.length capN] 56) := ⟨_, rfl⟩
  have kn : Below w1.heap.size w1 y2 := by rw [hy2]; exact below_new _
  have N2 : BBox y2 w1.heap.size id (.slice adN L.length capN) := by rw [hy2]; exact BBox.new w1 _ _ _
  have A2 := A1.below kn (by omega)
  have R2 := R1.below kn (by omega)
  have B2 := B1.trans (kn.mono B1.size)
  have K2 : Below y.heap.size y y2 := k1.trans (kn.mono k1.size)
  have hv3 := hv2.below kn hB2
  have hB3 := hv3.lt ptEnc_len (by omega)
  have o2 := oN.later kn
  have S2 := N2.lt
  have og : ∀ g, (Value.slice adN L.length capN).ownBlock = some g → y.heap.size ≤ g ∧ g < w1.heap.size := fun g e => oN.lt g e
  clear oN k1 hv2 hB2 B1
  go_upto_region 2 with fail
  rw [← hy2]
  clear hy2 A1 kn
  generalize w1.heap.size = N at S1 N2 S2 og ⊢
  obtain ⟨a0, a1⟩ := A2
  have A2 : BrAt y2 w.heap.size id (.slice ad L.length cap) := ⟨a0, a1⟩
  go_wp2_with fail
  go_at_call 81
  clear a0 a1
  refine (bOkS id ad cap L y2 hv3 hl).mono ?_
  rintro e w3 ⟨rfl, k3⟩
  have B3 := B2.trans (k3.mono B2.size)
  have K3 := K2.trans (k3.mono K2.size)
  have A3 := A2.below k3 (by omega)
  have R3 := R2.below k3 (by omega)
  have N3 := N2.below k3 S2
  have hv4 := hv3.below k3 hB3
  have o3 := o2.later k3
  have S3 := N3.lt
  clear k3 A2 R2 N2 hv3 hB3 o2 B2 K2
  cases hb : bOk id L with
  | false =>
    have hN : Hid (D = L) := by unfold Hid; rw [hD.out]; unfold decideR; rw [hb]; rfl
    clear hD
    have RP := R3.put id (.slice adN L.length capN)
    obtain ⟨⟨r0, r1⟩, rf⟩ := R3
    obtain ⟨⟨n0, n1⟩, nf⟩ := N3
    have BZ : Below w.heap.size w ((w3.setCell ⟨w.heap.size + 1, 0, none⟩ (.int .i64 id)).setCell ⟨w.heap.size + 1, 1, none⟩ (.slice adN L.length capN)) := (B3.setCell (by show _ ≤ w.heap.size + 1; omega) _).setCell (by show _ ≤ w.heap.size + 1; omega) _
    have OZ : FOwn ptEnc 11 109 w.heap.size ((w3.setCell ⟨w.heap.size + 1, 0, none⟩ (.int .i64 id)).setCell ⟨w.heap.size + 1, 1, none⟩ (.slice adN L.length capN)) (.slice adN L.length capN) L := (o3.base (by omega)).keep fun g e => by
      have := og g e
      rw [Below.heap_setCell _ _ _ _ (by show g ≠ w.heap.size + 1; omega), Below.heap_setCell _ _ _ _ (by show g ≠ w.heap.size + 1; omega)]
    obtain ⟨⟨p0, p1⟩, _⟩ := RP
    clear og bt
    go_wp2
    refine bodyPost_ret (v := .agg #[.int .i64 id, .slice adN L.length capN]) (by simp [results, Tryz.results184, go_sem, *]) rfl ⟨adN, capN, by rw [hN.out], by rw [hN.out]; exact OZ, BZ⟩
  | true =>
    have hlen := (bOk_all hb).2.1
    obtain ⟨g, rfl, hg1, hg2⟩ := o3.row (by omega)
    have hg3 : g < N := (og g rfl).2
    have hD2 : Hid (D = (List.range L.length).map fun i => turnUp (L.getD i Pt.nil) (roleR id L i)) := by unfold Hid; rw [hD.out]; unfold decideR; rw [hb]; rfl
    replace hb : Hid _ := hb
    obtain ⟨f, hf⟩ : ∃ f : Nat → Pt, f = fun i => turnUp (L.getD i Pt.nil) (roleR id L i) := ⟨_, rfl⟩
    rw [← hf] at hD2
    replace hD2 : Hid _ := hD2
    have hfk : ∀ i, turnUp (L.getD i Pt.nil) (roleR id L i) = f i := fun i => by rw [hf]
    clear hf hD og
    replace hfk : Hid _ := hfk
    have M0 : FOwn ptEnc 11 109 y.heap.size w3 (.slice (some ⟨g, 0, none⟩) L.length capN) (markd f L 0) := by rw [markd_zero]; exact o3
    clear o3
    obtain ⟨a0, a1⟩ := A3
    have A3 : BrAt w3 w.heap.size id (.slice ad L.length cap) := ⟨a0, a1⟩
    go_wp2_with fail
    go_at_call 185
    refine (rootPS id ad cap L w3 hv4 hl).mono ?_
    rintro e w4 ⟨rfl, k4⟩
    have A3 := A3.below k4 (by omega)
    have N3 := N3.below k4 S3
    have M0 := M0.later k4
    have K3 := K3.trans (k4.mono K3.size)
    have R3 := R3.below k4 (by omega)
    have hv4 := hv4.below k4 (hv4.lt ptEnc_len (by omega))
    have S3 := N3.lt
    clear a0 a1 k4 B3
    obtain ⟨q, hq⟩ : ∃ q, q = oI (rootO id L) := ⟨_, rfl⟩
    rw [← hq]
    replace hq : Hid _ := hq
    obtain ⟨iss, hiss⟩ : ∃ iss, iss = (rootO id L).isSome := ⟨_, rfl⟩
    rw [← hiss]
    clear hiss
    have AY : BrAt y w.heap.size id (.slice ad L.length cap) := A3.keep (K3.block _ (by omega)).symm
    have RY : BBox y (w.heap.size + 1) 0 (.slice none 0 0) := R3.keep (K3.block _ S0).symm
    have hvy : FView ptEnc y ad L := hv4.carry fun a e p => (K3.block _ (bt a e p)).symm
    go_wp2
    clear A3 R3 hv4
    go_loopw [6] (fun i wr => ∃ k : Nat, k ≤ L.length ∧ i = .int .i64 (k : Int) ∧ FOwn ptEnc 11 109 y.heap.size wr (.slice (some ⟨g, 0, none⟩) L.length capN) (markd f L k) ∧ BBox wr N id (.slice (some ⟨g, 0, none⟩) L.length capN) ∧ Below y.heap.size y wr) (fun i _ => L.length - (intOf i).toNat)
    case atStart => exact ⟨0, Nat.zero_le _, rfl, M0, N3, K3⟩
    case round =>
      obtain ⟨k, hk, rfl, M, N4, K4⟩ := hrel
      have A4 := AY.below K4 (by omega)
      have R4 := RY.below K4 S0
      have B4 := B0.trans (K4.mono B0.size)
      have S4 := N4.lt
      obtain ⟨a0, a1⟩ := A4
      by_cases hlt : k < L.length
      · have hv5 := hvy.below K4 bt
        obtain ⟨bk, off, rfl, _⟩ := hv5 (by omega)
        obtain ⟨h, hh⟩ : ∃ h, L.getD k Pt.nil = h := ⟨_, rfl⟩
        obtain ⟨c0, c1, c2, c3, c4, c5, c6, c7, c8, c9, c10⟩ : PtAtO wr bk (off + k * 11) h := by rw [← hh]; exact ptAtO_of (hv5.at_ ptEnc_len Pt.nil hlt)
        have hok : Hid (pOk h = true) := by unfold Hid; rw [← hh]; exact (bOk_all hb.out).2.2 k
        obtain ⟨z, hz⟩ : ∃ z, z = f k := ⟨_, rfl⟩
        have hz2 : Hid (turnUp h (roleR id L k) = z) := by unfold Hid; rw [hz, ← hh]; exact hfk.out k
        replace hz : Hid _ := hz
        replace hh : Hid _ := hh
        obtain ⟨y5, hy5⟩ : ∃ y_, y_ = wr.alloc (Obj.cells #[.bool h.up, .bool h.has, .int .i64 h.r, .int .i64 h.c, .int .i64 h.b, .int .i64 h.p, .int .i64 h.h, .int .i64 h.l, .int .i64 h.ro, .int .i64 h.wa, .bool h.op] 109) := ⟨_, rfl⟩
        have P5 : PtAt y5 wr.heap.size h := by rw [hy5]; exact ptAt_box wr _ _
        have kn : Below wr.heap.size wr y5 := by rw [hy5]; exact below_new _
        have A5 := BrAt.below ⟨a0, a1⟩ kn (by omega)
        have N5 := N4.below kn S4
        have M5 := M.later kn
        have hv6 := hv5.below kn (hv5.lt ptEnc_len (by omega))
        have hB6 := hv6.lt ptEnc_len (by omega)
        have K5 := K4.trans (kn.mono K4.size)
        have S5 := P5.lt
        have hgw : g < wr.heap.size := (M.lt g rfl).2
        go_upto_region 10 with fail
        rw [← hy5]
        clear hy5 a0 a1 c0 c1 c2 c3 c4 c5 c6 c7 c8 c9 c10 kn M N4 hv5
        generalize wr.heap.size = Q at P5 S4 S5 hgw ⊢
        have hdk : ∀ b : Bool, decide (rootO id L = some k) = b → ((k : Int) == q) = b := by
          intro b hb'
          rw [hq.out, ← hb']
          cases ho : rootO id L with
          | none =>
            rw [decide_eq_false (by simp)]
            simp only [oI, beq_eq_false_iff_ne, ne_eq]; omega
          | some j =>
            by_cases e : j = k
            · subst e
              simp [oI]
            · rw [decide_eq_false (by simpa using e)]
              simp only [oI, beq_eq_false_iff_ne, ne_eq]; omega
        replace hdk : Hid _ := hdk
        obtain ⟨e0, e1, e2, e3, e4, e5, e6, e7, e8, e9, e10⟩ := P5
        have P5 : PtAt y5 Q h := ⟨e0, e1, e2, e3, e4, e5, e6, e7, e8, e9, e10⟩
        cases hu : h.up with
        | false =>
          have hhas : h.has = false := pOk_down hok.out hu
          have dk : ((k : Int) == q) = false := hdk.out false (decide_eq_false (fun e => by have := root_has e hh.out; rw [hhas] at this; cases this))
          rw [hu] at e0
          have MN : FOwn ptEnc 11 109 y.heap.size y5 (.slice (some ⟨g, 0, none⟩) L.length capN) (markd f L (k + 1)) := by
            rw [markd_same Pt.nil hlt (by rw [← hz.out, ← hz2.out, hh.out]; unfold turnUp; rw [hu]; rfl)]
            exact M5
          replace MN : Hid _ := MN
          go_upto_region 12 with fail
          refine wp_region_held (S := fun Y => Below y5.heap.size y5 Y) (by kernel_rfl) ?_
          change wpAnyH _ _ _ _ _ _ _ _ (World.drew _)
          have hb0 : Below y5.heap.size y5 y5.drew := (Below.refl _ _).drew
          obtain ⟨u0, hy0⟩ : ∃ y_, y_ = y5.drew := ⟨_, rfl⟩
          rw [← hy0] at hb0 ⊢
          clear hy0
          refine takeW 0 35 (.pointer (some ⟨Q, 1, none⟩)) rfl rfl (by kernel_rfl) (by kernel_rfl) (by kernel_rfl) (fun _ _ _ h => h) (by kernel_rfl) (by (intro w hSw; go_simp)) (by assumption) ?_
          simp only [List.set_cons_zero, List.set_cons_succ]
          refine takeW 1 36 (.bool false) rfl rfl (by kernel_rfl) (by kernel_rfl) (by kernel_rfl) (fun _ _ _ h => h) (by kernel_rfl) (by (intro Y hSw; obtain ⟨X0, X1, X2, X3, X4, X5, X6, X7, X8, X9, X10⟩ := P5.below hSw (by omega); go_simp)) (by assumption) ?_
          simp only [List.set_cons_zero, List.set_cons_succ]
          refine takeW 2 37 (.bool false) rfl rfl (by kernel_rfl) (by kernel_rfl) (by kernel_rfl) (fun _ _ _ h => h) (by kernel_rfl) (by (intro w hSw; go_simp)) (by assumption) ?_
          simp only [List.set_cons_zero, List.set_cons_succ]
          refine takeS 3 38 rfl rfl (by kernel_rfl) (by kernel_rfl) (by kernel_rfl) (fun _ _ _ h => h) (by kernel_rfl) (by assumption) ?_
          simp only [List.set_cons_zero, List.set_cons_succ]
          refine takeS 4 39 rfl rfl (by kernel_rfl) (by kernel_rfl) (by kernel_rfl) (fun _ _ _ h => h) (by kernel_rfl) (by assumption) ?_
          simp only [List.set_cons_zero, List.set_cons_succ]
          refine takeS 5 40 rfl rfl (by kernel_rfl) (by kernel_rfl) (by kernel_rfl) (fun _ _ _ h => h) (by kernel_rfl) (by assumption) ?_
          simp only [List.set_cons_zero, List.set_cons_succ]
          refine takeS 6 41 rfl rfl (by kernel_rfl) (by kernel_rfl) (by kernel_rfl) (fun _ _ _ h => h) (by kernel_rfl) (by assumption) ?_
          simp only [List.set_cons_zero, List.set_cons_succ]
          refine takeS 7 42 rfl rfl (by kernel_rfl) (by kernel_rfl) (by kernel_rfl) (fun _ _ _ h => h) (by kernel_rfl) (by assumption) ?_
          simp only [List.set_cons_zero, List.set_cons_succ]
          refine takeS 8 43 rfl rfl (by kernel_rfl) (by kernel_rfl) (by kernel_rfl) (fun _ _ _ h => h) (by kernel_rfl) (by assumption) ?_
          simp only [List.set_cons_zero, List.set_cons_succ]
          refine takeW 9 44 (.bool false) rfl rfl (by kernel_rfl) (by kernel_rfl) (by kernel_rfl) (fun _ _ _ h => h) (by kernel_rfl) (by (intro w hSw; go_simp)) (by assumption) ?_
          simp only [List.set_cons_zero, List.set_cons_succ]
          refine wpAnyH_done (by kernel_rfl) ?_ _
          obtain ⟨x0, x1, x2, x3, x4, x5, x6, x7, x8, x9, x10⟩ := P5.below hb0 (by omega)
          rw [hu] at x0
          go_wp2
          go_roundw
          case rel => exact ⟨k + 1, by omega, by go_num, FOwn.below MN.out hb0 (fun g' e => by obtain rfl : g = g' := (by simpa [Value.ownBlock] using e); omega), N5.below hb0 (by omega), K5.trans (hb0.mono K5.size)⟩
          case measure => simp [intOf]; omega
        | true =>
          rw [hu] at e0
          replace hu : Hid _ := hu
          by_cases hr : rootO id L = some k
          · have dk : ((k : Int) == q) = true := hdk.out true (decide_eq_true hr)
            have hro : Hid (roleR id L k = 1) := by unfold Hid roleR; rw [if_pos hr]
            have hz3 : Hid (turnR h 1 = z) := by unfold Hid; rw [turnR_up, ← hz2.out, hro.out]
            go_upto_region 15 with fail
            clear e0 e1 e2 e3 e4 e5 e6 e7 e8 e9 e10
            refine wp_region_held (S := fun Y => Bar g y5.heap.size y5 Y) (by kernel_rfl) ?_
            change wpAnyH _ _ _ _ _ _ _ _ (World.drew _)
            have hb0 : Below y5.heap.size y5 y5.drew := (Below.refl _ _).drew
            obtain ⟨u0, hy0⟩ : ∃ y_, y_ = y5.drew := ⟨_, rfl⟩
            rw [← hy0] at hb0 ⊢
            clear hy0
            have hS0 : Bar g y5.heap.size y5 u0 := Bar.of hb0
            refine takeW 0 47 (.pointer (some ⟨N, 1, none⟩)) rfl rfl (by kernel_rfl) (by kernel_rfl) (by kernel_rfl) (fun _ _ _ h => h) (by kernel_rfl) (by (intro w hSw; go_simp)) (by assumption) ?_
            simp only [List.set_cons_zero, List.set_cons_succ]
            refine takeW 1 48 (.slice (some ⟨g, 0, none⟩) L.length capN) rfl rfl (by kernel_rfl) (by kernel_rfl) (by kernel_rfl) (fun _ _ _ h => h) (by kernel_rfl) (by (intro Y hSw; obtain ⟨X0, X1⟩ := N5.at_.bar hSw (by omega) (by omega); go_simp)) (by assumption) ?_
            simp only [List.set_cons_zero, List.set_cons_succ]
            refine takeW 2 49 (.int .i64 (k : Int)) rfl rfl (by kernel_rfl) (by kernel_rfl) (by kernel_rfl) (fun _ _ _ h => h) (by kernel_rfl) (by (intro w hSw; go_simp)) (by assumption) ?_
            simp only [List.set_cons_zero, List.set_cons_succ]
            refine takeW 3 50 (.agg #[.bool h.up, .bool h.has, .int .i64 h.r, .int .i64 h.c, .int .i64 h.b, .int .i64 h.p, .int .i64 h.h, .int .i64 h.l, .int .i64 h.ro, .int .i64 h.wa, .bool h.op]) rfl rfl (by kernel_rfl) (by kernel_rfl) (by kernel_rfl) (fun _ _ _ h => h) (by kernel_rfl) (by (intro Y hSw; obtain ⟨X0, X1, X2, X3, X4, X5, X6, X7, X8, X9, X10⟩ := P5.bar hSw (by omega) (by omega); go_simp)) (by assumption) ?_
            simp only [List.set_cons_zero, List.set_cons_succ]
            refine takeW 4 51 (.int .i64 1) rfl rfl (by kernel_rfl) (by kernel_rfl) (by kernel_rfl) (fun _ _ _ h => h) (by kernel_rfl) (by (intro w hSw; go_simp)) (by assumption) ?_
            simp only [List.set_cons_zero, List.set_cons_succ]
            refine wpAnyH_all (rs := [5]) (by kernel_rfl) (by simp) ?_
            intro i hi; obtain rfl : i = 5 := by simpa using hi
            refine wpOp_step rfl (fun K hK => ?_)
            rw [if_pos (by kernel_rfl)]
            go_simp
            go_at_call 213
            refine (turnS h 1 u0).mono ?_
            rintro e u1 ⟨rfl, kq⟩
            have hb1 : Below y5.heap.size y5 u1 := hb0.trans (kq.mono hb0.size)
            clear kq
            rw [hz3.out]
            have hS1 : Bar g y5.heap.size y5 u1 := Bar.of hb1
            refine hK _ _ ⟨Bar.of hb1, ?_⟩
            clear hK K hi
            refine takeW 6 53 (.pointer (some ⟨g, k * 11, none⟩)) rfl rfl (by kernel_rfl) (by kernel_rfl) (by kernel_rfl) (fun _ _ _ h => h) (by kernel_rfl) (by (intro Y hSw; go_simp; try omega)) (by assumption) ?_
            simp only [List.set_cons_zero, List.set_cons_succ]
            refine wpAnyH_all (rs := [7]) (by kernel_rfl) (by simp) ?_
            intro i hi; obtain rfl : i = 7 := by simpa using hi
            refine wpOp_step rfl (fun K hK => ?_)
            rw [if_pos (by kernel_rfl)]
            have MU : FOwn ptEnc 11 109 y.heap.size u1 (.slice (some ⟨g, 0, none⟩) L.length capN) (markd f L k) := M5.below hb1 (fun g' e => by obtain rfl : g = g' := (by simpa [Value.ownBlock] using e); omega)
            have hml : (markd f L k).length = L.length := markd_len hk
            rw [← hml] at MU
            obtain ⟨t0, t1, t2, t3, t4, t5, t6, t7, t8, t9, t10⟩ : PtAtO u1 g (k * 11) ((markd f L k).getD k Pt.nil) := ptAtO_of (MU.cell ptEnc_len Pt.nil (by rw [hml]; exact hlt))
            have ff := MU.frozen
            have f0 := ff (k * 11)
            have f1 := ff (k * 11 + 1)
            have f2 := ff (k * 11 + 2)
            have f3 := ff (k * 11 + 3)
            have f4 := ff (k * 11 + 4)
            have f5 := ff (k * 11 + 5)
            have f6 := ff (k * 11 + 6)
            have f7 := ff (k * 11 + 7)
            have f8 := ff (k * 11 + 8)
            have f9 := ff (k * 11 + 9)
            have f10 := ff (k * 11 + 10)
            have MS := MU.set ptEnc_len (by omega) (i := k) (by rw [hml]; exact hlt) z
            rw [hz.out, markd_set hlt, ptPut, hml, ← hz.out] at MS
            have SB := Bar.putAll (o := k * 11) (ptEnc z) (Bar.of (g := g) hb1)
            rw [ptPut] at SB
            have BB := below_putAll (B := y.heap.size) hg1 (ptEnc z) (k * 11) (K5.trans (hb1.mono K5.size))
            rw [ptPut] at BB
            clear hml ff MU
            obtain ⟨uf, huf⟩ : ∃ y_, y_ = (((((((((((u1.setCell ⟨g, k * 11, none⟩ (.bool z.up)).setCell ⟨g, k * 11 + 1, none⟩ (.bool z.has)).setCell ⟨g, k * 11 + 2, none⟩ (.int .i64 z.r)).setCell ⟨g, k * 11 + 3, none⟩ (.int .i64 z.c)).setCell ⟨g, k * 11 + 4, none⟩ (.int .i64 z.b)).setCell ⟨g, k * 11 + 5, none⟩ (.int .i64 z.p)).setCell ⟨g, k * 11 + 6, none⟩ (.int .i64 z.h)).setCell ⟨g, k * 11 + 7, none⟩ (.int .i64 z.l)).setCell ⟨g, k * 11 + 8, none⟩ (.int .i64 z.ro)).setCell ⟨g, k * 11 + 9, none⟩ (.int .i64 z.wa)).setCell ⟨g, k * 11 + 10, none⟩ (.bool z.op)) := ⟨_, rfl⟩
            rw [← huf] at MS SB BB
            go_simp
            rw [← huf]
            have NF := N5.at_.bar SB (by omega) (by omega)
            have NFF : BBox uf N id (.slice (some ⟨g, 0, none⟩) L.length capN) := N5.keep (SB.block N (by omega) (by omega))
            clear huf t0 f0 t1 f1 t2 f2 t3 f3 t4 f4 t5 f5 t6 f6 t7 f7 t8 f8 t9 f9 t10 f10 NF
            refine hK _ _ ⟨SB, ?_⟩
            clear hK K hi
            refine wpAnyH_done (by kernel_rfl) ?_ _
            go_wp2
            go_roundw
            case rel => exact ⟨k + 1, by omega, by go_num, MS, NFF, BB⟩
            case measure => simp [intOf]; omega
          have dk : ((k : Int) == q) = false := hdk.out false (decide_eq_false hr)
          have hρ2 : Hid (roleR id L k = if h.has && vLt h.r h.c h.b h.p (ownR id L k).1 (ownR id L k).2.1 (ownR id L k).2.2.1 (ownR id L k).2.2.2 then 3 else 2) := by unfold Hid; unfold roleR; rw [if_neg hr, hh.out]
          replace hr : Hid _ := hr
          go_upto_region 12 with fail
          clear e0 e1 e2 e3 e4 e5 e6 e7 e8 e9 e10
          cases hhas : h.has with
          | false =>
            have hro : Hid (roleR id L k = 2) := by unfold Hid; rw [hρ2.out, hhas]; rfl
            have hz3 : Hid (turnR h 2 = z) := by unfold Hid; rw [turnR_up, ← hz2.out, hro.out]
            refine wp_region_held (S := fun Y => Below y5.heap.size y5 Y) (by kernel_rfl) ?_
            change wpAnyH _ _ _ _ _ _ _ _ (World.drew _)
            have hb0 : Below y5.heap.size y5 y5.drew := (Below.refl _ _).drew
            obtain ⟨u0, hy0⟩ : ∃ y_, y_ = y5.drew := ⟨_, rfl⟩
            rw [← hy0] at hb0 ⊢
            clear hy0
            refine takeW 0 35 (.pointer (some ⟨Q, 1, none⟩)) rfl rfl (by kernel_rfl) (by kernel_rfl) (by kernel_rfl) (fun _ _ _ h => h) (by kernel_rfl) (by (intro w hSw; go_simp)) (by assumption) ?_
            simp only [List.set_cons_zero, List.set_cons_succ]
            refine takeW 1 36 (.bool false) rfl rfl (by kernel_rfl) (by kernel_rfl) (by kernel_rfl) (fun _ _ _ h => h) (by kernel_rfl) (by (intro Y hSw; obtain ⟨X0, X1, X2, X3, X4, X5, X6, X7, X8, X9, X10⟩ := P5.below hSw (by omega); go_simp)) (by assumption) ?_
            simp only [List.set_cons_zero, List.set_cons_succ]
            refine takeW 2 37 (.bool false) rfl rfl (by kernel_rfl) (by kernel_rfl) (by kernel_rfl) (fun _ _ _ h => h) (by kernel_rfl) (by (intro w hSw; go_simp)) (by assumption) ?_
            simp only [List.set_cons_zero, List.set_cons_succ]
            refine takeS 3 38 rfl rfl (by kernel_rfl) (by kernel_rfl) (by kernel_rfl) (fun _ _ _ h => h) (by kernel_rfl) (by assumption) ?_
            simp only [List.set_cons_zero, List.set_cons_succ]
            refine takeS 4 39 rfl rfl (by kernel_rfl) (by kernel_rfl) (by kernel_rfl) (fun _ _ _ h => h) (by kernel_rfl) (by assumption) ?_
            simp only [List.set_cons_zero, List.set_cons_succ]
            refine takeS 5 40 rfl rfl (by kernel_rfl) (by kernel_rfl) (by kernel_rfl) (fun _ _ _ h => h) (by kernel_rfl) (by assumption) ?_
            simp only [List.set_cons_zero, List.set_cons_succ]
            refine takeS 6 41 rfl rfl (by kernel_rfl) (by kernel_rfl) (by kernel_rfl) (fun _ _ _ h => h) (by kernel_rfl) (by assumption) ?_
            simp only [List.set_cons_zero, List.set_cons_succ]
            refine takeS 7 42 rfl rfl (by kernel_rfl) (by kernel_rfl) (by kernel_rfl) (fun _ _ _ h => h) (by kernel_rfl) (by assumption) ?_
            simp only [List.set_cons_zero, List.set_cons_succ]
            refine takeS 8 43 rfl rfl (by kernel_rfl) (by kernel_rfl) (by kernel_rfl) (fun _ _ _ h => h) (by kernel_rfl) (by assumption) ?_
            simp only [List.set_cons_zero, List.set_cons_succ]
            refine takeW 9 44 (.bool false) rfl rfl (by kernel_rfl) (by kernel_rfl) (by kernel_rfl) (fun _ _ _ h => h) (by kernel_rfl) (by (intro w hSw; go_simp)) (by assumption) ?_
            simp only [List.set_cons_zero, List.set_cons_succ]
            refine wpAnyH_done (by kernel_rfl) ?_ _
            obtain ⟨y6, hy6⟩ : ∃ y_, y_ = u0 := ⟨_, rfl⟩
            rw [← hy6] at hb0 ⊢
            clear hy6
            have P5 := P5.below hb0 (by omega)
            have A5 := A5.below hb0 (by omega)
            have N5 := N5.below hb0 (by omega)
            have K5 := K5.trans (hb0.mono K5.size)
            have M5 := M5.below hb0 (fun g' e => by obtain rfl : g = g' := (by simpa [Value.ownBlock] using e); omega)
            have S5 := P5.lt
            have S6 := N5.lt
            obtain ⟨x0, x1, x2, x3, x4, x5, x6, x7, x8, x9, x10⟩ := P5
            have P5 : PtAt y6 Q h := ⟨x0, x1, x2, x3, x4, x5, x6, x7, x8, x9, x10⟩
            rw [hu.out] at x0
            replace hhas : Hid _ := hhas
            go_upto_region 15 with fail
            clear x0 x1 x2 x3 x4 x5 x6 x7 x8 x9 x10 hb0
            refine wp_region_held (S := fun Y => Bar g y6.heap.size y6 Y) (by kernel_rfl) ?_
            change wpAnyH _ _ _ _ _ _ _ _ (World.drew _)
            have hb0 : Below y6.heap.size y6 y6.drew := (Below.refl _ _).drew
            obtain ⟨u0, hy0⟩ : ∃ y_, y_ = y6.drew := ⟨_, rfl⟩
            rw [← hy0] at hb0 ⊢
            clear hy0
            have hS0 : Bar g y6.heap.size y6 u0 := Bar.of hb0
            refine takeW 0 47 (.pointer (some ⟨N, 1, none⟩)) rfl rfl (by kernel_rfl) (by kernel_rfl) (by kernel_rfl) (fun _ _ _ h => h) (by kernel_rfl) (by (intro w hSw; go_simp)) (by assumption) ?_
            simp only [List.set_cons_zero, List.set_cons_succ]
            refine takeW 1 48 (.slice (some ⟨g, 0, none⟩) L.length capN) rfl rfl (by kernel_rfl) (by kernel_rfl) (by kernel_rfl) (fun _ _ _ h => h) (by kernel_rfl) (by (intro Y hSw; obtain ⟨X0, X1⟩ := N5.at_.bar hSw (by omega) (by omega); go_simp)) (by assumption) ?_
            simp only [List.set_cons_zero, List.set_cons_succ]
            refine takeW 2 49 (.int .i64 (k : Int)) rfl rfl (by kernel_rfl) (by kernel_rfl) (by kernel_rfl) (fun _ _ _ h => h) (by kernel_rfl) (by (intro w hSw; go_simp)) (by assumption) ?_
            simp only [List.set_cons_zero, List.set_cons_succ]
            refine takeW 3 50 (.agg #[.bool h.up, .bool h.has, .int .i64 h.r, .int .i64 h.c, .int .i64 h.b, .int .i64 h.p, .int .i64 h.h, .int .i64 h.l, .int .i64 h.ro, .int .i64 h.wa, .bool h.op]) rfl rfl (by kernel_rfl) (by kernel_rfl) (by kernel_rfl) (fun _ _ _ h => h) (by kernel_rfl) (by (intro Y hSw; obtain ⟨X0, X1, X2, X3, X4, X5, X6, X7, X8, X9, X10⟩ := P5.bar hSw (by omega) (by omega); go_simp)) (by assumption) ?_
            simp only [List.set_cons_zero, List.set_cons_succ]
            refine takeW 4 51 (.int .i64 2) rfl rfl (by kernel_rfl) (by kernel_rfl) (by kernel_rfl) (fun _ _ _ h => h) (by kernel_rfl) (by (intro w hSw; go_simp)) (by assumption) ?_
            simp only [List.set_cons_zero, List.set_cons_succ]
            refine wpAnyH_all (rs := [5]) (by kernel_rfl) (by simp) ?_
            intro i hi; obtain rfl : i = 5 := by simpa using hi
            refine wpOp_step rfl (fun K hK => ?_)
            rw [if_pos (by kernel_rfl)]
            go_simp
            go_at_call 213
            refine (turnS h 2 u0).mono ?_
            rintro e u1 ⟨rfl, kq⟩
            have hb1 : Below y6.heap.size y6 u1 := hb0.trans (kq.mono hb0.size)
            clear kq
            rw [hz3.out]
            have hS1 : Bar g y6.heap.size y6 u1 := Bar.of hb1
            refine hK _ _ ⟨Bar.of hb1, ?_⟩
            clear hK K hi
            refine takeW 6 53 (.pointer (some ⟨g, k * 11, none⟩)) rfl rfl (by kernel_rfl) (by kernel_rfl) (by kernel_rfl) (fun _ _ _ h => h) (by kernel_rfl) (by (intro Y hSw; go_simp; try omega)) (by assumption) ?_
            simp only [List.set_cons_zero, List.set_cons_succ]
            refine wpAnyH_all (rs := [7]) (by kernel_rfl) (by simp) ?_
            intro i hi; obtain rfl : i = 7 := by simpa using hi
            refine wpOp_step rfl (fun K hK => ?_)
            rw [if_pos (by kernel_rfl)]
            have MU : FOwn ptEnc 11 109 y.heap.size u1 (.slice (some ⟨g, 0, none⟩) L.length capN) (markd f L k) := M5.below hb1 (fun g' e => by obtain rfl : g = g' := (by simpa [Value.ownBlock] using e); omega)
            have hml : (markd f L k).length = L.length := markd_len hk
            rw [← hml] at MU
            obtain ⟨t0, t1, t2, t3, t4, t5, t6, t7, t8, t9, t10⟩ : PtAtO u1 g (k * 11) ((markd f L k).getD k Pt.nil) := ptAtO_of (MU.cell ptEnc_len Pt.nil (by rw [hml]; exact hlt))
            have ff := MU.frozen
            have f0 := ff (k * 11)
            have f1 := ff (k * 11 + 1)
            have f2 := ff (k * 11 + 2)
            have f3 := ff (k * 11 + 3)
            have f4 := ff (k * 11 + 4)
            have f5 := ff (k * 11 + 5)
            have f6 := ff (k * 11 + 6)
            have f7 := ff (k * 11 + 7)
            have f8 := ff (k * 11 + 8)
            have f9 := ff (k * 11 + 9)
            have f10 := ff (k * 11 + 10)
            have MS := MU.set ptEnc_len (by omega) (i := k) (by rw [hml]; exact hlt) z
            rw [hz.out, markd_set hlt, ptPut, hml, ← hz.out] at MS
            have SB := Bar.putAll (o := k * 11) (ptEnc z) (Bar.of (g := g) hb1)
            rw [ptPut] at SB
            have BB := below_putAll (B := y.heap.size) hg1 (ptEnc z) (k * 11) (K5.trans (hb1.mono K5.size))
            rw [ptPut] at BB
            clear hml ff MU
            obtain ⟨uf, huf⟩ : ∃ y_, y_ = (((((((((((u1.setCell ⟨g, k * 11, none⟩ (.bool z.up)).setCell ⟨g, k * 11 + 1, none⟩ (.bool z.has)).setCell ⟨g, k * 11 + 2, none⟩ (.int .i64 z.r)).setCell ⟨g, k * 11 + 3, none⟩ (.int .i64 z.c)).setCell ⟨g, k * 11 + 4, none⟩ (.int .i64 z.b)).setCell ⟨g, k * 11 + 5, none⟩ (.int .i64 z.p)).setCell ⟨g, k * 11 + 6, none⟩ (.int .i64 z.h)).setCell ⟨g, k * 11 + 7, none⟩ (.int .i64 z.l)).setCell ⟨g, k * 11 + 8, none⟩ (.int .i64 z.ro)).setCell ⟨g, k * 11 + 9, none⟩ (.int .i64 z.wa)).setCell ⟨g, k * 11 + 10, none⟩ (.bool z.op)) := ⟨_, rfl⟩
            rw [← huf] at MS SB BB
            go_simp
            rw [← huf]
            have NF := N5.at_.bar SB (by omega) (by omega)
            have NFF : BBox uf N id (.slice (some ⟨g, 0, none⟩) L.length capN) := N5.keep (SB.block N (by omega) (by omega))
            clear huf t0 f0 t1 f1 t2 f2 t3 f3 t4 f4 t5 f5 t6 f6 t7 f7 t8 f8 t9 f9 t10 f10 NF
            refine hK _ _ ⟨SB, ?_⟩
            clear hK K hi
            refine wpAnyH_done (by kernel_rfl) ?_ _
            go_wp2
            go_roundw
            case rel => exact ⟨k + 1, by omega, by go_num, MS, NFF, BB⟩
            case measure => simp [intOf]; omega
          | true =>
            obtain ⟨⟨v1, v2, v3, v4⟩, hov⟩ : ∃ v, ownR id L k = v := ⟨_, rfl⟩
            have hρ3 : Hid (roleR id L k = if vLt h.r h.c h.b h.p v1 v2 v3 v4 then 3 else 2) := by unfold Hid; rw [hρ2.out, hhas, hov]; rfl
            replace hov : Hid _ := hov
            obtain ⟨t, ht⟩ : ∃ t, vLt h.r h.c h.b h.p v1 v2 v3 v4 = t := ⟨_, rfl⟩
            replace ht : Hid _ := ht
            cases t
            · have hro : Hid (roleR id L k = 2) := by unfold Hid; rw [hρ3.out, ht.out]; rfl
              have hz3 : Hid (turnR h 2 = z) := by unfold Hid; rw [turnR_up, ← hz2.out, hro.out]
              refine wp_region_held (S := fun Y => Below y5.heap.size y5 Y) (by kernel_rfl) ?_
              change wpAnyH _ _ _ _ _ _ _ _ (World.drew _)
              have hb0 : Below y5.heap.size y5 y5.drew := (Below.refl _ _).drew
              obtain ⟨u0, hy0⟩ : ∃ y_, y_ = y5.drew := ⟨_, rfl⟩
              rw [← hy0] at hb0 ⊢
              clear hy0
              refine takeW 0 35 (.pointer (some ⟨Q, 1, none⟩)) rfl rfl (by kernel_rfl) (by kernel_rfl) (by kernel_rfl) (fun _ _ _ h => h) (by kernel_rfl) (by (intro w hSw; go_simp)) (by assumption) ?_
              simp only [List.set_cons_zero, List.set_cons_succ]
              refine takeW 1 36 (.bool true) rfl rfl (by kernel_rfl) (by kernel_rfl) (by kernel_rfl) (fun _ _ _ h => h) (by kernel_rfl) (by (intro Y hSw; obtain ⟨X0, X1, X2, X3, X4, X5, X6, X7, X8, X9, X10⟩ := P5.below hSw (by omega); go_simp)) (by assumption) ?_
              simp only [List.set_cons_zero, List.set_cons_succ]
              refine takeW 2 37 (.bool true) rfl rfl (by kernel_rfl) (by kernel_rfl) (by kernel_rfl) (fun _ _ _ h => h) (by kernel_rfl) (by (intro w hSw; go_simp)) (by assumption) ?_
              simp only [List.set_cons_zero, List.set_cons_succ]
              refine takeW 3 38 (.pointer (some ⟨Q, 2, none⟩)) rfl rfl (by kernel_rfl) (by kernel_rfl) (by kernel_rfl) (fun _ _ _ h => h) (by kernel_rfl) (by (intro w hSw; go_simp)) (by assumption) ?_
              simp only [List.set_cons_zero, List.set_cons_succ]
              refine takeW 4 39 (.agg #[.int .i64 h.r, .int .i64 h.c, .int .i64 h.b, .int .i64 h.p]) rfl rfl (by kernel_rfl) (by kernel_rfl) (by kernel_rfl) (fun _ _ _ h => h) (by kernel_rfl) (by (intro Y hSw; obtain ⟨X0, X1, X2, X3, X4, X5, X6, X7, X8, X9, X10⟩ := P5.below hSw (by omega); go_simp)) (by assumption) ?_
              simp only [List.set_cons_zero, List.set_cons_succ]
              refine takeW 5 40 (.agg #[.int .i64 id, .slice (some ⟨bk, off, none⟩) L.length cap]) rfl rfl (by kernel_rfl) (by kernel_rfl) (by kernel_rfl) (fun _ _ _ h => h) (by kernel_rfl) (by (intro Y hSw; obtain ⟨X0, X1⟩ := A5.below hSw (by omega); go_simp)) (by assumption) ?_
              simp only [List.set_cons_zero, List.set_cons_succ]
              refine takeW 6 41 (.int .i64 (k : Int)) rfl rfl (by kernel_rfl) (by kernel_rfl) (by kernel_rfl) (fun _ _ _ h => h) (by kernel_rfl) (by (intro w hSw; go_simp)) (by assumption) ?_
              simp only [List.set_cons_zero, List.set_cons_succ]
              refine wpAnyH_all (rs := [7]) (by kernel_rfl) (by simp) ?_
              intro i hi; obtain rfl : i = 7 := by simpa using hi
              refine wpOp_step rfl (fun K hK => ?_)
              rw [if_pos (by kernel_rfl)]
              go_simp
              go_at_call 137
              refine (ownS id (some ⟨bk, off, none⟩) cap L (k : Int) u0 (hv6.below hb0 hB6) hl).mono ?_
              rintro e u1 ⟨rfl, kq⟩
              have hb1 : Below y5.heap.size y5 u1 := hb0.trans (kq.mono hb0.size)
              clear kq
              rw [hov.out]
              refine hK _ _ ⟨hb1, ?_⟩
              clear hK K hi
              refine wpAnyH_all (rs := [8]) (by kernel_rfl) (by simp) ?_
              intro i hi; obtain rfl : i = 8 := by simpa using hi
              refine wpOp_step rfl (fun K hK => ?_)
              rw [if_pos (by kernel_rfl)]
              go_simp
              go_at_call 210
              refine (betterS h.r h.c h.b h.p v1 v2 v3 v4 u1).mono ?_
              rintro e u2 ⟨rfl, kq⟩
              have hb2 : Below y5.heap.size y5 u2 := hb1.trans (kq.mono hb1.size)
              clear kq
              rw [ht.out]
              refine hK _ _ ⟨hb2, ?_⟩
              clear hK K hi
              refine takeW 9 44 (.bool false) rfl rfl (by kernel_rfl) (by kernel_rfl) (by kernel_rfl) (fun _ _ _ h => h) (by kernel_rfl) (by (intro w hSw; go_simp)) (by assumption) ?_
              simp only [List.set_cons_zero, List.set_cons_succ]
              refine wpAnyH_done (by kernel_rfl) ?_ _
              obtain ⟨y6, hy6⟩ : ∃ y_, y_ = u2 := ⟨_, rfl⟩
              rw [← hy6] at hb2 ⊢
              clear hy6
              have P5 := P5.below hb2 (by omega)
              have A5 := A5.below hb2 (by omega)
              have N5 := N5.below hb2 (by omega)
              have K5 := K5.trans (hb2.mono K5.size)
              have M5 := M5.below hb2 (fun g' e => by obtain rfl : g = g' := (by simpa [Value.ownBlock] using e); omega)
              have S5 := P5.lt
              have S6 := N5.lt
              obtain ⟨x0, x1, x2, x3, x4, x5, x6, x7, x8, x9, x10⟩ := P5
              have P5 : PtAt y6 Q h := ⟨x0, x1, x2, x3, x4, x5, x6, x7, x8, x9, x10⟩
              rw [hu.out] at x0
              replace hhas : Hid _ := hhas
              go_upto_region 15 with fail
              clear x0 x1 x2 x3 x4 x5 x6 x7 x8 x9 x10 hb2
              refine wp_region_held (S := fun Y => Bar g y6.heap.size y6 Y) (by kernel_rfl) ?_
              change wpAnyH _ _ _ _ _ _ _ _ (World.drew _)
              have hb0 : Below y6.heap.size y6 y6.drew := (Below.refl _ _).drew
              obtain ⟨u0, hy0⟩ : ∃ y_, y_ = y6.drew := ⟨_, rfl⟩
              rw [← hy0] at hb0 ⊢
              clear hy0
              have hS0 : Bar g y6.heap.size y6 u0 := Bar.of hb0
              refine takeW 0 47 (.pointer (some ⟨N, 1, none⟩)) rfl rfl (by kernel_rfl) (by kernel_rfl) (by kernel_rfl) (fun _ _ _ h => h) (by kernel_rfl) (by (intro w hSw; go_simp)) (by assumption) ?_
              simp only [List.set_cons_zero, List.set_cons_succ]
              refine takeW 1 48 (.slice (some ⟨g, 0, none⟩) L.length capN) rfl rfl (by kernel_rfl) (by kernel_rfl) (by kernel_rfl) (fun _ _ _ h => h) (by kernel_rfl) (by (intro Y hSw; obtain ⟨X0, X1⟩ := N5.at_.bar hSw (by omega) (by omega); go_simp)) (by assumption) ?_
              simp only [List.set_cons_zero, List.set_cons_succ]
              refine takeW 2 49 (.int .i64 (k : Int)) rfl rfl (by kernel_rfl) (by kernel_rfl) (by kernel_rfl) (fun _ _ _ h => h) (by kernel_rfl) (by (intro w hSw; go_simp)) (by assumption) ?_
              simp only [List.set_cons_zero, List.set_cons_succ]
              refine takeW 3 50 (.agg #[.bool h.up, .bool h.has, .int .i64 h.r, .int .i64 h.c, .int .i64 h.b, .int .i64 h.p, .int .i64 h.h, .int .i64 h.l, .int .i64 h.ro, .int .i64 h.wa, .bool h.op]) rfl rfl (by kernel_rfl) (by kernel_rfl) (by kernel_rfl) (fun _ _ _ h => h) (by kernel_rfl) (by (intro Y hSw; obtain ⟨X0, X1, X2, X3, X4, X5, X6, X7, X8, X9, X10⟩ := P5.bar hSw (by omega) (by omega); go_simp)) (by assumption) ?_
              simp only [List.set_cons_zero, List.set_cons_succ]
              refine takeW 4 51 (.int .i64 2) rfl rfl (by kernel_rfl) (by kernel_rfl) (by kernel_rfl) (fun _ _ _ h => h) (by kernel_rfl) (by (intro w hSw; go_simp)) (by assumption) ?_
              simp only [List.set_cons_zero, List.set_cons_succ]
              refine wpAnyH_all (rs := [5]) (by kernel_rfl) (by simp) ?_
              intro i hi; obtain rfl : i = 5 := by simpa using hi
              refine wpOp_step rfl (fun K hK => ?_)
              rw [if_pos (by kernel_rfl)]
              go_simp
              go_at_call 213
              refine (turnS h 2 u0).mono ?_
              rintro e u1 ⟨rfl, kq⟩
              have hb1 : Below y6.heap.size y6 u1 := hb0.trans (kq.mono hb0.size)
              clear kq
              rw [hz3.out]
              have hS1 : Bar g y6.heap.size y6 u1 := Bar.of hb1
              refine hK _ _ ⟨Bar.of hb1, ?_⟩
              clear hK K hi
              refine takeW 6 53 (.pointer (some ⟨g, k * 11, none⟩)) rfl rfl (by kernel_rfl) (by kernel_rfl) (by kernel_rfl) (fun _ _ _ h => h) (by kernel_rfl) (by (intro Y hSw; go_simp; try omega)) (by assumption) ?_
              simp only [List.set_cons_zero, List.set_cons_succ]
              refine wpAnyH_all (rs := [7]) (by kernel_rfl) (by simp) ?_
              intro i hi; obtain rfl : i = 7 := by simpa using hi
              refine wpOp_step rfl (fun K hK => ?_)
              rw [if_pos (by kernel_rfl)]
              have MU : FOwn ptEnc 11 109 y.heap.size u1 (.slice (some ⟨g, 0, none⟩) L.length capN) (markd f L k) := M5.below hb1 (fun g' e => by obtain rfl : g = g' := (by simpa [Value.ownBlock] using e); omega)
              have hml : (markd f L k).length = L.length := markd_len hk
              rw [← hml] at MU
              obtain ⟨t0, t1, t2, t3, t4, t5, t6, t7, t8, t9, t10⟩ : PtAtO u1 g (k * 11) ((markd f L k).getD k Pt.nil) := ptAtO_of (MU.cell ptEnc_len Pt.nil (by rw [hml]; exact hlt))
              have ff := MU.frozen
              have f0 := ff (k * 11)
              have f1 := ff (k * 11 + 1)
              have f2 := ff (k * 11 + 2)
              have f3 := ff (k * 11 + 3)
              have f4 := ff (k * 11 + 4)
              have f5 := ff (k * 11 + 5)
              have f6 := ff (k * 11 + 6)
              have f7 := ff (k * 11 + 7)
              have f8 := ff (k * 11 + 8)
              have f9 := ff (k * 11 + 9)
              have f10 := ff (k * 11 + 10)
              have MS := MU.set ptEnc_len (by omega) (i := k) (by rw [hml]; exact hlt) z
              rw [hz.out, markd_set hlt, ptPut, hml, ← hz.out] at MS
              have SB := Bar.putAll (o := k * 11) (ptEnc z) (Bar.of (g := g) hb1)
              rw [ptPut] at SB
              have BB := below_putAll (B := y.heap.size) hg1 (ptEnc z) (k * 11) (K5.trans (hb1.mono K5.size))
              rw [ptPut] at BB
              clear hml ff MU
              obtain ⟨uf, huf⟩ : ∃ y_, y_ = (((((((((((u1.setCell ⟨g, k * 11, none⟩ (.bool z.up)).setCell ⟨g, k * 11 + 1, none⟩ (.bool z.has)).setCell ⟨g, k * 11 + 2, none⟩ (.int .i64 z.r)).setCell ⟨g, k * 11 + 3, none⟩ (.int .i64 z.c)).setCell ⟨g, k * 11 + 4, none⟩ (.int .i64 z.b)).setCell ⟨g, k * 11 + 5, none⟩ (.int .i64 z.p)).setCell ⟨g, k * 11 + 6, none⟩ (.int .i64 z.h)).setCell ⟨g, k * 11 + 7, none⟩ (.int .i64 z.l)).setCell ⟨g, k * 11 + 8, none⟩ (.int .i64 z.ro)).setCell ⟨g, k * 11 + 9, none⟩ (.int .i64 z.wa)).setCell ⟨g, k * 11 + 10, none⟩ (.bool z.op)) := ⟨_, rfl⟩
              rw [← huf] at MS SB BB
              go_simp
              rw [← huf]
              have NF := N5.at_.bar SB (by omega) (by omega)
              have NFF : BBox uf N id (.slice (some ⟨g, 0, none⟩) L.length capN) := N5.keep (SB.block N (by omega) (by omega))
              clear huf t0 f0 t1 f1 t2 f2 t3 f3 t4 f4 t5 f5 t6 f6 t7 f7 t8 f8 t9 f9 t10 f10 NF
              refine hK _ _ ⟨SB, ?_⟩
              clear hK K hi
              refine wpAnyH_done (by kernel_rfl) ?_ _
              go_wp2
              go_roundw
              case rel => exact ⟨k + 1, by omega, by go_num, MS, NFF, BB⟩
              case measure => simp [intOf]; omega
            · have hro : Hid (roleR id L k = 3) := by unfold Hid; rw [hρ3.out, ht.out]; rfl
              have hz3 : Hid (turnR h 3 = z) := by unfold Hid; rw [turnR_up, ← hz2.out, hro.out]
              refine wp_region_held (S := fun Y => Below y5.heap.size y5 Y) (by kernel_rfl) ?_
              change wpAnyH _ _ _ _ _ _ _ _ (World.drew _)
              have hb0 : Below y5.heap.size y5 y5.drew := (Below.refl _ _).drew
              obtain ⟨u0, hy0⟩ : ∃ y_, y_ = y5.drew := ⟨_, rfl⟩
              rw [← hy0] at hb0 ⊢
              clear hy0
              refine takeW 0 35 (.pointer (some ⟨Q, 1, none⟩)) rfl rfl (by kernel_rfl) (by kernel_rfl) (by kernel_rfl) (fun _ _ _ h => h) (by kernel_rfl) (by (intro w hSw; go_simp)) (by assumption) ?_
              simp only [List.set_cons_zero, List.set_cons_succ]
              refine takeW 1 36 (.bool true) rfl rfl (by kernel_rfl) (by kernel_rfl) (by kernel_rfl) (fun _ _ _ h => h) (by kernel_rfl) (by (intro Y hSw; obtain ⟨X0, X1, X2, X3, X4, X5, X6, X7, X8, X9, X10⟩ := P5.below hSw (by omega); go_simp)) (by assumption) ?_
              simp only [List.set_cons_zero, List.set_cons_succ]
              refine takeW 2 37 (.bool true) rfl rfl (by kernel_rfl) (by kernel_rfl) (by kernel_rfl) (fun _ _ _ h => h) (by kernel_rfl) (by (intro w hSw; go_simp)) (by assumption) ?_
              simp only [List.set_cons_zero, List.set_cons_succ]
              refine takeW 3 38 (.pointer (some ⟨Q, 2, none⟩)) rfl rfl (by kernel_rfl) (by kernel_rfl) (by kernel_rfl) (fun _ _ _ h => h) (by kernel_rfl) (by (intro w hSw; go_simp)) (by assumption) ?_
              simp only [List.set_cons_zero, List.set_cons_succ]
              refine takeW 4 39 (.agg #[.int .i64 h.r, .int .i64 h.c, .int .i64 h.b, .int .i64 h.p]) rfl rfl (by kernel_rfl) (by kernel_rfl) (by kernel_rfl) (fun _ _ _ h => h) (by kernel_rfl) (by (intro Y hSw; obtain ⟨X0, X1, X2, X3, X4, X5, X6, X7, X8, X9, X10⟩ := P5.below hSw (by omega); go_simp)) (by assumption) ?_
              simp only [List.set_cons_zero, List.set_cons_succ]
              refine takeW 5 40 (.agg #[.int .i64 id, .slice (some ⟨bk, off, none⟩) L.length cap]) rfl rfl (by kernel_rfl) (by kernel_rfl) (by kernel_rfl) (fun _ _ _ h => h) (by kernel_rfl) (by (intro Y hSw; obtain ⟨X0, X1⟩ := A5.below hSw (by omega); go_simp)) (by assumption) ?_
              simp only [List.set_cons_zero, List.set_cons_succ]
              refine takeW 6 41 (.int .i64 (k : Int)) rfl rfl (by kernel_rfl) (by kernel_rfl) (by kernel_rfl) (fun _ _ _ h => h) (by kernel_rfl) (by (intro w hSw; go_simp)) (by assumption) ?_
              simp only [List.set_cons_zero, List.set_cons_succ]
              refine wpAnyH_all (rs := [7]) (by kernel_rfl) (by simp) ?_
              intro i hi; obtain rfl : i = 7 := by simpa using hi
              refine wpOp_step rfl (fun K hK => ?_)
              rw [if_pos (by kernel_rfl)]
              go_simp
              go_at_call 137
              refine (ownS id (some ⟨bk, off, none⟩) cap L (k : Int) u0 (hv6.below hb0 hB6) hl).mono ?_
              rintro e u1 ⟨rfl, kq⟩
              have hb1 : Below y5.heap.size y5 u1 := hb0.trans (kq.mono hb0.size)
              clear kq
              rw [hov.out]
              refine hK _ _ ⟨hb1, ?_⟩
              clear hK K hi
              refine wpAnyH_all (rs := [8]) (by kernel_rfl) (by simp) ?_
              intro i hi; obtain rfl : i = 8 := by simpa using hi
              refine wpOp_step rfl (fun K hK => ?_)
              rw [if_pos (by kernel_rfl)]
              go_simp
              go_at_call 210
              refine (betterS h.r h.c h.b h.p v1 v2 v3 v4 u1).mono ?_
              rintro e u2 ⟨rfl, kq⟩
              have hb2 : Below y5.heap.size y5 u2 := hb1.trans (kq.mono hb1.size)
              clear kq
              rw [ht.out]
              refine hK _ _ ⟨hb2, ?_⟩
              clear hK K hi
              refine takeW 9 44 (.bool true) rfl rfl (by kernel_rfl) (by kernel_rfl) (by kernel_rfl) (fun _ _ _ h => h) (by kernel_rfl) (by (intro w hSw; go_simp)) (by assumption) ?_
              simp only [List.set_cons_zero, List.set_cons_succ]
              refine wpAnyH_done (by kernel_rfl) ?_ _
              obtain ⟨y6, hy6⟩ : ∃ y_, y_ = u2 := ⟨_, rfl⟩
              rw [← hy6] at hb2 ⊢
              clear hy6
              have P5 := P5.below hb2 (by omega)
              have A5 := A5.below hb2 (by omega)
              have N5 := N5.below hb2 (by omega)
              have K5 := K5.trans (hb2.mono K5.size)
              have M5 := M5.below hb2 (fun g' e => by obtain rfl : g = g' := (by simpa [Value.ownBlock] using e); omega)
              have S5 := P5.lt
              have S6 := N5.lt
              obtain ⟨x0, x1, x2, x3, x4, x5, x6, x7, x8, x9, x10⟩ := P5
              have P5 : PtAt y6 Q h := ⟨x0, x1, x2, x3, x4, x5, x6, x7, x8, x9, x10⟩
              rw [hu.out] at x0
              replace hhas : Hid _ := hhas
              go_upto_region 15 with fail
              clear x0 x1 x2 x3 x4 x5 x6 x7 x8 x9 x10 hb2
              refine wp_region_held (S := fun Y => Bar g y6.heap.size y6 Y) (by kernel_rfl) ?_
              change wpAnyH _ _ _ _ _ _ _ _ (World.drew _)
              have hb0 : Below y6.heap.size y6 y6.drew := (Below.refl _ _).drew
              obtain ⟨u0, hy0⟩ : ∃ y_, y_ = y6.drew := ⟨_, rfl⟩
              rw [← hy0] at hb0 ⊢
              clear hy0
              have hS0 : Bar g y6.heap.size y6 u0 := Bar.of hb0
              refine takeW 0 47 (.pointer (some ⟨N, 1, none⟩)) rfl rfl (by kernel_rfl) (by kernel_rfl) (by kernel_rfl) (fun _ _ _ h => h) (by kernel_rfl) (by (intro w hSw; go_simp)) (by assumption) ?_
              simp only [List.set_cons_zero, List.set_cons_succ]
              refine takeW 1 48 (.slice (some ⟨g, 0, none⟩) L.length capN) rfl rfl (by kernel_rfl) (by kernel_rfl) (by kernel_rfl) (fun _ _ _ h => h) (by kernel_rfl) (by (intro Y hSw; obtain ⟨X0, X1⟩ := N5.at_.bar hSw (by omega) (by omega); go_simp)) (by assumption) ?_
              simp only [List.set_cons_zero, List.set_cons_succ]
              refine takeW 2 49 (.int .i64 (k : Int)) rfl rfl (by kernel_rfl) (by kernel_rfl) (by kernel_rfl) (fun _ _ _ h => h) (by kernel_rfl) (by (intro w hSw; go_simp)) (by assumption) ?_
              simp only [List.set_cons_zero, List.set_cons_succ]
              refine takeW 3 50 (.agg #[.bool h.up, .bool h.has, .int .i64 h.r, .int .i64 h.c, .int .i64 h.b, .int .i64 h.p, .int .i64 h.h, .int .i64 h.l, .int .i64 h.ro, .int .i64 h.wa, .bool h.op]) rfl rfl (by kernel_rfl) (by kernel_rfl) (by kernel_rfl) (fun _ _ _ h => h) (by kernel_rfl) (by (intro Y hSw; obtain ⟨X0, X1, X2, X3, X4, X5, X6, X7, X8, X9, X10⟩ := P5.bar hSw (by omega) (by omega); go_simp)) (by assumption) ?_
              simp only [List.set_cons_zero, List.set_cons_succ]
              refine takeW 4 51 (.int .i64 3) rfl rfl (by kernel_rfl) (by kernel_rfl) (by kernel_rfl) (fun _ _ _ h => h) (by kernel_rfl) (by (intro w hSw; go_simp)) (by assumption) ?_
              simp only [List.set_cons_zero, List.set_cons_succ]
              refine wpAnyH_all (rs := [5]) (by kernel_rfl) (by simp) ?_
              intro i hi; obtain rfl : i = 5 := by simpa using hi
              refine wpOp_step rfl (fun K hK => ?_)
              rw [if_pos (by kernel_rfl)]
              go_simp
              go_at_call 213
              refine (turnS h 3 u0).mono ?_
              rintro e u1 ⟨rfl, kq⟩
              have hb1 : Below y6.heap.size y6 u1 := hb0.trans (kq.mono hb0.size)
              clear kq
              rw [hz3.out]
              have hS1 : Bar g y6.heap.size y6 u1 := Bar.of hb1
              refine hK _ _ ⟨Bar.of hb1, ?_⟩
              clear hK K hi
              refine takeW 6 53 (.pointer (some ⟨g, k * 11, none⟩)) rfl rfl (by kernel_rfl) (by kernel_rfl) (by kernel_rfl) (fun _ _ _ h => h) (by kernel_rfl) (by (intro Y hSw; go_simp; try omega)) (by assumption) ?_
              simp only [List.set_cons_zero, List.set_cons_succ]
              refine wpAnyH_all (rs := [7]) (by kernel_rfl) (by simp) ?_
              intro i hi; obtain rfl : i = 7 := by simpa using hi
              refine wpOp_step rfl (fun K hK => ?_)
              rw [if_pos (by kernel_rfl)]
              have MU : FOwn ptEnc 11 109 y.heap.size u1 (.slice (some ⟨g, 0, none⟩) L.length capN) (markd f L k) := M5.below hb1 (fun g' e => by obtain rfl : g = g' := (by simpa [Value.ownBlock] using e); omega)
              have hml : (markd f L k).length = L.length := markd_len hk
              rw [← hml] at MU
              obtain ⟨t0, t1, t2, t3, t4, t5, t6, t7, t8, t9, t10⟩ : PtAtO u1 g (k * 11) ((markd f L k).getD k Pt.nil) := ptAtO_of (MU.cell ptEnc_len Pt.nil (by rw [hml]; exact hlt))
              have ff := MU.frozen
              have f0 := ff (k * 11)
              have f1 := ff (k * 11 + 1)
              have f2 := ff (k * 11 + 2)
              have f3 := ff (k * 11 + 3)
              have f4 := ff (k * 11 + 4)
              have f5 := ff (k * 11 + 5)
              have f6 := ff (k * 11 + 6)
              have f7 := ff (k * 11 + 7)
              have f8 := ff (k * 11 + 8)
              have f9 := ff (k * 11 + 9)
              have f10 := ff (k * 11 + 10)
              have MS := MU.set ptEnc_len (by omega) (i := k) (by rw [hml]; exact hlt) z
              rw [hz.out, markd_set hlt, ptPut, hml, ← hz.out] at MS
              have SB := Bar.putAll (o := k * 11) (ptEnc z) (Bar.of (g := g) hb1)
              rw [ptPut] at SB
              have BB := below_putAll (B := y.heap.size) hg1 (ptEnc z) (k * 11) (K5.trans (hb1.mono K5.size))
              rw [ptPut] at BB
              clear hml ff MU
              obtain ⟨uf, huf⟩ : ∃ y_, y_ = (((((((((((u1.setCell ⟨g, k * 11, none⟩ (.bool z.up)).setCell ⟨g, k * 11 + 1, none⟩ (.bool z.has)).setCell ⟨g, k * 11 + 2, none⟩ (.int .i64 z.r)).setCell ⟨g, k * 11 + 3, none⟩ (.int .i64 z.c)).setCell ⟨g, k * 11 + 4, none⟩ (.int .i64 z.b)).setCell ⟨g, k * 11 + 5, none⟩ (.int .i64 z.p)).setCell ⟨g, k * 11 + 6, none⟩ (.int .i64 z.h)).setCell ⟨g, k * 11 + 7, none⟩ (.int .i64 z.l)).setCell ⟨g, k * 11 + 8, none⟩ (.int .i64 z.ro)).setCell ⟨g, k * 11 + 9, none⟩ (.int .i64 z.wa)).setCell ⟨g, k * 11 + 10, none⟩ (.bool z.op)) := ⟨_, rfl⟩
              rw [← huf] at MS SB BB
              go_simp
              rw [← huf]
              have NF := N5.at_.bar SB (by omega) (by omega)
              have NFF : BBox uf N id (.slice (some ⟨g, 0, none⟩) L.length capN) := N5.keep (SB.block N (by omega) (by omega))
              clear huf t0 f0 t1 f1 t2 f2 t3 f3 t4 f4 t5 f5 t6 f6 t7 f7 t8 f8 t9 f9 t10 f10 NF
              refine hK _ _ ⟨SB, ?_⟩
              clear hK K hi
              refine wpAnyH_done (by kernel_rfl) ?_ _
              go_wp2
              go_roundw
              case rel => exact ⟨k + 1, by omega, by go_num, MS, NFF, BB⟩
              case measure => simp [intOf]; omega
      · obtain rfl : k = L.length := by omega
        rw [markd_all] at M
        have RP := R4.put id (.slice (some ⟨g, 0, none⟩) L.length capN)
        obtain ⟨⟨r0, r1⟩, rf⟩ := R4
        obtain ⟨⟨n0, n1⟩, nf⟩ := N4
        have BZ : Below w.heap.size w ((wr.setCell ⟨w.heap.size + 1, 0, none⟩ (.int .i64 id)).setCell ⟨w.heap.size + 1, 1, none⟩ (.slice (some ⟨g, 0, none⟩) L.length capN)) := (B4.setCell (by show _ ≤ w.heap.size + 1; omega) _).setCell (by show _ ≤ w.heap.size + 1; omega) _
        have OZ : FOwn ptEnc 11 109 w.heap.size ((wr.setCell ⟨w.heap.size + 1, 0, none⟩ (.int .i64 id)).setCell ⟨w.heap.size + 1, 1, none⟩ (.slice (some ⟨g, 0, none⟩) L.length capN)) (.slice (some ⟨g, 0, none⟩) L.length capN) ((List.range L.length).map f) := (M.base (by omega)).keep fun g' e => by
          obtain rfl : g = g' := by simpa [Value.ownBlock] using e
          rw [Below.heap_setCell _ _ _ _ (by show g ≠ w.heap.size + 1; omega), Below.heap_setCell _ _ _ _ (by show g ≠ w.heap.size + 1; omega)]
        have hDl : D.length = L.length := by rw [hD2.out]; simp
        replace hDl : Hid _ := hDl
        obtain ⟨⟨p0, p1⟩, _⟩ := RP
        go_wp2
        refine bodyPost_ret (v := .agg #[.int .i64 id, .slice (some ⟨g, 0, none⟩) L.length capN]) (by simp [results, Tryz.results184, go_sem, *]) rfl ⟨_, _, by rw [hDl.out], by rw [hDl.out, hD2.out]; exact OZ, BZ⟩

end Go.Proofs.YtnpiljegdiconaaGreat
namespace Go.Proofs.YtnpiljegdiconaaGreat
open Go.ChangeShapes Go.WideShapes Go.ChangeAt Go.RowKit
open Go.ChangeMaps (open_string shut_string)
set_option linter.unusedVariables false
set_option maxRecDepth 100000

set_option maxHeartbeats 4000000 in
theorem claimS (x : Pt) (r2 c2 b2 p2 k : Int) (w : World) : Calls Tryz.prog 182 #[.agg #[.bool x.up, .bool x.has, .int .i64 x.r, .int .i64 x.c, .int .i64 x.b, .int .i64 x.p, .int .i64 x.h, .int .i64 x.l, .int .i64 x.ro, .int .i64 x.wa, .bool x.op], .agg #[.int .i64 r2, .int .i64 c2, .int .i64 b2, .int .i64 p2], .int .i64 k] w fun e w' => e = .returned (.agg #[.bool (claimR x r2 c2 b2 p2 k).up, .bool (claimR x r2 c2 b2 p2 k).has, .int .i64 (claimR x r2 c2 b2 p2 k).r, .int .i64 (claimR x r2 c2 b2 p2 k).c, .int .i64 (claimR x r2 c2 b2 p2 k).b, .int .i64 (claimR x r2 c2 b2 p2 k).p, .int .i64 (claimR x r2 c2 b2 p2 k).h, .int .i64 (claimR x r2 c2 b2 p2 k).l, .int .i64 (claimR x r2 c2 b2 p2 k).ro, .int .i64 (claimR x r2 c2 b2 p2 k).wa, .bool (claimR x r2 c2 b2 p2 k).op]) ∧ Below w.heap.size w w' := by
  obtain ⟨up, has, r, c, b, p, h, l, ro, wa, op⟩ := x
  dsimp only
  have hR : Hid (takes ⟨up, has, r, c, b, p, h, l, ro, wa, op⟩ r2 c2 b2 p2 k = (pOk ⟨up, has, r, c, b, p, h, l, ro, wa, op⟩ && (up && (vOk r2 c2 b2 p2 && (decide (0 ≤ k ∧ k ≤ 8) && cnt ⟨up, has, r, c, b, p, h, l, ro, wa, op⟩ r2 c2 b2 p2))))) := rfl
  have hY : Hid ((takes ⟨up, has, r, c, b, p, h, l, ro, wa, op⟩ r2 c2 b2 p2 k = false → claimR ⟨up, has, r, c, b, p, h, l, ro, wa, op⟩ r2 c2 b2 p2 k = ⟨up, has, r, c, b, p, h, l, ro, wa, op⟩) ∧ (takes ⟨up, has, r, c, b, p, h, l, ro, wa, op⟩ r2 c2 b2 p2 k = true → claimR ⟨up, has, r, c, b, p, h, l, ro, wa, op⟩ r2 c2 b2 p2 k = ⟨up, true, r2, c2, b2, p2, k, 3, ro, wa, op⟩)) := ⟨fun h => claimR_no h, fun h => claimR_yes h⟩
  generalize takes ⟨up, has, r, c, b, p, h, l, ro, wa, op⟩ r2 c2 b2 p2 k = R at hR hY
  generalize claimR ⟨up, has, r, c, b, p, h, l, ro, wa, op⟩ r2 c2 b2 p2 k = Y at hY ⊢
  obtain ⟨y, hy⟩ : ∃ y, y = ((w.alloc (Obj.cells #[.bool up, .bool has, .int .i64 r, .int .i64 c, .int .i64 b, .int .i64 p, .int .i64 h, .int .i64 l, .int .i64 ro, .int .i64 wa, .bool op] 109)).alloc (Obj.cells #[.int .i64 r2, .int .i64 c2, .int .i64 b2, .int .i64 p2] 103)).alloc (Obj.cells #[.bool false, .bool false, .int .i64 0, .int .i64 0, .int .i64 0, .int .i64 0, .int .i64 0, .int .i64 0, .int .i64 0, .int .i64 0, .bool false] 109) := ⟨_, rfl⟩
  have P0 : PBox y w.heap.size ⟨up, has, r, c, b, p, h, l, ro, wa, op⟩ := by rw [hy]; refine ⟨?_, fun i => by simp [go_sem]⟩; constructor <;> simp [go_sem]
  have V0 : VecAt y (w.heap.size + 1) r2 c2 b2 p2 := by rw [hy]; refine ⟨?_, ?_, ?_, ?_⟩ <;> simp [go_sem]
  have Q0 : PBox y (w.heap.size + 1 + 1) ⟨false, false, 0, 0, 0, 0, 0, 0, 0, 0, false⟩ := by rw [hy]; refine ⟨?_, fun i => by simp [go_sem]⟩; constructor <;> simp [go_sem]
  have B0 : Below w.heap.size w y := by rw [hy]; exact (((Below.refl _ _).alloc (Nat.le_refl _) _).alloc (by simp) _).alloc (by simp; omega) _
  have S0 : w.heap.size + 1 + 1 < y.heap.size := Q0.lt
  go_enter Tryz.func182, Tryz.ntmps182
  go_wp2_with fail
  go_at_call 142
  rw [← hy]
  clear hy
  refine (pOkS ⟨up, has, r, c, b, p, h, l, ro, wa, op⟩ y).mono ?_
  rintro e w1 ⟨rfl, k1⟩
  have B1 := B0.trans (k1.mono B0.size)
  have S1 := Nat.lt_of_lt_of_le S0 k1.size
  replace P0 := P0.below k1 (by omega)
  have P1 := P0
  replace V0 := V0.below k1 (by omega)
  have V1 := V0
  replace Q0 := Q0.below k1 (by omega)
  have Q1 := Q0
  clear P0 V0 Q0 B0 S0 k1
  generalize pOk ⟨up, has, r, c, b, p, h, l, ro, wa, op⟩ = ok at hR ⊢
  cases ok
  · obtain ⟨cp0, cp1, cp2, cp3, cp4, cp5, cp6, cp7, cp8, cp9, cp10⟩ := P1.at_
    obtain ⟨cv0, cv1, cv2, cv3⟩ := V1
    obtain ⟨⟨cq0, cq1, cq2, cq3, cq4, cq5, cq6, cq7, cq8, cq9, cq10⟩, cqf⟩ := Q1
    have hZ := hY.out.1 (by rw [hR.out]; rfl)
    clear hY
    replace hZ : Hid _ := hZ
    go_wp2
    refine bodyPost_ret (v := .agg #[.bool up, .bool has, .int .i64 r, .int .i64 c, .int .i64 b, .int .i64 p, .int .i64 h, .int .i64 l, .int .i64 ro, .int .i64 wa, .bool op]) (by simp [results, Tryz.results182, go_sem, *]) rfl ⟨by rw [hZ.out], ?_⟩
    repeat' (first | with_reducible exact B1 | with_reducible refine Below.setCell ?_ (by simp <;> omega) _ | with_reducible refine Below.drew ?_)
  cases up
  · obtain ⟨cp0, cp1, cp2, cp3, cp4, cp5, cp6, cp7, cp8, cp9, cp10⟩ := P1.at_
    obtain ⟨cv0, cv1, cv2, cv3⟩ := V1
    obtain ⟨⟨cq0, cq1, cq2, cq3, cq4, cq5, cq6, cq7, cq8, cq9, cq10⟩, cqf⟩ := Q1
    have hZ := hY.out.1 (by rw [hR.out]; rfl)
    clear hY
    replace hZ : Hid _ := hZ
    go_wp2
    refine bodyPost_ret (v := .agg #[.bool false, .bool has, .int .i64 r, .int .i64 c, .int .i64 b, .int .i64 p, .int .i64 h, .int .i64 l, .int .i64 ro, .int .i64 wa, .bool op]) (by simp [results, Tryz.results182, go_sem, *]) rfl ⟨by rw [hZ.out], ?_⟩
    repeat' (first | with_reducible exact B1 | with_reducible refine Below.setCell ?_ (by simp <;> omega) _ | with_reducible refine Below.drew ?_)
  have V1' := V1
  obtain ⟨cp0, cp1, cp2, cp3, cp4, cp5, cp6, cp7, cp8, cp9, cp10⟩ := P1.at_
  obtain ⟨cv0, cv1, cv2, cv3⟩ := V1'
  go_wp2_with fail
  go_at_call 181
  refine (vOkS r2 c2 b2 p2 w1).mono ?_
  rintro e w2 ⟨rfl, k2⟩
  clear cp0 cp1 cp2 cp3 cp4 cp5 cp6 cp7 cp8 cp9 cp10 cv0 cv1 cv2 cv3
  have B2 := B1.trans (k2.mono B1.size)
  have S2 := Nat.lt_of_lt_of_le S1 k2.size
  replace P1 := P1.below k2 (by omega)
  have P2 := P1
  replace V1 := V1.below k2 (by omega)
  have V2 := V1
  replace Q1 := Q1.below k2 (by omega)
  have Q2 := Q1
  clear P1 V1 Q1 B1 S1 k2
  generalize vOk r2 c2 b2 p2 = ok at hR ⊢
  cases ok
  · obtain ⟨cp0, cp1, cp2, cp3, cp4, cp5, cp6, cp7, cp8, cp9, cp10⟩ := P2.at_
    obtain ⟨cv0, cv1, cv2, cv3⟩ := V2
    obtain ⟨⟨cq0, cq1, cq2, cq3, cq4, cq5, cq6, cq7, cq8, cq9, cq10⟩, cqf⟩ := Q2
    have hZ := hY.out.1 (by rw [hR.out]; rfl)
    clear hY
    replace hZ : Hid _ := hZ
    go_wp2
    refine bodyPost_ret (v := .agg #[.bool true, .bool has, .int .i64 r, .int .i64 c, .int .i64 b, .int .i64 p, .int .i64 h, .int .i64 l, .int .i64 ro, .int .i64 wa, .bool op]) (by simp [results, Tryz.results182, go_sem, *]) rfl ⟨by rw [hZ.out], ?_⟩
    repeat' (first | with_reducible exact B2 | with_reducible refine Below.setCell ?_ (by simp <;> omega) _ | with_reducible refine Below.drew ?_)
  go_wp2_with fail
  go_at_call 65
  refine (inB k 0 8 w2).mono ?_
  rintro e w2 ⟨rfl, rfl⟩
  generalize decide (0 ≤ k ∧ k ≤ 8) = ok at hR ⊢
  cases ok
  · obtain ⟨cp0, cp1, cp2, cp3, cp4, cp5, cp6, cp7, cp8, cp9, cp10⟩ := P2.at_
    obtain ⟨cv0, cv1, cv2, cv3⟩ := V2
    obtain ⟨⟨cq0, cq1, cq2, cq3, cq4, cq5, cq6, cq7, cq8, cq9, cq10⟩, cqf⟩ := Q2
    have hZ := hY.out.1 (by rw [hR.out]; rfl)
    clear hY
    replace hZ : Hid _ := hZ
    go_wp2
    refine bodyPost_ret (v := .agg #[.bool true, .bool has, .int .i64 r, .int .i64 c, .int .i64 b, .int .i64 p, .int .i64 h, .int .i64 l, .int .i64 ro, .int .i64 wa, .bool op]) (by simp [results, Tryz.results182, go_sem, *]) rfl ⟨by rw [hZ.out], ?_⟩
    repeat' (first | with_reducible exact B2 | with_reducible refine Below.setCell ?_ (by simp <;> omega) _ | with_reducible refine Below.drew ?_)
  replace hR : Hid (R = (!has || (!vLt r c b p r2 c2 b2 p2 || ((b2 == b) && (p2 == p))))) := hR.out
  cases has
  · have hZ := hY.out.2 (by rw [hR.out]; rfl)
    clear hY
    replace hZ : Hid _ := hZ
    obtain ⟨⟨cp0, cp1, cp2, cp3, cp4, cp5, cp6, cp7, cp8, cp9, cp10⟩, cpf⟩ := P2
    obtain ⟨cv0, cv1, cv2, cv3⟩ := V2
    obtain ⟨⟨cq0, cq1, cq2, cq3, cq4, cq5, cq6, cq7, cq8, cq9, cq10⟩, cqf⟩ := Q2
    go_wp2
    refine bodyPost_ret (v := .agg #[.bool true, .bool true, .int .i64 r2, .int .i64 c2, .int .i64 b2, .int .i64 p2, .int .i64 k, .int .i64 3, .int .i64 ro, .int .i64 wa, .bool op]) (by simp [results, Tryz.results182, go_sem, *]) rfl ⟨by rw [hZ.out], ?_⟩
    repeat' (first | with_reducible exact B2 | with_reducible refine Below.setCell ?_ (by simp <;> omega) _ | with_reducible refine Below.drew ?_)
  have V2' := V2
  obtain ⟨cp0, cp1, cp2, cp3, cp4, cp5, cp6, cp7, cp8, cp9, cp10⟩ := P2.at_
  obtain ⟨cv0, cv1, cv2, cv3⟩ := V2'
  go_wp2_with fail
  go_at_call 210
  refine (betterS r c b p r2 c2 b2 p2 w2).mono ?_
  rintro e w3 ⟨rfl, k3⟩
  clear cp0 cp1 cp2 cp3 cp4 cp5 cp6 cp7 cp8 cp9 cp10 cv0 cv1 cv2 cv3
  have B3 := B2.trans (k3.mono B2.size)
  have S3 := Nat.lt_of_lt_of_le S2 k3.size
  replace P2 := P2.below k3 (by omega)
  have P3 := P2
  replace V2 := V2.below k3 (by omega)
  have V3 := V2
  replace Q2 := Q2.below k3 (by omega)
  have Q3 := Q2
  clear P2 V2 Q2 B2 S2 k3
  generalize vLt r c b p r2 c2 b2 p2 = ok at hR ⊢
  cases ok
  · have hZ := hY.out.2 (by rw [hR.out]; rfl)
    clear hY
    replace hZ : Hid _ := hZ
    obtain ⟨⟨cp0, cp1, cp2, cp3, cp4, cp5, cp6, cp7, cp8, cp9, cp10⟩, cpf⟩ := P3
    obtain ⟨cv0, cv1, cv2, cv3⟩ := V3
    obtain ⟨⟨cq0, cq1, cq2, cq3, cq4, cq5, cq6, cq7, cq8, cq9, cq10⟩, cqf⟩ := Q3
    go_wp2
    refine bodyPost_ret (v := .agg #[.bool true, .bool true, .int .i64 r2, .int .i64 c2, .int .i64 b2, .int .i64 p2, .int .i64 k, .int .i64 3, .int .i64 ro, .int .i64 wa, .bool op]) (by simp [results, Tryz.results182, go_sem, *]) rfl ⟨by rw [hZ.out], ?_⟩
    repeat' (first | with_reducible exact B3 | with_reducible refine Below.setCell ?_ (by simp <;> omega) _ | with_reducible refine Below.drew ?_)
  cases q1 : (b2 == b)
  · have q2 : (b == b2) = false := by have := beq_eq_false_iff_ne.1 q1; simp; omega
    have q3 : (b != b2) = true := by have := beq_eq_false_iff_ne.1 q1; simp; omega
    obtain ⟨cp0, cp1, cp2, cp3, cp4, cp5, cp6, cp7, cp8, cp9, cp10⟩ := P3.at_
    obtain ⟨cv0, cv1, cv2, cv3⟩ := V3
    obtain ⟨⟨cq0, cq1, cq2, cq3, cq4, cq5, cq6, cq7, cq8, cq9, cq10⟩, cqf⟩ := Q3
    have hZ := hY.out.1 (by rw [hR.out, q1]; rfl)
    clear hY
    replace hZ : Hid _ := hZ
    go_wp2
    refine bodyPost_ret (v := .agg #[.bool true, .bool true, .int .i64 r, .int .i64 c, .int .i64 b, .int .i64 p, .int .i64 h, .int .i64 l, .int .i64 ro, .int .i64 wa, .bool op]) (by simp [results, Tryz.results182, go_sem, *]) rfl ⟨by rw [hZ.out], ?_⟩
    repeat' (first | with_reducible exact B3 | with_reducible refine Below.setCell ?_ (by simp <;> omega) _ | with_reducible refine Below.drew ?_)
  have q2 : (b == b2) = true := by have := beq_iff_eq.1 q1; simp; omega
  have q3 : (b != b2) = false := by have := beq_iff_eq.1 q1; simp; omega
  cases q4 : (p2 == p)
  · have q5 : (p == p2) = false := by have := beq_eq_false_iff_ne.1 q4; simp; omega
    have q6 : (p != p2) = true := by have := beq_eq_false_iff_ne.1 q4; simp; omega
    obtain ⟨cp0, cp1, cp2, cp3, cp4, cp5, cp6, cp7, cp8, cp9, cp10⟩ := P3.at_
    obtain ⟨cv0, cv1, cv2, cv3⟩ := V3
    obtain ⟨⟨cq0, cq1, cq2, cq3, cq4, cq5, cq6, cq7, cq8, cq9, cq10⟩, cqf⟩ := Q3
    have hZ := hY.out.1 (by rw [hR.out, q1, q4]; rfl)
    clear hY
    replace hZ : Hid _ := hZ
    go_wp2
    refine bodyPost_ret (v := .agg #[.bool true, .bool true, .int .i64 r, .int .i64 c, .int .i64 b, .int .i64 p, .int .i64 h, .int .i64 l, .int .i64 ro, .int .i64 wa, .bool op]) (by simp [results, Tryz.results182, go_sem, *]) rfl ⟨by rw [hZ.out], ?_⟩
    repeat' (first | with_reducible exact B3 | with_reducible refine Below.setCell ?_ (by simp <;> omega) _ | with_reducible refine Below.drew ?_)
  have q5 : (p == p2) = true := by have := beq_iff_eq.1 q4; simp; omega
  have q6 : (p != p2) = false := by have := beq_iff_eq.1 q4; simp; omega
  have hZ := hY.out.2 (by rw [hR.out, q1, q4]; rfl)
  clear hY
  replace hZ : Hid _ := hZ
  obtain ⟨⟨cp0, cp1, cp2, cp3, cp4, cp5, cp6, cp7, cp8, cp9, cp10⟩, cpf⟩ := P3
  obtain ⟨cv0, cv1, cv2, cv3⟩ := V3
  obtain ⟨⟨cq0, cq1, cq2, cq3, cq4, cq5, cq6, cq7, cq8, cq9, cq10⟩, cqf⟩ := Q3
  go_wp2
  refine bodyPost_ret (v := .agg #[.bool true, .bool true, .int .i64 r2, .int .i64 c2, .int .i64 b2, .int .i64 p2, .int .i64 k, .int .i64 3, .int .i64 ro, .int .i64 wa, .bool op]) (by simp [results, Tryz.results182, go_sem, *]) rfl ⟨by rw [hZ.out], ?_⟩
  repeat' (first | with_reducible exact B3 | with_reducible refine Below.setCell ?_ (by simp <;> omega) _ | with_reducible refine Below.drew ?_)

end Go.Proofs.YtnpiljegdiconaaGreat
namespace Go.Proofs.YtnpiljegdiconaaGreat
open Go.ChangeShapes Go.WideShapes Go.ChangeAt Go.RowKit
open Go.ChangeMaps (open_string shut_string)
set_option linter.unusedVariables false
set_option maxRecDepth 100000

set_option maxHeartbeats 8000000 in
theorem inSC (id : Int) (cap : Nat) (L : List Pt) (k : Nat) (r c b p h : Int) (base g : Nat) (w : World) (hr : FOwn ptEnc 11 109 base w (.slice (some ⟨g, 0, none⟩) L.length cap) L) (hl : L.length ≤ 4) (hqL : k < L.length) :
    Calls Tryz.prog 136 #[.agg #[.int .i64 id, .slice (some ⟨g, 0, none⟩) L.length cap], .agg #[.int .i64 1, .int .i64 (k : Int), .int .i64 r, .int .i64 c, .int .i64 b, .int .i64 p, .int .i64 h, .bool false]] w fun e w' => ∃ ad' cap', e = .returned (.agg #[.int .i64 id, .slice ad' (decideR id (L.set k (claimR (L.getD k Pt.nil) r c b p h))).length cap']) ∧ FOwn ptEnc 11 109 base w' (.slice ad' (decideR id (L.set k (claimR (L.getD k Pt.nil) r c b p h))).length cap') (decideR id (L.set k (claimR (L.getD k Pt.nil) r c b p h))) ∧ (∀ g_, (Value.slice ad' (decideR id (L.set k (claimR (L.getD k Pt.nil) r c b p h))).length cap').ownBlock = some g_ → g_ = g ∨ w.heap.size ≤ g_) ∧ Bar g w.heap.size w w' ∧ Below base w w' := by
  have hgb := hr.lt g rfl
  obtain ⟨y, hy⟩ : ∃ y, y = ((w.alloc (Obj.cells #[.int .i64 id, .slice (some ⟨g, 0, none⟩) L.length cap] 56)).alloc (Obj.cells #[.int .i64 1, .int .i64 (k : Int), .int .i64 r, .int .i64 c, .int .i64 b, .int .i64 p, .int .i64 h, .bool false] 105)).alloc (Obj.cells #[.int .i64 0, .slice none 0 0] 56) := ⟨_, rfl⟩
  have B0 : Below w.heap.size w y := by rw [hy]; exact (((Below.refl _ _).alloc (Nat.le_refl _) _).alloc (by simp) _).alloc (by simp; omega) _
  have A0 : BrAt y w.heap.size id (.slice (some ⟨g, 0, none⟩) L.length cap) := by rw [hy]; constructor <;> simp [go_sem]
  have X0 : InAt y (w.heap.size + 1) ⟨1, (k : Int), r, c, b, p, h, false⟩ := by rw [hy]; constructor <;> simp [go_sem]
  have R0 : BBox y (w.heap.size + 1 + 1) 0 (.slice none 0 0) := by rw [hy]; refine ⟨?_, fun i => ?_⟩; constructor <;> simp [go_sem]; simp [go_sem]
  have S0 := R0.lt
  have o0 := hr.later B0
  have C0 : Below base w y := B0.mono (by omega)
  obtain ⟨D, hD⟩ : ∃ D, D = decideR id (L.set k (claimR (L.getD k Pt.nil) r c b p h)) := ⟨_, rfl⟩
  rw [← hD]
  replace hD : Hid _ := hD
  obtain ⟨hg1, hg2⟩ := hgb
  clear hr
  go_enter Tryz.func136, Tryz.ntmps136
  go_upto_region 3 with fail
  rw [← hy]
  clear hy
  obtain ⟨hp, hhp⟩ : ∃ v, L.getD k Pt.nil = v := ⟨_, rfl⟩
  obtain ⟨z, hz⟩ : ∃ z, claimR hp r c b p h = z := ⟨_, rfl⟩
  have hz2 : Hid (z = (claimR (L.getD k Pt.nil) r c b p h)) := by unfold Hid; rw [hhp, hz]
  replace hz : Hid _ := hz
  replace hhp : Hid _ := hhp
  refine wp_region_held (S := fun Y => Bar g y.heap.size y Y) (by kernel_rfl) ?_
  change wpAnyH _ _ _ _ _ _ _ _ (World.drew _)
  have hb0 : Below y.heap.size y y.drew := (Below.refl _ _).drew
  obtain ⟨u0, hy0⟩ : ∃ y_, y_ = y.drew := ⟨_, rfl⟩
  rw [← hy0] at hb0 ⊢
  clear hy0
  have hS0 : Bar g y.heap.size y u0 := Bar.of hb0
  refine takeW 0 10 (.pointer (some ⟨w.heap.size, 1, none⟩)) rfl rfl (by kernel_rfl) (by kernel_rfl) (by kernel_rfl) (fun _ _ _ h => h) (by kernel_rfl) (by (intro w hSw; go_simp)) (by assumption) ?_
  simp only [List.set_cons_zero, List.set_cons_succ]
  refine takeW 1 11 (.slice (some ⟨g, 0, none⟩) L.length cap) rfl rfl (by kernel_rfl) (by kernel_rfl) (by kernel_rfl) (fun _ _ _ h => h) (by kernel_rfl) (by (intro Y hSw; obtain ⟨X0_, X1_⟩ := A0.bar hSw A0.lt (by omega); go_simp)) (by assumption) ?_
  simp only [List.set_cons_zero, List.set_cons_succ]
  refine takeW 2 12 (.pointer (some ⟨w.heap.size + 1, 1, none⟩)) rfl rfl (by kernel_rfl) (by kernel_rfl) (by kernel_rfl) (fun _ _ _ h => h) (by kernel_rfl) (by (intro w hSw; go_simp)) (by assumption) ?_
  simp only [List.set_cons_zero, List.set_cons_succ]
  refine takeW 3 13 (.int .i64 (k : Int)) rfl rfl (by kernel_rfl) (by kernel_rfl) (by kernel_rfl) (fun _ _ _ h => h) (by kernel_rfl) (by (intro Y hSw; obtain ⟨Z0, Z1, Z2, Z3, Z4, Z5, Z6, Z7⟩ := X0.keep (hSw.block _ X0.lt (by omega)); go_simp)) (by assumption) ?_
  simp only [List.set_cons_zero, List.set_cons_succ]
  refine takeW 4 14 (.pointer (some ⟨w.heap.size, 1, none⟩)) rfl rfl (by kernel_rfl) (by kernel_rfl) (by kernel_rfl) (fun _ _ _ h => h) (by kernel_rfl) (by (intro w hSw; go_simp)) (by assumption) ?_
  simp only [List.set_cons_zero, List.set_cons_succ]
  refine takeW 5 15 (.slice (some ⟨g, 0, none⟩) L.length cap) rfl rfl (by kernel_rfl) (by kernel_rfl) (by kernel_rfl) (fun _ _ _ h => h) (by kernel_rfl) (by (intro Y hSw; obtain ⟨X0_, X1_⟩ := A0.bar hSw A0.lt (by omega); go_simp)) (by assumption) ?_
  simp only [List.set_cons_zero, List.set_cons_succ]
  refine takeW 6 16 (.pointer (some ⟨w.heap.size + 1, 1, none⟩)) rfl rfl (by kernel_rfl) (by kernel_rfl) (by kernel_rfl) (fun _ _ _ h => h) (by kernel_rfl) (by (intro w hSw; go_simp)) (by assumption) ?_
  simp only [List.set_cons_zero, List.set_cons_succ]
  refine takeW 7 17 (.int .i64 (k : Int)) rfl rfl (by kernel_rfl) (by kernel_rfl) (by kernel_rfl) (fun _ _ _ h => h) (by kernel_rfl) (by (intro Y hSw; obtain ⟨Z0, Z1, Z2, Z3, Z4, Z5, Z6, Z7⟩ := X0.keep (hSw.block _ X0.lt (by omega)); go_simp)) (by assumption) ?_
  simp only [List.set_cons_zero, List.set_cons_succ]
  refine takeW 8 18 (.pointer (some ⟨g, k * 11, none⟩)) rfl rfl (by kernel_rfl) (by kernel_rfl) (by kernel_rfl) (fun _ _ _ h => h) (by kernel_rfl) (by (intro Y hSw; go_simp; try omega)) (by assumption) ?_
  simp only [List.set_cons_zero, List.set_cons_succ]
  refine takeW 10 20 (.pointer (some ⟨w.heap.size + 1, 2, none⟩)) rfl rfl (by kernel_rfl) (by kernel_rfl) (by kernel_rfl) (fun _ _ _ h => h) (by kernel_rfl) (by (intro w hSw; go_simp)) (by assumption) ?_
  simp only [List.set_cons_zero, List.set_cons_succ]
  refine takeW 11 21 (.agg #[.int .i64 r, .int .i64 c, .int .i64 b, .int .i64 p]) rfl rfl (by kernel_rfl) (by kernel_rfl) (by kernel_rfl) (fun _ _ _ h => h) (by kernel_rfl) (by (intro Y hSw; obtain ⟨Z0, Z1, Z2, Z3, Z4, Z5, Z6, Z7⟩ := X0.keep (hSw.block _ X0.lt (by omega)); go_simp)) (by assumption) ?_
  simp only [List.set_cons_zero, List.set_cons_succ]
  refine takeW 12 22 (.pointer (some ⟨w.heap.size + 1, 6, none⟩)) rfl rfl (by kernel_rfl) (by kernel_rfl) (by kernel_rfl) (fun _ _ _ h => h) (by kernel_rfl) (by (intro w hSw; go_simp)) (by assumption) ?_
  simp only [List.set_cons_zero, List.set_cons_succ]
  refine takeW 13 23 (.int .i64 h) rfl rfl (by kernel_rfl) (by kernel_rfl) (by kernel_rfl) (fun _ _ _ h => h) (by kernel_rfl) (by (intro Y hSw; obtain ⟨Z0, Z1, Z2, Z3, Z4, Z5, Z6, Z7⟩ := X0.keep (hSw.block _ X0.lt (by omega)); go_simp)) (by assumption) ?_
  simp only [List.set_cons_zero, List.set_cons_succ]
  refine wpAnyH_all (rs := [9]) (by kernel_rfl) (by simp) ?_
  intro i hi; obtain rfl : i = 9 := by simpa using hi
  refine wpOp_step rfl (fun K hK => ?_)
  rw [if_pos (by kernel_rfl)]
  obtain ⟨t0, t1, t2, t3, t4, t5, t6, t7, t8, t9, t10⟩ : PtAtO u0 g (k * 11) hp := by rw [← hhp.out]; exact ptAtO_of ((o0.later hb0).cell ptEnc_len Pt.nil hqL)
  go_simp
  clear t0 t1 t2 t3 t4 t5 t6 t7 t8 t9 t10
  refine hK _ _ ⟨hS0, ?_⟩
  clear hK K hi
  refine wpAnyH_all (rs := [14]) (by kernel_rfl) (by simp) ?_
  intro i hi; obtain rfl : i = 14 := by simpa using hi
  refine wpOp_step rfl (fun K hK => ?_)
  rw [if_pos (by kernel_rfl)]
  go_simp
  go_at_call 182
  refine (claimS hp r c b p h u0).mono ?_
  rintro e u1 ⟨rfl, kq⟩
  have hb1 : Below y.heap.size y u1 := hb0.trans (kq.mono hb0.size)
  clear kq
  rw [hz.out]
  have hS1 : Bar g y.heap.size y u1 := Bar.of hb1
  refine hK _ _ ⟨Bar.of hb1, ?_⟩
  clear hK K hi
  refine takeW 15 25 (.pointer (some ⟨g, k * 11, none⟩)) rfl rfl (by kernel_rfl) (by kernel_rfl) (by kernel_rfl) (fun _ _ _ h => h) (by kernel_rfl) (by (intro Y hSw; go_simp; try omega)) (by assumption) ?_
  simp only [List.set_cons_zero, List.set_cons_succ]
  refine wpAnyH_all (rs := [16]) (by kernel_rfl) (by simp) ?_
  intro i hi; obtain rfl : i = 16 := by simpa using hi
  refine wpOp_step rfl (fun K hK => ?_)
  rw [if_pos (by kernel_rfl)]
  have MU : FOwn ptEnc 11 109 base u1 (.slice (some ⟨g, 0, none⟩) L.length cap) L := o0.later hb1
  obtain ⟨t0, t1, t2, t3, t4, t5, t6, t7, t8, t9, t10⟩ : PtAtO u1 g (k * 11) (L.getD k Pt.nil) := ptAtO_of (MU.cell ptEnc_len Pt.nil hqL)
  have ff := MU.frozen
  have f0 := ff (k * 11)
  have f1 := ff (k * 11 + 1)
  have f2 := ff (k * 11 + 2)
  have f3 := ff (k * 11 + 3)
  have f4 := ff (k * 11 + 4)
  have f5 := ff (k * 11 + 5)
  have f6 := ff (k * 11 + 6)
  have f7 := ff (k * 11 + 7)
  have f8 := ff (k * 11 + 8)
  have f9 := ff (k * 11 + 9)
  have f10 := ff (k * 11 + 10)
  have MS := MU.set ptEnc_len (by omega) (i := k) hqL z
  rw [ptPut] at MS
  have SB := Bar.putAll (o := k * 11) (ptEnc z) (Bar.of (g := g) hb1)
  rw [ptPut] at SB
  have BB := below_putAll (B := base) hg1 (ptEnc z) (k * 11) (C0.trans (hb1.mono (by omega)))
  rw [ptPut] at BB
  clear ff MU
  obtain ⟨uf, huf⟩ : ∃ y_, y_ = (((((((((((u1.setCell ⟨g, k * 11, none⟩ (.bool z.up)).setCell ⟨g, k * 11 + 1, none⟩ (.bool z.has)).setCell ⟨g, k * 11 + 2, none⟩ (.int .i64 z.r)).setCell ⟨g, k * 11 + 3, none⟩ (.int .i64 z.c)).setCell ⟨g, k * 11 + 4, none⟩ (.int .i64 z.b)).setCell ⟨g, k * 11 + 5, none⟩ (.int .i64 z.p)).setCell ⟨g, k * 11 + 6, none⟩ (.int .i64 z.h)).setCell ⟨g, k * 11 + 7, none⟩ (.int .i64 z.l)).setCell ⟨g, k * 11 + 8, none⟩ (.int .i64 z.ro)).setCell ⟨g, k * 11 + 9, none⟩ (.int .i64 z.wa)).setCell ⟨g, k * 11 + 10, none⟩ (.bool z.op)) := ⟨_, rfl⟩
  rw [← huf] at MS SB BB
  go_simp
  rw [← huf]
  clear huf t0 f0 t1 f1 t2 f2 t3 f3 t4 f4 t5 f5 t6 f6 t7 f7 t8 f8 t9 f9 t10 f10
  refine hK _ _ ⟨SB, ?_⟩
  clear hK K hi
  refine wpAnyH_done (by kernel_rfl) ?_ _
  rw [hz2.out] at MS
  have A9 := A0.bar SB A0.lt (by omega)
  have R9 := R0.keep (SB.block _ R0.lt (by omega))
  obtain ⟨Mv, hMv⟩ : ∃ v, v = L.set k (claimR (L.getD k Pt.nil) r c b p h) := ⟨_, rfl⟩
  rw [← hMv] at MS
  have hMl : Mv.length = L.length := by rw [hMv]; simp
  have hDM : Hid (D = decideR id Mv) := by unfold Hid; rw [hD.out, hMv]
  replace hMl : Hid _ := hMl
  clear hMv
  have hdc := decideS id (some ⟨g, 0, none⟩) cap Mv uf (by have := MS; unfold FOwn at this; exact (show FOwn ptEnc 11 109 base uf (.slice (some ⟨g, 0, none⟩) L.length cap) Mv from this).view.2) (by rw [hMl.out]; omega) (fun e => by cases e)
  rw [hMl.out] at hdc
  obtain ⟨a0, a1⟩ := A9
  go_wp2_with fail
  go_at_call 184
  clear a0 a1
  refine hdc.mono ?_
  rintro e w9 ⟨aD, cD, rfl, oD, k9⟩
  clear hdc
  rw [← hDM.out] at oD ⊢
  have z9 := BB.size
  have S9 : w.heap.size + 1 + 1 < uf.heap.size := R9.lt
  have RX := R9.below k9 R9.lt
  have BX := BB.trans (k9.mono (by omega))
  have RP := RX.put id (.slice aD D.length cD)
  obtain ⟨⟨r0, r1⟩, rf⟩ := RX
  have BZ := (BX.setCell (p := ⟨w.heap.size + 1 + 1, 0, none⟩) (by show base ≤ w.heap.size + 1 + 1; omega) (.int .i64 id)).setCell (p := ⟨w.heap.size + 1 + 1, 1, none⟩) (by show base ≤ w.heap.size + 1 + 1; omega) (.slice aD D.length cD)
  have OZ : FOwn ptEnc 11 109 base ((w9.setCell ⟨w.heap.size + 1 + 1, 0, none⟩ (.int .i64 id)).setCell ⟨w.heap.size + 1 + 1, 1, none⟩ (.slice aD D.length cD)) (.slice aD D.length cD) D := (oD.base (by omega)).keep fun g' e => by
    have := (oD.lt g' e).1
    rw [Below.heap_setCell _ _ _ _ (by show g' ≠ w.heap.size + 1 + 1; omega), Below.heap_setCell _ _ _ _ (by show g' ≠ w.heap.size + 1 + 1; omega)]
  have b0z := B0.size
  have sbz := SB.size
  have WZ : Bar g w.heap.size w ((w9.setCell ⟨w.heap.size + 1 + 1, 0, none⟩ (.int .i64 id)).setCell ⟨w.heap.size + 1 + 1, 1, none⟩ (.slice aD D.length cD)) := ⟨BZ.size, fun q hq hne => by
    rw [Below.heap_setCell _ _ _ _ (by show q ≠ w.heap.size + 1 + 1; omega), Below.heap_setCell _ _ _ _ (by show q ≠ w.heap.size + 1 + 1; omega)]
    exact (k9.block q (by omega)).trans ((SB.block q (by omega) hne).trans (B0.block q hq))⟩
  have JZ : ∀ g_, (Value.slice aD D.length cD).ownBlock = some g_ → g_ = g ∨ w.heap.size ≤ g_ := fun g_ e => .inr (by have := (oD.lt g_ e).1; omega)
  obtain ⟨⟨p0, p1⟩, _⟩ := RP
  go_wp2
  refine bodyPost_ret (v := .agg #[.int .i64 id, .slice aD D.length cD]) (by simp [results, Tryz.results136, go_sem, *]) rfl ⟨_, _, rfl, OZ, JZ, WZ, BZ⟩

end Go.Proofs.YtnpiljegdiconaaGreat
namespace Go.Proofs.YtnpiljegdiconaaGreat
open Go.ChangeShapes Go.WideShapes Go.ChangeAt Go.RowKit
open Go.ChangeMaps (open_string shut_string)
set_option linter.unusedVariables false
set_option maxRecDepth 100000

set_option maxHeartbeats 4000000 in
theorem tickedS (x : Pt) (w : World) (hok : pOk x = true) : Calls Tryz.prog 183 #[.agg #[.bool x.up, .bool x.has, .int .i64 x.r, .int .i64 x.c, .int .i64 x.b, .int .i64 x.p, .int .i64 x.h, .int .i64 x.l, .int .i64 x.ro, .int .i64 x.wa, .bool x.op]] w fun e w' => e = .returned (.agg #[.bool (tickP x).up, .bool (tickP x).has, .int .i64 (tickP x).r, .int .i64 (tickP x).c, .int .i64 (tickP x).b, .int .i64 (tickP x).p, .int .i64 (tickP x).h, .int .i64 (tickP x).l, .int .i64 (tickP x).ro, .int .i64 (tickP x).wa, .bool (tickP x).op]) ∧ Below w.heap.size w w' := by
  obtain ⟨y, hy⟩ : ∃ y, y = (w.alloc (Obj.cells #[.bool x.up, .bool x.has, .int .i64 x.r, .int .i64 x.c, .int .i64 x.b, .int .i64 x.p, .int .i64 x.h, .int .i64 x.l, .int .i64 x.ro, .int .i64 x.wa, .bool x.op] 109)).alloc (Obj.cells #[.bool false, .bool false, .int .i64 0, .int .i64 0, .int .i64 0, .int .i64 0, .int .i64 0, .int .i64 0, .int .i64 0, .int .i64 0, .bool false] 109) := ⟨_, rfl⟩
  have B0 : Below w.heap.size w y := by rw [hy]; exact ((Below.refl _ _).alloc (Nat.le_refl _) _).alloc (by simp) _
  have P0 : PBox y w.heap.size x := by rw [hy]; refine ⟨?_, fun i => ?_⟩; constructor <;> simp [go_sem]; simp [go_sem]
  have R0 : PBox y (w.heap.size + 1) Pt.nil := by rw [hy]; refine ⟨?_, fun i => ?_⟩; constructor <;> simp [go_sem, Pt.nil]; simp [go_sem]
  have S0 := R0.lt
  obtain ⟨t, ht⟩ : ∃ t, tickP x = t := ⟨_, rfl⟩
  rw [ht]
  obtain ⟨z, hz⟩ : ∃ z, fadeR x = z := ⟨_, rfl⟩
  have hti : Hid (t = if (z.ro = 1 ∨ z.ro = 2) ∧ 0 < z.wa then { z with wa := z.wa - 1, op := (z.wa - 1 == 0) } else z) := by unfold Hid; rw [← ht, tick_imp hok, hz]
  have hw4 : z.wa ≤ 4 ∧ 0 ≤ z.wa := by
    have := (pOk_parts.1 hok).2.2.2.1
    have e := (fadeR_keeps x).2.2.1
    rw [hz] at e
    omega
  have htr : Hid (t = { z with wa := tickW z, op := raOp z.ro (tickW z) }) := by unfold Hid; rw [← ht, ← hz]; rfl
  obtain ⟨hw4, hw0⟩ := hw4
  replace hz : Hid _ := hz
  clear ht hok
  go_enter Tryz.func183, Tryz.ntmps183
  go_wp2_with fail
  go_at_call 211
  rw [← hy]
  clear hy
  refine (fadeS x y).mono ?_
  rintro e w1 ⟨rfl, k1⟩
  rw [hz.out]
  have B1 := B0.trans (k1.mono B0.size)
  have P1 := P0.below k1 (by omega)
  have R1 := R0.below k1 (by omega)
  have S1 := R1.lt
  clear hz k1 P0 R0 B0 S0
  obtain ⟨y2, hy2⟩ : ∃ y_, y_ = (((((((((((w1.setCell ⟨w.heap.size, 0, none⟩ (.bool z.up)).setCell ⟨w.heap.size, 1, none⟩ (.bool z.has)).setCell ⟨w.heap.size, 2, none⟩ (.int .i64 z.r)).setCell ⟨w.heap.size, 3, none⟩ (.int .i64 z.c)).setCell ⟨w.heap.size, 4, none⟩ (.int .i64 z.b)).setCell ⟨w.heap.size, 5, none⟩ (.int .i64 z.p)).setCell ⟨w.heap.size, 6, none⟩ (.int .i64 z.h)).setCell ⟨w.heap.size, 7, none⟩ (.int .i64 z.l)).setCell ⟨w.heap.size, 8, none⟩ (.int .i64 z.ro)).setCell ⟨w.heap.size, 9, none⟩ (.int .i64 z.wa)).setCell ⟨w.heap.size, 10, none⟩ (.bool z.op)) := ⟨_, rfl⟩
  have P2 : PBox y2 w.heap.size z := by rw [hy2]; exact (((((((((((P1.set0 z.up).set1 z.has).set2 z.r).set3 z.c).set4 z.b).set5 z.p).set6 z.h).set7 z.l).set8 z.ro).set9 z.wa).set10 z.op)
  have R2 : PBox y2 (w.heap.size + 1) Pt.nil := by rw [hy2]; exact (((((((((((R1.other (by omega)).other (by omega)).other (by omega)).other (by omega)).other (by omega)).other (by omega)).other (by omega)).other (by omega)).other (by omega)).other (by omega)).other (by omega))
  have B2 : Below w.heap.size w y2 := by rw [hy2]; exact (((((((((((B1.setCell (p := ⟨w.heap.size, 0, none⟩) (by show _ ≤ w.heap.size; omega) (.bool z.up)).setCell (p := ⟨w.heap.size, 1, none⟩) (by show _ ≤ w.heap.size; omega) (.bool z.has)).setCell (p := ⟨w.heap.size, 2, none⟩) (by show _ ≤ w.heap.size; omega) (.int .i64 z.r)).setCell (p := ⟨w.heap.size, 3, none⟩) (by show _ ≤ w.heap.size; omega) (.int .i64 z.c)).setCell (p := ⟨w.heap.size, 4, none⟩) (by show _ ≤ w.heap.size; omega) (.int .i64 z.b)).setCell (p := ⟨w.heap.size, 5, none⟩) (by show _ ≤ w.heap.size; omega) (.int .i64 z.p)).setCell (p := ⟨w.heap.size, 6, none⟩) (by show _ ≤ w.heap.size; omega) (.int .i64 z.h)).setCell (p := ⟨w.heap.size, 7, none⟩) (by show _ ≤ w.heap.size; omega) (.int .i64 z.l)).setCell (p := ⟨w.heap.size, 8, none⟩) (by show _ ≤ w.heap.size; omega) (.int .i64 z.ro)).setCell (p := ⟨w.heap.size, 9, none⟩) (by show _ ≤ w.heap.size; omega) (.int .i64 z.wa)).setCell (p := ⟨w.heap.size, 10, none⟩) (by show _ ≤ w.heap.size; omega) (.bool z.op))
  have P1' := P1
  obtain ⟨⟨p0, p1, p2, p3, p4, p5, p6, p7, p8, p9, p10⟩, pf⟩ := P1
  go_upto_region 2 with fail
  rw [← hy2]
  clear hy2 p0 p1 p2 p3 p4 p5 p6 p7 p8 p9 p10 pf P1' R1 B1
  obtain ⟨⟨p0, p1, p2, p3, p4, p5, p6, p7, p8, p9, p10⟩, pf⟩ := P2
  have P2 : PBox y2 w.heap.size z := ⟨⟨p0, p1, p2, p3, p4, p5, p6, p7, p8, p9, p10⟩, pf⟩
  by_cases h1 : z.ro = 1
  · have d1 : (z.ro == 1) = true := by simpa using h1
    by_cases h0 : 0 < z.wa
    · have d0 : decide (0 < z.wa) = true := decide_eq_true h0
      have hcc : Hid ((z.ro = 1 ∨ z.ro = 2) ∧ 0 < z.wa) := ⟨.inl h1, h0⟩
      replace h1 : Hid _ := h1
      have P3 := P2.set9 (z.wa - 1)
      have B3 := B2.setCell (p := ⟨w.heap.size, 9, none⟩) (Nat.le_refl w.heap.size) (.int .i64 (z.wa - 1))
      have R3 := R2.other (q' := w.heap.size) (i := 9) (v := .int .i64 (z.wa - 1)) (by omega)
      obtain ⟨y3, hy3⟩ : ∃ y_, y_ = y2.setCell ⟨w.heap.size, 9, none⟩ (.int .i64 (z.wa - 1)) := ⟨_, rfl⟩
      rw [← hy3] at P3 B3 R3
      go_upto_region 4 with fail
      rw [← hy3]
      clear hy3 p0 p1 p2 p3 p4 p5 p6 p7 p8 p9 p10 pf P2 B2 R2
      obtain ⟨v, hv⟩ : ∃ v, v = ({ z with wa := z.wa - 1 } : Pt) := ⟨_, rfl⟩
      have P3 : PBox y3 w.heap.size v := by rw [hv]; exact P3
      replace hv : Hid _ := hv
      obtain ⟨⟨p0, p1, p2, p3, p4, p5, p6, p7, p8, p9, p10⟩, pf⟩ := P3
      go_wp2_with fail
      go_at_call 212
      refine (openS v y3).mono ?_
      rintro e w4 ⟨rfl, k4⟩
      have B4 := B3.trans (k4.mono B3.size)
      have S4 : w.heap.size + 1 < y3.heap.size := R3.lt
      have R4 := R3.below k4 S4
      obtain ⟨o, ho⟩ : ∃ o : Pt, o = { v with op := raOp v.ro v.wa } := ⟨_, rfl⟩
      have ho0 : Value.agg #[.bool o.up, .bool o.has, .int .i64 o.r, .int .i64 o.c, .int .i64 o.b, .int .i64 o.p, .int .i64 o.h, .int .i64 o.l, .int .i64 o.ro, .int .i64 o.wa, .bool o.op] = Value.agg #[.bool v.up, .bool v.has, .int .i64 v.r, .int .i64 v.c, .int .i64 v.b, .int .i64 v.p, .int .i64 v.h, .int .i64 v.l, .int .i64 v.ro, .int .i64 v.wa, .bool (raOp v.ro v.wa)] := by rw [ho]
      rw [← ho0]
      have hT : Hid (t = o) := by unfold Hid; rw [htr.out, ho]; rw [hv.out]; unfold tickW; rw [if_pos hcc.out]
      clear ho ho0 k4 p0 p1 p2 p3 p4 p5 p6 p7 p8 p9 p10 pf
      have RZ := (((((((((((R4.set0 o.up).set1 o.has).set2 o.r).set3 o.c).set4 o.b).set5 o.p).set6 o.h).set7 o.l).set8 o.ro).set9 o.wa).set10 o.op)
      have BZ := (((((((((((B4.setCell (p := ⟨w.heap.size + 1, 0, none⟩) (by show _ ≤ w.heap.size + 1; omega) (.bool o.up)).setCell (p := ⟨w.heap.size + 1, 1, none⟩) (by show _ ≤ w.heap.size + 1; omega) (.bool o.has)).setCell (p := ⟨w.heap.size + 1, 2, none⟩) (by show _ ≤ w.heap.size + 1; omega) (.int .i64 o.r)).setCell (p := ⟨w.heap.size + 1, 3, none⟩) (by show _ ≤ w.heap.size + 1; omega) (.int .i64 o.c)).setCell (p := ⟨w.heap.size + 1, 4, none⟩) (by show _ ≤ w.heap.size + 1; omega) (.int .i64 o.b)).setCell (p := ⟨w.heap.size + 1, 5, none⟩) (by show _ ≤ w.heap.size + 1; omega) (.int .i64 o.p)).setCell (p := ⟨w.heap.size + 1, 6, none⟩) (by show _ ≤ w.heap.size + 1; omega) (.int .i64 o.h)).setCell (p := ⟨w.heap.size + 1, 7, none⟩) (by show _ ≤ w.heap.size + 1; omega) (.int .i64 o.l)).setCell (p := ⟨w.heap.size + 1, 8, none⟩) (by show _ ≤ w.heap.size + 1; omega) (.int .i64 o.ro)).setCell (p := ⟨w.heap.size + 1, 9, none⟩) (by show _ ≤ w.heap.size + 1; omega) (.int .i64 o.wa)).setCell (p := ⟨w.heap.size + 1, 10, none⟩) (by show _ ≤ w.heap.size + 1; omega) (.bool o.op))
      obtain ⟨⟨z0, z1, z2, z3, z4, z5, z6, z7, z8, z9, z10⟩, _⟩ := RZ
      obtain ⟨⟨r0, r1, r2, r3, r4, r5, r6, r7, r8, r9, r10⟩, rf⟩ := R4
      go_wp2
      refine bodyPost_ret (v := .agg #[.bool o.up, .bool o.has, .int .i64 o.r, .int .i64 o.c, .int .i64 o.b, .int .i64 o.p, .int .i64 o.h, .int .i64 o.l, .int .i64 o.ro, .int .i64 o.wa, .bool o.op]) (by simp [results, Tryz.results183, go_sem, *]) rfl ⟨by rw [hT.out], BZ⟩
    · have d0 : decide (0 < z.wa) = false := decide_eq_false h0
      have hcc : Hid (¬ ((z.ro = 1 ∨ z.ro = 2) ∧ 0 < z.wa)) := fun e => h0 e.2
      replace h1 : Hid _ := h1
      replace h0 : Hid _ := h0
      go_upto_region 4 with fail
      go_wp2_with fail
      go_at_call 212
      refine (openS z y2).mono ?_
      rintro e w4 ⟨rfl, k4⟩
      have B4 := B2.trans (k4.mono B2.size)
      have S4 : w.heap.size + 1 < y2.heap.size := R2.lt
      have R4 := R2.below k4 S4
      obtain ⟨o, ho⟩ : ∃ o : Pt, o = { z with op := raOp z.ro z.wa } := ⟨_, rfl⟩
      have ho0 : Value.agg #[.bool o.up, .bool o.has, .int .i64 o.r, .int .i64 o.c, .int .i64 o.b, .int .i64 o.p, .int .i64 o.h, .int .i64 o.l, .int .i64 o.ro, .int .i64 o.wa, .bool o.op] = Value.agg #[.bool z.up, .bool z.has, .int .i64 z.r, .int .i64 z.c, .int .i64 z.b, .int .i64 z.p, .int .i64 z.h, .int .i64 z.l, .int .i64 z.ro, .int .i64 z.wa, .bool (raOp z.ro z.wa)] := by rw [ho]
      rw [← ho0]
      have hT : Hid (t = o) := by unfold Hid; rw [htr.out, ho]; unfold tickW; rw [if_neg hcc.out]
      clear ho ho0 k4 p0 p1 p2 p3 p4 p5 p6 p7 p8 p9 p10 pf
      have RZ := (((((((((((R4.set0 o.up).set1 o.has).set2 o.r).set3 o.c).set4 o.b).set5 o.p).set6 o.h).set7 o.l).set8 o.ro).set9 o.wa).set10 o.op)
      have BZ := (((((((((((B4.setCell (p := ⟨w.heap.size + 1, 0, none⟩) (by show _ ≤ w.heap.size + 1; omega) (.bool o.up)).setCell (p := ⟨w.heap.size + 1, 1, none⟩) (by show _ ≤ w.heap.size + 1; omega) (.bool o.has)).setCell (p := ⟨w.heap.size + 1, 2, none⟩) (by show _ ≤ w.heap.size + 1; omega) (.int .i64 o.r)).setCell (p := ⟨w.heap.size + 1, 3, none⟩) (by show _ ≤ w.heap.size + 1; omega) (.int .i64 o.c)).setCell (p := ⟨w.heap.size + 1, 4, none⟩) (by show _ ≤ w.heap.size + 1; omega) (.int .i64 o.b)).setCell (p := ⟨w.heap.size + 1, 5, none⟩) (by show _ ≤ w.heap.size + 1; omega) (.int .i64 o.p)).setCell (p := ⟨w.heap.size + 1, 6, none⟩) (by show _ ≤ w.heap.size + 1; omega) (.int .i64 o.h)).setCell (p := ⟨w.heap.size + 1, 7, none⟩) (by show _ ≤ w.heap.size + 1; omega) (.int .i64 o.l)).setCell (p := ⟨w.heap.size + 1, 8, none⟩) (by show _ ≤ w.heap.size + 1; omega) (.int .i64 o.ro)).setCell (p := ⟨w.heap.size + 1, 9, none⟩) (by show _ ≤ w.heap.size + 1; omega) (.int .i64 o.wa)).setCell (p := ⟨w.heap.size + 1, 10, none⟩) (by show _ ≤ w.heap.size + 1; omega) (.bool o.op))
      obtain ⟨⟨z0, z1, z2, z3, z4, z5, z6, z7, z8, z9, z10⟩, _⟩ := RZ
      obtain ⟨⟨r0, r1, r2, r3, r4, r5, r6, r7, r8, r9, r10⟩, rf⟩ := R4
      go_wp2
      refine bodyPost_ret (v := .agg #[.bool o.up, .bool o.has, .int .i64 o.r, .int .i64 o.c, .int .i64 o.b, .int .i64 o.p, .int .i64 o.h, .int .i64 o.l, .int .i64 o.ro, .int .i64 o.wa, .bool o.op]) (by simp [results, Tryz.results183, go_sem, *]) rfl ⟨by rw [hT.out], BZ⟩
  have d1 : (z.ro == 1) = false := by simpa using h1
  by_cases h2 : z.ro = 2
  · have d2 : (z.ro == 2) = true := by simpa using h2
    by_cases h0 : 0 < z.wa
    · have d0 : decide (0 < z.wa) = true := decide_eq_true h0
      have hcc : Hid ((z.ro = 1 ∨ z.ro = 2) ∧ 0 < z.wa) := ⟨.inr h2, h0⟩
      replace h2 : Hid _ := h2
      replace h1 : Hid _ := h1
      have P3 := P2.set9 (z.wa - 1)
      have B3 := B2.setCell (p := ⟨w.heap.size, 9, none⟩) (Nat.le_refl w.heap.size) (.int .i64 (z.wa - 1))
      have R3 := R2.other (q' := w.heap.size) (i := 9) (v := .int .i64 (z.wa - 1)) (by omega)
      obtain ⟨y3, hy3⟩ : ∃ y_, y_ = y2.setCell ⟨w.heap.size, 9, none⟩ (.int .i64 (z.wa - 1)) := ⟨_, rfl⟩
      rw [← hy3] at P3 B3 R3
      go_upto_region 4 with fail
      rw [← hy3]
      clear hy3 p0 p1 p2 p3 p4 p5 p6 p7 p8 p9 p10 pf P2 B2 R2
      obtain ⟨v, hv⟩ : ∃ v, v = ({ z with wa := z.wa - 1 } : Pt) := ⟨_, rfl⟩
      have P3 : PBox y3 w.heap.size v := by rw [hv]; exact P3
      replace hv : Hid _ := hv
      obtain ⟨⟨p0, p1, p2, p3, p4, p5, p6, p7, p8, p9, p10⟩, pf⟩ := P3
      go_wp2_with fail
      go_at_call 212
      refine (openS v y3).mono ?_
      rintro e w4 ⟨rfl, k4⟩
      have B4 := B3.trans (k4.mono B3.size)
      have S4 : w.heap.size + 1 < y3.heap.size := R3.lt
      have R4 := R3.below k4 S4
      obtain ⟨o, ho⟩ : ∃ o : Pt, o = { v with op := raOp v.ro v.wa } := ⟨_, rfl⟩
      have ho0 : Value.agg #[.bool o.up, .bool o.has, .int .i64 o.r, .int .i64 o.c, .int .i64 o.b, .int .i64 o.p, .int .i64 o.h, .int .i64 o.l, .int .i64 o.ro, .int .i64 o.wa, .bool o.op] = Value.agg #[.bool v.up, .bool v.has, .int .i64 v.r, .int .i64 v.c, .int .i64 v.b, .int .i64 v.p, .int .i64 v.h, .int .i64 v.l, .int .i64 v.ro, .int .i64 v.wa, .bool (raOp v.ro v.wa)] := by rw [ho]
      rw [← ho0]
      have hT : Hid (t = o) := by unfold Hid; rw [htr.out, ho]; rw [hv.out]; unfold tickW; rw [if_pos hcc.out]
      clear ho ho0 k4 p0 p1 p2 p3 p4 p5 p6 p7 p8 p9 p10 pf
      have RZ := (((((((((((R4.set0 o.up).set1 o.has).set2 o.r).set3 o.c).set4 o.b).set5 o.p).set6 o.h).set7 o.l).set8 o.ro).set9 o.wa).set10 o.op)
      have BZ := (((((((((((B4.setCell (p := ⟨w.heap.size + 1, 0, none⟩) (by show _ ≤ w.heap.size + 1; omega) (.bool o.up)).setCell (p := ⟨w.heap.size + 1, 1, none⟩) (by show _ ≤ w.heap.size + 1; omega) (.bool o.has)).setCell (p := ⟨w.heap.size + 1, 2, none⟩) (by show _ ≤ w.heap.size + 1; omega) (.int .i64 o.r)).setCell (p := ⟨w.heap.size + 1, 3, none⟩) (by show _ ≤ w.heap.size + 1; omega) (.int .i64 o.c)).setCell (p := ⟨w.heap.size + 1, 4, none⟩) (by show _ ≤ w.heap.size + 1; omega) (.int .i64 o.b)).setCell (p := ⟨w.heap.size + 1, 5, none⟩) (by show _ ≤ w.heap.size + 1; omega) (.int .i64 o.p)).setCell (p := ⟨w.heap.size + 1, 6, none⟩) (by show _ ≤ w.heap.size + 1; omega) (.int .i64 o.h)).setCell (p := ⟨w.heap.size + 1, 7, none⟩) (by show _ ≤ w.heap.size + 1; omega) (.int .i64 o.l)).setCell (p := ⟨w.heap.size + 1, 8, none⟩) (by show _ ≤ w.heap.size + 1; omega) (.int .i64 o.ro)).setCell (p := ⟨w.heap.size + 1, 9, none⟩) (by show _ ≤ w.heap.size + 1; omega) (.int .i64 o.wa)).setCell (p := ⟨w.heap.size + 1, 10, none⟩) (by show _ ≤ w.heap.size + 1; omega) (.bool o.op))
      obtain ⟨⟨z0, z1, z2, z3, z4, z5, z6, z7, z8, z9, z10⟩, _⟩ := RZ
      obtain ⟨⟨r0, r1, r2, r3, r4, r5, r6, r7, r8, r9, r10⟩, rf⟩ := R4
      go_wp2
      refine bodyPost_ret (v := .agg #[.bool o.up, .bool o.has, .int .i64 o.r, .int .i64 o.c, .int .i64 o.b, .int .i64 o.p, .int .i64 o.h, .int .i64 o.l, .int .i64 o.ro, .int .i64 o.wa, .bool o.op]) (by simp [results, Tryz.results183, go_sem, *]) rfl ⟨by rw [hT.out], BZ⟩
    · have d0 : decide (0 < z.wa) = false := decide_eq_false h0
      have hcc : Hid (¬ ((z.ro = 1 ∨ z.ro = 2) ∧ 0 < z.wa)) := fun e => h0 e.2
      replace h2 : Hid _ := h2
      replace h1 : Hid _ := h1
      replace h0 : Hid _ := h0
      go_upto_region 4 with fail
      go_wp2_with fail
      go_at_call 212
      refine (openS z y2).mono ?_
      rintro e w4 ⟨rfl, k4⟩
      have B4 := B2.trans (k4.mono B2.size)
      have S4 : w.heap.size + 1 < y2.heap.size := R2.lt
      have R4 := R2.below k4 S4
      obtain ⟨o, ho⟩ : ∃ o : Pt, o = { z with op := raOp z.ro z.wa } := ⟨_, rfl⟩
      have ho0 : Value.agg #[.bool o.up, .bool o.has, .int .i64 o.r, .int .i64 o.c, .int .i64 o.b, .int .i64 o.p, .int .i64 o.h, .int .i64 o.l, .int .i64 o.ro, .int .i64 o.wa, .bool o.op] = Value.agg #[.bool z.up, .bool z.has, .int .i64 z.r, .int .i64 z.c, .int .i64 z.b, .int .i64 z.p, .int .i64 z.h, .int .i64 z.l, .int .i64 z.ro, .int .i64 z.wa, .bool (raOp z.ro z.wa)] := by rw [ho]
      rw [← ho0]
      have hT : Hid (t = o) := by unfold Hid; rw [htr.out, ho]; unfold tickW; rw [if_neg hcc.out]
      clear ho ho0 k4 p0 p1 p2 p3 p4 p5 p6 p7 p8 p9 p10 pf
      have RZ := (((((((((((R4.set0 o.up).set1 o.has).set2 o.r).set3 o.c).set4 o.b).set5 o.p).set6 o.h).set7 o.l).set8 o.ro).set9 o.wa).set10 o.op)
      have BZ := (((((((((((B4.setCell (p := ⟨w.heap.size + 1, 0, none⟩) (by show _ ≤ w.heap.size + 1; omega) (.bool o.up)).setCell (p := ⟨w.heap.size + 1, 1, none⟩) (by show _ ≤ w.heap.size + 1; omega) (.bool o.has)).setCell (p := ⟨w.heap.size + 1, 2, none⟩) (by show _ ≤ w.heap.size + 1; omega) (.int .i64 o.r)).setCell (p := ⟨w.heap.size + 1, 3, none⟩) (by show _ ≤ w.heap.size + 1; omega) (.int .i64 o.c)).setCell (p := ⟨w.heap.size + 1, 4, none⟩) (by show _ ≤ w.heap.size + 1; omega) (.int .i64 o.b)).setCell (p := ⟨w.heap.size + 1, 5, none⟩) (by show _ ≤ w.heap.size + 1; omega) (.int .i64 o.p)).setCell (p := ⟨w.heap.size + 1, 6, none⟩) (by show _ ≤ w.heap.size + 1; omega) (.int .i64 o.h)).setCell (p := ⟨w.heap.size + 1, 7, none⟩) (by show _ ≤ w.heap.size + 1; omega) (.int .i64 o.l)).setCell (p := ⟨w.heap.size + 1, 8, none⟩) (by show _ ≤ w.heap.size + 1; omega) (.int .i64 o.ro)).setCell (p := ⟨w.heap.size + 1, 9, none⟩) (by show _ ≤ w.heap.size + 1; omega) (.int .i64 o.wa)).setCell (p := ⟨w.heap.size + 1, 10, none⟩) (by show _ ≤ w.heap.size + 1; omega) (.bool o.op))
      obtain ⟨⟨z0, z1, z2, z3, z4, z5, z6, z7, z8, z9, z10⟩, _⟩ := RZ
      obtain ⟨⟨r0, r1, r2, r3, r4, r5, r6, r7, r8, r9, r10⟩, rf⟩ := R4
      go_wp2
      refine bodyPost_ret (v := .agg #[.bool o.up, .bool o.has, .int .i64 o.r, .int .i64 o.c, .int .i64 o.b, .int .i64 o.p, .int .i64 o.h, .int .i64 o.l, .int .i64 o.ro, .int .i64 o.wa, .bool o.op]) (by simp [results, Tryz.results183, go_sem, *]) rfl ⟨by rw [hT.out], BZ⟩
  have d2 : (z.ro == 2) = false := by simpa using h2
  have hcc : Hid (¬ ((z.ro = 1 ∨ z.ro = 2) ∧ 0 < z.wa)) := fun e => by rcases e.1 with q | q; exact h1 q; exact h2 q
  replace h1 : Hid _ := h1
  replace h2 : Hid _ := h2
  go_upto_region 4 with fail
  go_wp2_with fail
  go_at_call 212
  refine (openS z y2).mono ?_
  rintro e w4 ⟨rfl, k4⟩
  have B4 := B2.trans (k4.mono B2.size)
  have S4 : w.heap.size + 1 < y2.heap.size := R2.lt
  have R4 := R2.below k4 S4
  obtain ⟨o, ho⟩ : ∃ o : Pt, o = { z with op := raOp z.ro z.wa } := ⟨_, rfl⟩
  have ho0 : Value.agg #[.bool o.up, .bool o.has, .int .i64 o.r, .int .i64 o.c, .int .i64 o.b, .int .i64 o.p, .int .i64 o.h, .int .i64 o.l, .int .i64 o.ro, .int .i64 o.wa, .bool o.op] = Value.agg #[.bool z.up, .bool z.has, .int .i64 z.r, .int .i64 z.c, .int .i64 z.b, .int .i64 z.p, .int .i64 z.h, .int .i64 z.l, .int .i64 z.ro, .int .i64 z.wa, .bool (raOp z.ro z.wa)] := by rw [ho]
  rw [← ho0]
  have hT : Hid (t = o) := by unfold Hid; rw [htr.out, ho]; unfold tickW; rw [if_neg hcc.out]
  clear ho ho0 k4 p0 p1 p2 p3 p4 p5 p6 p7 p8 p9 p10 pf
  have RZ := (((((((((((R4.set0 o.up).set1 o.has).set2 o.r).set3 o.c).set4 o.b).set5 o.p).set6 o.h).set7 o.l).set8 o.ro).set9 o.wa).set10 o.op)
  have BZ := (((((((((((B4.setCell (p := ⟨w.heap.size + 1, 0, none⟩) (by show _ ≤ w.heap.size + 1; omega) (.bool o.up)).setCell (p := ⟨w.heap.size + 1, 1, none⟩) (by show _ ≤ w.heap.size + 1; omega) (.bool o.has)).setCell (p := ⟨w.heap.size + 1, 2, none⟩) (by show _ ≤ w.heap.size + 1; omega) (.int .i64 o.r)).setCell (p := ⟨w.heap.size + 1, 3, none⟩) (by show _ ≤ w.heap.size + 1; omega) (.int .i64 o.c)).setCell (p := ⟨w.heap.size + 1, 4, none⟩) (by show _ ≤ w.heap.size + 1; omega) (.int .i64 o.b)).setCell (p := ⟨w.heap.size + 1, 5, none⟩) (by show _ ≤ w.heap.size + 1; omega) (.int .i64 o.p)).setCell (p := ⟨w.heap.size + 1, 6, none⟩) (by show _ ≤ w.heap.size + 1; omega) (.int .i64 o.h)).setCell (p := ⟨w.heap.size + 1, 7, none⟩) (by show _ ≤ w.heap.size + 1; omega) (.int .i64 o.l)).setCell (p := ⟨w.heap.size + 1, 8, none⟩) (by show _ ≤ w.heap.size + 1; omega) (.int .i64 o.ro)).setCell (p := ⟨w.heap.size + 1, 9, none⟩) (by show _ ≤ w.heap.size + 1; omega) (.int .i64 o.wa)).setCell (p := ⟨w.heap.size + 1, 10, none⟩) (by show _ ≤ w.heap.size + 1; omega) (.bool o.op))
  obtain ⟨⟨z0, z1, z2, z3, z4, z5, z6, z7, z8, z9, z10⟩, _⟩ := RZ
  obtain ⟨⟨r0, r1, r2, r3, r4, r5, r6, r7, r8, r9, r10⟩, rf⟩ := R4
  go_wp2
  refine bodyPost_ret (v := .agg #[.bool o.up, .bool o.has, .int .i64 o.r, .int .i64 o.c, .int .i64 o.b, .int .i64 o.p, .int .i64 o.h, .int .i64 o.l, .int .i64 o.ro, .int .i64 o.wa, .bool o.op]) (by simp [results, Tryz.results183, go_sem, *]) rfl ⟨by rw [hT.out], BZ⟩

end Go.Proofs.YtnpiljegdiconaaGreat
namespace Go.Proofs.YtnpiljegdiconaaGreat
open Go.ChangeShapes Go.WideShapes Go.ChangeAt Go.RowKit
open Go.ChangeMaps (open_string shut_string)
set_option linter.unusedVariables false
set_option maxRecDepth 100000

theorem markd_getD {X : Type} {mk : Nat → X} {L : List X} {k : Nat} (d : X) (h : k < L.length) : (markd mk L k).getD k d = L.getD k d := by
  unfold markd
  rw [List.getD_eq_getElem?_getD, List.getElem?_append_right (by simp), List.getD_eq_getElem?_getD]
  simp
set_option maxHeartbeats 8000000 in
theorem inST (id : Int) (cap : Nat) (L : List Pt)  (base g : Nat) (w : World) (hr : FOwn ptEnc 11 109 base w (.slice (some ⟨g, 0, none⟩) L.length cap) L) (hl : L.length ≤ 4) (hb : bOk id L = true) :
    Calls Tryz.prog 136 #[.agg #[.int .i64 id, .slice (some ⟨g, 0, none⟩) L.length cap], .agg #[.int .i64 2, .int .i64 0, .int .i64 0, .int .i64 0, .int .i64 0, .int .i64 0, .int .i64 0, .bool false]] w fun e w' => ∃ ad' cap', e = .returned (.agg #[.int .i64 id, .slice ad' (decideR id (L.map tickP)).length cap']) ∧ FOwn ptEnc 11 109 base w' (.slice ad' (decideR id (L.map tickP)).length cap') (decideR id (L.map tickP)) ∧ (∀ g_, (Value.slice ad' (decideR id (L.map tickP)).length cap').ownBlock = some g_ → g_ = g ∨ w.heap.size ≤ g_) ∧ Bar g w.heap.size w w' ∧ Below base w w' := by
  have hgb := hr.lt g rfl
  obtain ⟨y, hy⟩ : ∃ y, y = ((w.alloc (Obj.cells #[.int .i64 id, .slice (some ⟨g, 0, none⟩) L.length cap] 56)).alloc (Obj.cells #[.int .i64 2, .int .i64 0, .int .i64 0, .int .i64 0, .int .i64 0, .int .i64 0, .int .i64 0, .bool false] 105)).alloc (Obj.cells #[.int .i64 0, .slice none 0 0] 56) := ⟨_, rfl⟩
  have B0 : Below w.heap.size w y := by rw [hy]; exact (((Below.refl _ _).alloc (Nat.le_refl _) _).alloc (by simp) _).alloc (by simp; omega) _
  have A0 : BrAt y w.heap.size id (.slice (some ⟨g, 0, none⟩) L.length cap) := by rw [hy]; constructor <;> simp [go_sem]
  have X0 : InAt y (w.heap.size + 1) ⟨2, 0, 0, 0, 0, 0, 0, false⟩ := by rw [hy]; constructor <;> simp [go_sem]
  have R0 : BBox y (w.heap.size + 1 + 1) 0 (.slice none 0 0) := by rw [hy]; refine ⟨?_, fun i => ?_⟩; constructor <;> simp [go_sem]; simp [go_sem]
  have S0 := R0.lt
  have o0 := hr.later B0
  have C0 : Below base w y := B0.mono (by omega)
  obtain ⟨D, hD⟩ : ∃ D, D = decideR id (L.map tickP) := ⟨_, rfl⟩
  rw [← hD]
  replace hD : Hid _ := hD
  obtain ⟨hg1, hg2⟩ := hgb
  clear hr
  go_enter Tryz.func136, Tryz.ntmps136
  have hlen := (bOk_all hb).2.1
  replace hb : Hid _ := hb
  obtain ⟨f, hf⟩ : ∃ f : Nat → Pt, f = fun i => tickP (L.getD i Pt.nil) := ⟨_, rfl⟩
  have hfk : ∀ i, tickP (L.getD i Pt.nil) = f i := fun i => by rw [hf]
  have hfm : Hid ((List.range L.length).map f = L.map tickP) := by
    unfold Hid
    rw [hf]
    apply List.ext_getElem (by simp)
    intro i h1 h2
    simp [List.getD, (by simpa using h1 : i < L.length)]
  clear hf
  replace hfk : Hid _ := hfk
  have M0 : FOwn ptEnc 11 109 base y (.slice (some ⟨g, 0, none⟩) L.length cap) (markd f L 0) := by rw [markd_zero]; exact o0
  clear o0
  go_upto_region 5 with fail
  rw [← hy]
  clear hy
  go_wp2
  go_loopw [5] (fun i wr => ∃ k : Nat, k ≤ L.length ∧ i = .int .i64 (k : Int) ∧ FOwn ptEnc 11 109 base wr (.slice (some ⟨g, 0, none⟩) L.length cap) (markd f L k) ∧ Bar g y.heap.size y wr ∧ Below base w wr) (fun i _ => L.length - (intOf i).toNat)
  case atStart => exact ⟨0, Nat.zero_le _, rfl, M0, Bar.of (Below.refl _ _), C0⟩
  case round =>
    obtain ⟨k, hk, rfl, M, hBar, C4⟩ := hrel
    have A4 := A0.bar hBar A0.lt (by omega)
    have R4 := R0.keep (hBar.block _ R0.lt (by omega))
    have z4 := hBar.size
    have A4' := A4
    obtain ⟨a0, a1⟩ := A4'
    by_cases hlt : k < L.length
    · have hml : (markd f L k).length = L.length := markd_len hk
      have M' := M
      rw [← hml] at M'
      obtain ⟨hp, hhp⟩ : ∃ v, L.getD k Pt.nil = v := ⟨_, rfl⟩
      have hok : Hid (pOk hp = true) := by unfold Hid; rw [← hhp]; exact (bOk_all hb.out).2.2 k
      obtain ⟨z, hz⟩ : ∃ z, z = f k := ⟨_, rfl⟩
      have hz2 : Hid (tickP hp = z) := by unfold Hid; rw [hz, ← hhp]; exact hfk.out k
      replace hz : Hid _ := hz
      have hck : PtAtO wr g (k * 11) hp := by rw [← hhp, ← markd_getD (mk := f) Pt.nil hlt]; exact ptAtO_of (M'.cell ptEnc_len Pt.nil (by rw [hml]; exact hlt))
      replace hhp : Hid _ := hhp
      replace hml : Hid _ := hml
      clear M'
      go_upto_region 8 with fail
      clear a0 a1
      refine wp_region_held (S := fun Y => Bar g wr.heap.size wr Y) (by kernel_rfl) ?_
      change wpAnyH _ _ _ _ _ _ _ _ (World.drew _)
      have hb0 : Below wr.heap.size wr wr.drew := (Below.refl _ _).drew
      obtain ⟨u0, hy0⟩ : ∃ y_, y_ = wr.drew := ⟨_, rfl⟩
      rw [← hy0] at hb0 ⊢
      clear hy0
      have hS0 : Bar g wr.heap.size wr u0 := Bar.of hb0
      refine takeW 0 35 (.pointer (some ⟨w.heap.size, 1, none⟩)) rfl rfl (by kernel_rfl) (by kernel_rfl) (by kernel_rfl) (fun _ _ _ h => h) (by kernel_rfl) (by (intro w hSw; go_simp)) (by assumption) ?_
      simp only [List.set_cons_zero, List.set_cons_succ]
      refine takeW 1 36 (.slice (some ⟨g, 0, none⟩) L.length cap) rfl rfl (by kernel_rfl) (by kernel_rfl) (by kernel_rfl) (fun _ _ _ h => h) (by kernel_rfl) (by (intro Y hSw; obtain ⟨X0_, X1_⟩ := A4.bar hSw A4.lt (by omega); go_simp)) (by assumption) ?_
      simp only [List.set_cons_zero, List.set_cons_succ]
      refine takeW 2 37 (.int .i64 (k : Int)) rfl rfl (by kernel_rfl) (by kernel_rfl) (by kernel_rfl) (fun _ _ _ h => h) (by kernel_rfl) (by (intro w hSw; go_simp)) (by assumption) ?_
      simp only [List.set_cons_zero, List.set_cons_succ]
      refine takeW 3 38 (.pointer (some ⟨w.heap.size, 1, none⟩)) rfl rfl (by kernel_rfl) (by kernel_rfl) (by kernel_rfl) (fun _ _ _ h => h) (by kernel_rfl) (by (intro w hSw; go_simp)) (by assumption) ?_
      simp only [List.set_cons_zero, List.set_cons_succ]
      refine takeW 4 39 (.slice (some ⟨g, 0, none⟩) L.length cap) rfl rfl (by kernel_rfl) (by kernel_rfl) (by kernel_rfl) (fun _ _ _ h => h) (by kernel_rfl) (by (intro Y hSw; obtain ⟨X0_, X1_⟩ := A4.bar hSw A4.lt (by omega); go_simp)) (by assumption) ?_
      simp only [List.set_cons_zero, List.set_cons_succ]
      refine takeW 5 40 (.int .i64 (k : Int)) rfl rfl (by kernel_rfl) (by kernel_rfl) (by kernel_rfl) (fun _ _ _ h => h) (by kernel_rfl) (by (intro w hSw; go_simp)) (by assumption) ?_
      simp only [List.set_cons_zero, List.set_cons_succ]
      refine takeW 6 41 (.pointer (some ⟨g, k * 11, none⟩)) rfl rfl (by kernel_rfl) (by kernel_rfl) (by kernel_rfl) (fun _ _ _ h => h) (by kernel_rfl) (by (intro Y hSw; go_simp; try omega)) (by assumption) ?_
      simp only [List.set_cons_zero, List.set_cons_succ]
      refine wpAnyH_all (rs := [7]) (by kernel_rfl) (by simp) ?_
      intro i hi; obtain rfl : i = 7 := by simpa using hi
      refine wpOp_step rfl (fun K hK => ?_)
      rw [if_pos (by kernel_rfl)]
      obtain ⟨t0, t1, t2, t3, t4, t5, t6, t7, t8, t9, t10⟩ : PtAtO u0 g (k * 11) hp := ⟨(World.cell?_of_block (a := ⟨g, k * 11, none⟩) (hb0.block g (by omega))).trans hck.c0, (World.cell?_of_block (a := ⟨g, k * 11 + 1, none⟩) (hb0.block g (by omega))).trans hck.c1, (World.cell?_of_block (a := ⟨g, k * 11 + 2, none⟩) (hb0.block g (by omega))).trans hck.c2, (World.cell?_of_block (a := ⟨g, k * 11 + 3, none⟩) (hb0.block g (by omega))).trans hck.c3, (World.cell?_of_block (a := ⟨g, k * 11 + 4, none⟩) (hb0.block g (by omega))).trans hck.c4, (World.cell?_of_block (a := ⟨g, k * 11 + 5, none⟩) (hb0.block g (by omega))).trans hck.c5, (World.cell?_of_block (a := ⟨g, k * 11 + 6, none⟩) (hb0.block g (by omega))).trans hck.c6, (World.cell?_of_block (a := ⟨g, k * 11 + 7, none⟩) (hb0.block g (by omega))).trans hck.c7, (World.cell?_of_block (a := ⟨g, k * 11 + 8, none⟩) (hb0.block g (by omega))).trans hck.c8, (World.cell?_of_block (a := ⟨g, k * 11 + 9, none⟩) (hb0.block g (by omega))).trans hck.c9, (World.cell?_of_block (a := ⟨g, k * 11 + 10, none⟩) (hb0.block g (by omega))).trans hck.c10⟩
      go_simp
      clear t0 t1 t2 t3 t4 t5 t6 t7 t8 t9 t10
      refine hK _ _ ⟨hS0, ?_⟩
      clear hK K hi
      refine wpAnyH_all (rs := [8]) (by kernel_rfl) (by simp) ?_
      intro i hi; obtain rfl : i = 8 := by simpa using hi
      refine wpOp_step rfl (fun K hK => ?_)
      rw [if_pos (by kernel_rfl)]
      go_simp
      go_at_call 183
      refine (tickedS hp u0 hok.out).mono ?_
      rintro e u1 ⟨rfl, kq⟩
      have hb1 : Below wr.heap.size wr u1 := hb0.trans (kq.mono hb0.size)
      clear kq
      rw [hz2.out]
      have hS1 : Bar g wr.heap.size wr u1 := Bar.of hb1
      refine hK _ _ ⟨Bar.of hb1, ?_⟩
      clear hK K hi
      refine takeW 9 44 (.pointer (some ⟨g, k * 11, none⟩)) rfl rfl (by kernel_rfl) (by kernel_rfl) (by kernel_rfl) (fun _ _ _ h => h) (by kernel_rfl) (by (intro Y hSw; go_simp; try omega)) (by assumption) ?_
      simp only [List.set_cons_zero, List.set_cons_succ]
      refine wpAnyH_all (rs := [10]) (by kernel_rfl) (by simp) ?_
      intro i hi; obtain rfl : i = 10 := by simpa using hi
      refine wpOp_step rfl (fun K hK => ?_)
      rw [if_pos (by kernel_rfl)]
      have MU : FOwn ptEnc 11 109 base u1 (.slice (some ⟨g, 0, none⟩) L.length cap) (markd f L k) := M.later hb1
      rw [← hml.out] at MU
      obtain ⟨t0, t1, t2, t3, t4, t5, t6, t7, t8, t9, t10⟩ : PtAtO u1 g (k * 11) ((markd f L k).getD k Pt.nil) := ptAtO_of (MU.cell ptEnc_len Pt.nil (by rw [hml.out]; exact hlt))
      have ff := MU.frozen
      have f0 := ff (k * 11)
      have f1 := ff (k * 11 + 1)
      have f2 := ff (k * 11 + 2)
      have f3 := ff (k * 11 + 3)
      have f4 := ff (k * 11 + 4)
      have f5 := ff (k * 11 + 5)
      have f6 := ff (k * 11 + 6)
      have f7 := ff (k * 11 + 7)
      have f8 := ff (k * 11 + 8)
      have f9 := ff (k * 11 + 9)
      have f10 := ff (k * 11 + 10)
      have MS := MU.set ptEnc_len (by omega) (i := k) (by rw [hml.out]; exact hlt) z
      rw [hz.out, markd_set hlt, ptPut, hml.out, ← hz.out] at MS
      have SB := Bar.putAll (o := k * 11) (ptEnc z) (Bar.of (g := g) hb1)
      rw [ptPut] at SB
      have BB := below_putAll (B := base) hg1 (ptEnc z) (k * 11) (C4.trans (hb1.mono (by omega)))
      rw [ptPut] at BB
      clear ff MU
      obtain ⟨uf, huf⟩ : ∃ y_, y_ = (((((((((((u1.setCell ⟨g, k * 11, none⟩ (.bool z.up)).setCell ⟨g, k * 11 + 1, none⟩ (.bool z.has)).setCell ⟨g, k * 11 + 2, none⟩ (.int .i64 z.r)).setCell ⟨g, k * 11 + 3, none⟩ (.int .i64 z.c)).setCell ⟨g, k * 11 + 4, none⟩ (.int .i64 z.b)).setCell ⟨g, k * 11 + 5, none⟩ (.int .i64 z.p)).setCell ⟨g, k * 11 + 6, none⟩ (.int .i64 z.h)).setCell ⟨g, k * 11 + 7, none⟩ (.int .i64 z.l)).setCell ⟨g, k * 11 + 8, none⟩ (.int .i64 z.ro)).setCell ⟨g, k * 11 + 9, none⟩ (.int .i64 z.wa)).setCell ⟨g, k * 11 + 10, none⟩ (.bool z.op)) := ⟨_, rfl⟩
      rw [← huf] at MS SB BB
      go_simp
      rw [← huf]
      clear huf t0 f0 t1 f1 t2 f2 t3 f3 t4 f4 t5 f5 t6 f6 t7 f7 t8 f8 t9 f9 t10 f10
      refine hK _ _ ⟨SB, ?_⟩
      clear hK K hi
      refine wpAnyH_done (by kernel_rfl) ?_ _
      have hBar2 : Bar g y.heap.size y uf := ⟨Nat.le_trans hBar.size SB.size, fun q hq hne => (SB.block q (by omega) hne).trans (hBar.block q hq hne)⟩
      go_wp2
      go_roundw
      case rel => exact ⟨k + 1, by omega, by go_num, MS, hBar2, BB⟩
      case measure => simp [intOf]; omega
    · obtain rfl : k = L.length := by omega
      clear a0 a1
      have ac := A4
      rw [markd_all, hfm.out] at M
      obtain ⟨Mv, hMv⟩ : ∃ v, v = L.map tickP := ⟨_, rfl⟩
      rw [← hMv] at M
      have hMl : Mv.length = L.length := by rw [hMv]; simp
      have hDM : Hid (D = decideR id Mv) := by unfold Hid; rw [hD.out, hMv]
      replace hMl : Hid _ := hMl
      clear hMv
      have hdc := decideS id (some ⟨g, 0, none⟩) cap Mv wr (by have := M; unfold FOwn at this; exact (show FOwn ptEnc 11 109 base wr (.slice (some ⟨g, 0, none⟩) L.length cap) Mv from this).view.2) (by rw [hMl.out]; omega) (fun e => by cases e)
      rw [hMl.out] at hdc
      obtain ⟨a0, a1⟩ := ac
      go_wp2_with fail
      go_at_call 184
      clear a0 a1
      refine hdc.mono ?_
      rintro e w9 ⟨aD, cD, rfl, oD, k9⟩
      clear hdc
      rw [← hDM.out] at oD ⊢
      have z9 := C4.size
      have S9 : w.heap.size + 1 + 1 < wr.heap.size := R4.lt
      have RX := R4.below k9 R4.lt
      have BX := C4.trans (k9.mono (by omega))
      have RP := RX.put id (.slice aD D.length cD)
      obtain ⟨⟨r0, r1⟩, rf⟩ := RX
      have BZ := (BX.setCell (p := ⟨w.heap.size + 1 + 1, 0, none⟩) (by show base ≤ w.heap.size + 1 + 1; omega) (.int .i64 id)).setCell (p := ⟨w.heap.size + 1 + 1, 1, none⟩) (by show base ≤ w.heap.size + 1 + 1; omega) (.slice aD D.length cD)
      have OZ : FOwn ptEnc 11 109 base ((w9.setCell ⟨w.heap.size + 1 + 1, 0, none⟩ (.int .i64 id)).setCell ⟨w.heap.size + 1 + 1, 1, none⟩ (.slice aD D.length cD)) (.slice aD D.length cD) D := (oD.base (by omega)).keep fun g' e => by
        have := (oD.lt g' e).1
        rw [Below.heap_setCell _ _ _ _ (by show g' ≠ w.heap.size + 1 + 1; omega), Below.heap_setCell _ _ _ _ (by show g' ≠ w.heap.size + 1 + 1; omega)]
      have b0z := B0.size
      have sbz := hBar.size
      have WZ : Bar g w.heap.size w ((w9.setCell ⟨w.heap.size + 1 + 1, 0, none⟩ (.int .i64 id)).setCell ⟨w.heap.size + 1 + 1, 1, none⟩ (.slice aD D.length cD)) := ⟨BZ.size, fun q hq hne => by
        rw [Below.heap_setCell _ _ _ _ (by show q ≠ w.heap.size + 1 + 1; omega), Below.heap_setCell _ _ _ _ (by show q ≠ w.heap.size + 1 + 1; omega)]
        exact (k9.block q (by omega)).trans ((hBar.block q (by omega) hne).trans (B0.block q hq))⟩
      have JZ : ∀ g_, (Value.slice aD D.length cD).ownBlock = some g_ → g_ = g ∨ w.heap.size ≤ g_ := fun g_ e => .inr (by have := (oD.lt g_ e).1; omega)
      obtain ⟨⟨p0, p1⟩, _⟩ := RP
      go_wp2
      refine bodyPost_ret (v := .agg #[.int .i64 id, .slice aD D.length cD]) (by simp [results, Tryz.results136, go_sem, *]) rfl ⟨_, _, rfl, OZ, JZ, WZ, BZ⟩

end Go.Proofs.YtnpiljegdiconaaGreat
namespace Go.Proofs.YtnpiljegdiconaaGreat
open Go.ChangeShapes Go.WideShapes Go.ChangeAt Go.RowKit
open Go.ChangeMaps (open_string shut_string)
set_option linter.unusedVariables false
set_option maxRecDepth 100000

set_option maxHeartbeats 8000000 in
theorem inSL (id : Int) (cap : Nat) (L : List Pt) (k : Nat) (up : Bool) (base g : Nat) (w : World) (hr : FOwn ptEnc 11 109 base w (.slice (some ⟨g, 0, none⟩) L.length cap) L) (hl : L.length ≤ 4) (hqL : k < L.length) :
    Calls Tryz.prog 136 #[.agg #[.int .i64 id, .slice (some ⟨g, 0, none⟩) L.length cap], .agg #[.int .i64 3, .int .i64 (k : Int), .int .i64 0, .int .i64 0, .int .i64 0, .int .i64 0, .int .i64 0, .bool up]] w fun e w' => ∃ ad' cap', e = .returned (.agg #[.int .i64 id, .slice ad' ((if (L.getD k Pt.nil).up = up then L else decideR id (L.set k (linkP up)))).length cap']) ∧ FOwn ptEnc 11 109 base w' (.slice ad' ((if (L.getD k Pt.nil).up = up then L else decideR id (L.set k (linkP up)))).length cap') ((if (L.getD k Pt.nil).up = up then L else decideR id (L.set k (linkP up)))) ∧ (∀ g_, (Value.slice ad' ((if (L.getD k Pt.nil).up = up then L else decideR id (L.set k (linkP up)))).length cap').ownBlock = some g_ → g_ = g ∨ w.heap.size ≤ g_) ∧ Bar g w.heap.size w w' ∧ Below base w w' := by
  have hgb := hr.lt g rfl
  obtain ⟨y, hy⟩ : ∃ y, y = ((w.alloc (Obj.cells #[.int .i64 id, .slice (some ⟨g, 0, none⟩) L.length cap] 56)).alloc (Obj.cells #[.int .i64 3, .int .i64 (k : Int), .int .i64 0, .int .i64 0, .int .i64 0, .int .i64 0, .int .i64 0, .bool up] 105)).alloc (Obj.cells #[.int .i64 0, .slice none 0 0] 56) := ⟨_, rfl⟩
  have B0 : Below w.heap.size w y := by rw [hy]; exact (((Below.refl _ _).alloc (Nat.le_refl _) _).alloc (by simp) _).alloc (by simp; omega) _
  have A0 : BrAt y w.heap.size id (.slice (some ⟨g, 0, none⟩) L.length cap) := by rw [hy]; constructor <;> simp [go_sem]
  have X0 : InAt y (w.heap.size + 1) ⟨3, (k : Int), 0, 0, 0, 0, 0, up⟩ := by rw [hy]; constructor <;> simp [go_sem]
  have R0 : BBox y (w.heap.size + 1 + 1) 0 (.slice none 0 0) := by rw [hy]; refine ⟨?_, fun i => ?_⟩; constructor <;> simp [go_sem]; simp [go_sem]
  have S0 := R0.lt
  have o0 := hr.later B0
  have C0 : Below base w y := B0.mono (by omega)
  obtain ⟨D, hD⟩ : ∃ D, D = (if (L.getD k Pt.nil).up = up then L else decideR id (L.set k (linkP up))) := ⟨_, rfl⟩
  rw [← hD]
  replace hD : Hid _ := hD
  obtain ⟨hg1, hg2⟩ := hgb
  clear hr
  go_enter Tryz.func136, Tryz.ntmps136
  go_upto_region 10 with fail
  rw [← hy]
  clear hy
  obtain ⟨hp, hhp⟩ : ∃ v, L.getD k Pt.nil = v := ⟨_, rfl⟩
  have hD1 : Hid (D = if hp.up = up then L else decideR id (L.set k (linkP up))) := by unfold Hid; rw [hD.out, hhp]
  have hcp : ∀ Y, Below y.heap.size y Y → PtAtO Y g (k * 11) hp := fun Y hY => by rw [← hhp]; exact ptAtO_of ((o0.later hY).cell ptEnc_len Pt.nil hqL)
  clear hD hhp
  by_cases hu : hp.up = up
  · have hN : Hid (D = L) := by unfold Hid; rw [hD1.out, if_pos hu]
    replace hu : Hid _ := hu
    refine wp_region_held (S := fun Y => Below y.heap.size y Y) (by kernel_rfl) ?_
    change wpAnyH _ _ _ _ _ _ _ _ (World.drew _)
    have hb0 : Below y.heap.size y y.drew := (Below.refl _ _).drew
    obtain ⟨u0, hy0⟩ : ∃ y_, y_ = y.drew := ⟨_, rfl⟩
    rw [← hy0] at hb0 ⊢
    clear hy0
    refine takeW 0 47 (.pointer (some ⟨w.heap.size, 1, none⟩)) rfl rfl (by kernel_rfl) (by kernel_rfl) (by kernel_rfl) (fun _ _ _ h => h) (by kernel_rfl) (by (intro w hSw; go_simp)) (by assumption) ?_
    simp only [List.set_cons_zero, List.set_cons_succ]
    refine takeW 1 48 (.slice (some ⟨g, 0, none⟩) L.length cap) rfl rfl (by kernel_rfl) (by kernel_rfl) (by kernel_rfl) (fun _ _ _ h => h) (by kernel_rfl) (by (intro Y hSw; obtain ⟨X0_, X1_⟩ := A0.below hSw A0.lt; go_simp)) (by assumption) ?_
    simp only [List.set_cons_zero, List.set_cons_succ]
    refine takeW 2 49 (.pointer (some ⟨w.heap.size + 1, 1, none⟩)) rfl rfl (by kernel_rfl) (by kernel_rfl) (by kernel_rfl) (fun _ _ _ h => h) (by kernel_rfl) (by (intro w hSw; go_simp)) (by assumption) ?_
    simp only [List.set_cons_zero, List.set_cons_succ]
    refine takeW 3 50 (.int .i64 (k : Int)) rfl rfl (by kernel_rfl) (by kernel_rfl) (by kernel_rfl) (fun _ _ _ h => h) (by kernel_rfl) (by (intro Y hSw; obtain ⟨Z0, Z1, Z2, Z3, Z4, Z5, Z6, Z7⟩ := X0.below hSw X0.lt; go_simp)) (by assumption) ?_
    simp only [List.set_cons_zero, List.set_cons_succ]
    refine takeW 4 51 (.pointer (some ⟨g, k * 11, none⟩)) rfl rfl (by kernel_rfl) (by kernel_rfl) (by kernel_rfl) (fun _ _ _ h => h) (by kernel_rfl) (by (intro Y hSw; go_simp; try omega)) (by assumption) ?_
    simp only [List.set_cons_zero, List.set_cons_succ]
    refine takeW 5 52 (.pointer (some ⟨g, k * 11, none⟩)) rfl rfl (by kernel_rfl) (by kernel_rfl) (by kernel_rfl) (fun _ _ _ h => h) (by kernel_rfl) (by (intro w hSw; go_simp)) (by assumption) ?_
    simp only [List.set_cons_zero, List.set_cons_succ]
    refine takeW 6 53 (.bool hp.up) rfl rfl (by kernel_rfl) (by kernel_rfl) (by kernel_rfl) (fun _ _ _ h => h) (by kernel_rfl) (by (intro Y hSw; obtain ⟨X0, X1, X2, X3, X4, X5, X6, X7, X8, X9, X10⟩ := hcp Y hSw; go_simp)) (by assumption) ?_
    simp only [List.set_cons_zero, List.set_cons_succ]
    refine takeW 7 54 (.pointer (some ⟨w.heap.size + 1, 7, none⟩)) rfl rfl (by kernel_rfl) (by kernel_rfl) (by kernel_rfl) (fun _ _ _ h => h) (by kernel_rfl) (by (intro w hSw; go_simp)) (by assumption) ?_
    simp only [List.set_cons_zero, List.set_cons_succ]
    refine takeW 8 55 (.bool up) rfl rfl (by kernel_rfl) (by kernel_rfl) (by kernel_rfl) (fun _ _ _ h => h) (by kernel_rfl) (by (intro Y hSw; obtain ⟨Z0, Z1, Z2, Z3, Z4, Z5, Z6, Z7⟩ := X0.below hSw X0.lt; go_simp)) (by assumption) ?_
    simp only [List.set_cons_zero, List.set_cons_succ]
    refine takeW 9 56 (.bool true) rfl rfl (by kernel_rfl) (by kernel_rfl) (by kernel_rfl) (fun _ _ _ h => h) (by kernel_rfl) (by (intro Y hSw; go_simp; exact hu.out)) (by assumption) ?_
    simp only [List.set_cons_zero, List.set_cons_succ]
    refine wpAnyH_done (by kernel_rfl) ?_ _
    have A6 := A0.below hb0 A0.lt
    have R6 := R0.below hb0 R0.lt
    have o6 := o0.later hb0
    have z6 := hb0.size
    have B6 := C0.trans (hb0.mono (by omega))
    have RP := R6.put id (.slice (some ⟨g, 0, none⟩) L.length cap)
    obtain ⟨⟨r0, r1⟩, rf⟩ := R6
    obtain ⟨n0, n1⟩ := A6
    have BZ := (B6.setCell (p := ⟨w.heap.size + 1 + 1, 0, none⟩) (by show base ≤ w.heap.size + 1 + 1; omega) (.int .i64 id)).setCell (p := ⟨w.heap.size + 1 + 1, 1, none⟩) (by show base ≤ w.heap.size + 1 + 1; omega) (.slice (some ⟨g, 0, none⟩) L.length cap)
    have OZ : FOwn ptEnc 11 109 base ((u0.setCell ⟨w.heap.size + 1 + 1, 0, none⟩ (.int .i64 id)).setCell ⟨w.heap.size + 1 + 1, 1, none⟩ (.slice (some ⟨g, 0, none⟩) L.length cap)) (.slice (some ⟨g, 0, none⟩) L.length cap) L := o6.keep fun g' e => by
      obtain rfl : g = g' := by simpa [Value.ownBlock] using e
      rw [Below.heap_setCell _ _ _ _ (by show g ≠ w.heap.size + 1 + 1; omega), Below.heap_setCell _ _ _ _ (by show g ≠ w.heap.size + 1 + 1; omega)]
    have WZ : Bar g w.heap.size w ((u0.setCell ⟨w.heap.size + 1 + 1, 0, none⟩ (.int .i64 id)).setCell ⟨w.heap.size + 1 + 1, 1, none⟩ (.slice (some ⟨g, 0, none⟩) L.length cap)) := ⟨BZ.size, fun q hq hne => by
      rw [Below.heap_setCell _ _ _ _ (by show q ≠ w.heap.size + 1 + 1; omega), Below.heap_setCell _ _ _ _ (by show q ≠ w.heap.size + 1 + 1; omega)]
      exact (hb0.block q (by omega)).trans (B0.block q hq)⟩
    have JZ : ∀ g_, (Value.slice (some ⟨g, 0, none⟩) L.length cap).ownBlock = some g_ → g_ = g ∨ w.heap.size ≤ g_ := fun g_ e => .inl (by simpa [Value.ownBlock] using e.symm)
    obtain ⟨⟨p0, p1⟩, _⟩ := RP
    go_wp2
    refine bodyPost_ret (v := .agg #[.int .i64 id, .slice (some ⟨g, 0, none⟩) L.length cap]) (by simp [results, Tryz.results136, go_sem, *]) rfl ⟨_, _, by rw [hN.out], by rw [hN.out]; exact OZ, by rw [hN.out]; exact JZ, WZ, BZ⟩
  · have hN : Hid (D = decideR id (L.set k (linkP up))) := by unfold Hid; rw [hD1.out, if_neg hu]
    replace hu : Hid _ := hu
    refine wp_region_held (S := fun Y => Below y.heap.size y Y) (by kernel_rfl) ?_
    change wpAnyH _ _ _ _ _ _ _ _ (World.drew _)
    have hb0 : Below y.heap.size y y.drew := (Below.refl _ _).drew
    obtain ⟨u0, hy0⟩ : ∃ y_, y_ = y.drew := ⟨_, rfl⟩
    rw [← hy0] at hb0 ⊢
    clear hy0
    refine takeW 0 47 (.pointer (some ⟨w.heap.size, 1, none⟩)) rfl rfl (by kernel_rfl) (by kernel_rfl) (by kernel_rfl) (fun _ _ _ h => h) (by kernel_rfl) (by (intro w hSw; go_simp)) (by assumption) ?_
    simp only [List.set_cons_zero, List.set_cons_succ]
    refine takeW 1 48 (.slice (some ⟨g, 0, none⟩) L.length cap) rfl rfl (by kernel_rfl) (by kernel_rfl) (by kernel_rfl) (fun _ _ _ h => h) (by kernel_rfl) (by (intro Y hSw; obtain ⟨X0_, X1_⟩ := A0.below hSw A0.lt; go_simp)) (by assumption) ?_
    simp only [List.set_cons_zero, List.set_cons_succ]
    refine takeW 2 49 (.pointer (some ⟨w.heap.size + 1, 1, none⟩)) rfl rfl (by kernel_rfl) (by kernel_rfl) (by kernel_rfl) (fun _ _ _ h => h) (by kernel_rfl) (by (intro w hSw; go_simp)) (by assumption) ?_
    simp only [List.set_cons_zero, List.set_cons_succ]
    refine takeW 3 50 (.int .i64 (k : Int)) rfl rfl (by kernel_rfl) (by kernel_rfl) (by kernel_rfl) (fun _ _ _ h => h) (by kernel_rfl) (by (intro Y hSw; obtain ⟨Z0, Z1, Z2, Z3, Z4, Z5, Z6, Z7⟩ := X0.below hSw X0.lt; go_simp)) (by assumption) ?_
    simp only [List.set_cons_zero, List.set_cons_succ]
    refine takeW 4 51 (.pointer (some ⟨g, k * 11, none⟩)) rfl rfl (by kernel_rfl) (by kernel_rfl) (by kernel_rfl) (fun _ _ _ h => h) (by kernel_rfl) (by (intro Y hSw; go_simp; try omega)) (by assumption) ?_
    simp only [List.set_cons_zero, List.set_cons_succ]
    refine takeW 5 52 (.pointer (some ⟨g, k * 11, none⟩)) rfl rfl (by kernel_rfl) (by kernel_rfl) (by kernel_rfl) (fun _ _ _ h => h) (by kernel_rfl) (by (intro w hSw; go_simp)) (by assumption) ?_
    simp only [List.set_cons_zero, List.set_cons_succ]
    refine takeW 6 53 (.bool hp.up) rfl rfl (by kernel_rfl) (by kernel_rfl) (by kernel_rfl) (fun _ _ _ h => h) (by kernel_rfl) (by (intro Y hSw; obtain ⟨X0, X1, X2, X3, X4, X5, X6, X7, X8, X9, X10⟩ := hcp Y hSw; go_simp)) (by assumption) ?_
    simp only [List.set_cons_zero, List.set_cons_succ]
    refine takeW 7 54 (.pointer (some ⟨w.heap.size + 1, 7, none⟩)) rfl rfl (by kernel_rfl) (by kernel_rfl) (by kernel_rfl) (fun _ _ _ h => h) (by kernel_rfl) (by (intro w hSw; go_simp)) (by assumption) ?_
    simp only [List.set_cons_zero, List.set_cons_succ]
    refine takeW 8 55 (.bool up) rfl rfl (by kernel_rfl) (by kernel_rfl) (by kernel_rfl) (fun _ _ _ h => h) (by kernel_rfl) (by (intro Y hSw; obtain ⟨Z0, Z1, Z2, Z3, Z4, Z5, Z6, Z7⟩ := X0.below hSw X0.lt; go_simp)) (by assumption) ?_
    simp only [List.set_cons_zero, List.set_cons_succ]
    refine takeW 9 56 (.bool false) rfl rfl (by kernel_rfl) (by kernel_rfl) (by kernel_rfl) (fun _ _ _ h => h) (by kernel_rfl) (by (intro Y hSw; go_simp; exact hu.out)) (by assumption) ?_
    simp only [List.set_cons_zero, List.set_cons_succ]
    refine wpAnyH_done (by kernel_rfl) ?_ _
    have CW := C0.trans (hb0.mono (by omega))
    have hB0' : Bar g y.heap.size y u0 := Bar.of hb0
    have o6 := o0.later hb0
    have A6 := A0.below hb0 A0.lt
    have X6 := X0.below hb0 X0.lt
    have MUv1 := o6
    obtain ⟨t0, t1, t2, t3, t4, t5, t6, t7, t8, t9, t10⟩ : PtAtO u0 g (k * 11) (L.getD k Pt.nil) := ptAtO_of (MUv1.cell ptEnc_len Pt.nil (by simpa using hqL))
    have ff := MUv1.frozen
    have f0 := ff (k * 11)
    have f1 := ff (k * 11 + 1)
    have f2 := ff (k * 11 + 2)
    have f3 := ff (k * 11 + 3)
    have f4 := ff (k * 11 + 4)
    have f5 := ff (k * 11 + 5)
    have f6 := ff (k * 11 + 6)
    have f7 := ff (k * 11 + 7)
    have f8 := ff (k * 11 + 8)
    have f9 := ff (k * 11 + 9)
    have f10 := ff (k * 11 + 10)
    have MSv1 := MUv1.set ptEnc_len (by omega) (i := k) (by simpa using hqL) Pt.nil
    rw [ptPut] at MSv1
    have SBv1 := Bar.putAll (o := k * 11) (ptEnc Pt.nil) hB0'
    rw [ptPut] at SBv1
    have BBv1 := below_putAll (B := base) hg1 (ptEnc Pt.nil) (k * 11) CW
    rw [ptPut] at BBv1
    obtain ⟨v1, hnm⟩ : ∃ y_, y_ = (((((((((((u0.setCell ⟨g, k * 11, none⟩ (.bool false)).setCell ⟨g, k * 11 + 1, none⟩ (.bool false)).setCell ⟨g, k * 11 + 2, none⟩ (.int .i64 0)).setCell ⟨g, k * 11 + 3, none⟩ (.int .i64 0)).setCell ⟨g, k * 11 + 4, none⟩ (.int .i64 0)).setCell ⟨g, k * 11 + 5, none⟩ (.int .i64 0)).setCell ⟨g, k * 11 + 6, none⟩ (.int .i64 0)).setCell ⟨g, k * 11 + 7, none⟩ (.int .i64 0)).setCell ⟨g, k * 11 + 8, none⟩ (.int .i64 0)).setCell ⟨g, k * 11 + 9, none⟩ (.int .i64 0)).setCell ⟨g, k * 11 + 10, none⟩ (.bool false)) := ⟨_, rfl⟩
    replace MSv1 : FOwn ptEnc 11 109 base v1 (.slice (some ⟨g, 0, none⟩) (L).length cap) ((L).set k Pt.nil) := by rw [hnm]; exact MSv1
    replace SBv1 : Bar g y.heap.size y v1 := by rw [hnm]; exact SBv1
    replace BBv1 : Below base w v1 := by rw [hnm]; exact BBv1
    clear ff
    obtain ⟨a0, a1⟩ := A6
    obtain ⟨x0, x1, x2, x3, x4, x5, x6, x7⟩ := X6
    go_upto_region 13 with fail
    rw [← hnm]
    clear hnm a0 a1 x0 x1 x2 x3 x4 x5 x6 x7 t0 f0 t1 f1 t2 f2 t3 f3 t4 f4 t5 f5 t6 f6 t7 f7 t8 f8 t9 f9 t10 f10 CW MUv1 o6 hcp
    have A7 := A0.bar SBv1 A0.lt (by omega)
    have X7 := X0.keep (SBv1.block _ X0.lt (by omega))
    have CW := BBv1
    obtain ⟨x0, x1, x2, x3, x4, x5, x6, x7⟩ := X7
    cases up
    · replace hN : Hid (D = decideR id (L.set k Pt.nil)) := hN
      have A9 := A0.bar SBv1 A0.lt (by omega)
      have R9 := R0.keep (SBv1.block _ R0.lt (by omega))
      go_upto_region 15 with fail
      clear x0 x1 x2 x3 x4 x5 x6 x7
      obtain ⟨Mv, hMv⟩ : ∃ v, v = L.set k Pt.nil := ⟨_, rfl⟩
      rw [← hMv] at MSv1
      have hMl : Mv.length = L.length := by rw [hMv]; simp
      have hDM : Hid (D = decideR id Mv) := by unfold Hid; rw [hN.out, hMv]
      replace hMl : Hid _ := hMl
      clear hMv
      have hdc := decideS id (some ⟨g, 0, none⟩) cap Mv v1 (by have := MSv1; unfold FOwn at this; exact (show FOwn ptEnc 11 109 base v1 (.slice (some ⟨g, 0, none⟩) L.length cap) Mv from this).view.2) (by rw [hMl.out]; omega) (fun e => by cases e)
      rw [hMl.out] at hdc
      obtain ⟨a0, a1⟩ := A9
      go_wp2_with fail
      go_at_call 184
      clear a0 a1
      refine hdc.mono ?_
      rintro e w9 ⟨aD, cD, rfl, oD, k9⟩
      clear hdc
      rw [← hDM.out] at oD ⊢
      have z9 := BBv1.size
      have S9 : w.heap.size + 1 + 1 < v1.heap.size := R9.lt
      have RX := R9.below k9 R9.lt
      have BX := BBv1.trans (k9.mono (by omega))
      have RP := RX.put id (.slice aD D.length cD)
      obtain ⟨⟨r0, r1⟩, rf⟩ := RX
      have BZ := (BX.setCell (p := ⟨w.heap.size + 1 + 1, 0, none⟩) (by show base ≤ w.heap.size + 1 + 1; omega) (.int .i64 id)).setCell (p := ⟨w.heap.size + 1 + 1, 1, none⟩) (by show base ≤ w.heap.size + 1 + 1; omega) (.slice aD D.length cD)
      have OZ : FOwn ptEnc 11 109 base ((w9.setCell ⟨w.heap.size + 1 + 1, 0, none⟩ (.int .i64 id)).setCell ⟨w.heap.size + 1 + 1, 1, none⟩ (.slice aD D.length cD)) (.slice aD D.length cD) D := (oD.base (by omega)).keep fun g' e => by
        have := (oD.lt g' e).1
        rw [Below.heap_setCell _ _ _ _ (by show g' ≠ w.heap.size + 1 + 1; omega), Below.heap_setCell _ _ _ _ (by show g' ≠ w.heap.size + 1 + 1; omega)]
      have b0z := B0.size
      have sbz := SBv1.size
      have WZ : Bar g w.heap.size w ((w9.setCell ⟨w.heap.size + 1 + 1, 0, none⟩ (.int .i64 id)).setCell ⟨w.heap.size + 1 + 1, 1, none⟩ (.slice aD D.length cD)) := ⟨BZ.size, fun q hq hne => by
        rw [Below.heap_setCell _ _ _ _ (by show q ≠ w.heap.size + 1 + 1; omega), Below.heap_setCell _ _ _ _ (by show q ≠ w.heap.size + 1 + 1; omega)]
        exact (k9.block q (by omega)).trans ((SBv1.block q (by omega) hne).trans (B0.block q hq))⟩
      have JZ : ∀ g_, (Value.slice aD D.length cD).ownBlock = some g_ → g_ = g ∨ w.heap.size ≤ g_ := fun g_ e => .inr (by have := (oD.lt g_ e).1; omega)
      obtain ⟨⟨p0, p1⟩, _⟩ := RP
      go_wp2
      refine bodyPost_ret (v := .agg #[.int .i64 id, .slice aD D.length cD]) (by simp [results, Tryz.results136, go_sem, *]) rfl ⟨_, _, rfl, OZ, JZ, WZ, BZ⟩
    · have MSw : FOwn ptEnc 11 109 base v1 (.slice (some ⟨g, 0, none⟩) (L.set k Pt.nil).length cap) (L.set k Pt.nil) := by rw [List.length_set]; exact MSv1
      have MUv2 := MSw
      obtain ⟨t0, t1, t2, t3, t4, t5, t6, t7, t8, t9, t10⟩ : PtAtO v1 g (k * 11) ((L.set k Pt.nil).getD k Pt.nil) := ptAtO_of (MUv2.cell ptEnc_len Pt.nil (by simpa using hqL))
      have ff := MUv2.frozen
      have f0 := ff (k * 11)
      have f1 := ff (k * 11 + 1)
      have f2 := ff (k * 11 + 2)
      have f3 := ff (k * 11 + 3)
      have f4 := ff (k * 11 + 4)
      have f5 := ff (k * 11 + 5)
      have f6 := ff (k * 11 + 6)
      have f7 := ff (k * 11 + 7)
      have f8 := ff (k * 11 + 8)
      have f9 := ff (k * 11 + 9)
      have f10 := ff (k * 11 + 10)
      have MSv2 := MUv2.set ptEnc_len (by omega) (i := k) (by simpa using hqL) (linkP true)
      rw [ptPut] at MSv2
      have SBv2 := Bar.putAll (o := k * 11) (ptEnc (linkP true)) SBv1
      rw [ptPut] at SBv2
      have BBv2 := below_putAll (B := base) hg1 (ptEnc (linkP true)) (k * 11) CW
      rw [ptPut] at BBv2
      obtain ⟨v2, hnm⟩ : ∃ y_, y_ = (((((((((((v1.setCell ⟨g, k * 11, none⟩ (.bool true)).setCell ⟨g, k * 11 + 1, none⟩ (.bool false)).setCell ⟨g, k * 11 + 2, none⟩ (.int .i64 0)).setCell ⟨g, k * 11 + 3, none⟩ (.int .i64 0)).setCell ⟨g, k * 11 + 4, none⟩ (.int .i64 0)).setCell ⟨g, k * 11 + 5, none⟩ (.int .i64 0)).setCell ⟨g, k * 11 + 6, none⟩ (.int .i64 0)).setCell ⟨g, k * 11 + 7, none⟩ (.int .i64 0)).setCell ⟨g, k * 11 + 8, none⟩ (.int .i64 3)).setCell ⟨g, k * 11 + 9, none⟩ (.int .i64 0)).setCell ⟨g, k * 11 + 10, none⟩ (.bool false)) := ⟨_, rfl⟩
      replace MSv2 : FOwn ptEnc 11 109 base v2 (.slice (some ⟨g, 0, none⟩) ((L.set k Pt.nil)).length cap) (((L.set k Pt.nil)).set k (linkP true)) := by rw [hnm]; exact MSv2
      replace SBv2 : Bar g y.heap.size y v2 := by rw [hnm]; exact SBv2
      replace BBv2 : Below base w v2 := by rw [hnm]; exact BBv2
      clear ff
      have hll : ((L.set k Pt.nil).set k (linkP true)) = L.set k (linkP true) := by rw [List.set_set]
      rw [hll, List.length_set] at MSv2
      obtain ⟨a0, a1⟩ := A7
      go_upto_region 15 with fail
      rw [← hnm]
      clear hnm a0 a1 x0 x1 x2 x3 x4 x5 x6 x7 t0 f0 t1 f1 t2 f2 t3 f3 t4 f4 t5 f5 t6 f6 t7 f7 t8 f8 t9 f9 t10 f10 MSw MUv2 CW
      have A9 := A0.bar SBv2 A0.lt (by omega)
      have R9 := R0.keep (SBv2.block _ R0.lt (by omega))
      obtain ⟨Mv, hMv⟩ : ∃ v, v = L.set k (linkP true) := ⟨_, rfl⟩
      rw [← hMv] at MSv2
      have hMl : Mv.length = L.length := by rw [hMv]; simp
      have hDM : Hid (D = decideR id Mv) := by unfold Hid; rw [hN.out, hMv]
      replace hMl : Hid _ := hMl
      clear hMv
      have hdc := decideS id (some ⟨g, 0, none⟩) cap Mv v2 (by have := MSv2; unfold FOwn at this; exact (show FOwn ptEnc 11 109 base v2 (.slice (some ⟨g, 0, none⟩) L.length cap) Mv from this).view.2) (by rw [hMl.out]; omega) (fun e => by cases e)
      rw [hMl.out] at hdc
      obtain ⟨a0, a1⟩ := A9
      go_wp2_with fail
      go_at_call 184
      clear a0 a1
      refine hdc.mono ?_
      rintro e w9 ⟨aD, cD, rfl, oD, k9⟩
      clear hdc
      rw [← hDM.out] at oD ⊢
      have z9 := BBv2.size
      have S9 : w.heap.size + 1 + 1 < v2.heap.size := R9.lt
      have RX := R9.below k9 R9.lt
      have BX := BBv2.trans (k9.mono (by omega))
      have RP := RX.put id (.slice aD D.length cD)
      obtain ⟨⟨r0, r1⟩, rf⟩ := RX
      have BZ := (BX.setCell (p := ⟨w.heap.size + 1 + 1, 0, none⟩) (by show base ≤ w.heap.size + 1 + 1; omega) (.int .i64 id)).setCell (p := ⟨w.heap.size + 1 + 1, 1, none⟩) (by show base ≤ w.heap.size + 1 + 1; omega) (.slice aD D.length cD)
      have OZ : FOwn ptEnc 11 109 base ((w9.setCell ⟨w.heap.size + 1 + 1, 0, none⟩ (.int .i64 id)).setCell ⟨w.heap.size + 1 + 1, 1, none⟩ (.slice aD D.length cD)) (.slice aD D.length cD) D := (oD.base (by omega)).keep fun g' e => by
        have := (oD.lt g' e).1
        rw [Below.heap_setCell _ _ _ _ (by show g' ≠ w.heap.size + 1 + 1; omega), Below.heap_setCell _ _ _ _ (by show g' ≠ w.heap.size + 1 + 1; omega)]
      have b0z := B0.size
      have sbz := SBv2.size
      have WZ : Bar g w.heap.size w ((w9.setCell ⟨w.heap.size + 1 + 1, 0, none⟩ (.int .i64 id)).setCell ⟨w.heap.size + 1 + 1, 1, none⟩ (.slice aD D.length cD)) := ⟨BZ.size, fun q hq hne => by
        rw [Below.heap_setCell _ _ _ _ (by show q ≠ w.heap.size + 1 + 1; omega), Below.heap_setCell _ _ _ _ (by show q ≠ w.heap.size + 1 + 1; omega)]
        exact (k9.block q (by omega)).trans ((SBv2.block q (by omega) hne).trans (B0.block q hq))⟩
      have JZ : ∀ g_, (Value.slice aD D.length cD).ownBlock = some g_ → g_ = g ∨ w.heap.size ≤ g_ := fun g_ e => .inr (by have := (oD.lt g_ e).1; omega)
      obtain ⟨⟨p0, p1⟩, _⟩ := RP
      go_wp2
      refine bodyPost_ret (v := .agg #[.int .i64 id, .slice aD D.length cD]) (by simp [results, Tryz.results136, go_sem, *]) rfl ⟨_, _, rfl, OZ, JZ, WZ, BZ⟩

end Go.Proofs.YtnpiljegdiconaaGreat
namespace Go.Proofs.YtnpiljegdiconaaGreat
open Go.ChangeShapes Go.WideShapes Go.ChangeAt Go.RowKit
open Go.ChangeMaps (open_string shut_string)
set_option linter.unusedVariables false
set_option maxRecDepth 100000

theorem inS (id : Int) (cap : Nat) (L : List Pt) (x : Ik) (base g : Nat) (w : World) (hr : FOwn ptEnc 11 109 base w (.slice (some ⟨g, 0, none⟩) L.length cap) L) (hg : goes id L x = true) :
    Calls Tryz.prog 136 #[.agg #[.int .i64 id, .slice (some ⟨g, 0, none⟩) L.length cap], .agg #[.int .i64 x.k, .int .i64 x.q, .int .i64 x.r, .int .i64 x.c, .int .i64 x.b, .int .i64 x.p, .int .i64 x.h, .bool x.up]] w fun e w' => ∃ ad' cap', e = .returned (.agg #[.int .i64 id, .slice ad' (afterL id L x).length cap']) ∧ FOwn ptEnc 11 109 base w' (.slice ad' (afterL id L x).length cap') (afterL id L x) ∧ (∀ g_, (Value.slice ad' (afterL id L x).length cap').ownBlock = some g_ → g_ = g ∨ w.heap.size ≤ g_) ∧ Bar g w.heap.size w w' ∧ Below base w w' := by
  have hx0 := hg
  unfold goes at hg
  simp only [Bool.and_eq_true, decide_eq_true_eq] at hg
  obtain ⟨hb, hx, hq⟩ := hg
  have hl := (bOk_all hb).2.1.2
  obtain ⟨k, q, r, c, b, p, h, up⟩ := x
  dsimp only at hq ⊢
  obtain ⟨kq, rfl⟩ : ∃ kq : Nat, q = (kq : Int) := ⟨q.toNat, by omega⟩
  have hkl : kq < L.length := by omega
  rcases inOk_k hx with e | e | e
  · dsimp only at e
    subst e
    have hu : up = false := by
      unfold inOk at hx
      simp only [if_true, Bool.and_eq_true, Bool.not_eq_true'] at hx
      exact hx.2.2.2
    subst hu
    exact inSC id cap L kq r c b p h base g w hr hl hkl
  · dsimp only at e
    subst e
    unfold inOk at hx
    simp only [show ¬ ((2 : Int) = 1) by decide, show ¬ ((2 : Int) = 3) by decide, if_false, if_true, decide_eq_true_eq] at hx
    obtain ⟨e1, e2, e3, e4, e5, e6, e7⟩ := hx
    rw [e1, e2, e3, e4, e5, e6, e7]
    exact inST id cap L base g w hr hl hb
  · dsimp only at e
    subst e
    unfold inOk at hx
    simp only [show ¬ ((3 : Int) = 1) by decide, if_false, if_true, Bool.and_eq_true, decide_eq_true_eq, beq_iff_eq] at hx
    obtain ⟨_, ⟨e2, e3, e4, e5⟩, e6⟩ := hx
    rw [e2, e3, e4, e5, e6]
    exact inSL id cap L kq up base g w hr hl hkl
set_option maxHeartbeats 8000000 in
theorem reactS (id : Int) (ad : Option Addr) (cap : Nat) (L : List Pt) (x : Ik) (w : World) (hv : FView ptEnc w ad L) (hl : L.length ≤ 1048576) (hn : ad = none → cap = 0) :
    Calls Tryz.prog 77 #[.agg #[.int .i64 id, .slice ad L.length cap], .agg #[.int .i64 x.k, .int .i64 x.q, .int .i64 x.r, .int .i64 x.c, .int .i64 x.b, .int .i64 x.p, .int .i64 x.h, .bool x.up]] w fun e w' => ∃ ad' cap' ao co, e = .returned (.tuple #[.agg #[.int .i64 id, .slice ad' (reactL id L x).length cap'], .slice ao (reactO id L x).length co]) ∧ FOwn ptEnc 11 109 w.heap.size w' (.slice ad' (reactL id L x).length cap') (reactL id L x) ∧ FOwn ouEnc 8 114 w.heap.size w' (.slice ao (reactO id L x).length co) (reactO id L x) ∧ (∀ g_, (Value.slice ao (reactO id L x).length co).ownBlock = some g_ → (Value.slice ad' (reactL id L x).length cap').ownBlock ≠ some g_) ∧ Below w.heap.size w w' := by
  obtain ⟨i0, hi, hz0, hz1, hz2⟩ := info_parts ouInfo
  have hB := hv.lt ptEnc_len (by omega)
  obtain ⟨y, hy⟩ : ∃ y, y = ((w.alloc (Obj.cells #[.int .i64 id, .slice ad L.length cap] 56)).alloc (Obj.cells #[.int .i64 x.k, .int .i64 x.q, .int .i64 x.r, .int .i64 x.c, .int .i64 x.b, .int .i64 x.p, .int .i64 x.h, .bool x.up] 105)).alloc (Obj.cells #[.int .i64 0, .slice none 0 0] 56) := ⟨_, rfl⟩
  have B0 : Below w.heap.size w y := by rw [hy]; exact (((Below.refl _ _).alloc (Nat.le_refl _) _).alloc (by simp) _).alloc (by simp; omega) _
  have A0 : BrAt y w.heap.size id (.slice ad L.length cap) := by rw [hy]; constructor <;> simp [go_sem]
  have X0 : InAt y (w.heap.size + 1) x := by rw [hy]; constructor <;> simp [go_sem]
  have R0 : BBox y (w.heap.size + 1 + 1) 0 (.slice none 0 0) := by rw [hy]; refine ⟨?_, fun i => ?_⟩; constructor <;> simp [go_sem]; simp [go_sem]
  have S0 := R0.lt
  have hv1 := hv.below B0 hB
  have hB1 := hv1.lt ptEnc_len (by omega)
  have hvb0 : ∀ a, ad = some a → 0 < L.length → a.block < w.heap.size := hB
  clear hv hB
  obtain ⟨D, hD⟩ : ∃ D, reactL id L x = D := ⟨_, rfl⟩
  obtain ⟨OO, hO⟩ : ∃ D, reactO id L x = D := ⟨_, rfl⟩
  rw [hD, hO]
  replace hD : Hid _ := hD
  replace hO : Hid _ := hO
  go_enter Tryz.func77, Tryz.ntmps77
  go_upto_region 1 with fail
  rw [← hy]
  clear hy
  have hvb := hvb0
  have BY := B0
  obtain ⟨ye, hye⟩ : ∃ y_, y_ = y.alloc (Obj.cells #[] 114) := ⟨_, rfl⟩
  have oE : FOwn ouEnc 8 114 y.heap.size ye (.slice (some ⟨y.heap.size, 0, none⟩) 0 0) ([] : List Ou) := by rw [hye]; exact FOwn.empty y
  have ke : Below y.heap.size y ye := by rw [hye]; exact below_new _
  have ze := ke.size
  have A0 := A0.below ke A0.lt
  have X0 := X0.below ke X0.lt
  have R0 := R0.below ke R0.lt
  have hv1 := hv1.below ke (hv1.lt ptEnc_len (by omega))
  have BY := BY.trans (ke.mono BY.size)
  clear ke
  go_upto_region 2 with fail
  rw [← hye]
  clear hye
  generalize hE : y.heap.size = E at oE S0 ⊢
  replace hE : Hid _ := hE
  have wE : w.heap.size + 1 + 1 < E := S0
  have eE0 : E < ye.heap.size := (oE.lt E rfl).2
  have cc_ := A0
  obtain ⟨a0, a1⟩ := cc_
  go_wp2_with fail
  go_at_call 81
  clear a0 a1
  refine (bOkS id ad cap L ye hv1 hl).mono ?_
  rintro e Y1 ⟨rfl, k1⟩
  have z1 := k1.size
  have A0 := A0.below k1 A0.lt
  have X0 := X0.below k1 X0.lt
  have R0 := R0.below k1 R0.lt
  have hv1 := hv1.below k1 (hv1.lt ptEnc_len (by omega))
  have oE := oE.later k1
  have BY := BY.trans (k1.mono BY.size)
  clear k1
  cases hb : bOk id L with
  | false =>
    have hgo : goes id L x = false := by unfold goes; rw [hb]; rfl
    have hN : Hid (D = L ∧ OO = []) := by
      unfold Hid
      rw [← hD.out, ← hO.out]
      unfold reactL reactO
      rw [hgo]
      exact ⟨rfl, rfl⟩
    clear hD hO
    have cc_ := A0
    obtain ⟨a0, a1⟩ := cc_
    go_wp2_with fail
    go_at_call 135
    clear a0 a1
    have z9 := BY.size
    refine (copS id ad cap L Y1 hv1 hl hn).mono ?_
    rintro e w9 ⟨adN, capN, rfl, oN, k9⟩
    have S9 : w.heap.size + 1 + 1 < Y1.heap.size := R0.lt
    have jN : ∀ g_, (Value.slice (some ⟨E, 0, none⟩) 0 0).ownBlock = some g_ → (Value.slice adN L.length capN).ownBlock ≠ some g_ := fun g_ e e2 => by have h1 := (oN.lt g_ e2).1; have h2 := (oE.lt g_ e).2; omega
    have oE := oE.later k9
    have R0 := R0.below k9 R0.lt
    have BY := BY.trans (k9.mono BY.size)
    have RP := R0.put id (.slice adN L.length capN)
    obtain ⟨⟨r0, r1⟩, rf⟩ := R0
    have BZ := (BY.setCell (p := ⟨w.heap.size + 1 + 1, 0, none⟩) (by show _ ≤ w.heap.size + 1 + 1; omega) (.int .i64 id)).setCell (p := ⟨w.heap.size + 1 + 1, 1, none⟩) (by show _ ≤ w.heap.size + 1 + 1; omega) (.slice adN L.length capN)
    have OZ : FOwn ptEnc 11 109 w.heap.size ((w9.setCell ⟨w.heap.size + 1 + 1, 0, none⟩ (.int .i64 id)).setCell ⟨w.heap.size + 1 + 1, 1, none⟩ (.slice adN L.length capN)) (.slice adN L.length capN) L := (oN.base (by omega)).keep fun g' e => by
      have := (oN.lt g' e).1
      rw [Below.heap_setCell _ _ _ _ (by show g' ≠ w.heap.size + 1 + 1; omega), Below.heap_setCell _ _ _ _ (by show g' ≠ w.heap.size + 1 + 1; omega)]
    obtain ⟨⟨p0, p1⟩, _⟩ := RP
    have OQ : FOwn ouEnc 8 114 w.heap.size ((w9.setCell ⟨w.heap.size + 1 + 1, 0, none⟩ (.int .i64 id)).setCell ⟨w.heap.size + 1 + 1, 1, none⟩ (.slice adN L.length capN)) (.slice (some ⟨E, 0, none⟩) 0 0) [] := (oE.base (by omega)).keep fun g' e => by
      have := (oE.lt g' e).1
      rw [Below.heap_setCell _ _ _ _ (by show g' ≠ w.heap.size + 1 + 1; omega), Below.heap_setCell _ _ _ _ (by show g' ≠ w.heap.size + 1 + 1; omega)]
    go_wp2
    obtain ⟨rfl, rfl⟩ := hN.out
    refine bodyPost_ret (v := .tuple #[.agg #[.int .i64 id, .slice adN D.length capN], .slice (some ⟨E, 0, none⟩) 0 0]) (by simp [results, Tryz.results77, go_sem, *]) rfl ⟨adN, capN, some ⟨E, 0, none⟩, 0, rfl, OZ, OQ, jN, BZ⟩
  | true =>
    have hl4 := (bOk_all hb).2.1
    have X1 := X0
    obtain ⟨x0, x1, x2, x3, x4, x5, x6, x7⟩ := X1
    go_wp2_with fail
    go_at_call 134
    clear x0 x1 x2 x3 x4 x5 x6 x7
    refine (inOkS x Y1).mono ?_
    rintro e Y2 ⟨rfl, k2⟩
    have z2 := k2.size
    have A0 := A0.below k2 A0.lt
    have X0 := X0.below k2 X0.lt
    have R0 := R0.below k2 R0.lt
    have hv1 := hv1.below k2 (hv1.lt ptEnc_len (by omega))
    have oE := oE.later k2
    have BY := BY.trans (k2.mono BY.size)
    clear k2
    cases hx : inOk x with
    | false =>
      have hgo : goes id L x = false := by unfold goes; rw [hb, hx]; rfl
      have hN : Hid (D = L ∧ OO = []) := by
        unfold Hid
        rw [← hD.out, ← hO.out]
        unfold reactL reactO
        rw [hgo]
        exact ⟨rfl, rfl⟩
      clear hD hO
      have cc_ := A0
      obtain ⟨a0, a1⟩ := cc_
      go_wp2_with fail
      go_at_call 135
      clear a0 a1
      have z9 := BY.size
      refine (copS id ad cap L Y2 hv1 hl hn).mono ?_
      rintro e w9 ⟨adN, capN, rfl, oN, k9⟩
      have S9 : w.heap.size + 1 + 1 < Y2.heap.size := R0.lt
      have jN : ∀ g_, (Value.slice (some ⟨E, 0, none⟩) 0 0).ownBlock = some g_ → (Value.slice adN L.length capN).ownBlock ≠ some g_ := fun g_ e e2 => by have h1 := (oN.lt g_ e2).1; have h2 := (oE.lt g_ e).2; omega
      have oE := oE.later k9
      have R0 := R0.below k9 R0.lt
      have BY := BY.trans (k9.mono BY.size)
      have RP := R0.put id (.slice adN L.length capN)
      obtain ⟨⟨r0, r1⟩, rf⟩ := R0
      have BZ := (BY.setCell (p := ⟨w.heap.size + 1 + 1, 0, none⟩) (by show _ ≤ w.heap.size + 1 + 1; omega) (.int .i64 id)).setCell (p := ⟨w.heap.size + 1 + 1, 1, none⟩) (by show _ ≤ w.heap.size + 1 + 1; omega) (.slice adN L.length capN)
      have OZ : FOwn ptEnc 11 109 w.heap.size ((w9.setCell ⟨w.heap.size + 1 + 1, 0, none⟩ (.int .i64 id)).setCell ⟨w.heap.size + 1 + 1, 1, none⟩ (.slice adN L.length capN)) (.slice adN L.length capN) L := (oN.base (by omega)).keep fun g' e => by
        have := (oN.lt g' e).1
        rw [Below.heap_setCell _ _ _ _ (by show g' ≠ w.heap.size + 1 + 1; omega), Below.heap_setCell _ _ _ _ (by show g' ≠ w.heap.size + 1 + 1; omega)]
      obtain ⟨⟨p0, p1⟩, _⟩ := RP
      have OQ : FOwn ouEnc 8 114 w.heap.size ((w9.setCell ⟨w.heap.size + 1 + 1, 0, none⟩ (.int .i64 id)).setCell ⟨w.heap.size + 1 + 1, 1, none⟩ (.slice adN L.length capN)) (.slice (some ⟨E, 0, none⟩) 0 0) [] := (oE.base (by omega)).keep fun g' e => by
        have := (oE.lt g' e).1
        rw [Below.heap_setCell _ _ _ _ (by show g' ≠ w.heap.size + 1 + 1; omega), Below.heap_setCell _ _ _ _ (by show g' ≠ w.heap.size + 1 + 1; omega)]
      go_wp2
      obtain ⟨rfl, rfl⟩ := hN.out
      refine bodyPost_ret (v := .tuple #[.agg #[.int .i64 id, .slice adN D.length capN], .slice (some ⟨E, 0, none⟩) 0 0]) (by simp [results, Tryz.results77, go_sem, *]) rfl ⟨adN, capN, some ⟨E, 0, none⟩, 0, rfl, OZ, OQ, jN, BZ⟩
    | true =>
      have X1 := X0
      obtain ⟨x0, x1, x2, x3, x4, x5, x6, x7⟩ := X1
      have cc_ := A0
      obtain ⟨a0, a1⟩ := cc_
      have hq0 := (inOk_q hx).1
      by_cases hq : x.q < (L.length : Int)
      rotate_left
      · have hgo : goes id L x = false := by unfold goes; rw [hb, hx, decide_eq_false (by omega)]; rfl
        have dq : decide ((L.length : Int) ≤ x.q) = true := decide_eq_true (by omega)
        replace hq : Hid _ := hq
        go_upto_region 3 with fail
        clear x0 x1 x2 x3 x4 x5 x6 x7 a0 a1
        have hN : Hid (D = L ∧ OO = []) := by
          unfold Hid
          rw [← hD.out, ← hO.out]
          unfold reactL reactO
          rw [hgo]
          exact ⟨rfl, rfl⟩
        clear hD hO
        have cc_ := A0
        obtain ⟨a0, a1⟩ := cc_
        go_wp2_with fail
        go_at_call 135
        clear a0 a1
        have z9 := BY.size
        refine (copS id ad cap L Y2 hv1 hl hn).mono ?_
        rintro e w9 ⟨adN, capN, rfl, oN, k9⟩
        have S9 : w.heap.size + 1 + 1 < Y2.heap.size := R0.lt
        have jN : ∀ g_, (Value.slice (some ⟨E, 0, none⟩) 0 0).ownBlock = some g_ → (Value.slice adN L.length capN).ownBlock ≠ some g_ := fun g_ e e2 => by have h1 := (oN.lt g_ e2).1; have h2 := (oE.lt g_ e).2; omega
        have oE := oE.later k9
        have R0 := R0.below k9 R0.lt
        have BY := BY.trans (k9.mono BY.size)
        have RP := R0.put id (.slice adN L.length capN)
        obtain ⟨⟨r0, r1⟩, rf⟩ := R0
        have BZ := (BY.setCell (p := ⟨w.heap.size + 1 + 1, 0, none⟩) (by show _ ≤ w.heap.size + 1 + 1; omega) (.int .i64 id)).setCell (p := ⟨w.heap.size + 1 + 1, 1, none⟩) (by show _ ≤ w.heap.size + 1 + 1; omega) (.slice adN L.length capN)
        have OZ : FOwn ptEnc 11 109 w.heap.size ((w9.setCell ⟨w.heap.size + 1 + 1, 0, none⟩ (.int .i64 id)).setCell ⟨w.heap.size + 1 + 1, 1, none⟩ (.slice adN L.length capN)) (.slice adN L.length capN) L := (oN.base (by omega)).keep fun g' e => by
          have := (oN.lt g' e).1
          rw [Below.heap_setCell _ _ _ _ (by show g' ≠ w.heap.size + 1 + 1; omega), Below.heap_setCell _ _ _ _ (by show g' ≠ w.heap.size + 1 + 1; omega)]
        obtain ⟨⟨p0, p1⟩, _⟩ := RP
        have OQ : FOwn ouEnc 8 114 w.heap.size ((w9.setCell ⟨w.heap.size + 1 + 1, 0, none⟩ (.int .i64 id)).setCell ⟨w.heap.size + 1 + 1, 1, none⟩ (.slice adN L.length capN)) (.slice (some ⟨E, 0, none⟩) 0 0) [] := (oE.base (by omega)).keep fun g' e => by
          have := (oE.lt g' e).1
          rw [Below.heap_setCell _ _ _ _ (by show g' ≠ w.heap.size + 1 + 1; omega), Below.heap_setCell _ _ _ _ (by show g' ≠ w.heap.size + 1 + 1; omega)]
        go_wp2
        obtain ⟨rfl, rfl⟩ := hN.out
        refine bodyPost_ret (v := .tuple #[.agg #[.int .i64 id, .slice adN D.length capN], .slice (some ⟨E, 0, none⟩) 0 0]) (by simp [results, Tryz.results77, go_sem, *]) rfl ⟨adN, capN, some ⟨E, 0, none⟩, 0, rfl, OZ, OQ, jN, BZ⟩
      have hgo : goes id L x = true := by unfold goes; rw [hb, hx, decide_eq_true (by omega)]; rfl
      have dq : decide ((L.length : Int) ≤ x.q) = false := decide_eq_false (by omega)
      replace hq : Hid _ := hq
      obtain ⟨T, hT⟩ : ∃ T, afterL id L x = T := ⟨_, rfl⟩
      have hTl : T.length = L.length := by rw [← hT]; exact afterL_len id L x
      have hD2 : Hid (D = T) := by unfold Hid; rw [← hD.out, ← hT]; unfold reactL; rw [hgo]; rfl
      have hO2 : Hid (OO = gatesTo L T L.length ++ (if x.k = 2 then toldTo id T T.length else [])) := by unfold Hid; rw [← hO.out, hTl, ← hT]; unfold reactO; rw [hgo]; rfl
      have hT4 : 1 ≤ T.length ∧ T.length ≤ 4 := by omega
      replace hTl : Hid _ := hTl
      replace hT : Hid _ := hT
      clear hD hO hb hx
      go_upto_region 4 with fail
      clear x0 x1 x2 x3 x4 x5 x6 x7 a0 a1
      refine join_region (fun l l' W' => ∃ (P : Nat) (aT : Option Addr) (cT : Nat) (us : List Value), us.length = 4 ∧ l' = l.take 7 ++ (.pointer (some ⟨P, 0, none⟩) :: (l.drop 8).take 22) ++ us ++ l.drop 34 ∧ BBox W' P id (.slice aT T.length cT) ∧ FOwn ptEnc 11 109 Y2.heap.size W' (.slice aT T.length cT) T ∧ (∀ g_, (Value.slice aT T.length cT).ownBlock = some g_ → g_ ≠ P) ∧ Y2.heap.size ≤ P ∧ Below Y2.heap.size Y2 W') ?_ ?_
      rotate_left
      · intro K2 hT3
        refine wp_region_held (S := fun Y => Below Y2.heap.size Y2 Y) (by kernel_rfl) ?_
        change wpAnyH _ _ _ _ _ _ _ _ (World.drew _)
        have hb0 : Below Y2.heap.size Y2 Y2.drew := (Below.refl _ _).drew
        obtain ⟨u0, hy0⟩ : ∃ y_, y_ = Y2.drew := ⟨_, rfl⟩
        rw [← hy0] at hb0 ⊢
        clear hy0
        refine takeW 0 30 (.agg #[.int .i64 id, .slice ad L.length cap]) rfl rfl (by kernel_rfl) (by kernel_rfl) (by kernel_rfl) (fun _ _ _ h => h) (by kernel_rfl) (by (intro Y hSw; obtain ⟨X0_, X1_⟩ := A0.below hSw A0.lt; go_simp)) (by assumption) ?_
        simp only [List.set_cons_zero, List.set_cons_succ]
        refine takeW 2 32 (.agg #[.int .i64 x.k, .int .i64 x.q, .int .i64 x.r, .int .i64 x.c, .int .i64 x.b, .int .i64 x.p, .int .i64 x.h, .bool x.up]) rfl rfl (by kernel_rfl) (by kernel_rfl) (by kernel_rfl) (fun _ _ _ h => h) (by kernel_rfl) (by (intro Y hSw; obtain ⟨Z0, Z1, Z2, Z3, Z4, Z5, Z6, Z7⟩ := X0.below hSw X0.lt; go_simp)) (by assumption) ?_
        simp only [List.set_cons_zero, List.set_cons_succ]
        refine wpAnyH_all (rs := [1, 4]) (by kernel_rfl) (by simp) ?_
        intro i hi; rcases (by simpa using hi : i = 1 ∨ i = 4) with rfl | rfl
        · refine wpOp_step rfl (fun K hK => ?_)
          rw [if_pos (by kernel_rfl)]
          go_simp
          go_at_call 135
          refine (copS id ad cap L u0 (hv1.below hb0 (hv1.lt ptEnc_len (by omega))) (by omega) hn).mono ?_
          rintro e u1 ⟨aN, cN, rfl, oN, kq⟩
          obtain ⟨gN, rfl, gN1, gN2⟩ := oN.row (by omega)
          have bN : Y2.heap.size ≤ u0.heap.size := hb0.size
          have bU := kq.size
          have hb1 : Below Y2.heap.size Y2 u1 := hb0.trans (kq.mono hb0.size)
          clear kq
          refine hK _ _ ⟨hb1, ?_⟩
          clear hK K hi
          refine wpAnyH_all (rs := [3, 4]) (by kernel_rfl) (by simp) ?_
          intro i hi; rcases (by simpa using hi : i = 3 ∨ i = 4) with rfl | rfl
          · refine wpOp_step rfl (fun K hK => ?_)
            rw [if_pos (by kernel_rfl)]
            go_simp
            go_at_call 136
            refine (inS id cN L x _ gN u1 oN hgo).mono ?_
            rintro e u2 ⟨aT, cT, rfl, oT, jT, kBar, kB⟩
            rw [hT.out] at oT jT ⊢
            have hb2 : Below Y2.heap.size Y2 u2 := hb1.trans (kB.mono bN)
            refine hK _ _ ⟨hb2, ?_⟩
            clear hK K hi
            refine wpAnyH_all (rs := [4]) (by kernel_rfl) (by simp) ?_
            intro i hi; obtain rfl : i = 4 := by simpa using hi
            refine wpOp_step rfl (fun K hK => ?_)
            rw [if_pos (by kernel_rfl)]
            go_simp
            obtain ⟨u3, hy⟩ : ∃ y_, y_ = u2.alloc (Obj.cells #[.int .i64 0, .slice none 0 0] 56) := ⟨_, rfl⟩
            have kq : Below u2.heap.size u2 u3 := by rw [hy]; exact below_new _
            have joT : ∀ g_, (Value.slice aT T.length cT).ownBlock = some g_ → g_ ≠ u2.heap.size := fun g_ e => by have h1 := (oT.lt g_ e).2; omega
            have oT := oT.later kq
            have FP : BBox u3 u2.heap.size 0 (.slice none 0 0) := by rw [hy]; exact BBox.new u2 _ _ _
            have pa : Y2.heap.size ≤ u2.heap.size := hb2.size
            have hb3 : Below Y2.heap.size Y2 u3 := hb2.trans (kq.mono hb2.size)
            rw [← hy]
            clear hy kq
            refine hK _ _ ⟨hb3, ?_⟩
            clear hK K hi
            refine wpAnyH_all (rs := [5]) (by kernel_rfl) (by simp) ?_
            intro i hi; obtain rfl : i = 5 := by simpa using hi
            refine wpOp_step rfl (fun K hK => ?_)
            rw [if_pos (by kernel_rfl)]
            have FQ := FP
            obtain ⟨⟨t0, t1⟩, tf⟩ := FP
            go_simp
            clear t0 t1 tf
            obtain ⟨uf, huf⟩ : ∃ y_, y_ = (u3.setCell ⟨u2.heap.size, 0, none⟩ (.int .i64 id)).setCell ⟨u2.heap.size, 1, none⟩ (.slice aT T.length cT) := ⟨_, rfl⟩
            have FE : BBox uf (u2.heap.size) id (.slice aT T.length cT) := by rw [huf]; exact FQ.put _ _
            have hbf : Below Y2.heap.size Y2 uf := by rw [huf]; exact (hb3.setCell (p := ⟨u2.heap.size, 0, none⟩) pa _).setCell (p := ⟨u2.heap.size, 1, none⟩) pa _
            have oT := oT.keep (w' := uf) (fun g_ e => by rw [huf, Below.heap_setCell _ _ _ _ (by show g_ ≠ u2.heap.size; exact joT g_ e), Below.heap_setCell _ _ _ _ (by show g_ ≠ u2.heap.size; exact joT g_ e)])
            rw [← huf]
            clear huf FQ
            refine hK _ _ ⟨hbf, ?_⟩
            clear hK K hi
            refine wpAnyH_done (by kernel_rfl) ?_ _
            exact hT3.out _ _ ⟨u2.heap.size, aT, cT, [(.agg #[.int .i64 id, .slice ad L.length cap] : Value), .agg #[.int .i64 id, .slice (some ⟨gN, 0, none⟩) L.length cN], (.agg #[.int .i64 x.k, .int .i64 x.q, .int .i64 x.r, .int .i64 x.c, .int .i64 x.b, .int .i64 x.p, .int .i64 x.h, .bool x.up]), .agg #[.int .i64 id, .slice aT T.length cT]], rfl, by kernel_rfl, FE, oT.base bN, joT, pa, hbf⟩
          · refine wpOp_step rfl (fun K hK => ?_)
            rw [if_pos (by kernel_rfl)]
            go_simp
            obtain ⟨u2, hy⟩ : ∃ y_, y_ = u1.alloc (Obj.cells #[.int .i64 0, .slice none 0 0] 56) := ⟨_, rfl⟩
            have kq : Below u1.heap.size u1 u2 := by rw [hy]; exact below_new _
            have joN : ∀ g_, (Value.slice (some ⟨gN, 0, none⟩) L.length cN).ownBlock = some g_ → g_ ≠ u1.heap.size := fun g_ e => by have h1 := (oN.lt g_ e).2; omega
            have oN := oN.later kq
            have FP : BBox u2 u1.heap.size 0 (.slice none 0 0) := by rw [hy]; exact BBox.new u1 _ _ _
            have pa : Y2.heap.size ≤ u1.heap.size := hb1.size
            have hb2 : Below Y2.heap.size Y2 u2 := hb1.trans (kq.mono hb1.size)
            rw [← hy]
            clear hy kq
            refine hK _ _ ⟨hb2, ?_⟩
            clear hK K hi
            refine wpAnyH_all (rs := [3]) (by kernel_rfl) (by simp) ?_
            intro i hi; obtain rfl : i = 3 := by simpa using hi
            refine wpOp_step rfl (fun K hK => ?_)
            rw [if_pos (by kernel_rfl)]
            go_simp
            go_at_call 136
            refine (inS id cN L x _ gN u2 oN hgo).mono ?_
            rintro e u3 ⟨aT, cT, rfl, oT, jT, kBar, kB⟩
            rw [hT.out] at oT jT ⊢
            have joT : ∀ g_, (Value.slice aT T.length cT).ownBlock = some g_ → g_ ≠ u1.heap.size := fun g_ e => by
              have h1 := jT g_ e
              have h2 := FP.lt
              have h3 := joN gN rfl
              omega
            have FP := FP.keep (kBar.block _ FP.lt (fun e => joN gN rfl e.symm))
            have hb3 : Below Y2.heap.size Y2 u3 := hb2.trans (kB.mono bN)
            refine hK _ _ ⟨hb3, ?_⟩
            clear hK K hi
            refine wpAnyH_all (rs := [5]) (by kernel_rfl) (by simp) ?_
            intro i hi; obtain rfl : i = 5 := by simpa using hi
            refine wpOp_step rfl (fun K hK => ?_)
            rw [if_pos (by kernel_rfl)]
            have FQ := FP
            obtain ⟨⟨t0, t1⟩, tf⟩ := FP
            go_simp
            clear t0 t1 tf
            obtain ⟨uf, huf⟩ : ∃ y_, y_ = (u3.setCell ⟨u1.heap.size, 0, none⟩ (.int .i64 id)).setCell ⟨u1.heap.size, 1, none⟩ (.slice aT T.length cT) := ⟨_, rfl⟩
            have FE : BBox uf (u1.heap.size) id (.slice aT T.length cT) := by rw [huf]; exact FQ.put _ _
            have hbf : Below Y2.heap.size Y2 uf := by rw [huf]; exact (hb3.setCell (p := ⟨u1.heap.size, 0, none⟩) pa _).setCell (p := ⟨u1.heap.size, 1, none⟩) pa _
            have oT := oT.keep (w' := uf) (fun g_ e => by rw [huf, Below.heap_setCell _ _ _ _ (by show g_ ≠ u1.heap.size; exact joT g_ e), Below.heap_setCell _ _ _ _ (by show g_ ≠ u1.heap.size; exact joT g_ e)])
            rw [← huf]
            clear huf FQ
            refine hK _ _ ⟨hbf, ?_⟩
            clear hK K hi
            refine wpAnyH_done (by kernel_rfl) ?_ _
            exact hT3.out _ _ ⟨u1.heap.size, aT, cT, [(.agg #[.int .i64 id, .slice ad L.length cap] : Value), .agg #[.int .i64 id, .slice (some ⟨gN, 0, none⟩) L.length cN], (.agg #[.int .i64 x.k, .int .i64 x.q, .int .i64 x.r, .int .i64 x.c, .int .i64 x.b, .int .i64 x.p, .int .i64 x.h, .bool x.up]), .agg #[.int .i64 id, .slice aT T.length cT]], rfl, by kernel_rfl, FE, oT.base bN, joT, pa, hbf⟩
        · refine wpOp_step rfl (fun K hK => ?_)
          rw [if_pos (by kernel_rfl)]
          go_simp
          obtain ⟨u1, hy⟩ : ∃ y_, y_ = u0.alloc (Obj.cells #[.int .i64 0, .slice none 0 0] 56) := ⟨_, rfl⟩
          have kq : Below u0.heap.size u0 u1 := by rw [hy]; exact below_new _
          have FP : BBox u1 u0.heap.size 0 (.slice none 0 0) := by rw [hy]; exact BBox.new u0 _ _ _
          have pa : Y2.heap.size ≤ u0.heap.size := hb0.size
          have hb1 : Below Y2.heap.size Y2 u1 := hb0.trans (kq.mono hb0.size)
          rw [← hy]
          clear hy kq
          refine hK _ _ ⟨hb1, ?_⟩
          clear hK K hi
          refine wpAnyH_all (rs := [1]) (by kernel_rfl) (by simp) ?_
          intro i hi; obtain rfl : i = 1 := by simpa using hi
          refine wpOp_step rfl (fun K hK => ?_)
          rw [if_pos (by kernel_rfl)]
          go_simp
          go_at_call 135
          refine (copS id ad cap L u1 (hv1.below hb1 (hv1.lt ptEnc_len (by omega))) (by omega) hn).mono ?_
          rintro e u2 ⟨aN, cN, rfl, oN, kq⟩
          obtain ⟨gN, rfl, gN1, gN2⟩ := oN.row (by omega)
          have bN : Y2.heap.size ≤ u1.heap.size := hb1.size
          have bU := kq.size
          have joN : ∀ g_, (Value.slice (some ⟨gN, 0, none⟩) L.length cN).ownBlock = some g_ → g_ ≠ u0.heap.size := fun g_ e => by have h1 := (oN.lt g_ e).1; have h2 := FP.lt; omega
          have FP := FP.below kq FP.lt
          have hb2 : Below Y2.heap.size Y2 u2 := hb1.trans (kq.mono hb1.size)
          clear kq
          refine hK _ _ ⟨hb2, ?_⟩
          clear hK K hi
          refine wpAnyH_all (rs := [3]) (by kernel_rfl) (by simp) ?_
          intro i hi; obtain rfl : i = 3 := by simpa using hi
          refine wpOp_step rfl (fun K hK => ?_)
          rw [if_pos (by kernel_rfl)]
          go_simp
          go_at_call 136
          refine (inS id cN L x _ gN u2 oN hgo).mono ?_
          rintro e u3 ⟨aT, cT, rfl, oT, jT, kBar, kB⟩
          rw [hT.out] at oT jT ⊢
          have joT : ∀ g_, (Value.slice aT T.length cT).ownBlock = some g_ → g_ ≠ u0.heap.size := fun g_ e => by
            have h1 := jT g_ e
            have h2 := FP.lt
            have h3 := joN gN rfl
            omega
          have FP := FP.keep (kBar.block _ FP.lt (fun e => joN gN rfl e.symm))
          have hb3 : Below Y2.heap.size Y2 u3 := hb2.trans (kB.mono bN)
          refine hK _ _ ⟨hb3, ?_⟩
          clear hK K hi
          refine wpAnyH_all (rs := [5]) (by kernel_rfl) (by simp) ?_
          intro i hi; obtain rfl : i = 5 := by simpa using hi
          refine wpOp_step rfl (fun K hK => ?_)
          rw [if_pos (by kernel_rfl)]
          have FQ := FP
          obtain ⟨⟨t0, t1⟩, tf⟩ := FP
          go_simp
          clear t0 t1 tf
          obtain ⟨uf, huf⟩ : ∃ y_, y_ = (u3.setCell ⟨u0.heap.size, 0, none⟩ (.int .i64 id)).setCell ⟨u0.heap.size, 1, none⟩ (.slice aT T.length cT) := ⟨_, rfl⟩
          have FE : BBox uf (u0.heap.size) id (.slice aT T.length cT) := by rw [huf]; exact FQ.put _ _
          have hbf : Below Y2.heap.size Y2 uf := by rw [huf]; exact (hb3.setCell (p := ⟨u0.heap.size, 0, none⟩) pa _).setCell (p := ⟨u0.heap.size, 1, none⟩) pa _
          have oT := oT.keep (w' := uf) (fun g_ e => by rw [huf, Below.heap_setCell _ _ _ _ (by show g_ ≠ u0.heap.size; exact joT g_ e), Below.heap_setCell _ _ _ _ (by show g_ ≠ u0.heap.size; exact joT g_ e)])
          rw [← huf]
          clear huf FQ
          refine hK _ _ ⟨hbf, ?_⟩
          clear hK K hi
          refine wpAnyH_done (by kernel_rfl) ?_ _
          exact hT3.out _ _ ⟨u0.heap.size, aT, cT, [(.agg #[.int .i64 id, .slice ad L.length cap] : Value), .agg #[.int .i64 id, .slice (some ⟨gN, 0, none⟩) L.length cN], (.agg #[.int .i64 x.k, .int .i64 x.q, .int .i64 x.r, .int .i64 x.c, .int .i64 x.b, .int .i64 x.p, .int .i64 x.h, .bool x.up]), .agg #[.int .i64 id, .slice aT T.length cT]], rfl, by kernel_rfl, FE, oT.base bN, joT, pa, hbf⟩
      rintro l' Y4 ⟨P, aT, cT, us, hul, rfl, NP, oT, jT, pT, k4⟩
      obtain ⟨u30, us, rfl⟩ : ∃ a b, us = a :: b := List.exists_cons_of_length_eq_add_one hul
      replace hul := Nat.succ.inj hul
      obtain ⟨u31, us, rfl⟩ : ∃ a b, us = a :: b := List.exists_cons_of_length_eq_add_one hul
      replace hul := Nat.succ.inj hul
      obtain ⟨u32, us, rfl⟩ : ∃ a b, us = a :: b := List.exists_cons_of_length_eq_add_one hul
      replace hul := Nat.succ.inj hul
      obtain ⟨u33, us, rfl⟩ : ∃ a b, us = a :: b := List.exists_cons_of_length_eq_add_one hul
      replace hul := Nat.succ.inj hul
      obtain rfl : us = [] := List.eq_nil_of_length_eq_zero hul
      clear hul
      simp only [List.take, List.drop, List.cons_append, List.nil_append]
      have z4 := k4.size
      have A0 := A0.below k4 A0.lt
      have X0 := X0.below k4 X0.lt
      have R0 := R0.below k4 R0.lt
      have hv1 := hv1.below k4 (hv1.lt ptEnc_len (by omega))
      have oE := oE.later k4
      have BY := BY.trans (k4.mono BY.size)
      clear k4
      have NP := NP.at_
      have vT : FView ptEnc Y4 aT T := oT.view.2
      have vtb : ∀ a, aT = some a → 0 < T.length → Y2.heap.size ≤ a.block ∧ a.block < Y4.heap.size := fun a e p => by
        obtain ⟨g_, e1, e2, e3⟩ := oT.row p
        rw [e1] at e
        cases e
        exact ⟨e2, e3⟩
      have vab : ∀ a, ad = some a → 0 < L.length → a.block < w.heap.size := hvb
      have eE := (oE.lt E rfl).2
      have pP := NP.lt
      have sE : ∀ g_, (Value.slice (some ⟨E, 0, none⟩) ([] : List Ou).length 0).ownBlock = some g_ → g_ = E ∨ Y4.heap.size ≤ g_ := fun g_ e => .inl (by simpa [Value.ownBlock] using e.symm)
      have EY2 : E < Y2.heap.size := by omega
      go_wp2
      go_loopw [6, 8] (fun v i wr => ∃ k : Nat, k ≤ L.length ∧ i = .int .i64 (k : Int) ∧ FOwn ouEnc 8 114 E wr v (gatesTo L T k) ∧ (∀ g_, v.ownBlock = some g_ → g_ = E ∨ Y4.heap.size ≤ g_) ∧ Bar E Y4.heap.size Y4 wr ∧ Below w.heap.size w wr) (fun _ i _ => L.length - (intOf i).toNat)
      case atStart => exact ⟨0, Nat.zero_le _, rfl, oE, sE, Bar.of (Below.refl _ _), BY⟩
      case round =>
        obtain ⟨k, hk, rfl, O, sO, hBar, B5⟩ := hrel
        obtain ⟨adk, capk, rfl⟩ := O.open_
        have z5 := hBar.size
        have A5 := A0.bar hBar A0.lt (by omega)
        have P5 := NP.bar hBar NP.lt (by omega)
        have cc_ := A5
        obtain ⟨a0, a1⟩ := cc_
        by_cases hlt : k < L.length
        · have hltT : k < T.length := by rw [hTl.out]; exact hlt
          have hv5 : FView ptEnc wr ad L := hv1.carry fun a e p => hBar.block _ (by have := vab a e p; omega) (by have := vab a e p; omega)
          have vT5 : FView ptEnc wr aT T := vT.carry fun a e p => hBar.block _ (vtb a e p).2 (by have := (vtb a e p).1; omega)
          obtain ⟨bk, off, rfl, _⟩ := hv5 (by omega)
          obtain ⟨bt_, ot_, rfl, _⟩ := vT5 (by omega)
          obtain ⟨h, hh⟩ : ∃ h, T.getD k Pt.nil = h := ⟨_, rfl⟩
          obtain ⟨q_, hg⟩ : ∃ g, L.getD k Pt.nil = g := ⟨_, rfl⟩
          have hhc : ∀ Y, Below wr.heap.size wr Y → PtAtO Y bt_ (ot_ + k * 11) h := fun Y hY => by rw [← hh]; exact ptAtO_of ((vT5.below hY (vT5.lt ptEnc_len (by omega))).at_ ptEnc_len Pt.nil hltT)
          have hgc : ∀ Y, Below wr.heap.size wr Y → PtAtO Y bk (off + k * 11) q_ := fun Y hY => by rw [← hg]; exact ptAtO_of ((hv5.below hY (hv5.lt ptEnc_len (by omega))).at_ ptEnc_len Pt.nil hlt)
          replace hh : Hid _ := hh
          replace hg : Hid _ := hg
          have gl := gates_len L T k
          obtain ⟨G, hG⟩ : ∃ G, gatesTo L T k = G := ⟨_, rfl⟩
          rw [hG] at O gl sO ⊢
          replace hG : Hid _ := hG
          go_upto_region 8 with fail
          clear a0 a1 hv5 vT5
          by_cases ho : h.op = q_.op
          · have hN : Hid (gatesTo L T (k + 1) = G) := by unfold Hid; rw [gates_yes hh.out hg.out ho, hG.out]
            replace ho : Hid _ := ho
            refine wp_region_held (S := fun Y => Below wr.heap.size wr Y) (by kernel_rfl) ?_
            change wpAnyH _ _ _ _ _ _ _ _ (World.drew _)
            have hb0 : Below wr.heap.size wr wr.drew := (Below.refl _ _).drew
            obtain ⟨u0, hy0⟩ : ∃ y_, y_ = wr.drew := ⟨_, rfl⟩
            rw [← hy0] at hb0 ⊢
            clear hy0
            refine takeW 0 41 (.pointer (some ⟨P, 1, none⟩)) rfl rfl (by kernel_rfl) (by kernel_rfl) (by kernel_rfl) (fun _ _ _ h => h) (by kernel_rfl) (by (intro w hSw; go_simp)) (by assumption) ?_
            simp only [List.set_cons_zero, List.set_cons_succ]
            refine takeW 1 42 (.slice (some ⟨bt_, ot_, none⟩) T.length cT) rfl rfl (by kernel_rfl) (by kernel_rfl) (by kernel_rfl) (fun _ _ _ h => h) (by kernel_rfl) (by (intro Y hSw; obtain ⟨X0_, X1_⟩ := P5.below hSw P5.lt; go_simp)) (by assumption) ?_
            simp only [List.set_cons_zero, List.set_cons_succ]
            refine takeW 2 43 (.int .i64 (k : Int)) rfl rfl (by kernel_rfl) (by kernel_rfl) (by kernel_rfl) (fun _ _ _ h => h) (by kernel_rfl) (by (intro w hSw; go_simp)) (by assumption) ?_
            simp only [List.set_cons_zero, List.set_cons_succ]
            refine takeW 3 44 (.pointer (some ⟨bt_, ot_ + k * 11, none⟩)) rfl rfl (by kernel_rfl) (by kernel_rfl) (by kernel_rfl) (fun _ _ _ h => h) (by kernel_rfl) (by (intro Y hSw; go_simp; try omega)) (by assumption) ?_
            simp only [List.set_cons_zero, List.set_cons_succ]
            refine takeW 4 45 (.pointer (some ⟨bt_, ot_ + k * 11 + 10, none⟩)) rfl rfl (by kernel_rfl) (by kernel_rfl) (by kernel_rfl) (fun _ _ _ h => h) (by kernel_rfl) (by (intro w hSw; go_simp)) (by assumption) ?_
            simp only [List.set_cons_zero, List.set_cons_succ]
            refine takeW 5 46 (.bool h.op) rfl rfl (by kernel_rfl) (by kernel_rfl) (by kernel_rfl) (fun _ _ _ h => h) (by kernel_rfl) (by (intro Y hSw; obtain ⟨X0, X1, X2, X3, X4, X5, X6, X7, X8, X9, X10⟩ := hhc Y hSw; go_simp)) (by assumption) ?_
            simp only [List.set_cons_zero, List.set_cons_succ]
            refine takeW 6 47 (.pointer (some ⟨w.heap.size, 1, none⟩)) rfl rfl (by kernel_rfl) (by kernel_rfl) (by kernel_rfl) (fun _ _ _ h => h) (by kernel_rfl) (by (intro w hSw; go_simp)) (by assumption) ?_
            simp only [List.set_cons_zero, List.set_cons_succ]
            refine takeW 7 48 (.slice (some ⟨bk, off, none⟩) L.length cap) rfl rfl (by kernel_rfl) (by kernel_rfl) (by kernel_rfl) (fun _ _ _ h => h) (by kernel_rfl) (by (intro Y hSw; obtain ⟨X0_, X1_⟩ := A5.below hSw A5.lt; go_simp)) (by assumption) ?_
            simp only [List.set_cons_zero, List.set_cons_succ]
            refine takeW 8 49 (.int .i64 (k : Int)) rfl rfl (by kernel_rfl) (by kernel_rfl) (by kernel_rfl) (fun _ _ _ h => h) (by kernel_rfl) (by (intro w hSw; go_simp)) (by assumption) ?_
            simp only [List.set_cons_zero, List.set_cons_succ]
            refine takeW 9 50 (.pointer (some ⟨bk, off + k * 11, none⟩)) rfl rfl (by kernel_rfl) (by kernel_rfl) (by kernel_rfl) (fun _ _ _ h => h) (by kernel_rfl) (by (intro Y hSw; go_simp; try omega)) (by assumption) ?_
            simp only [List.set_cons_zero, List.set_cons_succ]
            refine takeW 10 51 (.pointer (some ⟨bk, off + k * 11 + 10, none⟩)) rfl rfl (by kernel_rfl) (by kernel_rfl) (by kernel_rfl) (fun _ _ _ h => h) (by kernel_rfl) (by (intro w hSw; go_simp)) (by assumption) ?_
            simp only [List.set_cons_zero, List.set_cons_succ]
            refine takeW 11 52 (.bool q_.op) rfl rfl (by kernel_rfl) (by kernel_rfl) (by kernel_rfl) (fun _ _ _ h => h) (by kernel_rfl) (by (intro Y hSw; obtain ⟨X0, X1, X2, X3, X4, X5, X6, X7, X8, X9, X10⟩ := hgc Y hSw; go_simp)) (by assumption) ?_
            simp only [List.set_cons_zero, List.set_cons_succ]
            refine takeW 12 53 (.bool false) rfl rfl (by kernel_rfl) (by kernel_rfl) (by kernel_rfl) (fun _ _ _ h => h) (by kernel_rfl) (by (intro Y hSw; go_simp; exact ho.out)) (by assumption) ?_
            simp only [List.set_cons_zero, List.set_cons_succ]
            refine wpAnyH_done (by kernel_rfl) ?_ _
            have hBar2 : Bar E Y4.heap.size Y4 u0 := ⟨Nat.le_trans hBar.size hb0.size, fun q hq hne => (hb0.block q (by omega)).trans (hBar.block q hq hne)⟩
            go_wp2
            go_roundw
            case rel => exact ⟨k + 1, by omega, by go_num, by rw [hN.out]; exact O.later hb0, sO, hBar2, B5.trans (hb0.mono B5.size)⟩
            case measure => simp [intOf]; omega
          · have hN : Hid (gatesTo L T (k + 1) = G ++ [gateO k h.op]) := by unfold Hid; rw [gates_no hh.out hg.out ho, hG.out]
            replace ho : Hid _ := ho
            refine wp_region_held (S := fun Y => Below wr.heap.size wr Y) (by kernel_rfl) ?_
            change wpAnyH _ _ _ _ _ _ _ _ (World.drew _)
            have hb0 : Below wr.heap.size wr wr.drew := (Below.refl _ _).drew
            obtain ⟨u0, hy0⟩ : ∃ y_, y_ = wr.drew := ⟨_, rfl⟩
            rw [← hy0] at hb0 ⊢
            clear hy0
            refine takeW 0 41 (.pointer (some ⟨P, 1, none⟩)) rfl rfl (by kernel_rfl) (by kernel_rfl) (by kernel_rfl) (fun _ _ _ h => h) (by kernel_rfl) (by (intro w hSw; go_simp)) (by assumption) ?_
            simp only [List.set_cons_zero, List.set_cons_succ]
            refine takeW 1 42 (.slice (some ⟨bt_, ot_, none⟩) T.length cT) rfl rfl (by kernel_rfl) (by kernel_rfl) (by kernel_rfl) (fun _ _ _ h => h) (by kernel_rfl) (by (intro Y hSw; obtain ⟨X0_, X1_⟩ := P5.below hSw P5.lt; go_simp)) (by assumption) ?_
            simp only [List.set_cons_zero, List.set_cons_succ]
            refine takeW 2 43 (.int .i64 (k : Int)) rfl rfl (by kernel_rfl) (by kernel_rfl) (by kernel_rfl) (fun _ _ _ h => h) (by kernel_rfl) (by (intro w hSw; go_simp)) (by assumption) ?_
            simp only [List.set_cons_zero, List.set_cons_succ]
            refine takeW 3 44 (.pointer (some ⟨bt_, ot_ + k * 11, none⟩)) rfl rfl (by kernel_rfl) (by kernel_rfl) (by kernel_rfl) (fun _ _ _ h => h) (by kernel_rfl) (by (intro Y hSw; go_simp; try omega)) (by assumption) ?_
            simp only [List.set_cons_zero, List.set_cons_succ]
            refine takeW 4 45 (.pointer (some ⟨bt_, ot_ + k * 11 + 10, none⟩)) rfl rfl (by kernel_rfl) (by kernel_rfl) (by kernel_rfl) (fun _ _ _ h => h) (by kernel_rfl) (by (intro w hSw; go_simp)) (by assumption) ?_
            simp only [List.set_cons_zero, List.set_cons_succ]
            refine takeW 5 46 (.bool h.op) rfl rfl (by kernel_rfl) (by kernel_rfl) (by kernel_rfl) (fun _ _ _ h => h) (by kernel_rfl) (by (intro Y hSw; obtain ⟨X0, X1, X2, X3, X4, X5, X6, X7, X8, X9, X10⟩ := hhc Y hSw; go_simp)) (by assumption) ?_
            simp only [List.set_cons_zero, List.set_cons_succ]
            refine takeW 6 47 (.pointer (some ⟨w.heap.size, 1, none⟩)) rfl rfl (by kernel_rfl) (by kernel_rfl) (by kernel_rfl) (fun _ _ _ h => h) (by kernel_rfl) (by (intro w hSw; go_simp)) (by assumption) ?_
            simp only [List.set_cons_zero, List.set_cons_succ]
            refine takeW 7 48 (.slice (some ⟨bk, off, none⟩) L.length cap) rfl rfl (by kernel_rfl) (by kernel_rfl) (by kernel_rfl) (fun _ _ _ h => h) (by kernel_rfl) (by (intro Y hSw; obtain ⟨X0_, X1_⟩ := A5.below hSw A5.lt; go_simp)) (by assumption) ?_
            simp only [List.set_cons_zero, List.set_cons_succ]
            refine takeW 8 49 (.int .i64 (k : Int)) rfl rfl (by kernel_rfl) (by kernel_rfl) (by kernel_rfl) (fun _ _ _ h => h) (by kernel_rfl) (by (intro w hSw; go_simp)) (by assumption) ?_
            simp only [List.set_cons_zero, List.set_cons_succ]
            refine takeW 9 50 (.pointer (some ⟨bk, off + k * 11, none⟩)) rfl rfl (by kernel_rfl) (by kernel_rfl) (by kernel_rfl) (fun _ _ _ h => h) (by kernel_rfl) (by (intro Y hSw; go_simp; try omega)) (by assumption) ?_
            simp only [List.set_cons_zero, List.set_cons_succ]
            refine takeW 10 51 (.pointer (some ⟨bk, off + k * 11 + 10, none⟩)) rfl rfl (by kernel_rfl) (by kernel_rfl) (by kernel_rfl) (fun _ _ _ h => h) (by kernel_rfl) (by (intro w hSw; go_simp)) (by assumption) ?_
            simp only [List.set_cons_zero, List.set_cons_succ]
            refine takeW 11 52 (.bool q_.op) rfl rfl (by kernel_rfl) (by kernel_rfl) (by kernel_rfl) (fun _ _ _ h => h) (by kernel_rfl) (by (intro Y hSw; obtain ⟨X0, X1, X2, X3, X4, X5, X6, X7, X8, X9, X10⟩ := hgc Y hSw; go_simp)) (by assumption) ?_
            simp only [List.set_cons_zero, List.set_cons_succ]
            refine takeW 12 53 (.bool true) rfl rfl (by kernel_rfl) (by kernel_rfl) (by kernel_rfl) (fun _ _ _ h => h) (by kernel_rfl) (by (intro Y hSw; go_simp; exact ho.out)) (by assumption) ?_
            simp only [List.set_cons_zero, List.set_cons_succ]
            refine wpAnyH_done (by kernel_rfl) ?_ _
            have hBar2 : Bar E Y4.heap.size Y4 u0 := ⟨Nat.le_trans hBar.size hb0.size, fun q hq hne => (hb0.block q (by omega)).trans (hBar.block q hq hne)⟩
            have B6 := B5.trans (hb0.mono B5.size)
            have z6 := hb0.size
            obtain ⟨c0, c1, c2, c3, c4, c5, c6, c7, c8, c9, c10⟩ := hhc u0 hb0
            obtain ⟨n0, n1⟩ := P5.below hb0 P5.lt
            have V1 := FView.oneO u0 114 (gateO k h.op)
            have O2 : FOwn ouEnc 8 114 E (u0.alloc (Obj.cells #[.int .i64 (gateO k h.op).k, .int .i64 (gateO k h.op).pt, .int .i64 (gateO k h.op).r, .int .i64 (gateO k h.op).c, .int .i64 (gateO k h.op).b, .int .i64 (gateO k h.op).p, .int .i64 (gateO k h.op).h, .bool (gateO k h.op).on] 114)) (.slice adk G.length capk) G := (O.later hb0).later (below_new _)
            unfold gateO at V1 O2
            dsimp only at V1 O2
            go_wp2_with (first | (at_builtin; refine fappL ouEnc_len ouEnc_ones rfl _ _ 46 rfl E 114 i0 (.agg #[.int .i64 0, .int .i64 0, .int .i64 0, .int .i64 0, .int .i64 0, .int .i64 0, .int .i64 0, .bool false]) 64 Tryz.underlying46 hi hz0 hz1 hz2 rfl (by decide) (by decide) (.slice adk G.length capk) G rfl O2 (some ⟨u0.heap.size, 0, none⟩) 1 [(⟨2, (k : Int), 0, 0, 0, 0, 0, h.op⟩ : Ou)] rfl (fun e => by cases e) V1 ?z0 ?z1 ?_) | go_in)
            case z0 => simp; omega
            case z1 => simp; omega
            intro vZ wZ hownZ hgrowZ hoZ
            have gsz := hgrowZ.size
            simp only [World.size_alloc] at gsz
            have sZ : ∀ g_, vZ.ownBlock = some g_ → g_ = E ∨ Y4.heap.size ≤ g_ := fun g_ e => by
              rcases hoZ with q | q
              · exact sO g_ (by rw [← q]; exact e)
              · rw [q] at e
                simp at e
                omega
            have BarZ : Bar E Y4.heap.size Y4 wZ := ⟨by omega, fun q hq hne => (hgrowZ.block q (by simp; omega) (fun e => by have := sO q e.symm; omega)).trans ((Below.heap_alloc _ _ q (by omega)).trans (hBar2.block q hq hne))⟩
            have BZ6 : Below w.heap.size w wZ := (B6.alloc B6.size _).grown hgrowZ (by simp; have := B6.size; omega) (fun g_ e => by have := sO g_ e; omega)
            clear hgrowZ V1 O2 c0 c1 c2 c3 c4 c5 c6 c7 c8 c9 c10 n0 n1 hoZ
            go_wp2
            go_roundw
            case rel => exact ⟨k + 1, by omega, by go_num, by rw [hN.out]; exact hownZ, sZ, BarZ, BZ6⟩
            case measure => simp [intOf]; omega
        · obtain rfl : k = L.length := by omega
          obtain ⟨G, hG⟩ : ∃ G, gatesTo L T L.length = G := ⟨_, rfl⟩
          have gl := gates_len L T L.length
          rw [hG] at O sO gl hO2 ⊢
          replace hO2 : Hid _ := hO2
          clear hG
          have X5 := X0.keep (hBar.block _ X0.lt (by omega))
          have R5 := R0.keep (hBar.block _ R0.lt (by omega))
          have cc_ := X5
          obtain ⟨x0, x1, x2, x3, x4, x5, x6, x7⟩ := cc_
          have cp_ := P5
          obtain ⟨n0, n1⟩ := cp_
          by_cases hk2 : x.k = 2
          · have hO3 : Hid (OO = G ++ toldTo id T T.length) := by unfold Hid; rw [hO2.out, if_pos hk2]
            replace hk2 : Hid _ := hk2
            clear hO2
            have gl4 : G.length ≤ 4 := by omega
            go_upto_region 10 with fail
            go_wp2
            clear x0 x1 x2 x3 x4 x5 x6 x7 n0 n1 a0 a1 A5 P5 X5 R5
            go_loopw [6, 9] (fun v i ws => ∃ k : Nat, k ≤ T.length ∧ i = .int .i64 (k : Int) ∧ FOwn ouEnc 8 114 E ws v (G ++ toldTo id T k) ∧ (∀ g_, v.ownBlock = some g_ → g_ = E ∨ Y4.heap.size ≤ g_) ∧ Bar E Y4.heap.size Y4 ws ∧ Below w.heap.size w ws) (fun _ i _ => T.length - (intOf i).toNat)
            case atStart => exact ⟨0, Nat.zero_le _, rfl, by rw [show toldTo id T 0 = [] from rfl, List.append_nil]; exact O, sO, hBar, B5⟩
            case round =>
              clear O sO hBar B5
              obtain ⟨k, hk, rfl, O, sO, hBar, B5⟩ := hrel
              obtain ⟨adk, capk, rfl⟩ := O.open_
              have z5 := hBar.size
              have P5 := NP.bar hBar NP.lt (by omega)
              have X5 := X0.keep (hBar.block _ X0.lt (by omega))
              have R5 := R0.keep (hBar.block _ R0.lt (by omega))
              have cc_ := X5
              obtain ⟨x0, x1, x2, x3, x4, x5, x6, x7⟩ := cc_
              have dk : (x.k == 2) = true := by simpa using hk2.out
              have cp_ := P5
              obtain ⟨n0, n1⟩ := cp_
              by_cases hlt : k < T.length
              · have vT5 : FView ptEnc wr aT T := vT.carry fun a e p => hBar.block _ (vtb a e p).2 (by have := (vtb a e p).1; omega)
                obtain ⟨bt_, ot_, rfl, _⟩ := vT5 (by omega)
                obtain ⟨h, hh⟩ : ∃ h, T.getD k Pt.nil = h := ⟨_, rfl⟩
                obtain ⟨c0, c1, c2, c3, c4, c5, c6, c7, c8, c9, c10⟩ : PtAtO wr bt_ (ot_ + k * 11) h := by rw [← hh]; exact ptAtO_of (vT5.at_ ptEnc_len Pt.nil hlt)
                replace hh : Hid _ := hh
                have tl := told_len id T k
                obtain ⟨H, hH⟩ : ∃ H, toldTo id T k = H := ⟨_, rfl⟩
                rw [hH] at O tl sO ⊢
                obtain ⟨GH, hGH⟩ : ∃ GH, G ++ H = GH := ⟨_, rfl⟩
                have gh8 : GH.length ≤ 8 := by rw [← hGH, List.length_append]; omega
                rw [hGH] at O sO ⊢
                have hHN : Hid (G ++ toldTo id T k = GH) := by unfold Hid; rw [hH, hGH]
                clear hH hGH
                by_cases ho : h.ro = 2
                · have dr : (h.ro == 2) = true := by simpa using ho
                  obtain ⟨⟨v1, v2, v3, v4⟩, hov⟩ : ∃ v, ownR id T k = v := ⟨_, rfl⟩
                  obtain ⟨hq_, hhq⟩ : ∃ v, hopsR id T = v := ⟨_, rfl⟩
                  have hN : Hid (G ++ toldTo id T (k + 1) = GH ++ [(⟨1, (k : Int), v1, v2, v3, v4, hq_, false⟩ : Ou)]) := by unfold Hid; rw [told_yes hh.out ho, ← List.append_assoc, hHN.out]; unfold toldO; rw [hov, hhq]
                  replace ho : Hid _ := ho
                  replace hov : Hid _ := hov
                  replace hhq : Hid _ := hhq
                  have hiT := hi
                  go_upto_region 14 with fail
                  clear c0 c1 c2 c3 c4 c5 c6 c7 c8 c9 c10 x0 x1 x2 x3 x4 x5 x6 x7 n0 n1 vT5
                  refine wp_region_held (S := fun Y => Bar E Y4.heap.size Y4 Y) (by kernel_rfl) ?_
                  change wpAnyH _ _ _ _ _ _ _ _ (World.drew _)
                  have ha0 : Below wr.heap.size wr wr.drew := (Below.refl _ _).drew
                  obtain ⟨u0, hy0⟩ : ∃ y_, y_ = wr.drew := ⟨_, rfl⟩
                  rw [← hy0] at ha0 ⊢
                  clear hy0
                  have hb0 : Bar E Y4.heap.size Y4 u0 := ⟨Nat.le_trans hBar.size ha0.size, fun q hq hne => (ha0.block q (by omega)).trans (hBar.block q hq hne)⟩
                  refine takeW 0 84 (.slice adk GH.length capk) rfl rfl (by kernel_rfl) (by kernel_rfl) (by kernel_rfl) (fun _ _ _ h => h) (by kernel_rfl) (by (intro w hSw; go_simp)) (by assumption) ?_
                  simp only [List.set_cons_zero, List.set_cons_succ]
                  refine takeW 1 85 (.int .i64 (k : Int)) rfl rfl (by kernel_rfl) (by kernel_rfl) (by kernel_rfl) (fun _ _ _ h => h) (by kernel_rfl) (by (intro w hSw; go_simp)) (by assumption) ?_
                  simp only [List.set_cons_zero, List.set_cons_succ]
                  refine takeW 2 86 (.agg #[.int .i64 id, .slice (some ⟨bt_, ot_, none⟩) T.length cT]) rfl rfl (by kernel_rfl) (by kernel_rfl) (by kernel_rfl) (fun _ _ _ h => h) (by kernel_rfl) (by (intro Y hSw; obtain ⟨X0_, X1_⟩ := NP.bar hSw NP.lt (by omega); go_simp)) (by assumption) ?_
                  simp only [List.set_cons_zero, List.set_cons_succ]
                  refine takeW 3 87 (.int .i64 (k : Int)) rfl rfl (by kernel_rfl) (by kernel_rfl) (by kernel_rfl) (fun _ _ _ h => h) (by kernel_rfl) (by (intro w hSw; go_simp)) (by assumption) ?_
                  simp only [List.set_cons_zero, List.set_cons_succ]
                  refine takeW 5 89 (.agg #[.int .i64 id, .slice (some ⟨bt_, ot_, none⟩) T.length cT]) rfl rfl (by kernel_rfl) (by kernel_rfl) (by kernel_rfl) (fun _ _ _ h => h) (by kernel_rfl) (by (intro Y hSw; obtain ⟨X0_, X1_⟩ := NP.bar hSw NP.lt (by omega); go_simp)) (by assumption) ?_
                  simp only [List.set_cons_zero, List.set_cons_succ]
                  refine wpAnyH_all (rs := [4]) (by kernel_rfl) (by simp) ?_
                  intro i hi; obtain rfl : i = 4 := by simpa using hi
                  refine wpOp_step rfl (fun K hK => ?_)
                  rw [if_pos (by kernel_rfl)]
                  go_simp
                  go_at_call 137
                  refine (ownS id (some ⟨bt_, ot_, none⟩) cT T (k : Int) u0 (vT.carry fun a e p => hb0.block _ (vtb a e p).2 (by have := (vtb a e p).1; omega)) (by omega)).mono ?_
                  rintro e u1 ⟨rfl, kq⟩
                  have ha1 : Below wr.heap.size wr u1 := ha0.trans (kq.mono ha0.size)
                  have hb1 : Bar E Y4.heap.size Y4 u1 := ⟨Nat.le_trans hBar.size ha1.size, fun q hq hne => (ha1.block q (by omega)).trans (hBar.block q hq hne)⟩
                  clear kq
                  rw [hov.out]
                  refine hK _ _ ⟨hb1, ?_⟩
                  clear hK K hi
                  refine wpAnyH_all (rs := [6]) (by kernel_rfl) (by simp) ?_
                  intro i hi; obtain rfl : i = 6 := by simpa using hi
                  refine wpOp_step rfl (fun K hK => ?_)
                  rw [if_pos (by kernel_rfl)]
                  go_simp
                  go_at_call 138
                  refine (hopsS id (some ⟨bt_, ot_, none⟩) cT T u1 (vT.carry fun a e p => hb1.block _ (vtb a e p).2 (by have := (vtb a e p).1; omega)) (by omega)).mono ?_
                  rintro e u2 ⟨rfl, kq⟩
                  have ha2 : Below wr.heap.size wr u2 := ha1.trans (kq.mono ha1.size)
                  have hb2 : Bar E Y4.heap.size Y4 u2 := ⟨Nat.le_trans hBar.size ha2.size, fun q hq hne => (ha2.block q (by omega)).trans (hBar.block q hq hne)⟩
                  clear kq
                  rw [hhq.out]
                  refine hK _ _ ⟨hb2, ?_⟩
                  clear hK K hi
                  refine takeW 7 91 (.agg #[.int .i64 1, .int .i64 (k : Int), .int .i64 v1, .int .i64 v2, .int .i64 v3, .int .i64 v4, .int .i64 hq_, .bool false]) rfl rfl (by kernel_rfl) (by kernel_rfl) (by kernel_rfl) (fun _ _ _ h => h) (by kernel_rfl) (by (intro w hSw; go_simp)) (by assumption) ?_
                  simp only [List.set_cons_zero, List.set_cons_succ]
                  refine wpAnyH_all (rs := [8]) (by kernel_rfl) (by simp) ?_
                  intro i hi; obtain rfl : i = 8 := by simpa using hi
                  refine wpOp_step rfl (fun K_ hK_ => ?_)
                  rw [if_pos (by kernel_rfl)]
                  go_simp
                  obtain ⟨u3, hu3⟩ : ∃ y_, y_ = u2.alloc (Obj.cells #[.int .i64 1, .int .i64 (k : Int), .int .i64 v1, .int .i64 v2, .int .i64 v3, .int .i64 v4, .int .i64 hq_, .bool false] 114) := ⟨_, rfl⟩
                  have V1 : FView ouEnc u3 (some ⟨u2.heap.size, 0, none⟩) [(⟨1, (k : Int), v1, v2, v3, v4, hq_, false⟩ : Ou)] := by rw [hu3]; exact FView.oneO u2 114 ⟨1, (k : Int), v1, v2, v3, v4, hq_, false⟩
                  have kq : Below u2.heap.size u2 u3 := by rw [hu3]; exact below_new _
                  have ha3 : Below wr.heap.size wr u3 := ha2.trans (kq.mono ha2.size)
                  have hb3 : Bar E Y4.heap.size Y4 u3 := ⟨Nat.le_trans hBar.size ha3.size, fun q hq hne => (ha3.block q (by omega)).trans (hBar.block q hq hne)⟩
                  clear kq
                  rw [← hu3]
                  clear hu3
                  generalize u2.heap.size = Ee at V1 ⊢
                  refine hK_ _ _ ⟨hb3, ?_⟩
                  clear hK_ K_ hi
                  have O2 : FOwn ouEnc 8 114 E u3 (.slice adk GH.length capk) GH := O.later ha3
                  have z6 := ha3.size
                  have B6 := B5.trans (ha3.mono B5.size)
                  refine wpAnyH_all (rs := [9]) (by kernel_rfl) (by simp) ?_
                  intro i hi; obtain rfl : i = 9 := by simpa using hi
                  refine wpOp_step rfl (fun K_ hK_ => ?_)
                  rw [if_pos (by kernel_rfl)]
                  refine fapp ouEnc_len ouEnc_ones 93 _ _ 46 rfl rfl E 114 i0 (.agg #[.int .i64 0, .int .i64 0, .int .i64 0, .int .i64 0, .int .i64 0, .int .i64 0, .int .i64 0, .bool false]) 64 Tryz.underlying46 hiT hz0 hz1 hz2 rfl (by decide) (by decide) (.slice adk GH.length capk) GH rfl O2 (some ⟨Ee, 0, none⟩) 1 [(⟨1, (k : Int), v1, v2, v3, v4, hq_, false⟩ : Ou)] rfl (fun e => by cases e) V1 (by simp; omega) (by omega) ?_
                  intro vZ wZ hownZ gZ hoZ
                  have gsz := gZ.size
                  have sZ : ∀ g_, vZ.ownBlock = some g_ → g_ = E ∨ Y4.heap.size ≤ g_ := fun g_ e => by
                    rcases hoZ with q | q
                    · exact sO g_ (by rw [← q]; exact e)
                    · rw [q] at e
                      simp at e
                      omega
                  have BarZ : Bar E Y4.heap.size Y4 wZ := ⟨by omega, fun q hq hne => (gZ.block q (by omega) (fun e => by have := sO q e.symm; omega)).trans (hb3.block q hq hne)⟩
                  have BZ6 : Below w.heap.size w wZ := B6.grown gZ B6.size (fun g_ e => by have := sO g_ e; omega)
                  clear gZ V1 O2 hoZ
                  simp only [List.set_cons_zero, List.set_cons_succ]
                  refine hK_ _ _ ⟨BarZ, ?_⟩
                  clear hK_ K_ hi
                  refine takeW 10 6 vZ rfl rfl (by kernel_rfl) (by kernel_rfl) (by kernel_rfl) (fun _ _ _ h => h) (by kernel_rfl) (by (intro w hSw; go_simp)) (by assumption) ?_
                  simp only [List.set_cons_zero, List.set_cons_succ]
                  refine wpAnyH_done (by kernel_rfl) ?_ _
                  clear O ha0 ha1 ha2 ha3 hb0 hb1 hb2 hb3
                  go_wp2
                  go_roundw
                  case rel => exact ⟨k + 1, by omega, by go_num, by rw [hN.out]; exact hownZ, sZ, BarZ, BZ6⟩
                  case measure => simp [intOf]; omega
                · have dr : (h.ro == 2) = false := by simpa using ho
                  have hN : Hid (G ++ toldTo id T (k + 1) = GH) := by unfold Hid; rw [told_no hh.out ho, hHN.out]
                  replace ho : Hid _ := ho
                  go_wp2
                  go_roundw
                  case rel => exact ⟨k + 1, by omega, by go_num, by rw [hN.out]; exact O, sO, hBar, B5⟩
                  case measure => simp [intOf]; omega
              · obtain rfl : k = T.length := by omega
                obtain ⟨Z, hZ⟩ : ∃ Z, G ++ toldTo id T T.length = Z := ⟨_, rfl⟩
                rw [hZ] at O sO hO3 ⊢
                replace hO3 : Hid _ := hO3
                clear hZ
                go_upto_region 15 with fail
                clear x0 x1 x2 x3 x4 x5 x6 x7 n0 n1
                have OT : FOwn ptEnc 11 109 Y2.heap.size wr (.slice aT T.length cT) T := oT.keep fun g_ e => hBar.block g_ (oT.lt g_ e).2 (by have := (oT.lt g_ e).1; omega)
                have JJ : ∀ g_, (Value.slice adk (Z).length capk).ownBlock = some g_ → (Value.slice aT T.length cT).ownBlock ≠ some g_ := fun g_ e e2 => by have h1 := sO g_ e; have h2 := oT.lt g_ e2; omega
                have RP := R5.put id (.slice aT T.length cT)
                have S8 : w.heap.size + 1 + 1 < wr.heap.size := R5.lt
                obtain ⟨⟨r0, r1⟩, rf⟩ := R5
                have BZ := (B5.setCell (p := ⟨w.heap.size + 1 + 1, 0, none⟩) (by show _ ≤ w.heap.size + 1 + 1; omega) (.int .i64 id)).setCell (p := ⟨w.heap.size + 1 + 1, 1, none⟩) (by show _ ≤ w.heap.size + 1 + 1; omega) (.slice aT T.length cT)
                have OZ : FOwn ptEnc 11 109 w.heap.size ((wr.setCell ⟨w.heap.size + 1 + 1, 0, none⟩ (.int .i64 id)).setCell ⟨w.heap.size + 1 + 1, 1, none⟩ (.slice aT T.length cT)) (.slice aT T.length cT) T := (OT.base (by omega)).keep fun g' e => by
                  have := (OT.lt g' e).1
                  rw [Below.heap_setCell _ _ _ _ (by show g' ≠ w.heap.size + 1 + 1; omega), Below.heap_setCell _ _ _ _ (by show g' ≠ w.heap.size + 1 + 1; omega)]
                have OQ : FOwn ouEnc 8 114 w.heap.size ((wr.setCell ⟨w.heap.size + 1 + 1, 0, none⟩ (.int .i64 id)).setCell ⟨w.heap.size + 1 + 1, 1, none⟩ (.slice aT T.length cT)) (.slice adk (Z).length capk) (Z) := (O.base (by omega)).keep fun g' e => by
                  have := (O.lt g' e).1
                  rw [Below.heap_setCell _ _ _ _ (by show g' ≠ w.heap.size + 1 + 1; omega), Below.heap_setCell _ _ _ _ (by show g' ≠ w.heap.size + 1 + 1; omega)]
                obtain ⟨⟨p0, p1⟩, _⟩ := RP
                obtain ⟨n0, n1⟩ := P5
                go_wp2
                refine bodyPost_ret (v := .tuple #[.agg #[.int .i64 id, .slice aT T.length cT], .slice adk (Z).length capk]) (by simp [results, Tryz.results77, go_sem, *]) rfl ⟨aT, cT, adk, capk, by rw [hD2.out, hO3.out], by rw [hD2.out]; exact OZ, by rw [hO3.out]; exact OQ, by rw [hD2.out, hO3.out]; exact JJ, BZ⟩
          · have dk : (x.k == 2) = false := by simpa using hk2
            have hO3 : Hid (OO = G) := by unfold Hid; rw [hO2.out, if_neg hk2, List.append_nil]
            have d0 : decide ((0 : Int) < (T.length : Int)) = true := decide_eq_true (by omega)
            have d0' : decide (0 < T.length) = true := decide_eq_true (by omega)
            replace hk2 : Hid _ := hk2
            clear hO2
            go_upto_region 10 with fail
            go_wp2
            refine wp_loop_rounds 1 ?_; rw [rounds_succ]
            go_upto_region 15 with fail
            clear x0 x1 x2 x3 x4 x5 x6 x7 n0 n1
            have OT : FOwn ptEnc 11 109 Y2.heap.size wr (.slice aT T.length cT) T := oT.keep fun g_ e => hBar.block g_ (oT.lt g_ e).2 (by have := (oT.lt g_ e).1; omega)
            have JJ : ∀ g_, (Value.slice adk (G).length capk).ownBlock = some g_ → (Value.slice aT T.length cT).ownBlock ≠ some g_ := fun g_ e e2 => by have h1 := sO g_ e; have h2 := oT.lt g_ e2; omega
            have RP := R5.put id (.slice aT T.length cT)
            have S8 : w.heap.size + 1 + 1 < wr.heap.size := R5.lt
            obtain ⟨⟨r0, r1⟩, rf⟩ := R5
            have BZ := (B5.setCell (p := ⟨w.heap.size + 1 + 1, 0, none⟩) (by show _ ≤ w.heap.size + 1 + 1; omega) (.int .i64 id)).setCell (p := ⟨w.heap.size + 1 + 1, 1, none⟩) (by show _ ≤ w.heap.size + 1 + 1; omega) (.slice aT T.length cT)
            have OZ : FOwn ptEnc 11 109 w.heap.size ((wr.setCell ⟨w.heap.size + 1 + 1, 0, none⟩ (.int .i64 id)).setCell ⟨w.heap.size + 1 + 1, 1, none⟩ (.slice aT T.length cT)) (.slice aT T.length cT) T := (OT.base (by omega)).keep fun g' e => by
              have := (OT.lt g' e).1
              rw [Below.heap_setCell _ _ _ _ (by show g' ≠ w.heap.size + 1 + 1; omega), Below.heap_setCell _ _ _ _ (by show g' ≠ w.heap.size + 1 + 1; omega)]
            have OQ : FOwn ouEnc 8 114 w.heap.size ((wr.setCell ⟨w.heap.size + 1 + 1, 0, none⟩ (.int .i64 id)).setCell ⟨w.heap.size + 1 + 1, 1, none⟩ (.slice aT T.length cT)) (.slice adk (G).length capk) (G) := (O.base (by omega)).keep fun g' e => by
              have := (O.lt g' e).1
              rw [Below.heap_setCell _ _ _ _ (by show g' ≠ w.heap.size + 1 + 1; omega), Below.heap_setCell _ _ _ _ (by show g' ≠ w.heap.size + 1 + 1; omega)]
            obtain ⟨⟨p0, p1⟩, _⟩ := RP
            obtain ⟨n0, n1⟩ := P5
            go_wp2
            refine bodyPost_ret (v := .tuple #[.agg #[.int .i64 id, .slice aT T.length cT], .slice adk (G).length capk]) (by simp [results, Tryz.results77, go_sem, *]) rfl ⟨aT, cT, adk, capk, by rw [hD2.out, hO3.out], by rw [hD2.out]; exact OZ, by rw [hO3.out]; exact OQ, by rw [hD2.out, hO3.out]; exact JJ, BZ⟩

end Go.Proofs.YtnpiljegdiconaaGreat
namespace Go.Proofs.YtnpiljegdiconaaGreat
open Go.ChangeShapes Go.WideShapes Go.ChangeAt Go.RowKit
open Go.ChangeMaps (open_string shut_string)
set_option linter.unusedVariables false
set_option maxRecDepth 100000

theorem bOk_len4 {id : Int} {L : List Pt} (h : bOk id L = true) : L.length ≤ 4 := (bOk_all h).2.1.2
theorem reactO_len (id : Int) (L : List Pt) (x : Ik) : (reactO id L x).length ≤ 8 := by
  unfold reactO
  split
  · rename_i h
    unfold goes at h
    simp only [Bool.and_eq_true] at h
    have h4 := bOk_len4 h.1
    have h1 := gates_len L (afterL id L x) L.length
    have h2 := told_len id (afterL id L x) L.length
    rw [List.length_append]
    split
    · omega
    · simp; omega
  · simp

end Go.Proofs.YtnpiljegdiconaaGreat
namespace Go.Proofs.YtnpiljegdiconaaGreat
open Go.ChangeShapes Go.WideShapes Go.ChangeAt Go.RowKit
open Go.ChangeMaps (open_string shut_string)
set_option linter.unusedVariables false
set_option maxRecDepth 100000

theorem FView.take {X : Type} {enc : X → List Value} {w : World} {ad : Option Addr} {L : List X} (h : FView enc w ad L) (k : Nat) : FView enc w ad (L.take k) := by
  intro hp
  obtain ⟨b, off, e, hc⟩ := h (by rw [List.length_take] at hp; omega)
  refine ⟨b, off, e, fun j v hv => hc j v ?_⟩
  rw [← List.take_append_drop k L, fcells_app, List.getElem?_append_left (List.getElem?_eq_some_iff.1 hv).1]
  exact hv
/-- The bridge that a log tells of. -/
def ofR (id n : Int) (X : List Ik) : List Pt := ofL (newI id n) (newL id n) X
theorem newL_small (id n : Int) : (newL id n).length ≤ 4 := by
  unfold newL
  split
  · rename_i q
    unfold nOk at q
    simp only [Bool.and_eq_true, decide_eq_true_eq] at q
    rw [List.length_replicate]
    omega
  · simp
theorem ofR_len (id n : Int) (X : List Ik) : (ofR id n X).length ≤ 4 := by
  unfold ofR; rw [ofL_len]; exact newL_small id n
theorem ofR_not {id n : Int} (X : List Ik) (h : nOk id n = false) : ofR id n X = [] ∧ newI id n = 0 := by
  have e1 : newI id n = 0 := by unfold newI; rw [h]; rfl
  have e2 : newL id n = [] := by unfold newL; rw [h]; rfl
  refine ⟨?_, e1⟩
  unfold ofR
  rw [e1, e2]
  exact ofL_not X (by decide)
/-- What a log says at one of its places. -/
def sayR (id n : Int) (X : List Ik) (i : Int) : List Ou := sayL (newI id n) (newL id n) X Ik.nil i
theorem sayR_len (id n : Int) (X : List Ik) (i : Int) : (sayR id n X i).length ≤ 8 := by
  unfold sayR sayL
  split
  · exact reactO_len _ _ _
  · simp
theorem BBox.put1 {w : World} {q : Nat} {id : Int} {v : Value} (h : BBox w q id v) (id' : Int) (v' : Value) (k : Nat) (hk : k ≠ q) : ((w.setCell ⟨q, 0, none⟩ (.int .i64 id')).setCell ⟨q, 1, none⟩ v').heap[k]? = w.heap[k]? := by
  rw [Below.heap_setCell _ _ _ _ hk, Below.heap_setCell _ _ _ _ hk]

end Go.Proofs.YtnpiljegdiconaaGreat
namespace Go.Proofs.YtnpiljegdiconaaGreat
open Go.ChangeShapes Go.WideShapes Go.ChangeAt Go.RowKit
open Go.ChangeMaps (open_string shut_string)
set_option linter.unusedVariables false
set_option maxRecDepth 100000

theorem MdAtO.belowJ {w w' : World} {q o n : Nat} {x : MiD} (h : MdAtO w q o x) (k : Below n w w') (hq : q < n) : MdAtO w' q o x :=
  ⟨(World.cell?_of_block (a := ⟨q, o, none⟩) (k.block q hq)).trans h.c0, (World.cell?_of_block (a := ⟨q, o + 1, none⟩) (k.block q hq)).trans h.c1, (World.cell?_of_block (a := ⟨q, o + 2, none⟩) (k.block q hq)).trans h.c2, (World.cell?_of_block (a := ⟨q, o + 3, none⟩) (k.block q hq)).trans h.c3, (World.cell?_of_block (a := ⟨q, o + 4, none⟩) (k.block q hq)).trans h.c4, (World.cell?_of_block (a := ⟨q, o + 5, none⟩) (k.block q hq)).trans h.c5, (World.cell?_of_block (a := ⟨q, o + 6, none⟩) (k.block q hq)).trans h.c6⟩
theorem bxOk_smJ {x : BxD} (h : bxOk x.p = true) : x.two.length = 2 ∧ (∀ k, k < 2 → miOk (x.two.getD k MiD.nil).m = true) ∧ x.net.length ≤ 20 ∧ x.ga.length ≤ 4 ∧ x.ln.length ≤ 60 ∧ x.sd.length ≤ 40 := by
  obtain ⟨h1, h2, h3, h4, h5, h6, h7, h8, h9, h10⟩ := bxOk_is.1 h
  have e : x.two.length = 2 := by have h3 : (x.two.map MiD.m).length = 2 := h3; simpa using h3
  refine ⟨e, ?_, h7, ?_, ?_, h10⟩
  · intro k hk
    rcases (by omega : k = 0 ∨ k = 1) with rfl | rfl
    · rw [mOf_p] at h4; exact h4
    · rw [mOf_p] at h5; exact h5
  · unfold nOk at h1
    simp only [Bool.and_eq_true, decide_eq_true_eq] at h1
    have h8 : (x.ga.length : Int) = x.po := h8
    have := h1.2.2
    have h9 : x.p.po = x.po := rfl
    omega
  · unfold insB at h9
    simp only [Bool.and_eq_true, decide_eq_true_eq] at h9
    exact h9.2
theorem miOk_lgJ {m : Mi} (h : miOk m = true) : m.lg.length ≤ 60 := by
  obtain ⟨_, _, _, h4, _⟩ := miOk_iff.1 h
  unfold insB at h4
  simp only [Bool.and_eq_true, decide_eq_true_eq] at h4
  exact h4.2
/-- Answers whether Q. -/
def YN (e : Ending) (Q : Prop) : Prop := ∃ R : Bool, e = .returned (.bool R) ∧ (R = true ↔ Q)
theorem YN.no {Q : Prop} (h : ¬ Q) : YN (.returned (.bool false)) Q := ⟨false, rfl, ⟨fun h => (by cases h), fun q => absurd q h⟩⟩
theorem YN.yes {Q : Prop} (h : Q) : YN (.returned (.bool true)) Q := ⟨true, rfl, ⟨fun _ => h, fun _ => rfl⟩⟩
theorem YN.is {Q : Prop} {R : Bool} (h : R = true ↔ Q) : YN (.returned (.bool R)) Q := ⟨R, rfl, h⟩
/-- All that is said of a log, one bridge going through it. -/
def outsA (id : Int) (L : List Pt) (X : List Ik) : List Ou := (X.foldl (fun p x => (reactL id p.1 x, p.2 ++ reactO id p.1 x)) (L, ([] : List Ou))).2
theorem outsA_run (id : Int) (X : List Ik) : ∀ (L : List Pt) (P : List Ou), X.foldl (fun p x => (reactL id p.1 x, p.2 ++ reactO id p.1 x)) (L, P) = (ofL id L X, P ++ outsA id L X) := by
  induction X with
  | nil => intro L P; simp [outsA, ofL]
  | cons x X ih =>
    intro L P
    have h1 := ih (reactL id L x) (P ++ reactO id L x)
    have h2 := ih (reactL id L x) ([] ++ reactO id L x)
    have h3 : outsA id L (x :: X) = (X.foldl (fun p x => (reactL id p.1 x, p.2 ++ reactO id p.1 x)) (reactL id L x, [] ++ reactO id L x)).2 := rfl
    rw [List.foldl_cons, h3, h2]
    show X.foldl (fun p x => (reactL id p.1 x, p.2 ++ reactO id p.1 x)) (reactL id L x, P ++ reactO id L x) = _
    rw [h1]
    simp [ofL]
theorem outsA_snoc (id : Int) (L : List Pt) (X : List Ik) (x : Ik) : outsA id L (X ++ [x]) = outsA id L X ++ reactO id (ofL id L X) x := by
  have h1 := outsA_run id X L []
  unfold outsA
  rw [List.foldl_append, h1]
  simp [outsA]
theorem outsA_step (id : Int) (L : List Pt) (X : List Ik) (d : Ik) {k : Nat} (hk : k < X.length) : outsA id L (X.take (k + 1)) = outsA id L (X.take k) ++ reactO id (ofL id L (X.take k)) (X.getD k d) := by
  rw [List.take_add_one]
  have e : X[k]?.toList = [X.getD k d] := by simp [List.getD, hk]
  rw [e, outsA_snoc]
theorem outsA_len (id : Int) (L : List Pt) (X : List Ik) : (outsA id L X).length ≤ 8 * X.length := by
  have h : ∀ k, k ≤ X.length → (outsA id L (X.take k)).length ≤ 8 * k := by
    intro k
    induction k with
    | zero => intro _; simp [outsA]
    | succ k ih =>
      intro hk
      rw [outsA_step id L X ikN (by omega), List.length_append]
      have := ih (by omega)
      have := reactO_len id (ofL id L (X.take k)) (X.getD k ikN)
      omega
  have := h X.length (Nat.le_refl _)
  rwa [List.take_length] at this
/-- The gates are those of the bridge of Line. -/
def gatesJ (x : Bx) : Prop := gatesR (ofR x.id x.po x.ln) = x.ga
/-- What was said is what the bridge of Line would have said. -/
def saidJ (x : Bx) : Prop := lastS (outsA (newI x.id x.po) (newL x.id x.po) x.ln) = x.sd
def begJ (A B : List Ik) : Prop := B.take A.length = A
theorem begJ_len {A B : List Ik} (h : begJ A B) : A.length ≤ B.length := by
  have := congrArg List.length h
  rw [List.length_take] at this
  omega
def ownJ (x : Bx) : Prop := mindsX x x.rg.ow = true → begJ x.ln (mOf x x.rg.ow).lg ∧ (mOf x x.rg.ow).sd = (x.ln.length : Int)
def pairJ (x : Bx) : Prop := (mOf x (1 - x.rg.ow)).up = true ∧ 0 < (mOf x (1 - x.rg.ow)).li ∧ (mOf x (1 - x.rg.ow)).li = x.rg.pa ∧ (mOf x (1 - x.rg.ow)).ep = 0
def hasJ (x : Bx) : Prop := pairJ x → begJ x.ln (mOf x (1 - x.rg.ow)).lg
/-- A box that can be read, its logs within their room. -/
structure BxJ (w : World) (x : BxD) : Prop where
  v : BxV w x
  c : ∀ i, i < x.two.length → (x.two.getD i MiD.nil).m.lg.length ≤ (x.two.getD i MiD.nil).cap
theorem BxJ.later {w w' : World} {x : BxD} (h : BxJ w x) (k : Below w.heap.size w w') : BxJ w' x := ⟨h.v.later k, h.c⟩
theorem bxOk_ow {x : BxD} (h : bxOk x.p = true) : 0 ≤ x.rg.ow ∧ x.rg.ow ≤ 1 := by
  obtain ⟨h1, h2, _⟩ := bxOk_is.1 h
  have h2 : rgOk x.rg = true := h2
  unfold rgOk at h2
  simp only [Bool.and_eq_true, decide_eq_true_eq] at h2
  omega
theorem begJ_iff {A B : List Ik} (h : A.length ≤ B.length) : B.take A.length = A ↔ begJ A B := Iff.rfl

end Go.Proofs.YtnpiljegdiconaaGreat
namespace Go.Proofs.YtnpiljegdiconaaGreat
open Go.ChangeShapes Go.WideShapes Go.ChangeAt Go.RowKit
open Go.ChangeMaps (open_string shut_string)
set_option linter.unusedVariables false
set_option maxRecDepth 100000

theorem neqIk_same (x : Ik) (w : World) : (binOp .neq 105 (.agg #[.int .i64 x.k, .int .i64 x.q, .int .i64 x.r, .int .i64 x.c, .int .i64 x.b, .int .i64 x.p, .int .i64 x.h, .bool x.up]) (.agg #[.int .i64 x.k, .int .i64 x.q, .int .i64 x.r, .int .i64 x.c, .int .i64 x.b, .int .i64 x.p, .int .i64 x.h, .bool x.up])).run Tryz.prog w = .ok (.bool false) w := by
  simp [go_sem]
theorem neqIk_else {x y : Ik} (h : x ≠ y) (w : World) : (binOp .neq 105 (.agg #[.int .i64 x.k, .int .i64 x.q, .int .i64 x.r, .int .i64 x.c, .int .i64 x.b, .int .i64 x.p, .int .i64 x.h, .bool x.up]) (.agg #[.int .i64 y.k, .int .i64 y.q, .int .i64 y.r, .int .i64 y.c, .int .i64 y.b, .int .i64 y.p, .int .i64 y.h, .bool y.up])).run Tryz.prog w = .ok (.bool true) w := by
  by_cases h0 : x.k = y.k
  rotate_left
  · simp [go_sem, h0]
  by_cases h1 : x.q = y.q
  rotate_left
  · simp [go_sem, h1]
  by_cases h2 : x.r = y.r
  rotate_left
  · simp [go_sem, h2]
  by_cases h3 : x.c = y.c
  rotate_left
  · simp [go_sem, h3]
  by_cases h4 : x.b = y.b
  rotate_left
  · simp [go_sem, h4]
  by_cases h5 : x.p = y.p
  rotate_left
  · simp [go_sem, h5]
  by_cases h6 : x.h = y.h
  rotate_left
  · simp [go_sem, h6]
  by_cases h7 : x.up = y.up
  rotate_left
  · simp [go_sem, h7]
  exact absurd (by cases x; cases y; simp_all) h
theorem neqOu_same (x : Ou) (w : World) : (binOp .neq 114 (.agg #[.int .i64 x.k, .int .i64 x.pt, .int .i64 x.r, .int .i64 x.c, .int .i64 x.b, .int .i64 x.p, .int .i64 x.h, .bool x.on]) (.agg #[.int .i64 x.k, .int .i64 x.pt, .int .i64 x.r, .int .i64 x.c, .int .i64 x.b, .int .i64 x.p, .int .i64 x.h, .bool x.on])).run Tryz.prog w = .ok (.bool false) w := by
  simp [go_sem]
theorem neqOu_else {x y : Ou} (h : x ≠ y) (w : World) : (binOp .neq 114 (.agg #[.int .i64 x.k, .int .i64 x.pt, .int .i64 x.r, .int .i64 x.c, .int .i64 x.b, .int .i64 x.p, .int .i64 x.h, .bool x.on]) (.agg #[.int .i64 y.k, .int .i64 y.pt, .int .i64 y.r, .int .i64 y.c, .int .i64 y.b, .int .i64 y.p, .int .i64 y.h, .bool y.on])).run Tryz.prog w = .ok (.bool true) w := by
  by_cases h0 : x.k = y.k
  rotate_left
  · simp [go_sem, h0]
  by_cases h1 : x.pt = y.pt
  rotate_left
  · simp [go_sem, h1]
  by_cases h2 : x.r = y.r
  rotate_left
  · simp [go_sem, h2]
  by_cases h3 : x.c = y.c
  rotate_left
  · simp [go_sem, h3]
  by_cases h4 : x.b = y.b
  rotate_left
  · simp [go_sem, h4]
  by_cases h5 : x.p = y.p
  rotate_left
  · simp [go_sem, h5]
  by_cases h6 : x.h = y.h
  rotate_left
  · simp [go_sem, h6]
  by_cases h7 : x.on = y.on
  rotate_left
  · simp [go_sem, h7]
  exact absurd (by cases x; cases y; simp_all) h
set_option maxHeartbeats 4000000 in
theorem ikEql (ad ad' : Option Addr) (cap cap' : Nat) (L L' : List Ik) (w : World) (hv : FView ikEnc w ad L) (hv' : FView ikEnc w ad' L') (hl : L.length ≤ 1048576) (hl' : L'.length ≤ 1048576) :
    Calls Tryz.prog 196 #[.slice ad L.length cap, .slice ad' L'.length cap'] w fun e w' => YN e (L = L') ∧ Below w.heap.size w w' := by
  suffices H : ∀ Q : Prop, Hid (Q ↔ L = L') → Calls Tryz.prog 196 #[.slice ad L.length cap, .slice ad' L'.length cap'] w fun e w' => YN e Q ∧ Below w.heap.size w w' from H _ Iff.rfl
  intro Q hQ
  have hB := hv.lt ikEnc_len (by omega)
  have hB' := hv'.lt ikEnc_len (by omega)
  by_cases hle : (L.length : Int) = (L'.length : Int)
  rotate_left
  · have d1 : ((L.length : Int) != (L'.length : Int)) = true := by simp; omega
    have d2 : decide ((L.length : Int) = (L'.length : Int)) = false := decide_eq_false hle
    replace hQ : Hid (¬ Q) := fun h => by
      have := congrArg List.length (hQ.out.1 h)
      omega
    replace hle : Hid _ := hle
    go_enter Tryz.func196, Tryz.ntmps196
    go_wp2
    go_ret
    exact ⟨YN.no hQ.out, Below.refl _ _⟩
  have hll : Hid (L'.length = L.length) := by unfold Hid; omega
  rw [hll.out]
  clear hle
  go_enter Tryz.func196, Tryz.ntmps196
  go_wp2
  go_loopw [13] (fun i wr => ∃ k : Nat, k ≤ L.length ∧ i = .int .i64 k ∧ Hid (∀ j, j < k → L.getD j Ik.nil = L'.getD j Ik.nil) ∧ Below w.heap.size w wr) (fun i _ => L.length - (intOf i).toNat)
  case atStart => exact ⟨0, Nat.zero_le _, rfl, fun j hj => absurd hj (by omega), Below.refl _ _⟩
  case round =>
    obtain ⟨k, hk, rfl, hF, hb⟩ := hrel
    by_cases hlt : k < L.length
    · obtain ⟨b, off, rfl, _⟩ := hv (by omega)
      obtain ⟨b', off', rfl, _⟩ := hv' (by have := hll.out; omega)
      obtain ⟨h, hh⟩ : ∃ h, L.getD k Ik.nil = h := ⟨_, rfl⟩
      obtain ⟨h', hh'⟩ : ∃ h, L'.getD k Ik.nil = h := ⟨_, rfl⟩
      have hc : ∀ Y, Below wr.heap.size wr Y → IkAtO Y b (off + k * 8) h := fun Y hY => by rw [← hh]; exact ikAtO_of ((hv.below (hb.trans (hY.mono hb.size)) hB).at_ ikEnc_len Ik.nil hlt)
      have hc' : ∀ Y, Below wr.heap.size wr Y → IkAtO Y b' (off' + k * 8) h' := fun Y hY => by rw [← hh']; exact ikAtO_of ((hv'.below (hb.trans (hY.mono hb.size)) hB').at_ ikEnc_len Ik.nil (by have := hll.out; omega))
      replace hh : Hid _ := hh
      replace hh' : Hid _ := hh'
      clear hv hv' hB hB'
      by_cases he : h = h'
      · have heq : ∀ w, (binOp .neq 105 (.agg #[.int .i64 h.k, .int .i64 h.q, .int .i64 h.r, .int .i64 h.c, .int .i64 h.b, .int .i64 h.p, .int .i64 h.h, .bool h.up]) (.agg #[.int .i64 h'.k, .int .i64 h'.q, .int .i64 h'.r, .int .i64 h'.c, .int .i64 h'.b, .int .i64 h'.p, .int .i64 h'.h, .bool h'.up])).run Tryz.prog w = .ok (.bool false) w := fun w => by subst he; exact neqIk_same h w
        replace he : Hid _ := he
        go_upto_region 6 with fail
        refine wp_region_held (S := fun Y => Below wr.heap.size wr Y) (by kernel_rfl) ?_
        change wpAnyH _ _ _ _ _ _ _ _ (World.drew _)
        have hb0 : Below wr.heap.size wr wr.drew := (Below.refl _ _).drew
        obtain ⟨u0, hy0⟩ : ∃ y_, y_ = wr.drew := ⟨_, rfl⟩
        rw [← hy0] at hb0 ⊢
        clear hy0
        refine takeW 0 16 (.slice (some ⟨b, off, none⟩) L.length cap) rfl rfl (by kernel_rfl) (by kernel_rfl) (by kernel_rfl) (fun _ _ _ h => h) (by kernel_rfl) (by (intro w hSw; go_simp)) (by assumption) ?_
        simp only [List.set_cons_zero, List.set_cons_succ]
        refine takeW 1 17 (.int .i64 (k : Int)) rfl rfl (by kernel_rfl) (by kernel_rfl) (by kernel_rfl) (fun _ _ _ h => h) (by kernel_rfl) (by (intro w hSw; go_simp)) (by assumption) ?_
        simp only [List.set_cons_zero, List.set_cons_succ]
        refine takeW 2 18 (.pointer (some ⟨b, off + k * 8, none⟩)) rfl rfl (by kernel_rfl) (by kernel_rfl) (by kernel_rfl) (fun _ _ _ h => h) (by kernel_rfl) (by (intro Y hSw; go_simp; try omega)) (by assumption) ?_
        simp only [List.set_cons_zero, List.set_cons_succ]
        refine takeW 3 19 (.agg #[.int .i64 h.k, .int .i64 h.q, .int .i64 h.r, .int .i64 h.c, .int .i64 h.b, .int .i64 h.p, .int .i64 h.h, .bool h.up]) rfl rfl (by kernel_rfl) (by kernel_rfl) (by kernel_rfl) (fun _ _ _ h => h) (by kernel_rfl) (by (intro Y hSw; obtain ⟨X0, X1, X2, X3, X4, X5, X6, X7⟩ := hc Y hSw; go_simp)) (by assumption) ?_
        simp only [List.set_cons_zero, List.set_cons_succ]
        refine takeW 4 20 (.slice (some ⟨b', off', none⟩) L.length cap') rfl rfl (by kernel_rfl) (by kernel_rfl) (by kernel_rfl) (fun _ _ _ h => h) (by kernel_rfl) (by (intro w hSw; go_simp)) (by assumption) ?_
        simp only [List.set_cons_zero, List.set_cons_succ]
        refine takeW 5 21 (.int .i64 (k : Int)) rfl rfl (by kernel_rfl) (by kernel_rfl) (by kernel_rfl) (fun _ _ _ h => h) (by kernel_rfl) (by (intro w hSw; go_simp)) (by assumption) ?_
        simp only [List.set_cons_zero, List.set_cons_succ]
        refine takeW 6 22 (.pointer (some ⟨b', off' + k * 8, none⟩)) rfl rfl (by kernel_rfl) (by kernel_rfl) (by kernel_rfl) (fun _ _ _ h => h) (by kernel_rfl) (by (intro Y hSw; go_simp; try omega)) (by assumption) ?_
        simp only [List.set_cons_zero, List.set_cons_succ]
        refine takeW 7 23 (.agg #[.int .i64 h'.k, .int .i64 h'.q, .int .i64 h'.r, .int .i64 h'.c, .int .i64 h'.b, .int .i64 h'.p, .int .i64 h'.h, .bool h'.up]) rfl rfl (by kernel_rfl) (by kernel_rfl) (by kernel_rfl) (fun _ _ _ h => h) (by kernel_rfl) (by (intro Y hSw; obtain ⟨X0, X1, X2, X3, X4, X5, X6, X7⟩ := hc' Y hSw; go_simp)) (by assumption) ?_
        simp only [List.set_cons_zero, List.set_cons_succ]
        refine takeW 8 24 (.bool false) rfl rfl (by kernel_rfl) (by kernel_rfl) (by kernel_rfl) (fun _ _ _ h => h) (by kernel_rfl) (by (intro w hSw; have hq := heq w; go_simp)) (by assumption) ?_
        simp only [List.set_cons_zero, List.set_cons_succ]
        refine wpAnyH_done (by kernel_rfl) ?_ _
        go_wp2
        go_roundw
        case rel =>
          refine ⟨k + 1, by omega, by go_num, fun j hj => ?_, hb.trans (hb0.mono hb.size)⟩
          by_cases ej : j = k
          · rw [ej, hh.out, hh'.out]; exact he.out
          · exact hF.out j (by omega)
        case measure => simp [intOf]; omega
      · have heq : ∀ w, (binOp .neq 105 (.agg #[.int .i64 h.k, .int .i64 h.q, .int .i64 h.r, .int .i64 h.c, .int .i64 h.b, .int .i64 h.p, .int .i64 h.h, .bool h.up]) (.agg #[.int .i64 h'.k, .int .i64 h'.q, .int .i64 h'.r, .int .i64 h'.c, .int .i64 h'.b, .int .i64 h'.p, .int .i64 h'.h, .bool h'.up])).run Tryz.prog w = .ok (.bool true) w := fun w => neqIk_else he w
        replace he : Hid _ := he
        go_upto_region 6 with fail
        refine wp_region_held (S := fun Y => Below wr.heap.size wr Y) (by kernel_rfl) ?_
        change wpAnyH _ _ _ _ _ _ _ _ (World.drew _)
        have hb0 : Below wr.heap.size wr wr.drew := (Below.refl _ _).drew
        obtain ⟨u0, hy0⟩ : ∃ y_, y_ = wr.drew := ⟨_, rfl⟩
        rw [← hy0] at hb0 ⊢
        clear hy0
        refine takeW 0 16 (.slice (some ⟨b, off, none⟩) L.length cap) rfl rfl (by kernel_rfl) (by kernel_rfl) (by kernel_rfl) (fun _ _ _ h => h) (by kernel_rfl) (by (intro w hSw; go_simp)) (by assumption) ?_
        simp only [List.set_cons_zero, List.set_cons_succ]
        refine takeW 1 17 (.int .i64 (k : Int)) rfl rfl (by kernel_rfl) (by kernel_rfl) (by kernel_rfl) (fun _ _ _ h => h) (by kernel_rfl) (by (intro w hSw; go_simp)) (by assumption) ?_
        simp only [List.set_cons_zero, List.set_cons_succ]
        refine takeW 2 18 (.pointer (some ⟨b, off + k * 8, none⟩)) rfl rfl (by kernel_rfl) (by kernel_rfl) (by kernel_rfl) (fun _ _ _ h => h) (by kernel_rfl) (by (intro Y hSw; go_simp; try omega)) (by assumption) ?_
        simp only [List.set_cons_zero, List.set_cons_succ]
        refine takeW 3 19 (.agg #[.int .i64 h.k, .int .i64 h.q, .int .i64 h.r, .int .i64 h.c, .int .i64 h.b, .int .i64 h.p, .int .i64 h.h, .bool h.up]) rfl rfl (by kernel_rfl) (by kernel_rfl) (by kernel_rfl) (fun _ _ _ h => h) (by kernel_rfl) (by (intro Y hSw; obtain ⟨X0, X1, X2, X3, X4, X5, X6, X7⟩ := hc Y hSw; go_simp)) (by assumption) ?_
        simp only [List.set_cons_zero, List.set_cons_succ]
        refine takeW 4 20 (.slice (some ⟨b', off', none⟩) L.length cap') rfl rfl (by kernel_rfl) (by kernel_rfl) (by kernel_rfl) (fun _ _ _ h => h) (by kernel_rfl) (by (intro w hSw; go_simp)) (by assumption) ?_
        simp only [List.set_cons_zero, List.set_cons_succ]
        refine takeW 5 21 (.int .i64 (k : Int)) rfl rfl (by kernel_rfl) (by kernel_rfl) (by kernel_rfl) (fun _ _ _ h => h) (by kernel_rfl) (by (intro w hSw; go_simp)) (by assumption) ?_
        simp only [List.set_cons_zero, List.set_cons_succ]
        refine takeW 6 22 (.pointer (some ⟨b', off' + k * 8, none⟩)) rfl rfl (by kernel_rfl) (by kernel_rfl) (by kernel_rfl) (fun _ _ _ h => h) (by kernel_rfl) (by (intro Y hSw; go_simp; try omega)) (by assumption) ?_
        simp only [List.set_cons_zero, List.set_cons_succ]
        refine takeW 7 23 (.agg #[.int .i64 h'.k, .int .i64 h'.q, .int .i64 h'.r, .int .i64 h'.c, .int .i64 h'.b, .int .i64 h'.p, .int .i64 h'.h, .bool h'.up]) rfl rfl (by kernel_rfl) (by kernel_rfl) (by kernel_rfl) (fun _ _ _ h => h) (by kernel_rfl) (by (intro Y hSw; obtain ⟨X0, X1, X2, X3, X4, X5, X6, X7⟩ := hc' Y hSw; go_simp)) (by assumption) ?_
        simp only [List.set_cons_zero, List.set_cons_succ]
        refine takeW 8 24 (.bool true) rfl rfl (by kernel_rfl) (by kernel_rfl) (by kernel_rfl) (fun _ _ _ h => h) (by kernel_rfl) (by (intro w hSw; have hq := heq w; go_simp)) (by assumption) ?_
        simp only [List.set_cons_zero, List.set_cons_succ]
        refine wpAnyH_done (by kernel_rfl) ?_ _
        go_wp2
        go_ret
        refine ⟨YN.no (fun q => ?_), hb.trans (hb0.mono hb.size)⟩
        have := hQ.out.1 q
        exact he.out (hh.out.symm.trans ((congrArg (fun z => z.getD k Ik.nil) this).trans hh'.out))
    · obtain rfl : k = L.length := by omega
      go_wp2
      go_ret
      refine ⟨YN.yes (hQ.out.2 ?_), hb⟩
      refine List.ext_getElem hll.out.symm fun i h1 h2 => ?_
      have := hF.out i h1
      simpa [List.getD, h1, h2] using this
set_option maxHeartbeats 4000000 in
theorem ouEql (ad ad' : Option Addr) (cap cap' : Nat) (L L' : List Ou) (w : World) (hv : FView ouEnc w ad L) (hv' : FView ouEnc w ad' L') (hl : L.length ≤ 1048576) (hl' : L'.length ≤ 1048576) :
    Calls Tryz.prog 157 #[.slice ad L.length cap, .slice ad' L'.length cap'] w fun e w' => YN e (L = L') ∧ Below w.heap.size w w' := by
  suffices H : ∀ Q : Prop, Hid (Q ↔ L = L') → Calls Tryz.prog 157 #[.slice ad L.length cap, .slice ad' L'.length cap'] w fun e w' => YN e Q ∧ Below w.heap.size w w' from H _ Iff.rfl
  intro Q hQ
  have hB := hv.lt ouEnc_len (by omega)
  have hB' := hv'.lt ouEnc_len (by omega)
  by_cases hle : (L.length : Int) = (L'.length : Int)
  rotate_left
  · have d1 : ((L.length : Int) != (L'.length : Int)) = true := by simp; omega
    have d2 : decide ((L.length : Int) = (L'.length : Int)) = false := decide_eq_false hle
    replace hQ : Hid (¬ Q) := fun h => by
      have := congrArg List.length (hQ.out.1 h)
      omega
    replace hle : Hid _ := hle
    go_enter Tryz.func157, Tryz.ntmps157
    go_wp2
    go_ret
    exact ⟨YN.no hQ.out, Below.refl _ _⟩
  have hll : Hid (L'.length = L.length) := by unfold Hid; omega
  rw [hll.out]
  clear hle
  go_enter Tryz.func157, Tryz.ntmps157
  go_wp2
  go_loopw [13] (fun i wr => ∃ k : Nat, k ≤ L.length ∧ i = .int .i64 k ∧ Hid (∀ j, j < k → L.getD j Ou.nil = L'.getD j Ou.nil) ∧ Below w.heap.size w wr) (fun i _ => L.length - (intOf i).toNat)
  case atStart => exact ⟨0, Nat.zero_le _, rfl, fun j hj => absurd hj (by omega), Below.refl _ _⟩
  case round =>
    obtain ⟨k, hk, rfl, hF, hb⟩ := hrel
    by_cases hlt : k < L.length
    · obtain ⟨b, off, rfl, _⟩ := hv (by omega)
      obtain ⟨b', off', rfl, _⟩ := hv' (by have := hll.out; omega)
      obtain ⟨h, hh⟩ : ∃ h, L.getD k Ou.nil = h := ⟨_, rfl⟩
      obtain ⟨h', hh'⟩ : ∃ h, L'.getD k Ou.nil = h := ⟨_, rfl⟩
      have hc : ∀ Y, Below wr.heap.size wr Y → OuAtO Y b (off + k * 8) h := fun Y hY => by rw [← hh]; exact ouAtO_of ((hv.below (hb.trans (hY.mono hb.size)) hB).at_ ouEnc_len Ou.nil hlt)
      have hc' : ∀ Y, Below wr.heap.size wr Y → OuAtO Y b' (off' + k * 8) h' := fun Y hY => by rw [← hh']; exact ouAtO_of ((hv'.below (hb.trans (hY.mono hb.size)) hB').at_ ouEnc_len Ou.nil (by have := hll.out; omega))
      replace hh : Hid _ := hh
      replace hh' : Hid _ := hh'
      clear hv hv' hB hB'
      by_cases he : h = h'
      · have heq : ∀ w, (binOp .neq 114 (.agg #[.int .i64 h.k, .int .i64 h.pt, .int .i64 h.r, .int .i64 h.c, .int .i64 h.b, .int .i64 h.p, .int .i64 h.h, .bool h.on]) (.agg #[.int .i64 h'.k, .int .i64 h'.pt, .int .i64 h'.r, .int .i64 h'.c, .int .i64 h'.b, .int .i64 h'.p, .int .i64 h'.h, .bool h'.on])).run Tryz.prog w = .ok (.bool false) w := fun w => by subst he; exact neqOu_same h w
        replace he : Hid _ := he
        go_upto_region 6 with fail
        refine wp_region_held (S := fun Y => Below wr.heap.size wr Y) (by kernel_rfl) ?_
        change wpAnyH _ _ _ _ _ _ _ _ (World.drew _)
        have hb0 : Below wr.heap.size wr wr.drew := (Below.refl _ _).drew
        obtain ⟨u0, hy0⟩ : ∃ y_, y_ = wr.drew := ⟨_, rfl⟩
        rw [← hy0] at hb0 ⊢
        clear hy0
        refine takeW 0 16 (.slice (some ⟨b, off, none⟩) L.length cap) rfl rfl (by kernel_rfl) (by kernel_rfl) (by kernel_rfl) (fun _ _ _ h => h) (by kernel_rfl) (by (intro w hSw; go_simp)) (by assumption) ?_
        simp only [List.set_cons_zero, List.set_cons_succ]
        refine takeW 1 17 (.int .i64 (k : Int)) rfl rfl (by kernel_rfl) (by kernel_rfl) (by kernel_rfl) (fun _ _ _ h => h) (by kernel_rfl) (by (intro w hSw; go_simp)) (by assumption) ?_
        simp only [List.set_cons_zero, List.set_cons_succ]
        refine takeW 2 18 (.pointer (some ⟨b, off + k * 8, none⟩)) rfl rfl (by kernel_rfl) (by kernel_rfl) (by kernel_rfl) (fun _ _ _ h => h) (by kernel_rfl) (by (intro Y hSw; go_simp; try omega)) (by assumption) ?_
        simp only [List.set_cons_zero, List.set_cons_succ]
        refine takeW 3 19 (.agg #[.int .i64 h.k, .int .i64 h.pt, .int .i64 h.r, .int .i64 h.c, .int .i64 h.b, .int .i64 h.p, .int .i64 h.h, .bool h.on]) rfl rfl (by kernel_rfl) (by kernel_rfl) (by kernel_rfl) (fun _ _ _ h => h) (by kernel_rfl) (by (intro Y hSw; obtain ⟨X0, X1, X2, X3, X4, X5, X6, X7⟩ := hc Y hSw; go_simp)) (by assumption) ?_
        simp only [List.set_cons_zero, List.set_cons_succ]
        refine takeW 4 20 (.slice (some ⟨b', off', none⟩) L.length cap') rfl rfl (by kernel_rfl) (by kernel_rfl) (by kernel_rfl) (fun _ _ _ h => h) (by kernel_rfl) (by (intro w hSw; go_simp)) (by assumption) ?_
        simp only [List.set_cons_zero, List.set_cons_succ]
        refine takeW 5 21 (.int .i64 (k : Int)) rfl rfl (by kernel_rfl) (by kernel_rfl) (by kernel_rfl) (fun _ _ _ h => h) (by kernel_rfl) (by (intro w hSw; go_simp)) (by assumption) ?_
        simp only [List.set_cons_zero, List.set_cons_succ]
        refine takeW 6 22 (.pointer (some ⟨b', off' + k * 8, none⟩)) rfl rfl (by kernel_rfl) (by kernel_rfl) (by kernel_rfl) (fun _ _ _ h => h) (by kernel_rfl) (by (intro Y hSw; go_simp; try omega)) (by assumption) ?_
        simp only [List.set_cons_zero, List.set_cons_succ]
        refine takeW 7 23 (.agg #[.int .i64 h'.k, .int .i64 h'.pt, .int .i64 h'.r, .int .i64 h'.c, .int .i64 h'.b, .int .i64 h'.p, .int .i64 h'.h, .bool h'.on]) rfl rfl (by kernel_rfl) (by kernel_rfl) (by kernel_rfl) (fun _ _ _ h => h) (by kernel_rfl) (by (intro Y hSw; obtain ⟨X0, X1, X2, X3, X4, X5, X6, X7⟩ := hc' Y hSw; go_simp)) (by assumption) ?_
        simp only [List.set_cons_zero, List.set_cons_succ]
        refine takeW 8 24 (.bool false) rfl rfl (by kernel_rfl) (by kernel_rfl) (by kernel_rfl) (fun _ _ _ h => h) (by kernel_rfl) (by (intro w hSw; have hq := heq w; go_simp)) (by assumption) ?_
        simp only [List.set_cons_zero, List.set_cons_succ]
        refine wpAnyH_done (by kernel_rfl) ?_ _
        go_wp2
        go_roundw
        case rel =>
          refine ⟨k + 1, by omega, by go_num, fun j hj => ?_, hb.trans (hb0.mono hb.size)⟩
          by_cases ej : j = k
          · rw [ej, hh.out, hh'.out]; exact he.out
          · exact hF.out j (by omega)
        case measure => simp [intOf]; omega
      · have heq : ∀ w, (binOp .neq 114 (.agg #[.int .i64 h.k, .int .i64 h.pt, .int .i64 h.r, .int .i64 h.c, .int .i64 h.b, .int .i64 h.p, .int .i64 h.h, .bool h.on]) (.agg #[.int .i64 h'.k, .int .i64 h'.pt, .int .i64 h'.r, .int .i64 h'.c, .int .i64 h'.b, .int .i64 h'.p, .int .i64 h'.h, .bool h'.on])).run Tryz.prog w = .ok (.bool true) w := fun w => neqOu_else he w
        replace he : Hid _ := he
        go_upto_region 6 with fail
        refine wp_region_held (S := fun Y => Below wr.heap.size wr Y) (by kernel_rfl) ?_
        change wpAnyH _ _ _ _ _ _ _ _ (World.drew _)
        have hb0 : Below wr.heap.size wr wr.drew := (Below.refl _ _).drew
        obtain ⟨u0, hy0⟩ : ∃ y_, y_ = wr.drew := ⟨_, rfl⟩
        rw [← hy0] at hb0 ⊢
        clear hy0
        refine takeW 0 16 (.slice (some ⟨b, off, none⟩) L.length cap) rfl rfl (by kernel_rfl) (by kernel_rfl) (by kernel_rfl) (fun _ _ _ h => h) (by kernel_rfl) (by (intro w hSw; go_simp)) (by assumption) ?_
        simp only [List.set_cons_zero, List.set_cons_succ]
        refine takeW 1 17 (.int .i64 (k : Int)) rfl rfl (by kernel_rfl) (by kernel_rfl) (by kernel_rfl) (fun _ _ _ h => h) (by kernel_rfl) (by (intro w hSw; go_simp)) (by assumption) ?_
        simp only [List.set_cons_zero, List.set_cons_succ]
        refine takeW 2 18 (.pointer (some ⟨b, off + k * 8, none⟩)) rfl rfl (by kernel_rfl) (by kernel_rfl) (by kernel_rfl) (fun _ _ _ h => h) (by kernel_rfl) (by (intro Y hSw; go_simp; try omega)) (by assumption) ?_
        simp only [List.set_cons_zero, List.set_cons_succ]
        refine takeW 3 19 (.agg #[.int .i64 h.k, .int .i64 h.pt, .int .i64 h.r, .int .i64 h.c, .int .i64 h.b, .int .i64 h.p, .int .i64 h.h, .bool h.on]) rfl rfl (by kernel_rfl) (by kernel_rfl) (by kernel_rfl) (fun _ _ _ h => h) (by kernel_rfl) (by (intro Y hSw; obtain ⟨X0, X1, X2, X3, X4, X5, X6, X7⟩ := hc Y hSw; go_simp)) (by assumption) ?_
        simp only [List.set_cons_zero, List.set_cons_succ]
        refine takeW 4 20 (.slice (some ⟨b', off', none⟩) L.length cap') rfl rfl (by kernel_rfl) (by kernel_rfl) (by kernel_rfl) (fun _ _ _ h => h) (by kernel_rfl) (by (intro w hSw; go_simp)) (by assumption) ?_
        simp only [List.set_cons_zero, List.set_cons_succ]
        refine takeW 5 21 (.int .i64 (k : Int)) rfl rfl (by kernel_rfl) (by kernel_rfl) (by kernel_rfl) (fun _ _ _ h => h) (by kernel_rfl) (by (intro w hSw; go_simp)) (by assumption) ?_
        simp only [List.set_cons_zero, List.set_cons_succ]
        refine takeW 6 22 (.pointer (some ⟨b', off' + k * 8, none⟩)) rfl rfl (by kernel_rfl) (by kernel_rfl) (by kernel_rfl) (fun _ _ _ h => h) (by kernel_rfl) (by (intro Y hSw; go_simp; try omega)) (by assumption) ?_
        simp only [List.set_cons_zero, List.set_cons_succ]
        refine takeW 7 23 (.agg #[.int .i64 h'.k, .int .i64 h'.pt, .int .i64 h'.r, .int .i64 h'.c, .int .i64 h'.b, .int .i64 h'.p, .int .i64 h'.h, .bool h'.on]) rfl rfl (by kernel_rfl) (by kernel_rfl) (by kernel_rfl) (fun _ _ _ h => h) (by kernel_rfl) (by (intro Y hSw; obtain ⟨X0, X1, X2, X3, X4, X5, X6, X7⟩ := hc' Y hSw; go_simp)) (by assumption) ?_
        simp only [List.set_cons_zero, List.set_cons_succ]
        refine takeW 8 24 (.bool true) rfl rfl (by kernel_rfl) (by kernel_rfl) (by kernel_rfl) (fun _ _ _ h => h) (by kernel_rfl) (by (intro w hSw; have hq := heq w; go_simp)) (by assumption) ?_
        simp only [List.set_cons_zero, List.set_cons_succ]
        refine wpAnyH_done (by kernel_rfl) ?_ _
        go_wp2
        go_ret
        refine ⟨YN.no (fun q => ?_), hb.trans (hb0.mono hb.size)⟩
        have := hQ.out.1 q
        exact he.out (hh.out.symm.trans ((congrArg (fun z => z.getD k Ou.nil) this).trans hh'.out))
    · obtain rfl : k = L.length := by omega
      go_wp2
      go_ret
      refine ⟨YN.yes (hQ.out.2 ?_), hb⟩
      refine List.ext_getElem hll.out.symm fun i h1 h2 => ?_
      have := hF.out i h1
      simpa [List.getD, h1, h2] using this
theorem neqBo_same (x : Bool) (w : World) : (binOp .neq 4 (.bool x) (.bool x)).run Tryz.prog w = .ok (.bool false) w := by
  simp [go_sem]
theorem neqBo_else {x y : Bool} (h : x ≠ y) (w : World) : (binOp .neq 4 (.bool x) (.bool y)).run Tryz.prog w = .ok (.bool true) w := by
  simp [go_sem, h]
set_option maxHeartbeats 4000000 in
theorem boEql (ad ad' : Option Addr) (cap cap' : Nat) (L L' : List Bool) (w : World) (hv : FView boEnc w ad L) (hv' : FView boEnc w ad' L') (hl : L.length ≤ 1048576) (hl' : L'.length ≤ 1048576) :
    Calls Tryz.prog 154 #[.slice ad L.length cap, .slice ad' L'.length cap'] w fun e w' => YN e (L = L') ∧ Below w.heap.size w w' := by
  suffices H : ∀ Q : Prop, Hid (Q ↔ L = L') → Calls Tryz.prog 154 #[.slice ad L.length cap, .slice ad' L'.length cap'] w fun e w' => YN e Q ∧ Below w.heap.size w w' from H _ Iff.rfl
  intro Q hQ
  have hB := hv.lt boEnc_len (by omega)
  have hB' := hv'.lt boEnc_len (by omega)
  by_cases hle : (L.length : Int) = (L'.length : Int)
  rotate_left
  · have d1 : ((L.length : Int) != (L'.length : Int)) = true := by simp; omega
    have d2 : decide ((L.length : Int) = (L'.length : Int)) = false := decide_eq_false hle
    replace hQ : Hid (¬ Q) := fun h => by
      have := congrArg List.length (hQ.out.1 h)
      omega
    replace hle : Hid _ := hle
    go_enter Tryz.func154, Tryz.ntmps154
    go_wp2
    go_ret
    exact ⟨YN.no hQ.out, Below.refl _ _⟩
  have hll : Hid (L'.length = L.length) := by unfold Hid; omega
  rw [hll.out]
  clear hle
  go_enter Tryz.func154, Tryz.ntmps154
  go_wp2
  go_loopw [13] (fun i wr => ∃ k : Nat, k ≤ L.length ∧ i = .int .i64 k ∧ Hid (∀ j, j < k → L.getD j false = L'.getD j false) ∧ Below w.heap.size w wr) (fun i _ => L.length - (intOf i).toNat)
  case atStart => exact ⟨0, Nat.zero_le _, rfl, fun j hj => absurd hj (by omega), Below.refl _ _⟩
  case round =>
    obtain ⟨k, hk, rfl, hF, hb⟩ := hrel
    by_cases hlt : k < L.length
    · obtain ⟨b, off, rfl, _⟩ := hv (by omega)
      obtain ⟨b', off', rfl, _⟩ := hv' (by have := hll.out; omega)
      obtain ⟨h, hh⟩ : ∃ h, L.getD k false = h := ⟨_, rfl⟩
      obtain ⟨h', hh'⟩ : ∃ h, L'.getD k false = h := ⟨_, rfl⟩
      have hc : ∀ Y, Below wr.heap.size wr Y → Y.cell? ⟨b, off + k, none⟩ = some (.bool h) := fun Y hY => by have h1 := (hv.below (hb.trans (hY.mono hb.size)) hB).at_ boEnc_len false hlt 0 (.bool (L.getD k false)) rfl; rw [hh] at h1; simpa using h1
      have hc' : ∀ Y, Below wr.heap.size wr Y → Y.cell? ⟨b', off' + k, none⟩ = some (.bool h') := fun Y hY => by have h1 := (hv'.below (hb.trans (hY.mono hb.size)) hB').at_ boEnc_len false (by have := hll.out; omega) 0 (.bool (L'.getD k false)) rfl; rw [hh'] at h1; simpa using h1
      replace hh : Hid _ := hh
      replace hh' : Hid _ := hh'
      clear hv hv' hB hB'
      by_cases he : h = h'
      · have heq : ∀ w, (binOp .neq 4 (.bool h) (.bool h')).run Tryz.prog w = .ok (.bool false) w := fun w => by subst he; exact neqBo_same h w
        replace he : Hid _ := he
        go_upto_region 6 with fail
        refine wp_region_held (S := fun Y => Below wr.heap.size wr Y) (by kernel_rfl) ?_
        change wpAnyH _ _ _ _ _ _ _ _ (World.drew _)
        have hb0 : Below wr.heap.size wr wr.drew := (Below.refl _ _).drew
        obtain ⟨u0, hy0⟩ : ∃ y_, y_ = wr.drew := ⟨_, rfl⟩
        rw [← hy0] at hb0 ⊢
        clear hy0
        refine takeW 0 16 (.slice (some ⟨b, off, none⟩) L.length cap) rfl rfl (by kernel_rfl) (by kernel_rfl) (by kernel_rfl) (fun _ _ _ h => h) (by kernel_rfl) (by (intro w hSw; go_simp)) (by assumption) ?_
        simp only [List.set_cons_zero, List.set_cons_succ]
        refine takeW 1 17 (.int .i64 (k : Int)) rfl rfl (by kernel_rfl) (by kernel_rfl) (by kernel_rfl) (fun _ _ _ h => h) (by kernel_rfl) (by (intro w hSw; go_simp)) (by assumption) ?_
        simp only [List.set_cons_zero, List.set_cons_succ]
        refine takeW 2 18 (.pointer (some ⟨b, off + k, none⟩)) rfl rfl (by kernel_rfl) (by kernel_rfl) (by kernel_rfl) (fun _ _ _ h => h) (by kernel_rfl) (by (intro Y hSw; go_simp; try omega)) (by assumption) ?_
        simp only [List.set_cons_zero, List.set_cons_succ]
        refine takeW 3 19 (.bool h) rfl rfl (by kernel_rfl) (by kernel_rfl) (by kernel_rfl) (fun _ _ _ h => h) (by kernel_rfl) (by (intro Y hSw; have X0 := hc Y hSw; go_simp)) (by assumption) ?_
        simp only [List.set_cons_zero, List.set_cons_succ]
        refine takeW 4 20 (.slice (some ⟨b', off', none⟩) L.length cap') rfl rfl (by kernel_rfl) (by kernel_rfl) (by kernel_rfl) (fun _ _ _ h => h) (by kernel_rfl) (by (intro w hSw; go_simp)) (by assumption) ?_
        simp only [List.set_cons_zero, List.set_cons_succ]
        refine takeW 5 21 (.int .i64 (k : Int)) rfl rfl (by kernel_rfl) (by kernel_rfl) (by kernel_rfl) (fun _ _ _ h => h) (by kernel_rfl) (by (intro w hSw; go_simp)) (by assumption) ?_
        simp only [List.set_cons_zero, List.set_cons_succ]
        refine takeW 6 22 (.pointer (some ⟨b', off' + k, none⟩)) rfl rfl (by kernel_rfl) (by kernel_rfl) (by kernel_rfl) (fun _ _ _ h => h) (by kernel_rfl) (by (intro Y hSw; go_simp; try omega)) (by assumption) ?_
        simp only [List.set_cons_zero, List.set_cons_succ]
        refine takeW 7 23 (.bool h') rfl rfl (by kernel_rfl) (by kernel_rfl) (by kernel_rfl) (fun _ _ _ h => h) (by kernel_rfl) (by (intro Y hSw; have X0 := hc' Y hSw; go_simp)) (by assumption) ?_
        simp only [List.set_cons_zero, List.set_cons_succ]
        refine takeW 8 24 (.bool false) rfl rfl (by kernel_rfl) (by kernel_rfl) (by kernel_rfl) (fun _ _ _ h => h) (by kernel_rfl) (by (intro w hSw; have hq := heq w; go_simp)) (by assumption) ?_
        simp only [List.set_cons_zero, List.set_cons_succ]
        refine wpAnyH_done (by kernel_rfl) ?_ _
        go_wp2
        go_roundw
        case rel =>
          refine ⟨k + 1, by omega, by go_num, fun j hj => ?_, hb.trans (hb0.mono hb.size)⟩
          by_cases ej : j = k
          · rw [ej, hh.out, hh'.out]; exact he.out
          · exact hF.out j (by omega)
        case measure => simp [intOf]; omega
      · have heq : ∀ w, (binOp .neq 4 (.bool h) (.bool h')).run Tryz.prog w = .ok (.bool true) w := fun w => neqBo_else he w
        replace he : Hid _ := he
        go_upto_region 6 with fail
        refine wp_region_held (S := fun Y => Below wr.heap.size wr Y) (by kernel_rfl) ?_
        change wpAnyH _ _ _ _ _ _ _ _ (World.drew _)
        have hb0 : Below wr.heap.size wr wr.drew := (Below.refl _ _).drew
        obtain ⟨u0, hy0⟩ : ∃ y_, y_ = wr.drew := ⟨_, rfl⟩
        rw [← hy0] at hb0 ⊢
        clear hy0
        refine takeW 0 16 (.slice (some ⟨b, off, none⟩) L.length cap) rfl rfl (by kernel_rfl) (by kernel_rfl) (by kernel_rfl) (fun _ _ _ h => h) (by kernel_rfl) (by (intro w hSw; go_simp)) (by assumption) ?_
        simp only [List.set_cons_zero, List.set_cons_succ]
        refine takeW 1 17 (.int .i64 (k : Int)) rfl rfl (by kernel_rfl) (by kernel_rfl) (by kernel_rfl) (fun _ _ _ h => h) (by kernel_rfl) (by (intro w hSw; go_simp)) (by assumption) ?_
        simp only [List.set_cons_zero, List.set_cons_succ]
        refine takeW 2 18 (.pointer (some ⟨b, off + k, none⟩)) rfl rfl (by kernel_rfl) (by kernel_rfl) (by kernel_rfl) (fun _ _ _ h => h) (by kernel_rfl) (by (intro Y hSw; go_simp; try omega)) (by assumption) ?_
        simp only [List.set_cons_zero, List.set_cons_succ]
        refine takeW 3 19 (.bool h) rfl rfl (by kernel_rfl) (by kernel_rfl) (by kernel_rfl) (fun _ _ _ h => h) (by kernel_rfl) (by (intro Y hSw; have X0 := hc Y hSw; go_simp)) (by assumption) ?_
        simp only [List.set_cons_zero, List.set_cons_succ]
        refine takeW 4 20 (.slice (some ⟨b', off', none⟩) L.length cap') rfl rfl (by kernel_rfl) (by kernel_rfl) (by kernel_rfl) (fun _ _ _ h => h) (by kernel_rfl) (by (intro w hSw; go_simp)) (by assumption) ?_
        simp only [List.set_cons_zero, List.set_cons_succ]
        refine takeW 5 21 (.int .i64 (k : Int)) rfl rfl (by kernel_rfl) (by kernel_rfl) (by kernel_rfl) (fun _ _ _ h => h) (by kernel_rfl) (by (intro w hSw; go_simp)) (by assumption) ?_
        simp only [List.set_cons_zero, List.set_cons_succ]
        refine takeW 6 22 (.pointer (some ⟨b', off' + k, none⟩)) rfl rfl (by kernel_rfl) (by kernel_rfl) (by kernel_rfl) (fun _ _ _ h => h) (by kernel_rfl) (by (intro Y hSw; go_simp; try omega)) (by assumption) ?_
        simp only [List.set_cons_zero, List.set_cons_succ]
        refine takeW 7 23 (.bool h') rfl rfl (by kernel_rfl) (by kernel_rfl) (by kernel_rfl) (fun _ _ _ h => h) (by kernel_rfl) (by (intro Y hSw; have X0 := hc' Y hSw; go_simp)) (by assumption) ?_
        simp only [List.set_cons_zero, List.set_cons_succ]
        refine takeW 8 24 (.bool true) rfl rfl (by kernel_rfl) (by kernel_rfl) (by kernel_rfl) (fun _ _ _ h => h) (by kernel_rfl) (by (intro w hSw; have hq := heq w; go_simp)) (by assumption) ?_
        simp only [List.set_cons_zero, List.set_cons_succ]
        refine wpAnyH_done (by kernel_rfl) ?_ _
        go_wp2
        go_ret
        refine ⟨YN.no (fun q => ?_), hb.trans (hb0.mono hb.size)⟩
        have := hQ.out.1 q
        exact he.out (hh.out.symm.trans ((congrArg (fun z => z.getD k false) this).trans hh'.out))
    · obtain rfl : k = L.length := by omega
      go_wp2
      go_ret
      refine ⟨YN.yes (hQ.out.2 ?_), hb⟩
      refine List.ext_getElem hll.out.symm fun i h1 h2 => ?_
      have := hF.out i h1
      simpa [List.getD, h1, h2] using this

end Go.Proofs.YtnpiljegdiconaaGreat
namespace Go.Proofs.YtnpiljegdiconaaGreat
open Go.ChangeShapes Go.WideShapes Go.ChangeAt Go.RowKit
open Go.ChangeMaps (open_string shut_string)
set_option linter.unusedVariables false
set_option maxRecDepth 100000

set_option maxHeartbeats 4000000 in
theorem newBS (id n : Int) (w : World) :
    Calls Tryz.prog 30 #[.int .i64 id, .int .i64 n] w fun e w' => ∃ ad' cap', e = .returned (.tuple #[.agg #[.int .i64 (newI id n), .slice ad' (newL id n).length cap'], .bool (nOk id n)]) ∧ FOwn ptEnc 11 109 w.heap.size w' (.slice ad' (newL id n).length cap') (newL id n) ∧ Below w.heap.size w w' := by
  obtain ⟨i0, hi, hz0, hz1, hz2⟩ := info_parts ptInfo
  obtain ⟨y, hy⟩ : ∃ y, y = (w.alloc (Obj.cells #[.int .i64 0, .slice none 0 0] 56)).alloc (Obj.cells #[.int .i64 id, .slice none 0 0] 56) := ⟨_, rfl⟩
  have B0 : Below w.heap.size w y := by rw [hy]; exact ((Below.refl _ _).alloc (Nat.le_refl _) _).alloc (by simp) _
  have R0 : BBox y w.heap.size 0 (.slice none 0 0) := by rw [hy]; refine ⟨?_, fun i => ?_⟩; constructor <;> simp [go_sem]; simp [go_sem]
  have N0 : BBox y (w.heap.size + 1) id (.slice none 0 0) := by rw [hy]; refine ⟨?_, fun i => ?_⟩; constructor <;> simp [go_sem]; simp [go_sem]
  have S0 := N0.lt
  obtain ⟨IV, hI⟩ : ∃ v, v = newI id n := ⟨_, rfl⟩
  obtain ⟨LV, hM⟩ : ∃ v, v = newL id n := ⟨_, rfl⟩
  obtain ⟨NV, hN⟩ : ∃ v, v = nOk id n := ⟨_, rfl⟩
  rw [← hI, ← hM, ← hN]
  obtain ⟨m, hm⟩ : ∃ m : Nat, m = (if n < 5 then n else 5).toNat := ⟨_, rfl⟩
  have hm5 : m ≤ 5 := by rw [hm]; split <;> omega
  have hmn : nOk id n = nOk id (m : Int) := by
    unfold nOk
    congr 1
    apply decide_eq_decide.2
    rw [hm]
    split <;> omega
  have hmt : nOk id n = true → n.toNat = m := by
    intro h
    unfold nOk at h
    simp only [Bool.and_eq_true, decide_eq_true_eq] at h
    rw [hm, if_pos (by omega)]
  obtain ⟨t, ht⟩ : ∃ t : Int, t = (if n < 5 then n else 5) := ⟨_, rfl⟩
  have htm : t ≤ (m : Int) ∧ (0 ≤ t → t = (m : Int)) ∧ (t < 0 → m = 0) := by rw [ht, hm]; split <;> omega
  replace ht : Hid _ := ht
  replace hI : Hid _ := hI
  replace hM : Hid _ := hM
  replace hN : Hid _ := hN
  replace hmn : Hid _ := hmn
  replace hmt : Hid _ := hmt
  replace htm : Hid _ := htm
  clear hm
  go_enter Tryz.func30, Tryz.ntmps30
  go_wp2
  rw [← hy]
  clear hy
  go_loopw [7] (fun i wr => ∃ k : Nat, k ≤ m ∧ i = .int .i64 (k : Int) ∧ (∃ adk capk, FOwn ptEnc 11 109 y.heap.size wr (.slice adk k capk) (List.replicate k Pt.nil) ∧ BBox wr (w.heap.size + 1) id (.slice adk k capk)) ∧ BBox wr w.heap.size 0 (.slice none 0 0) ∧ Below w.heap.size w wr ∧ y.heap.size ≤ wr.heap.size) (fun i _ => m - (intOf i).toNat)
  case atStart => exact ⟨0, Nat.zero_le _, rfl, ⟨none, 0, FOwn.nil, N0⟩, R0, B0, Nat.le_refl _⟩
  case round =>
    obtain ⟨k, hk, rfl, ⟨adk, capk, O, N1⟩, R1, B1, S1⟩ := hrel
    obtain ⟨⟨n0, n1⟩, nf⟩ := N1
    have N1 : BBox wr (w.heap.size + 1) id (.slice adk k capk) := ⟨⟨n0, n1⟩, nf⟩
    by_cases hlt : (k : Int) < t
    · have dl : decide ((k : Int) < t) = true := decide_eq_true hlt
      have hkm : k < m := by have := htm.out; omega
      replace hlt : Hid _ := hlt
      go_wp2_with fail
      go_at_call 80
      refine (minS n 5 wr).mono ?_
      rintro e w2 ⟨rfl, rfl⟩
      rw [← ht.out]
      have V1 := FView.one w2 109 Pt.nil
      have B2 := B1.alloc B1.size (Obj.cells #[.bool false, .bool false, .int .i64 0, .int .i64 0, .int .i64 0, .int .i64 0, .int .i64 0, .int .i64 0, .int .i64 0, .int .i64 0, .bool false] 109)
      have O2 : FOwn ptEnc 11 109 y.heap.size (w2.alloc (Obj.cells #[.bool false, .bool false, .int .i64 0, .int .i64 0, .int .i64 0, .int .i64 0, .int .i64 0, .int .i64 0, .int .i64 0, .int .i64 0, .bool false] 109)) (.slice adk k capk) (List.replicate k Pt.nil) := O.later (below_new _)
      have hcn := O.capn
      go_wp2_with (first | (at_builtin; refine fappL ptEnc_len ptEnc_ones rfl _ _ 54 rfl y.heap.size 109 i0 (.agg #[.bool false, .bool false, .int .i64 0, .int .i64 0, .int .i64 0, .int .i64 0, .int .i64 0, .int .i64 0, .int .i64 0, .int .i64 0, .bool false]) 80 Tryz.underlying54 hi hz0 hz1 hz2 rfl (by decide) (by decide) (.slice adk k capk) (List.replicate k Pt.nil) rfl O2 (some ⟨w2.heap.size, 0, none⟩) 1 [Pt.nil] rfl (fun e => by cases e) V1 ?z0 ?z1 ?_) | go_in)
      case z0 => simp; omega
      case z1 => simp; omega
      intro vZ wZ hownZ hgrowZ _
      have hownZ : FOwn ptEnc 11 109 y.heap.size wZ vZ (List.replicate (k + 1) Pt.nil) := by rw [List.replicate_succ']; exact hownZ
      have ho : ∀ g, (Value.slice adk k capk).ownBlock = some g → y.heap.size ≤ g := fun g e => (O2.lt g e).1
      have BZ : Below w.heap.size w wZ := B2.grown hgrowZ B2.size (fun g e => by have := ho g e; omega)
      have NZ : BBox wZ (w.heap.size + 1) id (.slice adk k capk) := (N1.below (below_new _) N1.lt).keep (hgrowZ.block _ (by have := N1.lt; simp; omega) (fun e => by have := ho _ e.symm; omega))
      have RZ : BBox wZ w.heap.size 0 (.slice none 0 0) := (R1.below (below_new _) R1.lt).keep (hgrowZ.block _ (by have := R1.lt; simp; omega) (fun e => by have := ho _ e.symm; omega))
      have SZ : y.heap.size ≤ wZ.heap.size := by have := hgrowZ.size; simp at this; omega
      obtain ⟨aZ, cZ, hvz⟩ := hownZ.open_
      rw [List.length_replicate] at hvz
      subst hvz
      clear hgrowZ V1 B2 O2 n0 n1 nf N1 R1 O ho hcn
      obtain ⟨⟨q0, q1⟩, qf⟩ := NZ
      have NZ : BBox wZ (w.heap.size + 1) id (.slice adk k capk) := ⟨⟨q0, q1⟩, qf⟩
      have NS : BBox (wZ.setCell ⟨w.heap.size + 1, 1, none⟩ (.slice aZ (k + 1) cZ)) (w.heap.size + 1) id (.slice aZ (k + 1) cZ) := ⟨⟨(pset_else (by decide)).trans q0, pset_same q1⟩, fun i => by rw [World.frozen?_setCell]; exact qf i⟩
      have RS : BBox (wZ.setCell ⟨w.heap.size + 1, 1, none⟩ (.slice aZ (k + 1) cZ)) w.heap.size 0 (.slice none 0 0) := RZ.keep (Below.heap_setCell _ _ _ _ (by show w.heap.size ≠ w.heap.size + 1; omega))
      have OS : FOwn ptEnc 11 109 y.heap.size (wZ.setCell ⟨w.heap.size + 1, 1, none⟩ (.slice aZ (k + 1) cZ)) (.slice aZ (k + 1) cZ) (List.replicate (k + 1) Pt.nil) := hownZ.keep fun g' e => Below.heap_setCell _ _ _ _ (by have := (hownZ.lt g' e).1; show g' ≠ w.heap.size + 1; omega)
      have BS := BZ.setCell (p := ⟨w.heap.size + 1, 1, none⟩) (by show _ ≤ w.heap.size + 1; omega) (.slice aZ (k + 1) cZ)
      clear NZ RZ hownZ BZ
      go_wp2
      go_roundw
      case rel => exact ⟨k + 1, by omega, by go_num, ⟨aZ, cZ, OS, NS⟩, RS, BS, by simpa using SZ⟩
      case measure => simp [intOf]; omega
    · have dl : decide ((k : Int) < t) = false := decide_eq_false hlt
      have hkm : Hid (k = m) := by unfold Hid; have := htm.out; omega
      replace hlt : Hid _ := hlt
      go_wp2_with fail
      go_at_call 80
      refine (minS n 5 wr).mono ?_
      rintro e w2 ⟨rfl, rfl⟩
      rw [← ht.out]
      have hc := bOkS id adk capk (List.replicate k Pt.nil) w2 (by have := O.view.2; exact this) (by rw [List.length_replicate]; omega)
      rw [List.length_replicate, bOk_new, hkm.out, ← hmn.out, ← hkm.out] at hc
      go_wp2_with fail
      go_at_call 81
      refine hc.mono ?_
      rintro e w3 ⟨rfl, k3⟩
      have R3 := R1.below k3 R1.lt
      have N3 := N1.below k3 N1.lt
      have O3 := O.later k3
      have B3 := B1.trans (k3.mono B1.size)
      clear hc k3 n0 n1 nf R1 N1 O
      cases he : nOk id n with
      | false =>
        replace hI : Hid (IV = 0) := by unfold Hid; rw [hI.out]; unfold newI; rw [he]; rfl
        replace hM : Hid (LV = []) := by unfold Hid; rw [hM.out]; unfold newL; rw [he]; rfl
        replace hN : Hid (NV = false) := by unfold Hid; rw [hN.out, he]
        clear he
        have RP := R3.put 0 (.slice none 0 0)
        obtain ⟨⟨r0, r1⟩, rf⟩ := R3
        have BZ := (B3.setCell (p := ⟨w.heap.size, 0, none⟩) (Nat.le_refl w.heap.size) (.int .i64 0)).setCell (p := ⟨w.heap.size, 1, none⟩) (Nat.le_refl w.heap.size) (.slice none 0 0)
        obtain ⟨⟨p0, p1⟩, _⟩ := RP
        go_wp2
        refine bodyPost_ret (v := .tuple #[.agg #[.int .i64 0, .slice none 0 0], .bool false]) (by simp [results, Tryz.results30, go_sem, *]) rfl ⟨none, 0, by rw [hI.out, hM.out, hN.out]; rfl, by rw [hM.out]; exact FOwn.nil, BZ⟩
      | true =>
        have hRl : Hid (LV.length = k) := by unfold Hid; rw [hM.out]; unfold newL; rw [he, if_pos rfl, List.length_replicate, hmt.out he, hkm.out]
        replace hI : Hid (IV = id) := by unfold Hid; rw [hI.out]; unfold newI; rw [he]; rfl
        replace hM : Hid (LV = List.replicate k Pt.nil) := by unfold Hid; rw [hM.out]; unfold newL; rw [he, if_pos rfl, hmt.out he, hkm.out]
        replace hN : Hid (NV = true) := by unfold Hid; rw [hN.out, he]
        clear he hkm
        have RP := R3.put id (.slice adk k capk)
        obtain ⟨⟨r0, r1⟩, rf⟩ := R3
        obtain ⟨⟨n0, n1⟩, nf⟩ := N3
        have BZ := (B3.setCell (p := ⟨w.heap.size, 0, none⟩) (Nat.le_refl w.heap.size) (.int .i64 id)).setCell (p := ⟨w.heap.size, 1, none⟩) (Nat.le_refl w.heap.size) (.slice adk k capk)
        have OZ : FOwn ptEnc 11 109 w.heap.size ((w3.setCell ⟨w.heap.size, 0, none⟩ (.int .i64 id)).setCell ⟨w.heap.size, 1, none⟩ (.slice adk k capk)) (.slice adk k capk) (List.replicate k Pt.nil) := (O3.base (by omega)).keep fun g' e => by
          have := (O3.lt g' e).1
          rw [Below.heap_setCell _ _ _ _ (by show g' ≠ w.heap.size; omega), Below.heap_setCell _ _ _ _ (by show g' ≠ w.heap.size; omega)]
        obtain ⟨⟨p0, p1⟩, _⟩ := RP
        go_wp2
        refine bodyPost_ret (v := .tuple #[.agg #[.int .i64 id, .slice adk k capk], .bool true]) (by simp [results, Tryz.results30, go_sem, *]) rfl ⟨adk, capk, by rw [hI.out, hN.out, hRl.out], by rw [hRl.out, hM.out]; exact OZ, BZ⟩

end Go.Proofs.YtnpiljegdiconaaGreat
namespace Go.Proofs.YtnpiljegdiconaaGreat
open Go.ChangeShapes Go.WideShapes Go.ChangeAt Go.RowKit
open Go.ChangeMaps (open_string shut_string)
set_option linter.unusedVariables false
set_option maxRecDepth 100000

theorem p_two_len (x : BxD) : x.p.two.length = x.two.length := by unfold BxD.p; simp
set_option maxHeartbeats 4000000 in
theorem mindsXS (x : BxD) (s : Int) (w : World) (hV : BxV w x) :
    Calls Tryz.prog 96 #[.agg #[.int .i64 x.id, .int .i64 x.po, .int .i64 x.rg.ep, .int .i64 x.rg.ow, .int .i64 x.rg.pa, .slice x.aT x.two.length x.cT, .slice x.aN x.net.length x.cN, .slice x.aG x.ga.length x.cG, .slice x.aL x.ln.length x.cL, .slice x.aS x.sd.length x.cS], .int .i64 s] w fun e w' => e = .returned (.bool (mindsX x.p s)) ∧ Below w.heap.size w w' := by
  obtain ⟨R, hR⟩ : ∃ R, R = mindsX x.p s := ⟨_, rfl⟩
  rw [← hR]
  replace hR : Hid _ := hR
  obtain ⟨y, hy⟩ : ∃ y, y = w.alloc (Obj.cells #[.int .i64 x.id, .int .i64 x.po, .int .i64 x.rg.ep, .int .i64 x.rg.ow, .int .i64 x.rg.pa, .slice x.aT x.two.length x.cT, .slice x.aN x.net.length x.cN, .slice x.aG x.ga.length x.cG, .slice x.aL x.ln.length x.cL, .slice x.aS x.sd.length x.cS] 48) := ⟨_, rfl⟩
  have B0 : Below w.heap.size w y := by rw [hy]; exact below_new _
  have A : BxAt y w.heap.size x := by rw [hy]; exact BxAt.new w _ x
  have V := hV.later B0
  go_enter Tryz.func96, Tryz.ntmps96
  go_upto_region 1 with fail
  rw [← hy]
  clear hy hV
  refine wp_region_held (S := fun Y => Below y.heap.size y Y) (by kernel_rfl) ?_
  change wpAnyH _ _ _ _ _ _ _ _ (World.drew _)
  have hb0 : Below y.heap.size y y.drew := (Below.refl _ _).drew
  obtain ⟨u0, hy0⟩ : ∃ y_, y_ = y.drew := ⟨_, rfl⟩
  rw [← hy0] at hb0 ⊢
  clear hy0
  refine takeW 0 5 (.int .i64 s) rfl rfl (by kernel_rfl) (by kernel_rfl) (by kernel_rfl) (fun _ _ _ h => h) (by kernel_rfl) (by (intro w hSw; go_simp)) (by assumption) ?_
  simp only [List.set_cons_zero, List.set_cons_succ]
  refine takeW 1 6 (.pointer (some ⟨w.heap.size, 5, none⟩)) rfl rfl (by kernel_rfl) (by kernel_rfl) (by kernel_rfl) (fun _ _ _ h => h) (by kernel_rfl) (by (intro w hSw; go_simp)) (by assumption) ?_
  simp only [List.set_cons_zero, List.set_cons_succ]
  refine takeW 2 7 (.slice x.aT x.two.length x.cT) rfl rfl (by kernel_rfl) (by kernel_rfl) (by kernel_rfl) (fun _ _ _ h => h) (by kernel_rfl) (by (intro Y hSw; obtain ⟨X0, X1, X2, X3, X4, X5, X6, X7, X8, X9⟩ := A.below hSw A.lt; go_simp)) (by assumption) ?_
  simp only [List.set_cons_zero, List.set_cons_succ]
  refine takeW 3 8 (.int .i64 (x.two.length : Int)) rfl rfl (by kernel_rfl) (by kernel_rfl) (by kernel_rfl) (fun _ _ _ h => h) (by kernel_rfl) (by (intro w hSw; go_simp)) (by assumption) ?_
  simp only [List.set_cons_zero, List.set_cons_succ]
  have bt := V.bt
  have hwr : IntKind.i64.wrap ((x.two.length : Int) - 1) = (x.two.length : Int) - 1 := by rw [IntKind.wrap_i64]; omega
  refine takeW 4 9 (.int .i64 ((x.two.length : Int) - 1)) rfl rfl (by kernel_rfl) (by kernel_rfl) (by kernel_rfl) (fun _ _ _ h => h) (by kernel_rfl) (by (intro w hSw; go_simp)) (by assumption) ?_
  simp only [List.set_cons_zero, List.set_cons_succ]
  refine wpAnyH_all (rs := [5]) (by kernel_rfl) (by simp) ?_
  intro i hi; obtain rfl : i = 5 := by simpa using hi
  refine wpOp_step rfl (fun Kz hKz => ?_)
  rw [if_pos (by kernel_rfl)]
  go_simp
  go_at_call 65
  refine (inB s 0 ((x.two.length : Int) - 1) u0).mono ?_
  rintro e u1 ⟨rfl, hw_⟩
  have hb1 : Below y.heap.size y u1 := by rw [hw_]; exact hb0
  clear hw_
  refine hKz _ _ ⟨hb1, ?_⟩
  clear hKz Kz hi
  clear hwr
  cases h1 : decide (0 ≤ s ∧ s ≤ (x.two.length : Int) - 1)
  · have hN : Hid (R = false) := by unfold Hid; rw [hR.out]; unfold mindsX; rw [show decide (0 ≤ s ∧ s < ((x.p.two).length : Int)) = false from decide_eq_false (by have := of_decide_eq_false h1; rw [p_two_len]; omega)]; rfl
    clear h1
    refine takeW 6 11 (.bool false) rfl rfl (by kernel_rfl) (by kernel_rfl) (by kernel_rfl) (fun _ _ _ h => h) (by kernel_rfl) (by (intro w hSw; go_simp)) (by assumption) ?_
    simp only [List.set_cons_zero, List.set_cons_succ]
    refine takeS 7 12 rfl rfl (by kernel_rfl) (by kernel_rfl) (by kernel_rfl) (fun _ _ _ h => h) (by kernel_rfl) (by assumption) ?_
    simp only [List.set_cons_zero, List.set_cons_succ]
    refine takeS 8 13 rfl rfl (by kernel_rfl) (by kernel_rfl) (by kernel_rfl) (fun _ _ _ h => h) (by kernel_rfl) (by assumption) ?_
    simp only [List.set_cons_zero, List.set_cons_succ]
    refine takeS 9 14 rfl rfl (by kernel_rfl) (by kernel_rfl) (by kernel_rfl) (fun _ _ _ h => h) (by kernel_rfl) (by assumption) ?_
    simp only [List.set_cons_zero, List.set_cons_succ]
    refine takeS 10 15 rfl rfl (by kernel_rfl) (by kernel_rfl) (by kernel_rfl) (fun _ _ _ h => h) (by kernel_rfl) (by assumption) ?_
    simp only [List.set_cons_zero, List.set_cons_succ]
    refine takeS 11 16 rfl rfl (by kernel_rfl) (by kernel_rfl) (by kernel_rfl) (fun _ _ _ h => h) (by kernel_rfl) (by assumption) ?_
    simp only [List.set_cons_zero, List.set_cons_succ]
    refine takeS 12 17 rfl rfl (by kernel_rfl) (by kernel_rfl) (by kernel_rfl) (fun _ _ _ h => h) (by kernel_rfl) (by assumption) ?_
    simp only [List.set_cons_zero, List.set_cons_succ]
    refine takeS 13 18 rfl rfl (by kernel_rfl) (by kernel_rfl) (by kernel_rfl) (fun _ _ _ h => h) (by kernel_rfl) (by assumption) ?_
    simp only [List.set_cons_zero, List.set_cons_succ]
    refine takeS 14 19 rfl rfl (by kernel_rfl) (by kernel_rfl) (by kernel_rfl) (fun _ _ _ h => h) (by kernel_rfl) (by assumption) ?_
    simp only [List.set_cons_zero, List.set_cons_succ]
    refine takeS 15 20 rfl rfl (by kernel_rfl) (by kernel_rfl) (by kernel_rfl) (fun _ _ _ h => h) (by kernel_rfl) (by assumption) ?_
    simp only [List.set_cons_zero, List.set_cons_succ]
    refine takeW 16 21 (.bool false) rfl rfl (by kernel_rfl) (by kernel_rfl) (by kernel_rfl) (fun _ _ _ h => h) (by kernel_rfl) (by (intro w hSw; go_simp)) (by assumption) ?_
    simp only [List.set_cons_zero, List.set_cons_succ]
    refine takeW 17 4 (.bool false) rfl rfl (by kernel_rfl) (by kernel_rfl) (by kernel_rfl) (fun _ _ _ h => h) (by kernel_rfl) (by (intro w hSw; go_simp)) (by assumption) ?_
    simp only [List.set_cons_zero, List.set_cons_succ]
    refine wpAnyH_done (by kernel_rfl) ?_ _
    go_wp2
    go_ret
    exact ⟨by rw [hN.out]; rfl, B0.trans (hb1.mono B0.size)⟩
  · have h1' := of_decide_eq_true h1
    obtain ⟨k, rfl⟩ : ∃ k : Nat, s = (k : Int) := ⟨s.toNat, by omega⟩
    have hk : k < x.two.length := by omega
    have hcap := V.ct
    obtain ⟨d, hd⟩ : ∃ d, x.two.getD k MiD.nil = d := ⟨_, rfl⟩
    have hvl := V.l k hk
    have hll := V.bl k hk
    rw [hd] at hvl hll
    have hN : Hid (R = mindsB x.rg (k : Int) d.m) := by unfold Hid; rw [hR.out]; unfold mindsX; rw [show decide (0 ≤ (k : Int) ∧ (k : Int) < ((x.p.two).length : Int)) = true from decide_eq_true (by rw [p_two_len]; omega), mOf_p, Int.toNat_natCast, hd]; rfl
    obtain ⟨b, off, hat, _⟩ := V.t (by omega)
    have hck : ∀ Y, Below y.heap.size y Y → MdAtO Y b (off + k * 7) d := fun Y hY => by have ht := (V.later hY).t; rw [hat] at ht; rw [← hd]; exact mdAtO_of (ht.at_ mdEnc_len MiD.nil hk)
    replace hd : Hid _ := hd
    clear h1 h1'
    refine takeW 6 11 (.bool true) rfl rfl (by kernel_rfl) (by kernel_rfl) (by kernel_rfl) (fun _ _ _ h => h) (by kernel_rfl) (by (intro w hSw; go_simp)) (by assumption) ?_
    simp only [List.set_cons_zero, List.set_cons_succ]
    refine takeW 7 12 (.pointer (some ⟨w.heap.size, 2, none⟩)) rfl rfl (by kernel_rfl) (by kernel_rfl) (by kernel_rfl) (fun _ _ _ h => h) (by kernel_rfl) (by (intro w hSw; go_simp)) (by assumption) ?_
    simp only [List.set_cons_zero, List.set_cons_succ]
    refine takeW 8 13 (.agg #[.int .i64 x.rg.ep, .int .i64 x.rg.ow, .int .i64 x.rg.pa]) rfl rfl (by kernel_rfl) (by kernel_rfl) (by kernel_rfl) (fun _ _ _ h => h) (by kernel_rfl) (by (intro Y hSw; obtain ⟨X0, X1, X2, X3, X4, X5, X6, X7, X8, X9⟩ := A.below hSw A.lt; go_simp)) (by assumption) ?_
    simp only [List.set_cons_zero, List.set_cons_succ]
    refine takeW 9 14 (.int .i64 (k : Int)) rfl rfl (by kernel_rfl) (by kernel_rfl) (by kernel_rfl) (fun _ _ _ h => h) (by kernel_rfl) (by (intro w hSw; go_simp)) (by assumption) ?_
    simp only [List.set_cons_zero, List.set_cons_succ]
    refine takeW 10 15 (.pointer (some ⟨w.heap.size, 5, none⟩)) rfl rfl (by kernel_rfl) (by kernel_rfl) (by kernel_rfl) (fun _ _ _ h => h) (by kernel_rfl) (by (intro w hSw; go_simp)) (by assumption) ?_
    simp only [List.set_cons_zero, List.set_cons_succ]
    refine takeW 11 16 (.slice (some ⟨b, off, none⟩) x.two.length x.cT) rfl rfl (by kernel_rfl) (by kernel_rfl) (by kernel_rfl) (fun _ _ _ h => h) (by kernel_rfl) (by (intro Y hSw; obtain ⟨X0, X1, X2, X3, X4, X5, X6, X7, X8, X9⟩ := A.below hSw A.lt; rw [hat] at X5; go_simp)) (by assumption) ?_
    simp only [List.set_cons_zero, List.set_cons_succ]
    refine takeW 12 17 (.int .i64 (k : Int)) rfl rfl (by kernel_rfl) (by kernel_rfl) (by kernel_rfl) (fun _ _ _ h => h) (by kernel_rfl) (by (intro w hSw; go_simp)) (by assumption) ?_
    simp only [List.set_cons_zero, List.set_cons_succ]
    refine takeW 13 18 (.pointer (some ⟨b, off + k * 7, none⟩)) rfl rfl (by kernel_rfl) (by kernel_rfl) (by kernel_rfl) (fun _ _ _ h => h) (by kernel_rfl) (by (intro Y hSw; go_simp; try omega)) (by assumption) ?_
    simp only [List.set_cons_zero, List.set_cons_succ]
    refine takeW 14 19 (.agg #[.bool d.m.up, .int .i64 d.m.li, .int .i64 d.m.ep, .slice d.ad d.m.lg.length d.cap, .int .i64 d.m.sd, .int .i64 d.m.ac, .int .i64 d.m.al]) rfl rfl (by kernel_rfl) (by kernel_rfl) (by kernel_rfl) (fun _ _ _ h => h) (by kernel_rfl) (by (intro Y hSw; obtain ⟨X0, X1, X2, X3, X4, X5, X6⟩ := hck Y hSw; go_simp)) (by assumption) ?_
    simp only [List.set_cons_zero, List.set_cons_succ]
    refine wpAnyH_all (rs := [15]) (by kernel_rfl) (by simp) ?_
    intro i hi; obtain rfl : i = 15 := by simpa using hi
    refine wpOp_step rfl (fun Kz hKz => ?_)
    rw [if_pos (by kernel_rfl)]
    go_simp
    go_at_call 19
    refine (mindsS x.rg (k : Int) d.m d.ad d.cap u1 (hvl.below hb1 (hvl.lt ikEnc_len (by omega))) (by omega)).mono ?_
    rintro e u2 ⟨rfl, kq⟩
    rw [← hN.out]
    have hb2 : Below y.heap.size y u2 := hb1.trans (kq.mono hb1.size)
    clear kq
    refine hKz _ _ ⟨hb2, ?_⟩
    clear hKz Kz hi
    refine takeW 16 21 (.bool R) rfl rfl (by kernel_rfl) (by kernel_rfl) (by kernel_rfl) (fun _ _ _ h => h) (by kernel_rfl) (by (intro w hSw; go_simp)) (by assumption) ?_
    simp only [List.set_cons_zero, List.set_cons_succ]
    refine takeW 17 4 (.bool R) rfl rfl (by kernel_rfl) (by kernel_rfl) (by kernel_rfl) (fun _ _ _ h => h) (by kernel_rfl) (by (intro w hSw; go_simp)) (by assumption) ?_
    simp only [List.set_cons_zero, List.set_cons_succ]
    refine wpAnyH_done (by kernel_rfl) ?_ _
    go_wp2
    go_ret
    exact ⟨rfl, B0.trans (hb2.mono B0.size)⟩
set_option maxHeartbeats 4000000 in
theorem whoS (x : BxD) (w : World) (hV : BxV w x) :
    Calls Tryz.prog 245 #[.agg #[.int .i64 x.id, .int .i64 x.po, .int .i64 x.rg.ep, .int .i64 x.rg.ow, .int .i64 x.rg.pa, .slice x.aT x.two.length x.cT, .slice x.aN x.net.length x.cN, .slice x.aG x.ga.length x.cG, .slice x.aL x.ln.length x.cL, .slice x.aS x.sd.length x.cS]] w fun e w' => e = .returned (.int .i64 (whoX x.p)) ∧ Below w.heap.size w w' := by
  obtain ⟨R, hR⟩ : ∃ R, R = whoX x.p := ⟨_, rfl⟩
  rw [← hR]
  replace hR : Hid _ := hR
  obtain ⟨y, hy⟩ : ∃ y, y = w.alloc (Obj.cells #[.int .i64 x.id, .int .i64 x.po, .int .i64 x.rg.ep, .int .i64 x.rg.ow, .int .i64 x.rg.pa, .slice x.aT x.two.length x.cT, .slice x.aN x.net.length x.cN, .slice x.aG x.ga.length x.cG, .slice x.aL x.ln.length x.cL, .slice x.aS x.sd.length x.cS] 48) := ⟨_, rfl⟩
  have B0 : Below w.heap.size w y := by rw [hy]; exact below_new _
  have A : BxAt y w.heap.size x := by rw [hy]; exact BxAt.new w _ x
  have V := hV.later B0
  go_enter Tryz.func245, Tryz.ntmps245
  go_upto_region 2 with fail
  rw [← hy]
  clear hy hV
  refine wp_loop_rounds 3 ?_
  rw [rounds_succ]
  have cc := A
  obtain ⟨a0, a1, a2, a3, a4, a5, a6, a7, a8, a9⟩ := cc
  go_wp2_with fail
  go_at_call 96
  clear a0 a1 a2 a3 a4 a5 a6 a7 a8 a9
  refine (mindsXS x 0 y V).mono ?_
  rintro e v1 ⟨rfl, k1⟩
  have A := A.below k1 A.lt
  have V := V.later k1
  have B1 := B0.trans (k1.mono B0.size)
  clear k1 B0
  cases h0 : mindsX x.p 0
  · replace h0 : Hid _ := h0
    go_wp2
    rw [rounds_succ]
    have cc := A
    obtain ⟨a0, a1, a2, a3, a4, a5, a6, a7, a8, a9⟩ := cc
    go_wp2_with fail
    go_at_call 96
    clear a0 a1 a2 a3 a4 a5 a6 a7 a8 a9
    refine (mindsXS x 1 v1 V).mono ?_
    rintro e v2 ⟨rfl, k2⟩
    have B2 := B1.trans (k2.mono B1.size)
    clear k2 B1
    cases h1 : mindsX x.p 1
    · have hN : Hid (R = -1) := by unfold Hid; rw [hR.out]; unfold whoX; rw [h0.out, h1]; rfl
      clear h1
      go_wp2
      rw [rounds_succ]
      go_wp2
      go_ret
      exact ⟨by rw [hN.out]; rfl, B2⟩
    · have hN : Hid (R = 1) := by unfold Hid; rw [hR.out]; unfold whoX; rw [h0.out, h1]; rfl
      clear h1
      go_wp2
      go_ret
      exact ⟨by rw [hN.out]; rfl, B2⟩
  · have hN : Hid (R = 0) := by unfold Hid; rw [hR.out]; unfold whoX; rw [h0]; rfl
    clear h0
    go_wp2
    go_ret
    exact ⟨by rw [hN.out]; rfl, B1⟩

end Go.Proofs.YtnpiljegdiconaaGreat
