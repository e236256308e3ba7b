/- claimFits, both PortOk, walked. -/
import Derived.Test.YthgcbihhdbpbdaaGreatDoorRows
import Derived.WalkKit
import Derived.ProofKit
import Derived.OpenShut
import Derived.ShutString
import Derived.ChangeOld
import Derived.Below
import Derived.Deep.QuietTactic
import Derived.BigQuiet
import Derived.WalkSmall
import Derived.Laws.OwnMore
import Derived.WalkSpells
import Derived.WalkLawsBesides
import Derived.Deep.Cut
import Derived.Test.YthgcbihhdbpbdaaGreatDoorM2
import Derived.Test.YthgcbihhdbpbdaaGreatDoorM1
namespace Go.Proofs.YthgcbihhdbpbdaaGreatDoor
open Go.ChangeShapes Go.WideShapes Go.ChangeAt Go.RowKit
open Go.ChangeMaps (open_string shut_string)
set_option linter.unusedVariables false
set_option maxRecDepth 100000

def fitsB (x : Pt) : Bool := if x.has then x.up && (vOk x.r x.c x.b x.p && (decide (0 ≤ x.h ∧ x.h ≤ 8) && decide (1 ≤ x.l ∧ x.l ≤ 3))) else decide (x.r = 0 ∧ x.c = 0 ∧ x.b = 0 ∧ x.p = 0 ∧ x.h = 0 ∧ x.l = 0)
def pOk (x : Pt) : Bool := raIs x.ro && ((x.up == raUp x.ro) && ((x.op == raOp x.ro x.wa) && (decide (0 ≤ x.wa ∧ x.wa ≤ 4) && fitsB x)))
/-- A port that has nothing. -/
def Pt.bare (x : Pt) : Pt := ⟨x.up, false, 0, 0, 0, 0, 0, 0, x.ro, x.wa, x.op⟩
theorem inB (x lo hi : Int) (w : World) : Calls Tryz.prog 66 #[.int .i64 x, .int .i64 lo, .int .i64 hi] w fun e w' => e = .returned (.bool (decide (lo ≤ x ∧ x ≤ hi))) ∧ w' = w := by
  by_cases h : lo ≤ x ∧ x ≤ hi
  · rw [decide_eq_true h]; exact inYes _ _ _ _ h
  · rw [decide_eq_false h]; exact inNo _ _ _ _ (by omega)
theorem pOk_spec (x : Pt) (ld : Bool) (hld : ld = ((x.ro == 1) || (x.ro == 2))) : pOk x = (fitsB x && (decide (0 ≤ x.ro ∧ x.ro ≤ 3) && (((x.ro == 0) == !x.up) && (decide (0 ≤ x.wa ∧ x.wa ≤ 4) && (x.op == (ld && (x.wa == 0))))))) := by
  unfold pOk raIs raUp raOp
  generalize fitsB x = F
  generalize decide (0 ≤ x.wa ∧ x.wa ≤ 4) = W
  obtain ⟨up, has, r, c, b, p, h, l, ro, wa, op⟩ := x
  dsimp only at hld ⊢
  by_cases hr : 0 ≤ ro ∧ ro ≤ 3
  rotate_left
  · rw [decide_eq_false hr]; cases F <;> rfl
  rw [decide_eq_true hr]
  have e1 : (up == decide (1 ≤ ro ∧ ro ≤ 3)) = ((ro == 0) == !up) := by
    obtain rfl | hn : ro = 0 ∨ ro ≠ 0 := by omega
    · cases up <;> rfl
    · rw [decide_eq_true (by omega), beq_eq_false_iff_ne.2 hn]; cases up <;> rfl
  have e2 : decide ((ro = 1 ∨ ro = 2) ∧ wa = 0) = (ld && (wa == 0)) := by
    rw [hld, Bool.eq_iff_iff]; simp
  rw [e1, e2]
  generalize ((ro == 0) == !up) = A
  generalize (op == (ld && (wa == 0))) = B
  cases F <;> cases A <;> cases B <;> cases W <;> rfl
set_option maxHeartbeats 8000000 in
theorem pOkS (x : Pt) (w : World) : Calls Tryz.prog 112 #[.agg #[.bool x.up, .bool x.has, .int .i64 x.r, .int .i64 x.c, .int .i64 x.b, .int .i64 x.p, .int .i64 x.h, .int .i64 x.l, .int .i64 x.ro, .int .i64 x.wa, .bool x.op]] w fun e w' => e = .returned (.bool (pOk x)) ∧ Below w.heap.size w w' := by
  obtain ⟨up, has, r, c, b, p, h, l, ro, wa, op⟩ := x
  dsimp only
  have hR : Hid (pOk ⟨up, has, r, c, b, p, h, l, ro, wa, op⟩ = pOk ⟨up, has, r, c, b, p, h, l, ro, wa, op⟩) := rfl
  have hF : Hid (fitsB ⟨up, has, r, c, b, p, h, l, ro, wa, op⟩ = fitsB ⟨up, has, r, c, b, p, h, l, ro, wa, op⟩) := rfl
  have hNo : fitsB ⟨up, has, r, c, b, p, h, l, ro, wa, op⟩ = false → pOk ⟨up, has, r, c, b, p, h, l, ro, wa, op⟩ = false := fun h => by rw [pOk_spec _ _ rfl, h]; rfl
  cases has
  · have hF0 : fitsB ⟨up, false, r, c, b, p, h, l, ro, wa, op⟩ = (decide (r = 0 ∧ c = 0 ∧ b = 0 ∧ p = 0) && (decide (h = 0) && decide (l = 0))) := by simp [fitsB, Bool.and_assoc]
    by_cases hv : r = 0 ∧ c = 0 ∧ b = 0 ∧ p = 0
    rotate_left
    · have heq := eqV r c b p 0 0 0 0
      rw [decide_eq_false hv] at heq
      have hN := hNo (by rw [hF0, decide_eq_false hv]; rfl)
      rw [hN]
      clear hR hF hNo hF0 hN
      go_enter Tryz.func112, Tryz.ntmps112
      go_wp2
      go_ret
      exact ⟨rfl, (Below.refl _ _).alloc (Nat.le_refl _) _⟩
    have heq := eqV r c b p 0 0 0 0
    rw [decide_eq_true hv] at heq
    rw [decide_eq_true hv] at hF0
    by_cases hh : h = 0
    rotate_left
    · have fh : (h != 0) = true := by simp [hh]
      have fg : (h == 0) = false := by simp [hh]
      have hN := hNo (by rw [hF0, decide_eq_false hh]; rfl)
      rw [hN]
      clear hR hF hNo hF0 hN hv hh
      go_enter Tryz.func112, Tryz.ntmps112
      go_wp2
      go_ret
      exact ⟨rfl, (Below.refl _ _).alloc (Nat.le_refl _) _⟩
    by_cases hl : l = 0
    rotate_left
    · have fl : (l != 0) = true := by simp [hl]
      have fg : (l == 0) = false := by simp [hl]
      subst hh
      have hN := hNo (by rw [hF0, decide_eq_false hl]; rfl)
      rw [hN]
      clear hR hF hNo hF0 hN hv hl
      go_enter Tryz.func112, Tryz.ntmps112
      go_wp2
      go_ret
      exact ⟨rfl, (Below.refl _ _).alloc (Nat.le_refl _) _⟩
    replace hF0 : fitsB ⟨up, false, r, c, b, p, h, l, ro, wa, op⟩ = true := by rw [hF0, decide_eq_true hh, decide_eq_true hl]; rfl
    obtain ⟨rfl, rfl, rfl, rfl⟩ := hv
    subst hh hl
    clear hF hNo heq hR
    obtain ⟨R, hR⟩ : ∃ R, R = pOk ⟨up, false, 0, 0, 0, 0, 0, 0, ro, wa, op⟩ := ⟨_, rfl⟩
    rw [← hR]
    replace hR : Hid (R = pOk ⟨up, false, 0, 0, 0, 0, 0, 0, ro, wa, op⟩) := hR
    have hF : Hid (fitsB ⟨up, false, 0, 0, 0, 0, 0, 0, ro, wa, op⟩ = true) := hF0
    clear hF0
    have heq := fun Y => (eqV 0 0 0 0 0 0 0 0 Y).trans (by simp : _ = Result.ok true Y)
    obtain ⟨y, hy⟩ : ∃ y, y = w.alloc (Obj.cells #[.bool up, .bool false, .int .i64 0, .int .i64 0, .int .i64 0, .int .i64 0, .int .i64 0, .int .i64 0, .int .i64 ro, .int .i64 wa, .bool op] 47) := ⟨_, rfl⟩
    have P0 : PtAt y w.heap.size ⟨up, false, 0, 0, 0, 0, 0, 0, ro, wa, op⟩ := by rw [hy]; exact ptAt_box w _ ⟨up, false, 0, 0, 0, 0, 0, 0, ro, wa, op⟩
    have B0 : Below w.heap.size w y := by rw [hy]; exact (Below.refl _ _).alloc (Nat.le_refl _) _
    have S0 : w.heap.size < y.heap.size := P0.lt
    go_enter Tryz.func112, Tryz.ntmps112
    obtain ⟨p0, p1, p2, p3, p4, p5, p6, p7, p8, p9, p10⟩ := P0
    dsimp only at p0 p1 p2 p3 p4 p5 p6 p7 p8 p9 p10
    cases l1 : (ro == 1)
    · cases l2 : (ro == 2)
      · replace hR := hR.out.trans (pOk_spec _ false (by dsimp only; rw [l1, l2]; rfl))
        dsimp only at hR
        rw [hF.out] at hR
        replace hR : Hid _ := hR
        go_wp2_with fail
        go_at_call 66
        refine (inB ro 0 3 _).mono ?_
        rintro e w5 ⟨rfl, rfl⟩
        generalize decide (0 ≤ ro ∧ ro ≤ 3) = o1 at hR ⊢
        cases o1
        · go_wp2
          go_ret
          exact ⟨by rw [hR.out]; rfl, ((Below.refl _ _).alloc (Nat.le_refl _) _)⟩
        cases q2 : ((ro == 0) == !up)
        · go_wp2
          go_ret
          exact ⟨by rw [hR.out, q2]; rfl, ((Below.refl _ _).alloc (Nat.le_refl _) _)⟩
        go_wp2_with fail
        go_at_call 66
        refine (inB wa 0 4 _).mono ?_
        rintro e w6 ⟨rfl, rfl⟩
        generalize decide (0 ≤ wa ∧ wa ≤ 4) = o1 at hR ⊢
        cases o1
        · go_wp2
          go_ret
          exact ⟨by rw [hR.out, q2]; rfl, ((Below.refl _ _).alloc (Nat.le_refl _) _)⟩
        go_wp2
        go_ret
        exact ⟨by rw [hR.out, q2]; cases op <;> rfl, ((Below.refl _ _).alloc (Nat.le_refl _) _)⟩
      · replace hR := hR.out.trans (pOk_spec _ true (by dsimp only; rw [l1, l2]; rfl))
        dsimp only at hR
        rw [hF.out] at hR
        replace hR : Hid _ := hR
        go_wp2_with fail
        go_at_call 66
        refine (inB ro 0 3 _).mono ?_
        rintro e w5 ⟨rfl, rfl⟩
        generalize decide (0 ≤ ro ∧ ro ≤ 3) = o1 at hR ⊢
        cases o1
        · go_wp2
          go_ret
          exact ⟨by rw [hR.out]; rfl, ((Below.refl _ _).alloc (Nat.le_refl _) _)⟩
        cases q2 : ((ro == 0) == !up)
        · go_wp2
          go_ret
          exact ⟨by rw [hR.out, q2]; rfl, ((Below.refl _ _).alloc (Nat.le_refl _) _)⟩
        go_wp2_with fail
        go_at_call 66
        refine (inB wa 0 4 _).mono ?_
        rintro e w6 ⟨rfl, rfl⟩
        generalize decide (0 ≤ wa ∧ wa ≤ 4) = o1 at hR ⊢
        cases o1
        · go_wp2
          go_ret
          exact ⟨by rw [hR.out, q2]; rfl, ((Below.refl _ _).alloc (Nat.le_refl _) _)⟩
        go_wp2
        go_ret
        exact ⟨by rw [hR.out, q2]; rfl, ((Below.refl _ _).alloc (Nat.le_refl _) _)⟩
    · replace hR := hR.out.trans (pOk_spec _ true (by dsimp only; rw [l1]; rfl))
      dsimp only at hR
      rw [hF.out] at hR
      replace hR : Hid _ := hR
      go_wp2_with fail
      go_at_call 66
      refine (inB ro 0 3 _).mono ?_
      rintro e w5 ⟨rfl, rfl⟩
      generalize decide (0 ≤ ro ∧ ro ≤ 3) = o1 at hR ⊢
      cases o1
      · go_wp2
        go_ret
        exact ⟨by rw [hR.out]; rfl, ((Below.refl _ _).alloc (Nat.le_refl _) _)⟩
      cases q2 : ((ro == 0) == !up)
      · go_wp2
        go_ret
        exact ⟨by rw [hR.out, q2]; rfl, ((Below.refl _ _).alloc (Nat.le_refl _) _)⟩
      go_wp2_with fail
      go_at_call 66
      refine (inB wa 0 4 _).mono ?_
      rintro e w6 ⟨rfl, rfl⟩
      generalize decide (0 ≤ wa ∧ wa ≤ 4) = o1 at hR ⊢
      cases o1
      · go_wp2
        go_ret
        exact ⟨by rw [hR.out, q2]; rfl, ((Below.refl _ _).alloc (Nat.le_refl _) _)⟩
      go_wp2
      go_ret
      exact ⟨by rw [hR.out, q2]; rfl, ((Below.refl _ _).alloc (Nat.le_refl _) _)⟩

  clear hR hF hNo
  cases up
  · rw [show pOk ⟨false, true, r, c, b, p, h, l, ro, wa, op⟩ = false by rw [pOk_spec _ _ rfl]; rfl]
    go_enter Tryz.func112, Tryz.ntmps112
    go_wp2
    go_ret
    exact ⟨rfl, (Below.refl _ _).alloc (Nat.le_refl _) _⟩
  obtain ⟨R, hR⟩ : ∃ R, R = pOk ⟨true, true, r, c, b, p, h, l, ro, wa, op⟩ := ⟨_, rfl⟩
  rw [← hR]
  replace hR : Hid (R = pOk ⟨true, true, r, c, b, p, h, l, ro, wa, op⟩) := hR
  have hF : Hid (fitsB ⟨true, true, r, c, b, p, h, l, ro, wa, op⟩ = (vOk r c b p && (decide (0 ≤ h ∧ h ≤ 8) && decide (1 ≤ l ∧ l ≤ 3)))) := by simp [Hid, fitsB]
  obtain ⟨y, hy⟩ : ∃ y, y = w.alloc (Obj.cells #[.bool true, .bool true, .int .i64 r, .int .i64 c, .int .i64 b, .int .i64 p, .int .i64 h, .int .i64 l, .int .i64 ro, .int .i64 wa, .bool op] 47) := ⟨_, rfl⟩
  have P0 : PtAt y w.heap.size ⟨true, true, r, c, b, p, h, l, ro, wa, op⟩ := by rw [hy]; exact ptAt_box w _ ⟨true, true, r, c, b, p, h, l, ro, wa, op⟩
  have B0 : Below w.heap.size w y := by rw [hy]; exact (Below.refl _ _).alloc (Nat.le_refl _) _
  have S0 : w.heap.size < y.heap.size := P0.lt
  go_enter Tryz.func112, Tryz.ntmps112
  go_wp2_with fail
  go_at_call 67
  rw [← hy]
  clear hy
  refine (vOkS r c b p y).mono ?_
  rintro e w1 ⟨rfl, k1⟩
  obtain ⟨p0, p1, p2, p3, p4, p5, p6, p7, p8, p9, p10⟩ := P0.below k1 S0
  have B1 := B0.trans (k1.mono B0.size)
  clear P0 k1 B0
  generalize vOk r c b p = ok at hF ⊢
  cases ok
  · go_wp2
    go_ret
    exact ⟨by rw [hR.out, pOk_spec _ _ rfl, hF.out]; rfl, B1⟩
  go_wp2_with fail
  go_at_call 66
  refine (inB h 0 8 _).mono ?_
  rintro e w3 ⟨rfl, rfl⟩
  generalize decide (0 ≤ h ∧ h ≤ 8) = ok at hF ⊢
  cases ok
  · go_wp2
    go_ret
    exact ⟨by rw [hR.out, pOk_spec _ _ rfl, hF.out]; rfl, B1⟩
  go_wp2_with fail
  go_at_call 66
  refine (inB l 1 3 _).mono ?_
  rintro e w4 ⟨rfl, rfl⟩
  generalize decide (1 ≤ l ∧ l ≤ 3) = ok at hF ⊢
  cases ok
  · go_wp2
    go_ret
    exact ⟨by rw [hR.out, pOk_spec _ _ rfl, hF.out]; rfl, B1⟩
  cases l1 : (ro == 1)
  · cases l2 : (ro == 2)
    · replace hR := hR.out.trans (pOk_spec _ false (by dsimp only; rw [l1, l2]; rfl))
      dsimp only at hR
      rw [hF.out] at hR
      replace hR : Hid _ := hR
      go_wp2_with fail
      go_at_call 66
      refine (inB ro 0 3 _).mono ?_
      rintro e w5 ⟨rfl, rfl⟩
      generalize decide (0 ≤ ro ∧ ro ≤ 3) = o1 at hR ⊢
      cases o1
      · go_wp2
        go_ret
        exact ⟨by rw [hR.out]; rfl, B1⟩
      cases q2 : (ro == 0)
      rotate_left
      · go_wp2
        go_ret
        exact ⟨by rw [hR.out, q2]; rfl, B1⟩
      go_wp2_with fail
      go_at_call 66
      refine (inB wa 0 4 _).mono ?_
      rintro e w6 ⟨rfl, rfl⟩
      generalize decide (0 ≤ wa ∧ wa ≤ 4) = o1 at hR ⊢
      cases o1
      · go_wp2
        go_ret
        exact ⟨by rw [hR.out, q2]; rfl, B1⟩
      go_wp2
      go_ret
      exact ⟨by rw [hR.out, q2]; cases op <;> rfl, B1⟩
    · replace hR := hR.out.trans (pOk_spec _ true (by dsimp only; rw [l1, l2]; rfl))
      dsimp only at hR
      rw [hF.out] at hR
      replace hR : Hid _ := hR
      go_wp2_with fail
      go_at_call 66
      refine (inB ro 0 3 _).mono ?_
      rintro e w5 ⟨rfl, rfl⟩
      generalize decide (0 ≤ ro ∧ ro ≤ 3) = o1 at hR ⊢
      cases o1
      · go_wp2
        go_ret
        exact ⟨by rw [hR.out]; rfl, B1⟩
      cases q2 : (ro == 0)
      rotate_left
      · go_wp2
        go_ret
        exact ⟨by rw [hR.out, q2]; rfl, B1⟩
      go_wp2_with fail
      go_at_call 66
      refine (inB wa 0 4 _).mono ?_
      rintro e w6 ⟨rfl, rfl⟩
      generalize decide (0 ≤ wa ∧ wa ≤ 4) = o1 at hR ⊢
      cases o1
      · go_wp2
        go_ret
        exact ⟨by rw [hR.out, q2]; rfl, B1⟩
      go_wp2
      go_ret
      exact ⟨by rw [hR.out, q2]; rfl, B1⟩
  · replace hR := hR.out.trans (pOk_spec _ true (by dsimp only; rw [l1]; rfl))
    dsimp only at hR
    rw [hF.out] at hR
    replace hR : Hid _ := hR
    go_wp2_with fail
    go_at_call 66
    refine (inB ro 0 3 _).mono ?_
    rintro e w5 ⟨rfl, rfl⟩
    generalize decide (0 ≤ ro ∧ ro ≤ 3) = o1 at hR ⊢
    cases o1
    · go_wp2
      go_ret
      exact ⟨by rw [hR.out]; rfl, B1⟩
    cases q2 : (ro == 0)
    rotate_left
    · go_wp2
      go_ret
      exact ⟨by rw [hR.out, q2]; rfl, B1⟩
    go_wp2_with fail
    go_at_call 66
    refine (inB wa 0 4 _).mono ?_
    rintro e w6 ⟨rfl, rfl⟩
    generalize decide (0 ≤ wa ∧ wa ≤ 4) = o1 at hR ⊢
    cases o1
    · go_wp2
      go_ret
      exact ⟨by rw [hR.out, q2]; rfl, B1⟩
    go_wp2
    go_ret
    exact ⟨by rw [hR.out, q2]; rfl, B1⟩



end Go.Proofs.YthgcbihhdbpbdaaGreatDoor
