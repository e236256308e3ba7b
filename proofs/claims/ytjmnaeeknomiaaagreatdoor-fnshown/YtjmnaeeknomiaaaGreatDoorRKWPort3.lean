import Derived.Test.YtjmnaeeknomiaaaGreatDoorRM5
namespace Go.Proofs.YtjmnaeeknomiaaaGreatDoor
open Go.ChangeShapes Go.WideShapes Go.ChangeAt Go.RowKit
open Go.ChangeMaps (open_string shut_string)
set_option linter.unusedVariables false
set_option maxRecDepth 100000
set_option maxHeartbeats 32000000
set_option linter.unusedSimpArgs false
open Go.Proofs.Tryz
attribute [local go_sem] ji ja
def Ci (x : Pt) : Bool := if x.has then x.up && (Bc x.r x.c x.b x.p && (decide (0 ≤ x.h ∧ x.h ≤ 8) && decide (1 ≤ x.l ∧ x.l ≤ 3))) else decide (x.r = 0 ∧ x.c = 0 ∧ x.b = 0 ∧ x.p = 0 ∧ x.h = 0 ∧ x.l = 0)
def Ae (x : Pt) : Bool := GP x.ro && ((x.up == E4 x.ro) && ((x.op == Ay x.ro x.wa) && (decide (0 ≤ x.wa ∧ x.wa ≤ 4) && Ci x)))
def Pt.bare (x : Pt) : Pt := ⟨x.up, false, 0, 0, 0, 0, 0, 0, x.ro, x.wa, x.op⟩
theorem BE (x lo hi : Int) (w : World) : Calls prog 66 #[ji x, ji lo, ji hi] w fun e w' => e = .returned (.bool (decide (lo ≤ x ∧ x ≤ hi))) ∧ w' = w := by
 by_cases h : lo ≤ x ∧ x ≤ hi
 ·
  rw [decide_eq_true h]; exact CN _ _ _ _ h
 rw [decide_eq_false h]; exact Dz _ _ _ _ (by omega)
theorem Ea (x : Pt) (ld : Bool) (hld : ld = ((x.ro == 1) || (x.ro == 2))) : Ae x = (Ci x && (decide (0 ≤ x.ro ∧ x.ro ≤ 3) && (((x.ro == 0) == !x.up) && (decide (0 ≤ x.wa ∧ x.wa ≤ 4) && (x.op == (ld && (x.wa == 0))))))) := by
 unfold Ae GP E4 Ay;generalize Ci x = F
 generalize decide (0 ≤ x.wa ∧ x.wa ≤ 4) = W
 obtain ⟨up, has, r, c, b, p, h, l, ro, wa, op⟩ := x;dsimp only at hld ⊢;by_cases hr : 0 ≤ ro ∧ ro ≤ 3
 rotate_left
 ·
  rw [decide_eq_false hr]; cases F <;> rfl
 rw [decide_eq_true hr];have e1 : (up == decide (1 ≤ ro ∧ ro ≤ 3)) = ((ro == 0) == !up) := by
  obtain rfl | hn : ro = 0 ∨ ro ≠ 0 := by omega
  ·
   cases up <;> rfl
  rw [decide_eq_true (by omega), beq_eq_false_iff_ne.2 hn]; cases up <;> rfl
 have e2 : decide ((ro = 1 ∨ ro = 2) ∧ wa = 0) = (ld && (wa == 0)) := by
  rw [hld, Bool.eq_iff_iff]; simp
 rw [e1, e2];generalize ((ro == 0) == !up) = A
 generalize (op == (ld && (wa == 0))) = B
 cases F <;> cases A <;> cases B <;> cases W <;> rfl
theorem GQ (x : Pt) (w : World) : Calls prog 112 #[.agg #[.bool x.up, .bool x.has, ji x.r, ji x.c, ji x.b, ji x.p, ji x.h, ji x.l, ji x.ro, ji x.wa, .bool x.op]] w fun e w' => e = .returned (.bool (Ae x)) ∧ Bw w w' := by
 obtain ⟨up, has, r, c, b, p, h, l, ro, wa, op⟩ := x;dsimp only
 have hR : Hid (Ae ⟨up, has, r, c, b, p, h, l, ro, wa, op⟩ = Ae ⟨up, has, r, c, b, p, h, l, ro, wa, op⟩) := rfl;have hF : Hid (Ci ⟨up, has, r, c, b, p, h, l, ro, wa, op⟩ = Ci ⟨up, has, r, c, b, p, h, l, ro, wa, op⟩) := rfl;have hNo : Ci ⟨up, has, r, c, b, p, h, l, ro, wa, op⟩ = false → Ae ⟨up, has, r, c, b, p, h, l, ro, wa, op⟩ = false := fun h => by rw [Ea _ _ rfl, h]; rfl
 cases has
 ·
  have hF0 : Ci ⟨up, false, r, c, b, p, h, l, ro, wa, op⟩ = (decide (r = 0 ∧ c = 0 ∧ b = 0 ∧ p = 0) && (decide (h = 0) && decide (l = 0))) := by simp [Ci, Bool.and_assoc]
  by_cases hv : r = 0 ∧ c = 0 ∧ b = 0 ∧ p = 0
  rotate_left
  ·
   have heq := GS r c b p 0 0 0 0;rw [decide_eq_false hv] at heq;have hN := hNo (by rw [hF0, decide_eq_false hv]; rfl);rw [hN];clear hR hF hNo hF0 hN;go_enter func112, ntmps112
   go_wp2
   go_ret
   exact ⟨rfl, (Below.refl _ _).alloc (Nat.le_refl _) _⟩
  have heq := GS r c b p 0 0 0 0;rw [decide_eq_true hv] at heq;rw [decide_eq_true hv] at hF0;by_cases hh : h = 0
  rotate_left
  ·
   have fh : (h != 0) = true := by simp [hh]
   have fg : (h == 0) = false := by simp [hh]
   have hN := hNo (by rw [hF0, decide_eq_false hh]; rfl);rw [hN];clear hR hF hNo hF0 hN hv hh;go_enter func112, ntmps112
   go_wp2
   go_ret
   exact ⟨rfl, (Below.refl _ _).alloc (Nat.le_refl _) _⟩
  by_cases hl : l = 0
  rotate_left
  ·
   have fl : (l != 0) = true := by simp [hl]
   have fg : (l == 0) = false := by simp [hl]
   subst hh;have hN := hNo (by rw [hF0, decide_eq_false hl]; rfl);rw [hN];clear hR hF hNo hF0 hN hv hl;go_enter func112, ntmps112
   go_wp2
   go_ret
   exact ⟨rfl, (Below.refl _ _).alloc (Nat.le_refl _) _⟩
  replace hF0 : Ci ⟨up, false, r, c, b, p, h, l, ro, wa, op⟩ = true := by rw [hF0, decide_eq_true hh, decide_eq_true hl]; rfl
  obtain ⟨rfl, rfl, rfl, rfl⟩ := hv;subst hh hl;clear hF hNo heq hR;obtain ⟨R, hR⟩ := AC (Ae ⟨up, false, 0, 0, 0, 0, 0, 0, ro, wa, op⟩);rw [← hR];replace hR : Hid (R = Ae ⟨up, false, 0, 0, 0, 0, 0, 0, ro, wa, op⟩) := hR;have hF : Hid (Ci ⟨up, false, 0, 0, 0, 0, 0, 0, ro, wa, op⟩ = true) := hF0;clear hF0;have heq := fun Y => (GS 0 0 0 0 0 0 0 0 Y).trans (by simp : _ = Result.ok true Y)
  obtain ⟨y, hy⟩ := AC (w.alloc (Obj.cells #[.bool up, .bool false, ji 0, ji 0, ji 0, ji 0, ji 0, ji 0, ji ro, ji wa, .bool op] 47));have P0 : Bg y w.heap.size ⟨up, false, 0, 0, 0, 0, 0, 0, ro, wa, op⟩ := by rw [hy]; exact EN w _ ⟨up, false, 0, 0, 0, 0, 0, 0, ro, wa, op⟩
  have B0 : Bw w y := by rw [hy]; exact (Below.refl _ _).alloc (Nat.le_refl _) _
  have S0 : w.heap.size < y.heap.size := P0.lt;go_enter func112, ntmps112
  obtain ⟨p0, p1, p2, p3, p4, p5, p6, p7, p8, p9, p10⟩ := P0;dsimp only at p0 p1 p2 p3 p4 p5 p6 p7 p8 p9 p10;cases l1 : (ro == 1)
  ·
   cases l2 : (ro == 2)
   ·
    replace hR := hR.out.trans (Ea _ false (by dsimp only; rw [l1, l2]; rfl));dsimp only at hR;rw [hF.out] at hR;replace hR : Hid _ := hR;go_wp2_with fail
    go_at_call 66
    refine (BE ro 0 3 _).mono ?_;rintro e w5 ⟨rfl, rfl⟩;generalize decide (0 ≤ ro ∧ ro ≤ 3) = o1 at hR ⊢
    cases o1
    ·
     go_wp2
     go_ret
     exact ⟨by rw [hR.out]; rfl, ((Below.refl _ _).alloc (Nat.le_refl _) _)⟩
    cases q2 : ((ro == 0) == !up)
    ·
     go_wp2
     go_ret
     exact ⟨by rw [hR.out, q2]; rfl, ((Below.refl _ _).alloc (Nat.le_refl _) _)⟩
    go_wp2_with fail
    go_at_call 66
    refine (BE wa 0 4 _).mono ?_;rintro e w6 ⟨rfl, rfl⟩;generalize decide (0 ≤ wa ∧ wa ≤ 4) = o1 at hR ⊢
    cases o1
    ·
     go_wp2
     go_ret
     exact ⟨by rw [hR.out, q2]; rfl, ((Below.refl _ _).alloc (Nat.le_refl _) _)⟩
    go_wp2
    go_ret
    exact ⟨by rw [hR.out, q2]; cases op <;> rfl, ((Below.refl _ _).alloc (Nat.le_refl _) _)⟩
   replace hR := hR.out.trans (Ea _ true (by dsimp only; rw [l1, l2]; rfl));dsimp only at hR;rw [hF.out] at hR;replace hR : Hid _ := hR;go_wp2_with fail
   go_at_call 66
   refine (BE ro 0 3 _).mono ?_;rintro e w5 ⟨rfl, rfl⟩;generalize decide (0 ≤ ro ∧ ro ≤ 3) = o1 at hR ⊢
   cases o1
   ·
    go_wp2
    go_ret
    exact ⟨by rw [hR.out]; rfl, ((Below.refl _ _).alloc (Nat.le_refl _) _)⟩
   cases q2 : ((ro == 0) == !up)
   ·
    go_wp2
    go_ret
    exact ⟨by rw [hR.out, q2]; rfl, ((Below.refl _ _).alloc (Nat.le_refl _) _)⟩
   go_wp2_with fail
   go_at_call 66
   refine (BE wa 0 4 _).mono ?_;rintro e w6 ⟨rfl, rfl⟩;generalize decide (0 ≤ wa ∧ wa ≤ 4) = o1 at hR ⊢
   cases o1
   ·
    go_wp2
    go_ret
    exact ⟨by rw [hR.out, q2]; rfl, ((Below.refl _ _).alloc (Nat.le_refl _) _)⟩
   go_wp2
   go_ret
   exact ⟨by rw [hR.out, q2]; rfl, ((Below.refl _ _).alloc (Nat.le_refl _) _)⟩
  replace hR := hR.out.trans (Ea _ true (by dsimp only; rw [l1]; rfl));dsimp only at hR;rw [hF.out] at hR;replace hR : Hid _ := hR;go_wp2_with fail
  go_at_call 66
  refine (BE ro 0 3 _).mono ?_;rintro e w5 ⟨rfl, rfl⟩;generalize decide (0 ≤ ro ∧ ro ≤ 3) = o1 at hR ⊢
  cases o1
  ·
   go_wp2
   go_ret
   exact ⟨by rw [hR.out]; rfl, ((Below.refl _ _).alloc (Nat.le_refl _) _)⟩
  cases q2 : ((ro == 0) == !up)
  ·
   go_wp2
   go_ret
   exact ⟨by rw [hR.out, q2]; rfl, ((Below.refl _ _).alloc (Nat.le_refl _) _)⟩
  go_wp2_with fail
  go_at_call 66
  refine (BE wa 0 4 _).mono ?_;rintro e w6 ⟨rfl, rfl⟩;generalize decide (0 ≤ wa ∧ wa ≤ 4) = o1 at hR ⊢
  cases o1
  ·
   go_wp2
   go_ret
   exact ⟨by rw [hR.out, q2]; rfl, ((Below.refl _ _).alloc (Nat.le_refl _) _)⟩
  go_wp2
  go_ret
  exact ⟨by rw [hR.out, q2]; rfl, ((Below.refl _ _).alloc (Nat.le_refl _) _)⟩
 clear hR hF hNo;cases up
 ·
  rw [show Ae ⟨false, true, r, c, b, p, h, l, ro, wa, op⟩ = false by rw [Ea _ _ rfl]; rfl];go_enter func112, ntmps112
  go_wp2
  go_ret
  exact ⟨rfl, (Below.refl _ _).alloc (Nat.le_refl _) _⟩
 obtain ⟨R, hR⟩ := AC (Ae ⟨true, true, r, c, b, p, h, l, ro, wa, op⟩);rw [← hR];replace hR : Hid (R = Ae ⟨true, true, r, c, b, p, h, l, ro, wa, op⟩) := hR;have hF : Hid (Ci ⟨true, true, r, c, b, p, h, l, ro, wa, op⟩ = (Bc r c b p && (decide (0 ≤ h ∧ h ≤ 8) && decide (1 ≤ l ∧ l ≤ 3)))) := by simp [Hid, Ci]
 obtain ⟨y, hy⟩ := AC (w.alloc (Obj.cells #[.bool true, .bool true, ji r, ji c, ji b, ji p, ji h, ji l, ji ro, ji wa, .bool op] 47));have P0 : Bg y w.heap.size ⟨true, true, r, c, b, p, h, l, ro, wa, op⟩ := by rw [hy]; exact EN w _ ⟨true, true, r, c, b, p, h, l, ro, wa, op⟩
 have B0 : Bw w y := by rw [hy]; exact (Below.refl _ _).alloc (Nat.le_refl _) _
 have S0 : w.heap.size < y.heap.size := P0.lt;go_enter func112, ntmps112
 go_wp2_with fail
 go_at_call 67
 rw [← hy];clear hy;refine (G5 r c b p y).mono ?_;rintro e w1 ⟨rfl, k1⟩;obtain ⟨p0, p1, p2, p3, p4, p5, p6, p7, p8, p9, p10⟩ := P0.below k1 S0;have B1 := AG B0 k1;clear P0 k1 B0;generalize Bc r c b p = ok at hF ⊢
 cases ok
 rotate_left;focus
  go_wp2_with fail
  go_at_call 66
  refine (BE h 0 8 _).mono ?_;rintro e w3 ⟨rfl, rfl⟩;generalize decide (0 ≤ h ∧ h ≤ 8) = ok at hF ⊢
  cases ok
 rotate_left;focus
  go_wp2_with fail
  go_at_call 66
  refine (BE l 1 3 _).mono ?_;rintro e w4 ⟨rfl, rfl⟩;generalize decide (1 ≤ l ∧ l ≤ 3) = ok at hF ⊢
  cases ok
 rotate_left;cases l1 : (ro == 1)
 ·
  cases l2 : (ro == 2)
  ·
   replace hR := hR.out.trans (Ea _ false (by dsimp only; rw [l1, l2]; rfl));dsimp only at hR;rw [hF.out] at hR;replace hR : Hid _ := hR;go_wp2_with fail
   go_at_call 66
   refine (BE ro 0 3 _).mono ?_;rintro e w5 ⟨rfl, rfl⟩;generalize decide (0 ≤ ro ∧ ro ≤ 3) = o1 at hR ⊢
   cases o1
   ·
    go_wp2
    go_ret
    exact ⟨by rw [hR.out]; rfl, B1⟩
   cases q2 : (ro == 0)
   rotate_left
   ·
    go_wp2
    go_ret
    exact ⟨by rw [hR.out, q2]; rfl, B1⟩
   go_wp2_with fail
   go_at_call 66
   refine (BE wa 0 4 _).mono ?_;rintro e w6 ⟨rfl, rfl⟩;generalize decide (0 ≤ wa ∧ wa ≤ 4) = o1 at hR ⊢
   cases o1
   ·
    go_wp2
    go_ret
    exact ⟨by rw [hR.out, q2]; rfl, B1⟩
   go_wp2
   go_ret
   exact ⟨by rw [hR.out, q2]; cases op <;> rfl, B1⟩
  replace hR := hR.out.trans (Ea _ true (by dsimp only; rw [l1, l2]; rfl));dsimp only at hR;rw [hF.out] at hR;replace hR : Hid _ := hR;go_wp2_with fail
  go_at_call 66
  refine (BE ro 0 3 _).mono ?_;rintro e w5 ⟨rfl, rfl⟩;generalize decide (0 ≤ ro ∧ ro ≤ 3) = o1 at hR ⊢
  cases o1
  ·
   go_wp2
   go_ret
   exact ⟨by rw [hR.out]; rfl, B1⟩
  cases q2 : (ro == 0)
  rotate_left
  ·
   go_wp2
   go_ret
   exact ⟨by rw [hR.out, q2]; rfl, B1⟩
  go_wp2_with fail
  go_at_call 66
  refine (BE wa 0 4 _).mono ?_;rintro e w6 ⟨rfl, rfl⟩;generalize decide (0 ≤ wa ∧ wa ≤ 4) = o1 at hR ⊢
  cases o1
  ·
   go_wp2
   go_ret
   exact ⟨by rw [hR.out, q2]; rfl, B1⟩
  go_wp2
  go_ret
  exact ⟨by rw [hR.out, q2]; rfl, B1⟩
 ·
  replace hR := hR.out.trans (Ea _ true (by dsimp only; rw [l1]; rfl));dsimp only at hR;rw [hF.out] at hR;replace hR : Hid _ := hR;go_wp2_with fail
  go_at_call 66
  refine (BE ro 0 3 _).mono ?_;rintro e w5 ⟨rfl, rfl⟩;generalize decide (0 ≤ ro ∧ ro ≤ 3) = o1 at hR ⊢
  cases o1
  ·
   go_wp2
   go_ret
   exact ⟨by rw [hR.out]; rfl, B1⟩
  cases q2 : (ro == 0)
  rotate_left
  ·
   go_wp2
   go_ret
   exact ⟨by rw [hR.out, q2]; rfl, B1⟩
  go_wp2_with fail
  go_at_call 66
  refine (BE wa 0 4 _).mono ?_;rintro e w6 ⟨rfl, rfl⟩;generalize decide (0 ≤ wa ∧ wa ≤ 4) = o1 at hR ⊢
  cases o1
  ·
   go_wp2
   go_ret
   exact ⟨by rw [hR.out, q2]; rfl, B1⟩
  go_wp2
  go_ret
  exact ⟨by rw [hR.out, q2]; rfl, B1⟩
 all_goals
  go_wp2
  go_ret
  exact ⟨by rw [hR.out, Ea _ _ rfl, hF.out]; rfl, B1⟩
end Go.Proofs.YtjmnaeeknomiaaaGreatDoor
