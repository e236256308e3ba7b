import Derived.Test.YtnpiljegdiconabGreatQM3
namespace Go.Proofs.YtnpiljegdiconabGreat
open Go.ChangeShapes Go.WideShapes Go.ChangeAt Go.RowKit
open Go.ChangeMaps (open_string shut_string)
set_option linter.unusedVariables false
set_option maxRecDepth 100000
def fitsB (x : Pt) : Bool := if x.has then x.up && (vOk x.r x.c x.b x.p && (decide (0 ≤ x.h ∧ x.h ≤ 8) && decide (1 ≤ x.l ∧ x.l ≤ 3))) else decide (x.r = 0 ∧ x.c = 0 ∧ x.b = 0 ∧ x.p = 0 ∧ x.h = 0 ∧ x.l = 0)
def pOk (x : Pt) : Bool := raIs x.ro && ((x.up == raUp x.ro) && ((x.op == raOp x.ro x.wa) && (decide (0 ≤ x.wa ∧ x.wa ≤ 4) && fitsB x)))
def Pt.bare (x : Pt) : Pt := ⟨x.up, false, 0, 0, 0, 0, 0, 0, x.ro, x.wa, x.op⟩
set_option maxHeartbeats 4000000 in
theorem claimFitsI (x : Pt) (w : World) : Calls Tryz.prog 150 #[.agg #[.bool x.up, .bool x.has, .int .i64 x.r, .int .i64 x.c, .int .i64 x.b, .int .i64 x.p, .int .i64 x.h, .int .i64 x.l, .int .i64 x.ro, .int .i64 x.wa, .bool x.op]] w fun e w' => e = .returned (.bool (fitsB x)) ∧ Below w.heap.size w w' := by
 obtain ⟨up, has, r, c, b, p, h, l, ro, wa, op⟩ := x
 dsimp only
 cases has
 ·
  have e1 : fitsB ⟨up, false, r, c, b, p, h, l, ro, wa, op⟩ = ptEq ⟨up, false, r, c, b, p, h, l, ro, wa, op⟩ ⟨up, false, 0, 0, 0, 0, 0, 0, ro, wa, op⟩ := by simp [fitsB, ptEq]
  rw [e1]
  clear e1
  obtain ⟨y, hy⟩ := mk_ (w.alloc (Obj.cells #[.bool up, .bool false, .int .i64 r, .int .i64 c, .int .i64 b, .int .i64 p, .int .i64 h, .int .i64 l, .int .i64 ro, .int .i64 wa, .bool op] 113))
  have P0 : PtAt y w.heap.size ⟨up, false, r, c, b, p, h, l, ro, wa, op⟩ := by rw [hy]; exact ptAt_box w _ ⟨up, false, r, c, b, p, h, l, ro, wa, op⟩
  have B0 : Below w.heap.size w y := by rw [hy]; exact (Below.refl _ _).alloc (Nat.le_refl _) _
  have S0 : w.heap.size < y.heap.size := P0.lt
  go_enter Tryz.func150, Tryz.ntmps150
  go_wp2
  rw [← hy]
  clear hy
  refine wp_region_held (S := fun Y => Below y.heap.size y Y) (by kernel_rfl) ?_
  change wpAnyH _ _ _ _ _ _ _ _ (World.drew _)
  have hb0 : Below y.heap.size y y.drew := (Below.refl _ _).drew
  obtain ⟨y0, hy0⟩ : ∃ y', y' = y.drew := ⟨_, rfl⟩
  rw [← hy0] at hb0 ⊢
  clear hy0
  refine tw 0 6 (.agg #[.bool up, .bool false, .int .i64 r, .int .i64 c, .int .i64 b, .int .i64 p, .int .i64 h, .int .i64 l, .int .i64 ro, .int .i64 wa, .bool op]) ?_ (hy := by intro Y hSw; obtain ⟨p0, p1, p2, p3, p4, p5, p6, p7, p8, p9, p10⟩ := P0.below hSw (by omega); go_simp)
  refine tw 1 7 (.agg #[.bool up, .bool false, .int .i64 r, .int .i64 c, .int .i64 b, .int .i64 p, .int .i64 h, .int .i64 l, .int .i64 ro, .int .i64 wa, .bool op]) ?_ (hy := by intro Y hSw; obtain ⟨p0, p1, p2, p3, p4, p5, p6, p7, p8, p9, p10⟩ := P0.below hSw (by omega); go_simp)
  refine wpAnyH_all (rs := [2]) (by kernel_rfl) (by simp) ?_
  intro i hi; obtain rfl : i = 2 := by simpa using hi
  refine wpOp_step rfl (fun K hK => ?_)
  rw [if_pos (by kernel_rfl)]
  go_simp
  go_at_call 152
  refine (unclaimedI ⟨up, false, r, c, b, p, h, l, ro, wa, op⟩ y0).mono ?_
  rintro e y1 ⟨rfl, kq⟩
  have hb1 : Below y.heap.size y y1 := hb0.trans (kq.mono hb0.size)
  clear kq
  dsimp only
  refine hK _ _ ⟨hb1, ?_⟩
  clear hK K hi
  refine tw 3 9 (.bool (ptEq ⟨up, false, r, c, b, p, h, l, ro, wa, op⟩ ⟨up, false, 0, 0, 0, 0, 0, 0, ro, wa, op⟩)) ?_ (hy := by intro Y hSw; go_simp; simp only [ptEq]; (repeat' split) <;> simp_all)
  refine tw 4 2 (.bool (ptEq ⟨up, false, r, c, b, p, h, l, ro, wa, op⟩ ⟨up, false, 0, 0, 0, 0, 0, 0, ro, wa, op⟩)) ?_
  refine wpAnyH_done (by kernel_rfl) ?_ _
  go_wp2
  go_ret
  exact ⟨rfl, B0.trans (hb1.mono B0.size)⟩
 cases up
 ·
  rw [show fitsB ⟨false, true, r, c, b, p, h, l, ro, wa, op⟩ = false by simp [fitsB]]
  go_enter Tryz.func150, Tryz.ntmps150
  go_wp2
  go_ret
  exact ⟨rfl, (Below.refl _ _).alloc (Nat.le_refl _) _⟩
 have hR : Hid (fitsB ⟨true, true, r, c, b, p, h, l, ro, wa, op⟩ = (vOk r c b p && (decide (0 ≤ h ∧ h ≤ 8) && decide (1 ≤ l ∧ l ≤ 3)))) := by simp [Hid, fitsB]
 generalize fitsB ⟨true, true, r, c, b, p, h, l, ro, wa, op⟩ = R at hR ⊢
 obtain ⟨y, hy⟩ := mk_ (w.alloc (Obj.cells #[.bool true, .bool true, .int .i64 r, .int .i64 c, .int .i64 b, .int .i64 p, .int .i64 h, .int .i64 l, .int .i64 ro, .int .i64 wa, .bool op] 113))
 have P0 : PtAt y w.heap.size ⟨true, true, r, c, b, p, h, l, ro, wa, op⟩ := by rw [hy]; exact ptAt_box w _ ⟨true, true, r, c, b, p, h, l, ro, wa, op⟩
 have B0 : Below w.heap.size w y := by rw [hy]; exact (Below.refl _ _).alloc (Nat.le_refl _) _
 have S0 : w.heap.size < y.heap.size := P0.lt
 go_enter Tryz.func150, Tryz.ntmps150
 go_wp2_with fail
 go_at_call 133
 rw [← hy]
 clear hy
 refine (vOkI r c b p y).mono ?_
 rintro e w1 ⟨rfl, k1⟩
 obtain ⟨p0, p1, p2, p3, p4, p5, p6, p7, p8, p9, p10⟩ := P0.below k1 S0
 have B1 := B0.trans (k1.mono B0.size)
 clear P0 k1 B0
 generalize vOk r c b p = ok at hR ⊢
 cases ok
 ·
  go_wp2
  go_ret
  exact ⟨by rw [hR.out]; rfl, B1⟩
 go_wp2_with fail
 go_at_call 134
 refine (hopsFitI h w1).mono ?_
 rintro e w2 ⟨rfl, rfl⟩
 generalize decide (0 ≤ h ∧ h ≤ 8) = ok at hR ⊢
 cases ok
 ·
  go_wp2
  go_ret
  exact ⟨by rw [hR.out]; rfl, B1⟩
 by_cases l1 : 1 ≤ l
 rotate_left
 ·
  have d1 : decide (1 ≤ l) = false := decide_eq_false l1
  replace hR : Hid (R = false) := hR.out.trans (by simp; omega)
  go_wp2
  go_ret
  exact ⟨by rw [hR.out]; rfl, B1⟩
 by_cases l3 : l ≤ 3
 rotate_left
 ·
  have d1 : decide (l ≤ 3) = false := decide_eq_false l3
  replace hR : Hid (R = false) := hR.out.trans (by simp; omega)
  go_wp2
  go_ret
  exact ⟨by rw [hR.out]; rfl, B1⟩
 replace hR : Hid (R = true) := hR.out.trans (by simp; omega)
 go_wp2
 go_ret
 exact ⟨by rw [hR.out]; rfl, B1⟩
theorem inB (x lo hi : Int) (w : World) : Calls Tryz.prog 46 #[.int .i64 x, .int .i64 lo, .int .i64 hi] w fun e w' => e = .returned (.bool (decide (lo ≤ x ∧ x ≤ hi))) ∧ w' = w := by
 by_cases h : lo ≤ x ∧ x ≤ hi
 ·
  rw [decide_eq_true h]; exact inYes _ _ _ _ h
 ·
  rw [decide_eq_false h]; exact inNo _ _ _ _ (by omega)
set_option maxHeartbeats 4000000 in
theorem pOkI (x : Pt) (w : World) : Calls Tryz.prog 132 #[.agg #[.bool x.up, .bool x.has, .int .i64 x.r, .int .i64 x.c, .int .i64 x.b, .int .i64 x.p, .int .i64 x.h, .int .i64 x.l, .int .i64 x.ro, .int .i64 x.wa, .bool x.op]] w fun e w' => e = .returned (.bool (pOk x)) ∧ Below w.heap.size w w' := by
 obtain ⟨up, has, r, c, b, p, h, l, ro, wa, op⟩ := x
 dsimp only
 have hR : Hid (pOk ⟨up, has, r, c, b, p, h, l, ro, wa, op⟩ = (raIs ro && ((up == raUp ro) && ((op == raOp ro wa) && (decide (0 ≤ wa ∧ wa ≤ 4) && fitsB ⟨up, has, r, c, b, p, h, l, ro, wa, op⟩))))) := rfl
 generalize pOk ⟨up, has, r, c, b, p, h, l, ro, wa, op⟩ = R at hR ⊢
 obtain ⟨y, hy⟩ := mk_ (w.alloc (Obj.cells #[.bool up, .bool has, .int .i64 r, .int .i64 c, .int .i64 b, .int .i64 p, .int .i64 h, .int .i64 l, .int .i64 ro, .int .i64 wa, .bool op] 113))
 have P0 : PtAt y w.heap.size ⟨up, has, r, c, b, p, h, l, ro, wa, op⟩ := by rw [hy]; exact ptAt_box w _ ⟨up, has, r, c, b, p, h, l, ro, wa, op⟩
 have B0 : Below w.heap.size w y := by rw [hy]; exact (Below.refl _ _).alloc (Nat.le_refl _) _
 have S0 : w.heap.size < y.heap.size := P0.lt
 go_enter Tryz.func132, Tryz.ntmps132
 go_wp2_with fail
 go_at_call 149
 rw [← hy]
 clear hy
 obtain ⟨p0, p1, p2, p3, p4, p5, p6, p7, p8, p9, p10⟩ := P0
 refine (roleAsksI ro wa y).mono ?_
 rintro e w1 ⟨rfl, rfl⟩
 generalize raIs ro = o1 at hR ⊢
 generalize raUp ro = o2 at hR ⊢
 generalize raOp ro wa = o3 at hR ⊢
 cases o1
 ·
  go_wp2
  go_ret
  exact ⟨by rw [hR.out]; rfl, B0⟩
 cases q2 : (up == o2)
 ·
  go_wp2
  go_ret
  exact ⟨by rw [hR.out, q2]; rfl, B0⟩
 cases q3 : (op == o3)
 ·
  go_wp2
  go_ret
  exact ⟨by rw [hR.out, q2, q3]; rfl, B0⟩
 by_cases h0 : 0 ≤ wa
 rotate_left
 ·
  have d0 : decide (0 ≤ wa) = false := decide_eq_false h0
  replace hR : Hid (R = false) := hR.out.trans (by rw [decide_eq_false (fun q => h0 q.1), q2, q3]; rfl)
  go_wp2
  go_ret
  exact ⟨by rw [hR.out]; rfl, B0⟩
 by_cases h4 : wa ≤ 4
 rotate_left
 ·
  have d0 : decide (wa ≤ 4) = false := decide_eq_false h4
  replace hR : Hid (R = false) := hR.out.trans (by rw [decide_eq_false (fun q => h4 q.2), q2, q3]; rfl)
  go_wp2
  go_ret
  exact ⟨by rw [hR.out]; rfl, B0⟩
 replace hR : Hid (R = fitsB ⟨up, has, r, c, b, p, h, l, ro, wa, op⟩) := hR.out.trans (by rw [decide_eq_true ⟨h0, h4⟩, q2, q3]; rfl)
 go_wp2_with fail
 go_at_call 150
 refine (claimFitsI ⟨up, has, r, c, b, p, h, l, ro, wa, op⟩ _).mono ?_
 rintro e w2 ⟨rfl, k2⟩
 have B2 := B0.trans (k2.mono B0.size)
 go_wp2
 go_ret
 exact ⟨by rw [hR.out]; rfl, B2⟩
theorem pOk_spec (x : Pt) (ld : Bool) (hld : ld = ((x.ro == 1) || (x.ro == 2))) : pOk x = (fitsB x && (decide (0 ≤ x.ro ∧ x.ro ≤ 3) && (((x.ro == 0) == !x.up) && (decide (0 ≤ x.wa ∧ x.wa ≤ 4) && (x.op == (ld && (x.wa == 0))))))) := by
 unfold pOk raIs raUp raOp
 generalize fitsB x = F
 generalize decide (0 ≤ x.wa ∧ x.wa ≤ 4) = W
 obtain ⟨up, has, r, c, b, p, h, l, ro, wa, op⟩ := x
 dsimp only at hld ⊢
 by_cases hr : 0 ≤ ro ∧ ro ≤ 3
 rotate_left
 ·
  rw [decide_eq_false hr]; cases F <;> rfl
 rw [decide_eq_true hr]
 have e1 : (up == decide (1 ≤ ro ∧ ro ≤ 3)) = ((ro == 0) == !up) := by
  obtain rfl | hn : ro = 0 ∨ ro ≠ 0 := by omega
  ·
   cases up <;> rfl
  ·
   rw [decide_eq_true (by omega), beq_eq_false_iff_ne.2 hn]; cases up <;> rfl
 have e2 : decide ((ro = 1 ∨ ro = 2) ∧ wa = 0) = (ld && (wa == 0)) := by
  rw [hld, Bool.eq_iff_iff]; simp
 rw [e1, e2]
 generalize ((ro == 0) == !up) = A
 generalize (op == (ld && (wa == 0))) = B
 cases F <;> cases A <;> cases B <;> cases W <;> rfl
set_option maxHeartbeats 8000000 in
theorem pOkS (x : Pt) (w : World) : Calls Tryz.prog 99 #[.agg #[.bool x.up, .bool x.has, .int .i64 x.r, .int .i64 x.c, .int .i64 x.b, .int .i64 x.p, .int .i64 x.h, .int .i64 x.l, .int .i64 x.ro, .int .i64 x.wa, .bool x.op]] w fun e w' => e = .returned (.bool (pOk x)) ∧ Below w.heap.size w w' := by
 obtain ⟨up, has, r, c, b, p, h, l, ro, wa, op⟩ := x
 dsimp only
 have hR : Hid (pOk ⟨up, has, r, c, b, p, h, l, ro, wa, op⟩ = pOk ⟨up, has, r, c, b, p, h, l, ro, wa, op⟩) := rfl
 have hF : Hid (fitsB ⟨up, has, r, c, b, p, h, l, ro, wa, op⟩ = fitsB ⟨up, has, r, c, b, p, h, l, ro, wa, op⟩) := rfl
 have hNo : fitsB ⟨up, has, r, c, b, p, h, l, ro, wa, op⟩ = false → pOk ⟨up, has, r, c, b, p, h, l, ro, wa, op⟩ = false := fun h => by rw [pOk_spec _ _ rfl, h]; rfl
 cases has
 ·
  have hF0 : fitsB ⟨up, false, r, c, b, p, h, l, ro, wa, op⟩ = (decide (r = 0 ∧ c = 0 ∧ b = 0 ∧ p = 0) && (decide (h = 0) && decide (l = 0))) := by simp [fitsB, Bool.and_assoc]
  by_cases hv : r = 0 ∧ c = 0 ∧ b = 0 ∧ p = 0
  rotate_left
  ·
   have heq := eqV r c b p 0 0 0 0
   rw [decide_eq_false hv] at heq
   have hN := hNo (by rw [hF0, decide_eq_false hv]; rfl)
   rw [hN]
   clear hR hF hNo hF0 hN
   go_enter Tryz.func99, Tryz.ntmps99
   go_wp2
   go_ret
   exact ⟨rfl, (Below.refl _ _).alloc (Nat.le_refl _) _⟩
  have heq := eqV r c b p 0 0 0 0
  rw [decide_eq_true hv] at heq
  rw [decide_eq_true hv] at hF0
  by_cases hh : h = 0
  rotate_left
  ·
   have fh : (h != 0) = true := by simp [hh]
   have fg : (h == 0) = false := by simp [hh]
   have hN := hNo (by rw [hF0, decide_eq_false hh]; rfl)
   rw [hN]
   clear hR hF hNo hF0 hN hv hh
   go_enter Tryz.func99, Tryz.ntmps99
   go_wp2
   go_ret
   exact ⟨rfl, (Below.refl _ _).alloc (Nat.le_refl _) _⟩
  by_cases hl : l = 0
  rotate_left
  ·
   have fl : (l != 0) = true := by simp [hl]
   have fg : (l == 0) = false := by simp [hl]
   subst hh
   have hN := hNo (by rw [hF0, decide_eq_false hl]; rfl)
   rw [hN]
   clear hR hF hNo hF0 hN hv hl
   go_enter Tryz.func99, Tryz.ntmps99
   go_wp2
   go_ret
   exact ⟨rfl, (Below.refl _ _).alloc (Nat.le_refl _) _⟩
  replace hF0 : fitsB ⟨up, false, r, c, b, p, h, l, ro, wa, op⟩ = true := by rw [hF0, decide_eq_true hh, decide_eq_true hl]; rfl
  obtain ⟨rfl, rfl, rfl, rfl⟩ := hv
  subst hh hl
  clear hF hNo heq hR
  obtain ⟨R, hR⟩ := mk_ (pOk ⟨up, false, 0, 0, 0, 0, 0, 0, ro, wa, op⟩)
  rw [← hR]
  replace hR : Hid (R = pOk ⟨up, false, 0, 0, 0, 0, 0, 0, ro, wa, op⟩) := hR
  have hF : Hid (fitsB ⟨up, false, 0, 0, 0, 0, 0, 0, ro, wa, op⟩ = true) := hF0
  clear hF0
  have heq := fun Y => (eqV 0 0 0 0 0 0 0 0 Y).trans (by simp : _ = Result.ok true Y)
  obtain ⟨y, hy⟩ := mk_ (w.alloc (Obj.cells #[.bool up, .bool false, .int .i64 0, .int .i64 0, .int .i64 0, .int .i64 0, .int .i64 0, .int .i64 0, .int .i64 ro, .int .i64 wa, .bool op] 113))
  have P0 : PtAt y w.heap.size ⟨up, false, 0, 0, 0, 0, 0, 0, ro, wa, op⟩ := by rw [hy]; exact ptAt_box w _ ⟨up, false, 0, 0, 0, 0, 0, 0, ro, wa, op⟩
  have B0 : Below w.heap.size w y := by rw [hy]; exact (Below.refl _ _).alloc (Nat.le_refl _) _
  have S0 : w.heap.size < y.heap.size := P0.lt
  go_enter Tryz.func99, Tryz.ntmps99
  obtain ⟨p0, p1, p2, p3, p4, p5, p6, p7, p8, p9, p10⟩ := P0
  dsimp only at p0 p1 p2 p3 p4 p5 p6 p7 p8 p9 p10
  cases l1 : (ro == 1)
  ·
   cases l2 : (ro == 2)
   ·
    replace hR := hR.out.trans (pOk_spec _ false (by dsimp only; rw [l1, l2]; rfl))
    dsimp only at hR
    rw [hF.out] at hR
    replace hR : Hid _ := hR
    go_wp2_with fail
    go_at_call 46
    refine (inB ro 0 3 _).mono ?_
    rintro e w5 ⟨rfl, rfl⟩
    generalize decide (0 ≤ ro ∧ ro ≤ 3) = o1 at hR ⊢
    cases o1
    ·
     go_wp2
     go_ret
     exact ⟨by rw [hR.out]; rfl, ((Below.refl _ _).alloc (Nat.le_refl _) _)⟩
    cases q2 : ((ro == 0) == !up)
    ·
     go_wp2
     go_ret
     exact ⟨by rw [hR.out, q2]; rfl, ((Below.refl _ _).alloc (Nat.le_refl _) _)⟩
    go_wp2_with fail
    go_at_call 46
    refine (inB wa 0 4 _).mono ?_
    rintro e w6 ⟨rfl, rfl⟩
    generalize decide (0 ≤ wa ∧ wa ≤ 4) = o1 at hR ⊢
    cases o1
    ·
     go_wp2
     go_ret
     exact ⟨by rw [hR.out, q2]; rfl, ((Below.refl _ _).alloc (Nat.le_refl _) _)⟩
    go_wp2
    go_ret
    exact ⟨by rw [hR.out, q2]; cases op <;> rfl, ((Below.refl _ _).alloc (Nat.le_refl _) _)⟩
   ·
    replace hR := hR.out.trans (pOk_spec _ true (by dsimp only; rw [l1, l2]; rfl))
    dsimp only at hR
    rw [hF.out] at hR
    replace hR : Hid _ := hR
    go_wp2_with fail
    go_at_call 46
    refine (inB ro 0 3 _).mono ?_
    rintro e w5 ⟨rfl, rfl⟩
    generalize decide (0 ≤ ro ∧ ro ≤ 3) = o1 at hR ⊢
    cases o1
    ·
     go_wp2
     go_ret
     exact ⟨by rw [hR.out]; rfl, ((Below.refl _ _).alloc (Nat.le_refl _) _)⟩
    cases q2 : ((ro == 0) == !up)
    ·
     go_wp2
     go_ret
     exact ⟨by rw [hR.out, q2]; rfl, ((Below.refl _ _).alloc (Nat.le_refl _) _)⟩
    go_wp2_with fail
    go_at_call 46
    refine (inB wa 0 4 _).mono ?_
    rintro e w6 ⟨rfl, rfl⟩
    generalize decide (0 ≤ wa ∧ wa ≤ 4) = o1 at hR ⊢
    cases o1
    ·
     go_wp2
     go_ret
     exact ⟨by rw [hR.out, q2]; rfl, ((Below.refl _ _).alloc (Nat.le_refl _) _)⟩
    go_wp2
    go_ret
    exact ⟨by rw [hR.out, q2]; rfl, ((Below.refl _ _).alloc (Nat.le_refl _) _)⟩
  ·
   replace hR := hR.out.trans (pOk_spec _ true (by dsimp only; rw [l1]; rfl))
   dsimp only at hR
   rw [hF.out] at hR
   replace hR : Hid _ := hR
   go_wp2_with fail
   go_at_call 46
   refine (inB ro 0 3 _).mono ?_
   rintro e w5 ⟨rfl, rfl⟩
   generalize decide (0 ≤ ro ∧ ro ≤ 3) = o1 at hR ⊢
   cases o1
   ·
    go_wp2
    go_ret
    exact ⟨by rw [hR.out]; rfl, ((Below.refl _ _).alloc (Nat.le_refl _) _)⟩
   cases q2 : ((ro == 0) == !up)
   ·
    go_wp2
    go_ret
    exact ⟨by rw [hR.out, q2]; rfl, ((Below.refl _ _).alloc (Nat.le_refl _) _)⟩
   go_wp2_with fail
   go_at_call 46
   refine (inB wa 0 4 _).mono ?_
   rintro e w6 ⟨rfl, rfl⟩
   generalize decide (0 ≤ wa ∧ wa ≤ 4) = o1 at hR ⊢
   cases o1
   ·
    go_wp2
    go_ret
    exact ⟨by rw [hR.out, q2]; rfl, ((Below.refl _ _).alloc (Nat.le_refl _) _)⟩
   go_wp2
   go_ret
   exact ⟨by rw [hR.out, q2]; rfl, ((Below.refl _ _).alloc (Nat.le_refl _) _)⟩
 clear hR hF hNo
 cases up
 ·
  rw [show pOk ⟨false, true, r, c, b, p, h, l, ro, wa, op⟩ = false by rw [pOk_spec _ _ rfl]; rfl]
  go_enter Tryz.func99, Tryz.ntmps99
  go_wp2
  go_ret
  exact ⟨rfl, (Below.refl _ _).alloc (Nat.le_refl _) _⟩
 obtain ⟨R, hR⟩ := mk_ (pOk ⟨true, true, r, c, b, p, h, l, ro, wa, op⟩)
 rw [← hR]
 replace hR : Hid (R = pOk ⟨true, true, r, c, b, p, h, l, ro, wa, op⟩) := hR
 have hF : Hid (fitsB ⟨true, true, r, c, b, p, h, l, ro, wa, op⟩ = (vOk r c b p && (decide (0 ≤ h ∧ h ≤ 8) && decide (1 ≤ l ∧ l ≤ 3)))) := by simp [Hid, fitsB]
 obtain ⟨y, hy⟩ := mk_ (w.alloc (Obj.cells #[.bool true, .bool true, .int .i64 r, .int .i64 c, .int .i64 b, .int .i64 p, .int .i64 h, .int .i64 l, .int .i64 ro, .int .i64 wa, .bool op] 113))
 have P0 : PtAt y w.heap.size ⟨true, true, r, c, b, p, h, l, ro, wa, op⟩ := by rw [hy]; exact ptAt_box w _ ⟨true, true, r, c, b, p, h, l, ro, wa, op⟩
 have B0 : Below w.heap.size w y := by rw [hy]; exact (Below.refl _ _).alloc (Nat.le_refl _) _
 have S0 : w.heap.size < y.heap.size := P0.lt
 go_enter Tryz.func99, Tryz.ntmps99
 go_wp2_with fail
 go_at_call 100
 rw [← hy]
 clear hy
 refine (vOkS r c b p y).mono ?_
 rintro e w1 ⟨rfl, k1⟩
 obtain ⟨p0, p1, p2, p3, p4, p5, p6, p7, p8, p9, p10⟩ := P0.below k1 S0
 have B1 := B0.trans (k1.mono B0.size)
 clear P0 k1 B0
 generalize vOk r c b p = ok at hF ⊢
 cases ok
 ·
  go_wp2
  go_ret
  exact ⟨by rw [hR.out, pOk_spec _ _ rfl, hF.out]; rfl, B1⟩
 go_wp2_with fail
 go_at_call 46
 refine (inB h 0 8 _).mono ?_
 rintro e w3 ⟨rfl, rfl⟩
 generalize decide (0 ≤ h ∧ h ≤ 8) = ok at hF ⊢
 cases ok
 ·
  go_wp2
  go_ret
  exact ⟨by rw [hR.out, pOk_spec _ _ rfl, hF.out]; rfl, B1⟩
 go_wp2_with fail
 go_at_call 46
 refine (inB l 1 3 _).mono ?_
 rintro e w4 ⟨rfl, rfl⟩
 generalize decide (1 ≤ l ∧ l ≤ 3) = ok at hF ⊢
 cases ok
 ·
  go_wp2
  go_ret
  exact ⟨by rw [hR.out, pOk_spec _ _ rfl, hF.out]; rfl, B1⟩
 cases l1 : (ro == 1)
 ·
  cases l2 : (ro == 2)
  ·
   replace hR := hR.out.trans (pOk_spec _ false (by dsimp only; rw [l1, l2]; rfl))
   dsimp only at hR
   rw [hF.out] at hR
   replace hR : Hid _ := hR
   go_wp2_with fail
   go_at_call 46
   refine (inB ro 0 3 _).mono ?_
   rintro e w5 ⟨rfl, rfl⟩
   generalize decide (0 ≤ ro ∧ ro ≤ 3) = o1 at hR ⊢
   cases o1
   ·
    go_wp2
    go_ret
    exact ⟨by rw [hR.out]; rfl, B1⟩
   cases q2 : (ro == 0)
   rotate_left
   ·
    go_wp2
    go_ret
    exact ⟨by rw [hR.out, q2]; rfl, B1⟩
   go_wp2_with fail
   go_at_call 46
   refine (inB wa 0 4 _).mono ?_
   rintro e w6 ⟨rfl, rfl⟩
   generalize decide (0 ≤ wa ∧ wa ≤ 4) = o1 at hR ⊢
   cases o1
   ·
    go_wp2
    go_ret
    exact ⟨by rw [hR.out, q2]; rfl, B1⟩
   go_wp2
   go_ret
   exact ⟨by rw [hR.out, q2]; cases op <;> rfl, B1⟩
  ·
   replace hR := hR.out.trans (pOk_spec _ true (by dsimp only; rw [l1, l2]; rfl))
   dsimp only at hR
   rw [hF.out] at hR
   replace hR : Hid _ := hR
   go_wp2_with fail
   go_at_call 46
   refine (inB ro 0 3 _).mono ?_
   rintro e w5 ⟨rfl, rfl⟩
   generalize decide (0 ≤ ro ∧ ro ≤ 3) = o1 at hR ⊢
   cases o1
   ·
    go_wp2
    go_ret
    exact ⟨by rw [hR.out]; rfl, B1⟩
   cases q2 : (ro == 0)
   rotate_left
   ·
    go_wp2
    go_ret
    exact ⟨by rw [hR.out, q2]; rfl, B1⟩
   go_wp2_with fail
   go_at_call 46
   refine (inB wa 0 4 _).mono ?_
   rintro e w6 ⟨rfl, rfl⟩
   generalize decide (0 ≤ wa ∧ wa ≤ 4) = o1 at hR ⊢
   cases o1
   ·
    go_wp2
    go_ret
    exact ⟨by rw [hR.out, q2]; rfl, B1⟩
   go_wp2
   go_ret
   exact ⟨by rw [hR.out, q2]; rfl, B1⟩
 ·
  replace hR := hR.out.trans (pOk_spec _ true (by dsimp only; rw [l1]; rfl))
  dsimp only at hR
  rw [hF.out] at hR
  replace hR : Hid _ := hR
  go_wp2_with fail
  go_at_call 46
  refine (inB ro 0 3 _).mono ?_
  rintro e w5 ⟨rfl, rfl⟩
  generalize decide (0 ≤ ro ∧ ro ≤ 3) = o1 at hR ⊢
  cases o1
  ·
   go_wp2
   go_ret
   exact ⟨by rw [hR.out]; rfl, B1⟩
  cases q2 : (ro == 0)
  rotate_left
  ·
   go_wp2
   go_ret
   exact ⟨by rw [hR.out, q2]; rfl, B1⟩
  go_wp2_with fail
  go_at_call 46
  refine (inB wa 0 4 _).mono ?_
  rintro e w6 ⟨rfl, rfl⟩
  generalize decide (0 ≤ wa ∧ wa ≤ 4) = o1 at hR ⊢
  cases o1
  ·
   go_wp2
   go_ret
   exact ⟨by rw [hR.out, q2]; rfl, B1⟩
  go_wp2
  go_ret
  exact ⟨by rw [hR.out, q2]; rfl, B1⟩
end Go.Proofs.YtnpiljegdiconabGreat
