import Derived.Test.YtjmnaeeknomiaaaGreatRM4
namespace Go.Proofs.YtjmnaeeknomiaaaGreat
open Go.ChangeShapes Go.WideShapes Go.ChangeAt Go.RowKit
open Go.ChangeMaps (open_string shut_string)
set_option linter.unusedVariables false
set_option maxRecDepth 100000
set_option maxHeartbeats 32000000
set_option linter.unusedSimpArgs false
open Go.Proofs.Tryz
attribute [local go_sem] ji ja
def CN (x : Pt) : Bool := if x.has then x.up && (Ad x.r x.c x.b x.p && (decide (0 ≤ x.h ∧ x.h ≤ 8) && decide (1 ≤ x.l ∧ x.l ≤ 3))) else decide (x.r = 0 ∧ x.c = 0 ∧ x.b = 0 ∧ x.p = 0 ∧ x.h = 0 ∧ x.l = 0)
def Ax (x : Pt) : Bool := Cm x.ro && ((x.up == CY x.ro) && ((x.op == BG x.ro x.wa) && (decide (0 ≤ x.wa ∧ x.wa ≤ 4) && CN x)))
def Pt.bare (x : Pt) : Pt := ⟨x.up, false, 0, 0, 0, 0, 0, 0, x.ro, x.wa, x.op⟩
theorem IF (x : Pt) (w : World) : Calls prog 155 #[.agg #[.bool x.up, .bool x.has, ji x.r, ji x.c, ji x.b, ji x.p, ji x.h, ji x.l, ji x.ro, ji x.wa, .bool x.op]] w fun e w' => e = .returned (.bool (CN x)) ∧ Bw w w' := by
 obtain ⟨up, has, r, c, b, p, h, l, ro, wa, op⟩ := x;dsimp only
 cases has
 ·
  have e1 : CN ⟨up, false, r, c, b, p, h, l, ro, wa, op⟩ = FJ ⟨up, false, r, c, b, p, h, l, ro, wa, op⟩ ⟨up, false, 0, 0, 0, 0, 0, 0, ro, wa, op⟩ := by simp [CN, FJ]
  rw [e1];clear e1;obtain ⟨y, hy⟩ := AC (w.alloc (Obj.cells #[.bool up, .bool false, ji r, ji c, ji b, ji p, ji h, ji l, ji ro, ji wa, .bool op] 70));have P0 : Bv y w.heap.size ⟨up, false, r, c, b, p, h, l, ro, wa, op⟩ := by rw [hy]; exact ES w _ ⟨up, false, r, c, b, p, h, l, ro, wa, op⟩
  have B0 : Bw w y := by rw [hy]; exact (Below.refl _ _).alloc (Nat.le_refl _) _
  have S0 : w.heap.size < y.heap.size := P0.lt;go_enter func155, ntmps155
  go_wp2
  rw [← hy];clear hy;refine wp_region_held (S := fun Y => Bw y Y) (by kernel_rfl) ?_;change wpAnyH _ _ _ _ _ _ _ _ (World.drew _);have hb0 : Bw y y.drew := (Below.refl _ _).drew;obtain ⟨y0, hy0⟩ : ∃ y', y' = y.drew := ⟨_, rfl⟩;rw [← hy0] at hb0 ⊢;clear hy0;refine tw 0 6 (.agg #[.bool up, .bool false, ji r, ji c, ji b, ji p, ji h, ji l, ji ro, ji wa, .bool op]) ?_ (hy := by intro Y hSw; obtain ⟨p0, p1, p2, p3, p4, p5, p6, p7, p8, p9, p10⟩ := P0.below hSw (by omega); go_simp);refine tw 1 7 (.agg #[.bool up, .bool false, ji r, ji c, ji b, ji p, ji h, ji l, ji ro, ji wa, .bool op]) ?_ (hy := by intro Y hSw; obtain ⟨p0, p1, p2, p3, p4, p5, p6, p7, p8, p9, p10⟩ := P0.below hSw (by omega); go_simp);refine wpAnyH_all (rs := [2]) (by kernel_rfl) (by simp) ?_;intro i hi; obtain rfl : i = 2 := by simpa using hi
  refine wpOp_step rfl (fun K hK => ?_);rw [if_pos (by kernel_rfl)];go_simp
  go_at_call 180
  refine (H9 ⟨up, false, r, c, b, p, h, l, ro, wa, op⟩ y0).mono ?_;rintro e y1 ⟨rfl, kq⟩;have hb1 := AE hb0 kq;clear kq;dsimp only
  refine hK _ _ ⟨hb1, ?_⟩;clear hK K hi;refine tw 3 9 (.bool (FJ ⟨up, false, r, c, b, p, h, l, ro, wa, op⟩ ⟨up, false, 0, 0, 0, 0, 0, 0, ro, wa, op⟩)) ?_ (hy := by intro Y hSw; go_simp; simp only [FJ]; (repeat' split) <;> simp_all);refine tw 4 2 (.bool (FJ ⟨up, false, r, c, b, p, h, l, ro, wa, op⟩ ⟨up, false, 0, 0, 0, 0, 0, 0, ro, wa, op⟩)) ?_;refine AR ?_;go_wp2
  go_ret
  exact ⟨rfl, AE B0 hb1⟩
 cases up
 ·
  rw [show CN ⟨false, true, r, c, b, p, h, l, ro, wa, op⟩ = false by simp [CN]];go_enter func155, ntmps155
  go_wp2
  go_ret
  exact ⟨rfl, (Below.refl _ _).alloc (Nat.le_refl _) _⟩
 have hR : Hid (CN ⟨true, true, r, c, b, p, h, l, ro, wa, op⟩ = (Ad r c b p && (decide (0 ≤ h ∧ h ≤ 8) && decide (1 ≤ l ∧ l ≤ 3)))) := by simp [Hid, CN]
 generalize CN ⟨true, true, r, c, b, p, h, l, ro, wa, op⟩ = R at hR ⊢
 obtain ⟨y, hy⟩ := AC (w.alloc (Obj.cells #[.bool true, .bool true, ji r, ji c, ji b, ji p, ji h, ji l, ji ro, ji wa, .bool op] 70));have P0 : Bv y w.heap.size ⟨true, true, r, c, b, p, h, l, ro, wa, op⟩ := by rw [hy]; exact ES w _ ⟨true, true, r, c, b, p, h, l, ro, wa, op⟩
 have B0 : Bw w y := by rw [hy]; exact (Below.refl _ _).alloc (Nat.le_refl _) _
 have S0 : w.heap.size < y.heap.size := P0.lt;go_enter func155, ntmps155
 go_wp2_with fail
 go_at_call 181
 rw [← hy];clear hy;refine (Hu r c b p y).mono ?_;rintro e w1 ⟨rfl, k1⟩;obtain ⟨p0, p1, p2, p3, p4, p5, p6, p7, p8, p9, p10⟩ := P0.below k1 S0;have B1 := AE B0 k1;clear P0 k1 B0;generalize Ad r c b p = ok at hR ⊢
 cases ok
 ·
  go_wp2
  go_ret
  exact ⟨by rw [hR.out]; rfl, B1⟩
 go_wp2_with fail
 go_at_call 182
 refine (HH h w1).mono ?_;rintro e w2 ⟨rfl, rfl⟩;generalize decide (0 ≤ h ∧ h ≤ 8) = ok at hR ⊢
 cases ok
 ·
  go_wp2
  go_ret
  exact ⟨by rw [hR.out]; rfl, B1⟩
 by_cases l1 : 1 ≤ l
 rotate_left
 ·
  have d1 : decide (1 ≤ l) = false := decide_eq_false l1;replace hR : Hid (R = false) := hR.out.trans (by simp; omega);go_wp2
  go_ret
  exact ⟨by rw [hR.out]; rfl, B1⟩
 by_cases l3 : l ≤ 3
 rotate_left
 ·
  have d1 : decide (l ≤ 3) = false := decide_eq_false l3;replace hR : Hid (R = false) := hR.out.trans (by simp; omega);go_wp2
  go_ret
  exact ⟨by rw [hR.out]; rfl, B1⟩
 replace hR : Hid (R = true) := hR.out.trans (by simp; omega);go_wp2
 go_ret
 exact ⟨by rw [hR.out]; rfl, B1⟩
theorem BK (x lo hi : Int) (w : World) : Calls prog 65 #[ji x, ji lo, ji hi] w fun e w' => e = .returned (.bool (decide (lo ≤ x ∧ x ≤ hi))) ∧ w' = w := by
 by_cases h : lo ≤ x ∧ x ≤ hi
 ·
  rw [decide_eq_true h]; exact EL _ _ _ _ h
 rw [decide_eq_false h]; exact EO _ _ _ _ (by omega)
theorem Kl (x : Pt) (w : World) : Calls prog 130 #[.agg #[.bool x.up, .bool x.has, ji x.r, ji x.c, ji x.b, ji x.p, ji x.h, ji x.l, ji x.ro, ji x.wa, .bool x.op]] w fun e w' => e = .returned (.bool (Ax x)) ∧ Bw w w' := by
 obtain ⟨up, has, r, c, b, p, h, l, ro, wa, op⟩ := x;dsimp only
 have hR : Hid (Ax ⟨up, has, r, c, b, p, h, l, ro, wa, op⟩ = (Cm ro && ((up == CY ro) && ((op == BG ro wa) && (decide (0 ≤ wa ∧ wa ≤ 4) && CN ⟨up, has, r, c, b, p, h, l, ro, wa, op⟩))))) := rfl;generalize Ax ⟨up, has, r, c, b, p, h, l, ro, wa, op⟩ = R at hR ⊢
 obtain ⟨y, hy⟩ := AC (w.alloc (Obj.cells #[.bool up, .bool has, ji r, ji c, ji b, ji p, ji h, ji l, ji ro, ji wa, .bool op] 70));have P0 : Bv y w.heap.size ⟨up, has, r, c, b, p, h, l, ro, wa, op⟩ := by rw [hy]; exact ES w _ ⟨up, has, r, c, b, p, h, l, ro, wa, op⟩
 have B0 : Bw w y := by rw [hy]; exact (Below.refl _ _).alloc (Nat.le_refl _) _
 have S0 : w.heap.size < y.heap.size := P0.lt;go_enter func130, ntmps130
 go_wp2_with fail
 go_at_call 154
 rw [← hy];clear hy;replace P0 := P0.all;refine (II ro wa y).mono ?_;rintro e w1 ⟨rfl, rfl⟩;generalize Cm ro = o1 at hR ⊢
 generalize CY ro = o2 at hR ⊢
 generalize BG ro wa = o3 at hR ⊢
 cases o1
 ·
  go_wp2
  go_ret
  exact ⟨by rw [hR.out]; rfl, B0⟩
 cases q2 : (up == o2)
 ·
  go_wp2
  go_ret
  exact ⟨by rw [hR.out, q2]; rfl, B0⟩
 cases q3 : (op == o3)
 ·
  go_wp2
  go_ret
  exact ⟨by rw [hR.out, q2, q3]; rfl, B0⟩
 by_cases h0 : 0 ≤ wa
 rotate_left
 ·
  have d0 : decide (0 ≤ wa) = false := decide_eq_false h0;replace hR : Hid (R = false) := hR.out.trans (by rw [decide_eq_false (fun q => h0 q.1), q2, q3]; rfl);go_wp2
  go_ret
  exact ⟨by rw [hR.out]; rfl, B0⟩
 by_cases h4 : wa ≤ 4
 rotate_left
 ·
  have d0 : decide (wa ≤ 4) = false := decide_eq_false h4;replace hR : Hid (R = false) := hR.out.trans (by rw [decide_eq_false (fun q => h4 q.2), q2, q3]; rfl);go_wp2
  go_ret
  exact ⟨by rw [hR.out]; rfl, B0⟩
 replace hR : Hid (R = CN ⟨up, has, r, c, b, p, h, l, ro, wa, op⟩) := hR.out.trans (by rw [decide_eq_true ⟨h0, h4⟩, q2, q3]; rfl);go_wp2_with fail
 go_at_call 155
 refine (IF ⟨up, has, r, c, b, p, h, l, ro, wa, op⟩ _).mono ?_;rintro e w2 ⟨rfl, k2⟩;have B2 := AE B0 k2;go_wp2
 go_ret
 exact ⟨by rw [hR.out]; rfl, B2⟩
theorem D8 (x : Pt) (ld : Bool) (hld : ld = ((x.ro == 1) || (x.ro == 2))) : Ax x = (CN x && (decide (0 ≤ x.ro ∧ x.ro ≤ 3) && (((x.ro == 0) == !x.up) && (decide (0 ≤ x.wa ∧ x.wa ≤ 4) && (x.op == (ld && (x.wa == 0))))))) := by
 unfold Ax Cm CY BG;generalize CN x = F
 generalize decide (0 ≤ x.wa ∧ x.wa ≤ 4) = W
 obtain ⟨up, has, r, c, b, p, h, l, ro, wa, op⟩ := x;dsimp only at hld ⊢;by_cases hr : 0 ≤ ro ∧ ro ≤ 3
 rotate_left
 ·
  rw [decide_eq_false hr]; cases F <;> rfl
 rw [decide_eq_true hr];have e1 : (up == decide (1 ≤ ro ∧ ro ≤ 3)) = ((ro == 0) == !up) := by
  obtain rfl | hn : ro = 0 ∨ ro ≠ 0 := by omega
  ·
   cases up <;> rfl
  rw [decide_eq_true (by omega), beq_eq_false_iff_ne.2 hn]; cases up <;> rfl
 have e2 : decide ((ro = 1 ∨ ro = 2) ∧ wa = 0) = (ld && (wa == 0)) := by
  rw [hld, Bool.eq_iff_iff]; simp
 rw [e1, e2];generalize ((ro == 0) == !up) = A
 generalize (op == (ld && (wa == 0))) = B
 cases F <;> cases A <;> cases B <;> cases W <;> rfl
theorem Fk (x : Pt) (w : World) : Calls prog 91 #[.agg #[.bool x.up, .bool x.has, ji x.r, ji x.c, ji x.b, ji x.p, ji x.h, ji x.l, ji x.ro, ji x.wa, .bool x.op]] w fun e w' => e = .returned (.bool (Ax x)) ∧ Bw w w' := by
 obtain ⟨up, has, r, c, b, p, h, l, ro, wa, op⟩ := x;dsimp only
 have hR : Hid (Ax ⟨up, has, r, c, b, p, h, l, ro, wa, op⟩ = Ax ⟨up, has, r, c, b, p, h, l, ro, wa, op⟩) := rfl;have hF : Hid (CN ⟨up, has, r, c, b, p, h, l, ro, wa, op⟩ = CN ⟨up, has, r, c, b, p, h, l, ro, wa, op⟩) := rfl;have hNo : CN ⟨up, has, r, c, b, p, h, l, ro, wa, op⟩ = false → Ax ⟨up, has, r, c, b, p, h, l, ro, wa, op⟩ = false := fun h => by rw [D8 _ _ rfl, h]; rfl
 cases has
 ·
  have hF0 : CN ⟨up, false, r, c, b, p, h, l, ro, wa, op⟩ = (decide (r = 0 ∧ c = 0 ∧ b = 0 ∧ p = 0) && (decide (h = 0) && decide (l = 0))) := by simp [CN, Bool.and_assoc]
  by_cases hv : r = 0 ∧ c = 0 ∧ b = 0 ∧ p = 0
  rotate_left
  ·
   have heq := Fo r c b p 0 0 0 0;rw [decide_eq_false hv] at heq;have hN := hNo (by rw [hF0, decide_eq_false hv]; rfl);rw [hN];clear hR hF hNo hF0 hN;go_enter func91, ntmps91
   go_wp2
   go_ret
   exact ⟨rfl, (Below.refl _ _).alloc (Nat.le_refl _) _⟩
  have heq := Fo r c b p 0 0 0 0;rw [decide_eq_true hv] at heq;rw [decide_eq_true hv] at hF0;by_cases hh : h = 0
  rotate_left
  ·
   have fh : (h != 0) = true := by simp [hh]
   have fg : (h == 0) = false := by simp [hh]
   have hN := hNo (by rw [hF0, decide_eq_false hh]; rfl);rw [hN];clear hR hF hNo hF0 hN hv hh;go_enter func91, ntmps91
   go_wp2
   go_ret
   exact ⟨rfl, (Below.refl _ _).alloc (Nat.le_refl _) _⟩
  by_cases hl : l = 0
  rotate_left
  ·
   have fl : (l != 0) = true := by simp [hl]
   have fg : (l == 0) = false := by simp [hl]
   subst hh;have hN := hNo (by rw [hF0, decide_eq_false hl]; rfl);rw [hN];clear hR hF hNo hF0 hN hv hl;go_enter func91, ntmps91
   go_wp2
   go_ret
   exact ⟨rfl, (Below.refl _ _).alloc (Nat.le_refl _) _⟩
  replace hF0 : CN ⟨up, false, r, c, b, p, h, l, ro, wa, op⟩ = true := by rw [hF0, decide_eq_true hh, decide_eq_true hl]; rfl
  obtain ⟨rfl, rfl, rfl, rfl⟩ := hv;subst hh hl;clear hF hNo heq hR;obtain ⟨R, hR⟩ := AC (Ax ⟨up, false, 0, 0, 0, 0, 0, 0, ro, wa, op⟩);rw [← hR];replace hR : Hid (R = Ax ⟨up, false, 0, 0, 0, 0, 0, 0, ro, wa, op⟩) := hR;have hF : Hid (CN ⟨up, false, 0, 0, 0, 0, 0, 0, ro, wa, op⟩ = true) := hF0;clear hF0;have heq := fun Y => (Fo 0 0 0 0 0 0 0 0 Y).trans (by simp : _ = Result.ok true Y)
  obtain ⟨y, hy⟩ := AC (w.alloc (Obj.cells #[.bool up, .bool false, ji 0, ji 0, ji 0, ji 0, ji 0, ji 0, ji ro, ji wa, .bool op] 70));have P0 : Bv y w.heap.size ⟨up, false, 0, 0, 0, 0, 0, 0, ro, wa, op⟩ := by rw [hy]; exact ES w _ ⟨up, false, 0, 0, 0, 0, 0, 0, ro, wa, op⟩
  have B0 : Bw w y := by rw [hy]; exact (Below.refl _ _).alloc (Nat.le_refl _) _
  have S0 : w.heap.size < y.heap.size := P0.lt;go_enter func91, ntmps91
  obtain ⟨p0, p1, p2, p3, p4, p5, p6, p7, p8, p9, p10⟩ := P0;dsimp only at p0 p1 p2 p3 p4 p5 p6 p7 p8 p9 p10;cases l1 : (ro == 1)
  ·
   cases l2 : (ro == 2)
   ·
    replace hR := hR.out.trans (D8 _ false (by dsimp only; rw [l1, l2]; rfl));dsimp only at hR;rw [hF.out] at hR;replace hR : Hid _ := hR;go_wp2_with fail
    go_at_call 65
    refine (BK ro 0 3 _).mono ?_;rintro e w5 ⟨rfl, rfl⟩;generalize decide (0 ≤ ro ∧ ro ≤ 3) = o1 at hR ⊢
    cases o1
    ·
     go_wp2
     go_ret
     exact ⟨by rw [hR.out]; rfl, ((Below.refl _ _).alloc (Nat.le_refl _) _)⟩
    cases q2 : ((ro == 0) == !up)
    ·
     go_wp2
     go_ret
     exact ⟨by rw [hR.out, q2]; rfl, ((Below.refl _ _).alloc (Nat.le_refl _) _)⟩
    go_wp2_with fail
    go_at_call 65
    refine (BK wa 0 4 _).mono ?_;rintro e w6 ⟨rfl, rfl⟩;generalize decide (0 ≤ wa ∧ wa ≤ 4) = o1 at hR ⊢
    cases o1
    ·
     go_wp2
     go_ret
     exact ⟨by rw [hR.out, q2]; rfl, ((Below.refl _ _).alloc (Nat.le_refl _) _)⟩
    go_wp2
    go_ret
    exact ⟨by rw [hR.out, q2]; cases op <;> rfl, ((Below.refl _ _).alloc (Nat.le_refl _) _)⟩
   replace hR := hR.out.trans (D8 _ true (by dsimp only; rw [l1, l2]; rfl));dsimp only at hR;rw [hF.out] at hR;replace hR : Hid _ := hR;go_wp2_with fail
   go_at_call 65
   refine (BK ro 0 3 _).mono ?_;rintro e w5 ⟨rfl, rfl⟩;generalize decide (0 ≤ ro ∧ ro ≤ 3) = o1 at hR ⊢
   cases o1
   ·
    go_wp2
    go_ret
    exact ⟨by rw [hR.out]; rfl, ((Below.refl _ _).alloc (Nat.le_refl _) _)⟩
   cases q2 : ((ro == 0) == !up)
   ·
    go_wp2
    go_ret
    exact ⟨by rw [hR.out, q2]; rfl, ((Below.refl _ _).alloc (Nat.le_refl _) _)⟩
   go_wp2_with fail
   go_at_call 65
   refine (BK wa 0 4 _).mono ?_;rintro e w6 ⟨rfl, rfl⟩;generalize decide (0 ≤ wa ∧ wa ≤ 4) = o1 at hR ⊢
   cases o1
   ·
    go_wp2
    go_ret
    exact ⟨by rw [hR.out, q2]; rfl, ((Below.refl _ _).alloc (Nat.le_refl _) _)⟩
   go_wp2
   go_ret
   exact ⟨by rw [hR.out, q2]; rfl, ((Below.refl _ _).alloc (Nat.le_refl _) _)⟩
  replace hR := hR.out.trans (D8 _ true (by dsimp only; rw [l1]; rfl));dsimp only at hR;rw [hF.out] at hR;replace hR : Hid _ := hR;go_wp2_with fail
  go_at_call 65
  refine (BK ro 0 3 _).mono ?_;rintro e w5 ⟨rfl, rfl⟩;generalize decide (0 ≤ ro ∧ ro ≤ 3) = o1 at hR ⊢
  cases o1
  ·
   go_wp2
   go_ret
   exact ⟨by rw [hR.out]; rfl, ((Below.refl _ _).alloc (Nat.le_refl _) _)⟩
  cases q2 : ((ro == 0) == !up)
  ·
   go_wp2
   go_ret
   exact ⟨by rw [hR.out, q2]; rfl, ((Below.refl _ _).alloc (Nat.le_refl _) _)⟩
  go_wp2_with fail
  go_at_call 65
  refine (BK wa 0 4 _).mono ?_;rintro e w6 ⟨rfl, rfl⟩;generalize decide (0 ≤ wa ∧ wa ≤ 4) = o1 at hR ⊢
  cases o1
  ·
   go_wp2
   go_ret
   exact ⟨by rw [hR.out, q2]; rfl, ((Below.refl _ _).alloc (Nat.le_refl _) _)⟩
  go_wp2
  go_ret
  exact ⟨by rw [hR.out, q2]; rfl, ((Below.refl _ _).alloc (Nat.le_refl _) _)⟩
 clear hR hF hNo;cases up
 ·
  rw [show Ax ⟨false, true, r, c, b, p, h, l, ro, wa, op⟩ = false by rw [D8 _ _ rfl]; rfl];go_enter func91, ntmps91
  go_wp2
  go_ret
  exact ⟨rfl, (Below.refl _ _).alloc (Nat.le_refl _) _⟩
 obtain ⟨R, hR⟩ := AC (Ax ⟨true, true, r, c, b, p, h, l, ro, wa, op⟩);rw [← hR];replace hR : Hid (R = Ax ⟨true, true, r, c, b, p, h, l, ro, wa, op⟩) := hR;have hF : Hid (CN ⟨true, true, r, c, b, p, h, l, ro, wa, op⟩ = (Ad r c b p && (decide (0 ≤ h ∧ h ≤ 8) && decide (1 ≤ l ∧ l ≤ 3)))) := by simp [Hid, CN]
 obtain ⟨y, hy⟩ := AC (w.alloc (Obj.cells #[.bool true, .bool true, ji r, ji c, ji b, ji p, ji h, ji l, ji ro, ji wa, .bool op] 70));have P0 : Bv y w.heap.size ⟨true, true, r, c, b, p, h, l, ro, wa, op⟩ := by rw [hy]; exact ES w _ ⟨true, true, r, c, b, p, h, l, ro, wa, op⟩
 have B0 : Bw w y := by rw [hy]; exact (Below.refl _ _).alloc (Nat.le_refl _) _
 have S0 : w.heap.size < y.heap.size := P0.lt;go_enter func91, ntmps91
 go_wp2_with fail
 go_at_call 123
 rw [← hy];clear hy;refine (Gd r c b p y).mono ?_;rintro e w1 ⟨rfl, k1⟩;obtain ⟨p0, p1, p2, p3, p4, p5, p6, p7, p8, p9, p10⟩ := P0.below k1 S0;have B1 := AE B0 k1;clear P0 k1 B0;generalize Ad r c b p = ok at hF ⊢
 cases ok
 rotate_left;focus
  go_wp2_with fail
  go_at_call 65
  refine (BK h 0 8 _).mono ?_;rintro e w3 ⟨rfl, rfl⟩;generalize decide (0 ≤ h ∧ h ≤ 8) = ok at hF ⊢
  cases ok
 rotate_left;focus
  go_wp2_with fail
  go_at_call 65
  refine (BK l 1 3 _).mono ?_;rintro e w4 ⟨rfl, rfl⟩;generalize decide (1 ≤ l ∧ l ≤ 3) = ok at hF ⊢
  cases ok
 rotate_left;cases l1 : (ro == 1)
 ·
  cases l2 : (ro == 2)
  ·
   replace hR := hR.out.trans (D8 _ false (by dsimp only; rw [l1, l2]; rfl));dsimp only at hR;rw [hF.out] at hR;replace hR : Hid _ := hR;go_wp2_with fail
   go_at_call 65
   refine (BK ro 0 3 _).mono ?_;rintro e w5 ⟨rfl, rfl⟩;generalize decide (0 ≤ ro ∧ ro ≤ 3) = o1 at hR ⊢
   cases o1
   ·
    go_wp2
    go_ret
    exact ⟨by rw [hR.out]; rfl, B1⟩
   cases q2 : (ro == 0)
   rotate_left
   ·
    go_wp2
    go_ret
    exact ⟨by rw [hR.out, q2]; rfl, B1⟩
   go_wp2_with fail
   go_at_call 65
   refine (BK wa 0 4 _).mono ?_;rintro e w6 ⟨rfl, rfl⟩;generalize decide (0 ≤ wa ∧ wa ≤ 4) = o1 at hR ⊢
   cases o1
   ·
    go_wp2
    go_ret
    exact ⟨by rw [hR.out, q2]; rfl, B1⟩
   go_wp2
   go_ret
   exact ⟨by rw [hR.out, q2]; cases op <;> rfl, B1⟩
  replace hR := hR.out.trans (D8 _ true (by dsimp only; rw [l1, l2]; rfl));dsimp only at hR;rw [hF.out] at hR;replace hR : Hid _ := hR;go_wp2_with fail
  go_at_call 65
  refine (BK ro 0 3 _).mono ?_;rintro e w5 ⟨rfl, rfl⟩;generalize decide (0 ≤ ro ∧ ro ≤ 3) = o1 at hR ⊢
  cases o1
  ·
   go_wp2
   go_ret
   exact ⟨by rw [hR.out]; rfl, B1⟩
  cases q2 : (ro == 0)
  rotate_left
  ·
   go_wp2
   go_ret
   exact ⟨by rw [hR.out, q2]; rfl, B1⟩
  go_wp2_with fail
  go_at_call 65
  refine (BK wa 0 4 _).mono ?_;rintro e w6 ⟨rfl, rfl⟩;generalize decide (0 ≤ wa ∧ wa ≤ 4) = o1 at hR ⊢
  cases o1
  ·
   go_wp2
   go_ret
   exact ⟨by rw [hR.out, q2]; rfl, B1⟩
  go_wp2
  go_ret
  exact ⟨by rw [hR.out, q2]; rfl, B1⟩
 ·
  replace hR := hR.out.trans (D8 _ true (by dsimp only; rw [l1]; rfl));dsimp only at hR;rw [hF.out] at hR;replace hR : Hid _ := hR;go_wp2_with fail
  go_at_call 65
  refine (BK ro 0 3 _).mono ?_;rintro e w5 ⟨rfl, rfl⟩;generalize decide (0 ≤ ro ∧ ro ≤ 3) = o1 at hR ⊢
  cases o1
  ·
   go_wp2
   go_ret
   exact ⟨by rw [hR.out]; rfl, B1⟩
  cases q2 : (ro == 0)
  rotate_left
  ·
   go_wp2
   go_ret
   exact ⟨by rw [hR.out, q2]; rfl, B1⟩
  go_wp2_with fail
  go_at_call 65
  refine (BK wa 0 4 _).mono ?_;rintro e w6 ⟨rfl, rfl⟩;generalize decide (0 ≤ wa ∧ wa ≤ 4) = o1 at hR ⊢
  cases o1
  ·
   go_wp2
   go_ret
   exact ⟨by rw [hR.out, q2]; rfl, B1⟩
  go_wp2
  go_ret
  exact ⟨by rw [hR.out, q2]; rfl, B1⟩
 all_goals
  go_wp2
  go_ret
  exact ⟨by rw [hR.out, D8 _ _ rfl, hF.out]; rfl, B1⟩
end Go.Proofs.YtjmnaeeknomiaaaGreat
