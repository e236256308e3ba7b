import Derived.Test.YtnpiljegdiconaaGreatQKWMg3
import Derived.Test.YtnpiljegdiconaaGreatQM17
namespace Go.Proofs.YtnpiljegdiconaaGreat
open Go.ChangeShapes Go.WideShapes Go.ChangeAt Go.RowKit
open Go.ChangeMaps (open_string shut_string)
set_option linter.unusedVariables false
set_option maxRecDepth 100000
def fallB (m : Mi) : Bool := decide (m.up = false ∧ m.ep = 0 ∧ m.sd = 0 ∧ m.ac = 0 ∧ m.al = 0) && decide (m.lg.length = 0)
theorem eqMarks (m : Mi) (w : World) : (binOp .eql 163 (.agg #[.bool m.up, .int .i64 m.li, .int .i64 m.ep, .int .i64 m.sd, .int .i64 m.ac, .int .i64 m.al]) (.agg #[.bool false, .int .i64 m.li, .int .i64 0, .int .i64 0, .int .i64 0, .int .i64 0])).run Tryz.prog w = .ok (.bool (decide (m.up = false ∧ m.ep = 0 ∧ m.sd = 0 ∧ m.ac = 0 ∧ m.al = 0))) w := by
 go_simp
 all_goals ((repeat' split) <;> first | (simp_all; done) | grind)
set_option maxHeartbeats 4000000 in
theorem fallenI (m : Mi) (ad : Option Addr) (cap : Nat) (w : World) (hv : FView ikEnc w ad m.lg) (hl : m.lg.length ≤ 1048577) :
  Calls Tryz.prog 127 #[.agg #[.bool m.up, .int .i64 m.li, .int .i64 m.ep, .slice ad m.lg.length cap, .int .i64 m.sd, .int .i64 m.ac, .int .i64 m.al]] w fun e w' => e = .returned (.bool (fallB m)) ∧ Below w.heap.size w w' := by
 have hB := hv.lt ikEnc_len (by omega);have eM := eqMarks m;obtain ⟨R, hR⟩ := mk_ (fallB m);rw [← hR];replace hR : Hid _ := hR;obtain ⟨y, hy⟩ := mk_ (w.alloc (Obj.cells #[.bool m.up, .int .i64 m.li, .int .i64 m.ep, .slice ad m.lg.length cap, .int .i64 m.sd, .int .i64 m.ac, .int .i64 m.al] 28));have B0 : Below w.heap.size w y := by rw [hy]; exact below_new _
 have A : MiAt y w.heap.size m (.slice ad m.lg.length cap) := by rw [hy]; exact MiAt.new w _ _ _
 have S0 := A.lt;have hv1 := hv.below B0 hB;clear hv;go_enter Tryz.func127, Tryz.ntmps127
 go_upto_region 1 with fail
 rw [← hy];clear hy;refine wp_region_held (S := fun Y => Below y.heap.size y Y) (by kernel_rfl) ?_;change wpAnyH _ _ _ _ _ _ _ _ (World.drew _);have hb0 : Below y.heap.size y y.drew := (Below.refl _ _).drew;obtain ⟨u0, hy0⟩ := mk_ y.drew;rw [← hy0] at hb0 ⊢;clear hy0;refine tw 0 5 (.agg #[.bool m.up, .int .i64 m.li, .int .i64 m.ep, .slice ad m.lg.length cap, .int .i64 m.sd, .int .i64 m.ac, .int .i64 m.al]) ?_ (hy := by intro Y hSw; obtain ⟨X0, X1, X2, X3, X4, X5, X6⟩ := A.below hSw A.lt; go_simp);refine tw 2 7 (.agg #[.bool m.up, .int .i64 m.li, .int .i64 m.ep, .slice ad m.lg.length cap, .int .i64 m.sd, .int .i64 m.ac, .int .i64 m.al]) ?_ (hy := by intro Y hSw; obtain ⟨X0, X1, X2, X3, X4, X5, X6⟩ := A.below hSw A.lt; go_simp);refine w1 1 fun Kz hKz => ?_
 go_simp
 go_at_call 56
 refine (mindOf m ad cap u0 (hv1.below hb0 (hv1.lt ikEnc_len (by omega))) hl).mono ?_;rintro e u1 ⟨q1, a1, c1, rfl, M1, O1, lo1, lq1, kq⟩;have hb1 : Below y.heap.size y u1 := hb0.trans (kq.mono hb0.size);have su1 := kq.size;have sb0 := hb0.size;have sq1 := M1.lt;clear kq;refine hKz _ _ ⟨hb1, ?_⟩;clear hKz Kz;refine w1 3 fun Kz hKz => ?_
 go_simp
 go_at_call 56
 refine (mindOf m ad cap u1 (hv1.below hb1 (hv1.lt ikEnc_len (by omega))) hl).mono ?_;rintro e u2 ⟨q2, a2, c2, rfl, M2, O2, lo2, lq2, kq⟩;have hb2 : Below y.heap.size y u2 := hb1.trans (kq.mono hb1.size);have su2 := kq.size;have sb1 := hb1.size;have sq2 := M2.lt;have M1 := M1.below kq M1.lt;clear kq;refine hKz _ _ ⟨hb2, ?_⟩;clear hKz Kz;have hne1 : q1 ≠ q2 := by omega
 have hne2 : ∀ g, (Value.slice a2 m.lg.length c2).ownBlock = some g → g ≠ q1 := fun g e => by have := (O2.lt g e).1; omega
 have hne3 : ∀ g, (Value.slice a2 m.lg.length c2).ownBlock = some g → g ≠ q2 := fun g e => by have := lo2 g e; omega
 have hlo : y.heap.size ≤ q2 := by omega
 have hlo2 : ∀ g, (Value.slice a2 m.lg.length c2).ownBlock = some g → y.heap.size ≤ g := fun g e => by have := (O2.lt g e).1; omega
 clear lo2;refine tw 4 3 (.pointer (some ⟨q1, 0, none⟩)) ?_;refine tw 5 4 (.pointer (some ⟨q2, 0, none⟩)) ?_;refine wpAnyH_done (by kernel_rfl) ?_ _;clear lo1 O1 hv1 A;go_wp2_with fail
 go_at_call 175
 refine (fallI m q2 _ a2 c2 u2 M2 O2 hne3).mono ?_;rintro e v ⟨rfl, N2, T⟩;have M1 := M1.keep (T.block q1 M1.lt hne1 (fun e => hne2 q1 e rfl));have hbv : Below y.heap.size y v := hb2.trans (T.below hb2.size hlo hlo2);clear T M2 O2 hb2 hb1 hb0 hne2 hne3 hlo2;go_upto_region 3 with fail
 cases hF : decide (m.up = false ∧ m.ep = 0 ∧ m.sd = 0 ∧ m.ac = 0 ∧ m.al = 0)
 ·
  rw [hF] at eM;replace hF : Hid _ := hF;refine wp_region_held (S := fun Y => Below v.heap.size v Y) (by kernel_rfl) ?_;change wpAnyH _ _ _ _ _ _ _ _ (World.drew _);have hb0 : Below v.heap.size v v.drew := (Below.refl _ _).drew;obtain ⟨u0, hy0⟩ := mk_ v.drew;rw [← hy0] at hb0 ⊢;clear hy0;refine tw 0 11 (.pointer (some ⟨q1, 0, none⟩)) ?_;refine tw 1 12 (.pointer (some ⟨q1, 0, none⟩)) ?_;refine tw 2 13 (.pointer (some ⟨q1, 1, none⟩)) ?_;refine tw 3 14 (.agg #[.bool m.up, .int .i64 m.li, .int .i64 m.ep, .int .i64 m.sd, .int .i64 m.ac, .int .i64 m.al]) ?_ (hy := by intro Y hSw; obtain ⟨X0, X1, X2, X3, X4, X5, X6, XF⟩ := M1.below hSw M1.lt; go_simp);refine tw 4 15 (.pointer (some ⟨q2, 0, none⟩)) ?_;refine tw 5 16 (.pointer (some ⟨q2, 0, none⟩)) ?_;refine tw 6 17 (.pointer (some ⟨q2, 1, none⟩)) ?_;refine tw 7 18 (.agg #[.bool false, .int .i64 m.li, .int .i64 0, .int .i64 0, .int .i64 0, .int .i64 0]) ?_ (hy := by intro Y hSw; obtain ⟨X0, X1, X2, X3, X4, X5, X6, XF⟩ := N2.below hSw N2.lt; go_simp);refine tw 8 19 (.bool false) ?_;refine tw 9 20 (.bool false) ?_;refine ts 10 21 ?_;refine ts 11 22 ?_;refine ts 12 23 ?_;refine ts 13 24 ?_;refine ts 14 25 ?_;refine ts 15 26 ?_;refine ts 16 27 ?_;refine ts 17 28 ?_;refine ts 18 29 ?_;refine tw 19 30 (.bool false) ?_;refine tw 20 2 (.bool false) ?_;refine wpAnyH_done (by kernel_rfl) ?_ _;have hN : Hid (R = false) := by unfold Hid; rw [hR.out]; unfold fallB; rw [hF.out]; rfl
  go_wp2
  go_ret
  exact ⟨by rw [hN.out]; rfl, B0.trans ((hbv.trans (hb0.mono hbv.size)).mono B0.size)⟩
 rw [hF] at eM;replace hF : Hid _ := hF;cases hG : decide (m.lg.length = 0)
 ·
  have dG : ((m.lg.length : Int) == 0) = false := by rw [beq_eq_false_iff_ne]; have := of_decide_eq_false hG; omega
  replace hG : Hid _ := hG;refine wp_region_held (S := fun Y => Below v.heap.size v Y) (by kernel_rfl) ?_;change wpAnyH _ _ _ _ _ _ _ _ (World.drew _);have hb0 : Below v.heap.size v v.drew := (Below.refl _ _).drew;obtain ⟨u0, hy0⟩ := mk_ v.drew;rw [← hy0] at hb0 ⊢;clear hy0;refine tw 0 11 (.pointer (some ⟨q1, 0, none⟩)) ?_;refine tw 1 12 (.pointer (some ⟨q1, 0, none⟩)) ?_;refine tw 2 13 (.pointer (some ⟨q1, 1, none⟩)) ?_;refine tw 3 14 (.agg #[.bool m.up, .int .i64 m.li, .int .i64 m.ep, .int .i64 m.sd, .int .i64 m.ac, .int .i64 m.al]) ?_ (hy := by intro Y hSw; obtain ⟨X0, X1, X2, X3, X4, X5, X6, XF⟩ := M1.below hSw M1.lt; go_simp);refine tw 4 15 (.pointer (some ⟨q2, 0, none⟩)) ?_;refine tw 5 16 (.pointer (some ⟨q2, 0, none⟩)) ?_;refine tw 6 17 (.pointer (some ⟨q2, 1, none⟩)) ?_;refine tw 7 18 (.agg #[.bool false, .int .i64 m.li, .int .i64 0, .int .i64 0, .int .i64 0, .int .i64 0]) ?_ (hy := by intro Y hSw; obtain ⟨X0, X1, X2, X3, X4, X5, X6, XF⟩ := N2.below hSw N2.lt; go_simp);refine tw 8 19 (.bool true) ?_;refine tw 9 20 (.bool true) ?_;refine tw 10 21 (.pointer (some ⟨q1, 0, none⟩)) ?_;refine tw 11 22 (.pointer (some ⟨q1, 0, none⟩)) ?_;refine tw 12 23 (.pointer (some ⟨q1, 0, none⟩)) ?_;refine tw 14 25 (.pointer (some ⟨q2, 0, none⟩)) ?_;refine tw 15 26 (.pointer (some ⟨q2, 0, none⟩)) ?_;refine tw 16 27 (.pointer (some ⟨q2, 0, none⟩)) ?_;refine w1 13 fun Kz hKz => ?_
  go_simp
  go_at_call 172
  refine (countI q1 m.lg.length a1 c1 u0 (M1.below hb0 M1.lt).c0).mono ?_;rintro e u1 ⟨rfl, kq⟩;have hb1 : Below v.heap.size v u1 := by rw [kq]; exact hb0
  clear kq;refine hKz _ _ ⟨hb1, ?_⟩;clear hKz Kz;refine w1 17 fun Kz hKz => ?_
  go_simp
  go_at_call 172
  refine (countI q2 0 a2 c2 u1 (N2.below hb1 N2.lt).c0).mono ?_;rintro e u2 ⟨rfl, kq⟩;have hb2 : Below v.heap.size v u2 := by rw [kq]; exact hb1
  clear kq;refine hKz _ _ ⟨hb2, ?_⟩;clear hKz Kz;refine tw 18 29 (.bool false) ?_;refine tw 19 30 (.bool false) ?_;refine tw 20 2 (.bool false) ?_;refine wpAnyH_done (by kernel_rfl) ?_ _;have hN : Hid (R = false) := by unfold Hid; rw [hR.out]; unfold fallB; rw [hF.out, hG.out]; rfl
  go_wp2
  go_ret
  exact ⟨by rw [hN.out]; rfl, B0.trans ((hbv.trans (hb2.mono hbv.size)).mono B0.size)⟩
 have dG : ((m.lg.length : Int) == 0) = true := by rw [beq_iff_eq]; have := of_decide_eq_true hG; omega
 replace hG : Hid _ := hG;refine wp_region_held (S := fun Y => Below v.heap.size v Y) (by kernel_rfl) ?_;change wpAnyH _ _ _ _ _ _ _ _ (World.drew _);have hb0 : Below v.heap.size v v.drew := (Below.refl _ _).drew;obtain ⟨u0, hy0⟩ := mk_ v.drew;rw [← hy0] at hb0 ⊢;clear hy0;refine tw 0 11 (.pointer (some ⟨q1, 0, none⟩)) ?_;refine tw 1 12 (.pointer (some ⟨q1, 0, none⟩)) ?_;refine tw 2 13 (.pointer (some ⟨q1, 1, none⟩)) ?_;refine tw 3 14 (.agg #[.bool m.up, .int .i64 m.li, .int .i64 m.ep, .int .i64 m.sd, .int .i64 m.ac, .int .i64 m.al]) ?_ (hy := by intro Y hSw; obtain ⟨X0, X1, X2, X3, X4, X5, X6, XF⟩ := M1.below hSw M1.lt; go_simp);refine tw 4 15 (.pointer (some ⟨q2, 0, none⟩)) ?_;refine tw 5 16 (.pointer (some ⟨q2, 0, none⟩)) ?_;refine tw 6 17 (.pointer (some ⟨q2, 1, none⟩)) ?_;refine tw 7 18 (.agg #[.bool false, .int .i64 m.li, .int .i64 0, .int .i64 0, .int .i64 0, .int .i64 0]) ?_ (hy := by intro Y hSw; obtain ⟨X0, X1, X2, X3, X4, X5, X6, XF⟩ := N2.below hSw N2.lt; go_simp);refine tw 8 19 (.bool true) ?_;refine tw 9 20 (.bool true) ?_;refine tw 10 21 (.pointer (some ⟨q1, 0, none⟩)) ?_;refine tw 11 22 (.pointer (some ⟨q1, 0, none⟩)) ?_;refine tw 12 23 (.pointer (some ⟨q1, 0, none⟩)) ?_;refine tw 14 25 (.pointer (some ⟨q2, 0, none⟩)) ?_;refine tw 15 26 (.pointer (some ⟨q2, 0, none⟩)) ?_;refine tw 16 27 (.pointer (some ⟨q2, 0, none⟩)) ?_;refine w1 13 fun Kz hKz => ?_
 go_simp
 go_at_call 172
 refine (countI q1 m.lg.length a1 c1 u0 (M1.below hb0 M1.lt).c0).mono ?_;rintro e u1 ⟨rfl, kq⟩;have hb1 : Below v.heap.size v u1 := by rw [kq]; exact hb0
 clear kq;refine hKz _ _ ⟨hb1, ?_⟩;clear hKz Kz;refine w1 17 fun Kz hKz => ?_
 go_simp
 go_at_call 172
 refine (countI q2 0 a2 c2 u1 (N2.below hb1 N2.lt).c0).mono ?_;rintro e u2 ⟨rfl, kq⟩;have hb2 : Below v.heap.size v u2 := by rw [kq]; exact hb1
 clear kq;refine hKz _ _ ⟨hb2, ?_⟩;clear hKz Kz;refine tw 18 29 (.bool true) ?_;refine tw 19 30 (.bool true) ?_;refine tw 20 2 (.bool true) ?_;refine wpAnyH_done (by kernel_rfl) ?_ _;have hN : Hid (R = true) := by unfold Hid; rw [hR.out]; unfold fallB; rw [hF.out, hG.out]; rfl
 go_wp2
 go_ret
 exact ⟨by rw [hN.out]; rfl, B0.trans ((hbv.trans (hb2.mono hbv.size)).mono B0.size)⟩
theorem miOk_is (m : Mi) : miOk m = (fitsM m && (m.up || fallB m)) := by
 obtain ⟨up, li, ep, L, sd, ac, al⟩ := m;unfold miOk fitsM fallB insB;dsimp only
 rw [Bool.eq_iff_iff];cases up
 ·
  simp only [Bool.and_eq_true, Bool.or_eq_true, decide_eq_true_eq];constructor
  ·
   rintro ⟨h1, h2, h3, ⟨h4, h5⟩, h6, h7, h8⟩;rcases h8 with h8 | ⟨h8, h9, h10⟩
   ·
    cases h8
   exact ⟨⟨h1, h2, h3, by omega, h4, h6, h7⟩, .inr ⟨⟨trivial, h8, by omega, by omega, h10⟩, h9⟩⟩
  rintro ⟨⟨h1, h2, h3, h4, h5, h6, h7⟩, h8⟩;rcases h8 with h8 | ⟨⟨_, h8, h9, h10, h11⟩, h12⟩
  ·
   cases h8
  exact ⟨h1, h2, h3, ⟨h5, by omega⟩, h6, h7, .inr ⟨h8, h12, h11⟩⟩
 simp only [Bool.and_eq_true, Bool.true_or, Bool.and_true, decide_eq_true_eq];constructor
 ·
  rintro ⟨h1, h2, h3, ⟨h4, h5⟩, h6, h7⟩;exact ⟨h1, h2, h3, by omega, h4, h6, h7⟩
 rintro ⟨h1, h2, h3, h4, h5, h6, h7⟩;exact ⟨h1, h2, h3, ⟨h5, by omega⟩, h6, h7⟩
set_option maxHeartbeats 2000000 in
theorem miOkI (m : Mi) (ad : Option Addr) (cap : Nat) (w : World) (hv : FView ikEnc w ad m.lg) (hl : m.lg.length ≤ 1048577) :
  Calls Tryz.prog 57 #[.agg #[.bool m.up, .int .i64 m.li, .int .i64 m.ep, .slice ad m.lg.length cap, .int .i64 m.sd, .int .i64 m.ac, .int .i64 m.al]] w fun e w' => e = .returned (.bool (miOk m)) ∧ Below w.heap.size w w' := by
 have hB := hv.lt ikEnc_len (by omega);obtain ⟨R, hR⟩ := mk_ (miOk m);rw [← hR];rw [miOk_is] at hR;replace hR : Hid _ := hR;obtain ⟨y, hy⟩ := mk_ (w.alloc (Obj.cells #[.bool m.up, .int .i64 m.li, .int .i64 m.ep, .slice ad m.lg.length cap, .int .i64 m.sd, .int .i64 m.ac, .int .i64 m.al] 28));have B0 : Below w.heap.size w y := by rw [hy]; exact below_new _
 have A : MiAt y w.heap.size m (.slice ad m.lg.length cap) := by rw [hy]; exact MiAt.new w _ _ _
 have S0 := A.lt;have hv1 := hv.below B0 hB;clear hv;go_enter Tryz.func57, Tryz.ntmps57
 go_wp2_with fail
 go_at_call 56
 rw [← hy];clear hy;refine (mindOf m ad cap y hv1 hl).mono ?_;rintro e u1 ⟨q, a1, c1, rfl, M1, O1, _, _, k1⟩;have hb1 := B0.trans (k1.mono B0.size);have A := A.below k1 A.lt;have hv1 := hv1.below k1 (hv1.lt ikEnc_len (by omega));clear k1;go_wp2_with fail
 go_at_call 126
 refine (fitsI m q a1 c1 u1 M1 O1.view.2 hl).mono ?_;rintro e u2 ⟨rfl, k2⟩;have hb2 := hb1.trans (k2.mono hb1.size);have A := A.below k2 A.lt;have hv1 := hv1.below k2 (hv1.lt ikEnc_len (by omega));clear k2 hb1 M1 O1;cases hF : fitsM m
 ·
  have hN : Hid (R = false) := by unfold Hid; rw [hR.out, hF]; rfl
  clear hF;go_wp2
  go_ret
  exact ⟨by rw [hN.out]; rfl, hb2⟩
 cases hU : m.up
 ·
  have hN : Hid (R = fallB m) := by unfold Hid; rw [hR.out, hF, hU]; rfl
  clear hF;obtain ⟨x0, x1, x2, x3, x4, x5, x6⟩ := id A;rw [hU] at x0;go_wp2_with fail
  go_at_call 127
  clear x0 x1 x2 x3 x4 x5 x6;rw [← hU];refine (fallenI m ad cap u2 hv1 hl).mono ?_;rintro e u3 ⟨rfl, k3⟩;have hb3 := hb2.trans (k3.mono hb2.size);rw [← hN.out];go_wp2
  go_ret
  exact ⟨rfl, hb3⟩
 have hN : Hid (R = true) := by unfold Hid; rw [hR.out, hF, hU]; rfl
 clear hF;obtain ⟨x0, x1, x2, x3, x4, x5, x6⟩ := A;rw [hU] at x0;go_wp2
 go_ret
 exact ⟨by rw [hN.out]; rfl, hb2⟩
end Go.Proofs.YtnpiljegdiconaaGreat
