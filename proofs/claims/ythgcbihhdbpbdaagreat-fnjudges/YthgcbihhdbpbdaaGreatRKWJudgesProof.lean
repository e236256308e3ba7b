/- FnJudges: what is judged of any drawn box is judged as the chapter says, and all is its parts; at every code, no condition; a code longer than 1048576 is answered true at once. -/
import Derived.Test.YthgcbihhdbpbdaaGreatRM25
import Derived.Test.YthgcbihhdbpbdaaGreatRM26
import Derived.Test.YthgcbihhdbpbdaaGreatRM28
namespace Go.Proofs.YthgcbihhdbpbdaaGreat.fnJudges
open Go.ChangeShapes Go.WideShapes Go.ChangeAt Go.RowKit
set_option linter.unusedVariables false
attribute [local go_sem] ji ja bc
theorem own : ownKnob Tryz.prog.godebug = none := by kernel_rfl
theorem laidOut : laidOutB Tryz.prog = true := by kernel_rfl
set_option maxHeartbeats 32000000 in
set_option maxRecDepth 100000 in
theorem walk (ad0 : Option Addr) (len0 cap0 : Nat) (f0 : Nat → Int) (w : World) (I0 : IJ w ad0 len0 f0) :
  Calls Tryz.prog 4 #[.slice ad0 len0 cap0] w fun e w' => e = .returned (.bool true) ∧ Bw w w' := by
 obtain ⟨lm, hv, hB, hf⟩ := I0;by_cases hbig : 1048576 < len0
 ·
  have hbig' : (1048576 : Int) < (len0 : Int) := by omega
  go_enter Tryz.func4, Tryz.ntmps4
  go_wp2_with fail
  go_at_call 5
  refine (Ke ad0 len0 cap0 w hbig').mono ?_;rintro e w1 ⟨rfl, h1⟩;rw [h1];clear h1 w1 hbig;go_wp2
  go_ret
  exact ⟨rfl, Below.refl _ _⟩
 have hC : FY w ad0 len0 f0 := ⟨hv, hB, by omega, hf⟩;go_enter Tryz.func4, Tryz.ntmps4
 go_wp2_with fail
 go_at_call 5
 refine (LX ad0 len0 cap0 w (by omega)).mono ?_;rintro e w1 ⟨rfl, h1⟩;rw [h1];clear h1 w1 hbig hv hB hf lm;have BW : Bw w w := Below.refl _ _;have sw := BW.size;go_wp2_with fail
 go_at_call 26
 refine (KP ad0 len0 cap0 f0 w (hC.later BW (Nat.le_refl _))).mono ?_;rintro e wd1 ⟨x, rfl, hb, O, kq⟩;have swd1 := kq.size;have BW := AA BW kq;clear kq;have J : Ct wd1 x := ⟨O.view (by have := hb.t; omega) (fun i hi => by have := hb.l i (by have := hb.t; omega); omega) (by have := hb.n; omega) (by have := hb.g; omega) (by have := hb.i; omega) (by have := hb.s; omega), fun i hi => (O.l i hi).capM⟩;clear O hb;obtain ⟨wd2, hwd2, kq⟩ := AI wd1 (Obj.cells (bc x) 34);have A : AZ wd2 wd1.heap.size x := by rw [hwd2]; exact AZ.new wd1 _ _
 have lwd2 := A.lt;have swd2 := kq.size;have J := J.later kq;have BW := AA BW kq;clear kq;go_upto_region 4 with fail
 rw [← hwd2];clear hwd2;refine AR (fun Y => Bw wd2 Y) fun u0 hb0 => ?_
 refine tw 0 11 (.agg (bc x)) ?_ (hy := by intro Y hSw; have X := (A.below hSw A.lt).all; go_simp);refine tw 2 13 (.agg (bc x)) ?_ (hy := by intro Y hSw; have X := (A.below hSw A.lt).all; go_simp);refine tw 4 15 (.agg (bc x)) ?_ (hy := by intro Y hSw; have X := (A.below hSw A.lt).all; go_simp);refine w1 1 fun Kz hKz => ?_
 go_simp
 go_at_call 27
 refine (Jj x u0 (J.later hb0)).mono ?_;rintro e u1 ⟨⟨a, rfl, ha⟩, kq⟩;have hb1 := AA hb0 kq;clear kq;refine hKz _ _ ⟨hb1, ?_⟩;clear hKz Kz;refine w1 3 fun Kz hKz => ?_
 go_simp
 go_at_call 28
 refine (KF x u1 (J.later hb1)).mono ?_;rintro e u2 ⟨⟨b, rfl, hb_⟩, kq⟩;have hb2 := AA hb1 kq;clear kq;refine hKz _ _ ⟨hb2, ?_⟩;clear hKz Kz;refine w1 5 fun Kz hKz => ?_
 go_simp
 go_at_call 29
 refine (KH x u2 (J.later hb2)).mono ?_;rintro e u3 ⟨⟨c, rfl, hc⟩, kq⟩;have hb3 := AA hb2 kq;clear kq;refine hKz _ _ ⟨hb3, ?_⟩;clear hKz Kz;refine tw 6 4 (.bool a) ?_;refine tw 7 5 (.bool b) ?_;refine tw 8 6 (.bool c) ?_;refine AM ?_;have su3 := hb3.size;have J := J.later hb3;have A := A.below hb3 A.lt;have BW := AA BW hb3;clear hb3;clear hb0 hb1 hb2;replace ha : Hid _ := ha;replace hb_ : Hid _ := hb_;replace hc : Hid _ := hc;go_upto_region 5 with fail
 refine AR (fun Y => Bw u3 Y) fun v0_ hb0 => ?_
 refine tw 0 17 (.bool a) ?_;refine tw 1 18 (.agg (bc x)) ?_ (hy := by intro Y hSw; have X := (A.below hSw A.lt).all; go_simp);refine w1 2 fun Kz hKz => ?_
 go_simp
 go_at_call 30
 refine (Ji x v0_ (J.later hb0)).mono ?_;rintro e v1_ ⟨⟨r_, rfl, h_⟩, kq⟩;have hb1 := AA hb0 kq;clear kq;obtain rfl : a = r_ := (Bool.eq_iff_iff.2 (h_.trans ha.out.symm)).symm;clear h_;refine hKz _ _ ⟨hb1, ?_⟩;clear hKz Kz;refine tw 3 20 (.bool false) ?_;refine tw 4 21 (.bool false) ?_;refine tw 5 22 (.bool b) ?_;refine tw 6 23 (.agg (bc x)) ?_ (hy := by intro Y hSw; have X := (A.below hSw A.lt).all; go_simp);refine w1 7 fun Kz hKz => ?_
 go_simp
 go_at_call 31
 refine (KE x v1_ (J.later hb1)).mono ?_;rintro e v2_ ⟨⟨r_, rfl, h_⟩, kq⟩;have hb2 := AA hb1 kq;clear kq;obtain rfl : b = r_ := (Bool.eq_iff_iff.2 (h_.trans hb_.out.symm)).symm;clear h_;refine hKz _ _ ⟨hb2, ?_⟩;clear hKz Kz;refine tw 8 25 (.bool false) ?_;refine tw 9 26 (.bool false) ?_;refine tw 10 27 (.bool false) ?_;refine tw 11 28 (.bool c) ?_;refine tw 12 29 (.agg (bc x)) ?_ (hy := by intro Y hSw; have X := (A.below hSw A.lt).all; go_simp);refine w1 13 fun Kz hKz => ?_
 go_simp
 go_at_call 32
 refine (KG x v2_ (J.later hb2)).mono ?_;rintro e v3_ ⟨⟨r_, rfl, h_⟩, kq⟩;have hb3 := AA hb2 kq;clear kq;obtain rfl : c = r_ := (Bool.eq_iff_iff.2 (h_.trans hc.out.symm)).symm;clear h_;refine hKz _ _ ⟨hb3, ?_⟩;clear hKz Kz;refine tw 14 31 (.bool false) ?_;refine tw 15 32 (.bool false) ?_;refine tw 16 33 (.bool false) ?_;refine tw 17 34 (.agg (bc x)) ?_ (hy := by intro Y hSw; have X := (A.below hSw A.lt).all; go_simp);refine tw 19 36 (.agg (bc x)) ?_ (hy := by intro Y hSw; have X := (A.below hSw A.lt).all; go_simp);refine w1 18 fun Kz hKz => ?_
 go_simp
 go_at_call 25
 refine (Jk x v3_ (J.later hb3)).mono ?_;rintro e v4_ ⟨⟨d_, rfl, hd_⟩, kq⟩;have hb4 := AA hb3 kq;clear kq;replace hd_ : Hid _ := hd_;refine hKz _ _ ⟨hb4, ?_⟩;clear hKz Kz;refine w1 20 fun Kz hKz => ?_
 go_simp
 go_at_call 33
 refine (IN x v4_ (J.later hb4)).mono ?_;rintro e v5_ ⟨⟨r_, rfl, h_⟩, kq⟩;have hb5 := AA hb4 kq;clear kq;obtain rfl : r_ = d_ := Bool.eq_iff_iff.2 (h_.trans hd_.out.symm);clear h_ hd_;refine hKz _ _ ⟨hb5, ?_⟩;clear hKz Kz;refine tw 21 38 (.bool false) ?_;refine tw 22 39 (.bool false) ?_;refine AM ?_;have sv5_ := hb5.size;have J := J.later hb5;have A := A.below hb5 A.lt;have BW := AA BW hb5;clear hb5;clear hb0 hb1 hb2 hb3 hb4;obtain ⟨m0_0, m0_1, m0_2, m0_3, m0_4, m0_5, m0_6, m0_7, m0_8, m0_9⟩ := id A;go_wp2_with fail
 go_at_call 23
 clear m0_0 m0_1 m0_2 m0_3 m0_4 m0_5 m0_6 m0_7 m0_8 m0_9;refine (LC x v5_ J).mono ?_;rintro e wd3 ⟨⟨r, rfl, hr⟩, kq⟩;have swd3 := kq.size;have J := J.later kq;have A := A.below kq A.lt;have BW := AA BW kq;clear kq;have hrr : r = (a && b && c) := by
  rw [Bool.eq_iff_iff, hr];simp only [Bool.and_eq_true];rw [ha.out, hb_.out, hc.out];exact ⟨fun ⟨h0, h1, h2, h3, h4⟩ => ⟨⟨⟨h0, h1⟩, h0, h2⟩, h0, h3, h4⟩, fun ⟨⟨⟨h0, h1⟩, _, h2⟩, _, h3, h4⟩ => ⟨h0, h1, h2, h3, h4⟩⟩
 clear hr hb_ hc;subst hrr;cases a
 ·
  clear ha;go_wp2
  go_ret
  exact ⟨rfl, BW⟩
 have hbx : AX x.p = true := (ha.out.1 rfl).1;clear ha;replace hbx : Hid _ := hbx;have m0 := A.all;cases b <;> cases c
 all_goals
  go_wp2_with fail
  go_at_call 16
  refine (II x _ J.v).mono ?_;rintro e z_ ⟨rfl, kq⟩;rw [hbx.out];have BW := AA BW kq;go_wp2
  go_ret
  exact ⟨rfl, BW⟩
set_option maxRecDepth 100000 in
theorem lifted (os : Os) (started : os.Started) (H : Type) (enc : TypeId × Value → H) :
  ReturnsInHanded {} Tryz.checked os 4 .any (Rows.fnJudgesSpec.pre6 enc Tryz.prog Tryz.f4 Rows.fnJudgesRow.domain false) (Rows.fnJudgesSpec.post enc Tryz.prog Tryz.f4 false true false false) := by
 refine returnsInHanded_of_change (C := Tryz.checked) own started (by kernel_rfl) Tryz.func4
  (ChangeSpec.witness6 (enc := enc) (C := Tryz.checked) false ⟨#[], #[.slice none 0 0], []⟩ 8 (by kernel_rfl) (by kernel_rfl) (by kernel_rfl) (by kernel_rfl)) ?_
 intro W base args ds gs before hval0 hW hcnd _;have hval : ∀ (j : Nat) t v, Tryz.f4.params[j]? = some t → args[j]? = some v → Value.okWide Tryz.prog W .any base t v := hval0;have hW' := hW;obtain ⟨p, q, hA0, hV, rfl, hfz, hnd⟩ := hW;have hA : DataW.TrodAll enc Tryz.prog W 0 (fun _ => true) true Tryz.f4.params.toList args.toList ds p := hA0;rw [Tryz.params4] at hA hval;obtain ⟨v0, vs0, d0, ds0, p0, q0, hargs, rfl, rfl, h0, r0⟩ := trodAll_cons hA;obtain ⟨rfl, rfl, rfl⟩ := trodAll_nil r0;obtain rfl : args = #[v0] := by cases args; simp_all
 obtain ⟨rfl, rfl⟩ := trodVars_none hV;obtain ⟨ad0, len0, cap0, f0, rfl, I0⟩ := Ij (hval 0 22 v0 rfl rfl) h0;have lt0 : ∀ x ∈ p0, x.block < W.heap.size := by obtain ⟨m, hm⟩ := h0; exact DataW.trod_lt m _ _ _ hm
 clear hA0 hval0;refine (walk ad0 len0 cap0 f0 W I0).mono fun e W' ⟨he, bel⟩ => ?_
 subst he;exact ⟨_, rfl, _, _, _, [], _, [], hW', trodAll_mk1 (shut_bool Tryz.underlying4 _), (trodAll_cons_mk (Below.trod laidOut (by kernel_rfl) (of_decide_eq_true (by kernel_rfl)) h0 bel lt0) trodAll_mk0), rfl, bel.frame _, fun h => by cases h⟩
theorem over : Rows.fnJudgesRow.holds Tryz.pinned (OpenSpec.ofChange Rows.fnJudgesSpec) :=
 OpenClaim.holds_of_wide 4 Tryz.f4 rfl rfl rfl rfl rfl rfl rfl ⟨rfl, rfl, rfl, rfl, rfl⟩ rfl rfl rfl rfl rfl (by kernel_rfl) Tryz.func4 (by kernel_rfl)
  (of_decide_eq_true (by kernel_rfl)) (by unfold Func.isWrapper; first | (rw [if_pos (by decide +kernel)]; kernel_rfl) | (rw [if_neg (by decide +kernel)]; exact ⟨rfl, rfl⟩))
  (fun os started H enc _ => lifted os started H enc)
theorem proved : Rows.FnJudgesSaid := over
end Go.Proofs.YthgcbihhdbpbdaaGreat.fnJudges
namespace Go.Proofs.YthgcbihhdbpbdaaGreat
theorem judges_holds : Rows.FnJudgesSaid := fnJudges.proved
#print axioms judges_holds
end Go.Proofs.YthgcbihhdbpbdaaGreat
