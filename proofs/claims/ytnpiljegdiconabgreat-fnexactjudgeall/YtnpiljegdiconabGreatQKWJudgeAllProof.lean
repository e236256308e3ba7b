/- FnExactJudgeAll: at every box the program's JudgeAll answers as the specification's, and the box stays as it was; no condition. -/
import Derived.Test.YtnpiljegdiconabGreatQM13
import Derived.Test.YtnpiljegdiconabGreatQM24
namespace Go.Proofs.YtnpiljegdiconabGreat.fnExactJudgeAll
open Go.ChangeShapes Go.WideShapes Go.ChangeAt Go.RowKit
set_option linter.unusedVariables false
theorem own : ownKnob Tryz.prog.godebug = none := by kernel_rfl
theorem laidOut : laidOutB Tryz.prog = true := by kernel_rfl
set_option maxHeartbeats 8000000 in
set_option maxRecDepth 100000 in
theorem walk (x0 : BxD) (w : World) (I0 : BxIn w x0) :
  Calls Tryz.prog 4 #[.agg #[.int .i64 x0.id, .int .i64 x0.po, .int .i64 x0.rg.ep, .int .i64 x0.rg.ow, .int .i64 x0.rg.pa, .slice x0.aT x0.two.length x0.cT, .slice x0.aN x0.net.length x0.cN, .slice x0.aG x0.ga.length x0.cG, .slice x0.aL x0.ln.length x0.cL, .slice x0.aS x0.sd.length x0.cS]] w fun e w' => e = .returned (.bool true) ∧ Below w.heap.size w w' := by
 obtain ⟨y0, hx⟩ := mk_ (w.alloc (Obj.cells #[.int .i64 x0.id, .int .i64 x0.po, .int .i64 x0.rg.ep, .int .i64 x0.rg.ow, .int .i64 x0.rg.pa, .slice x0.aT x0.two.length x0.cT, .slice x0.aN x0.net.length x0.cN, .slice x0.aG x0.ga.length x0.cG, .slice x0.aL x0.ln.length x0.cL, .slice x0.aS x0.sd.length x0.cS] 30))
 have A0 : BxAt y0 w.heap.size x0 := by rw [hx]; exact BxAt.new w _ _
 have BW : Below w.heap.size w y0 := by rw [hx]; exact below_new _
 have I := I0.below BW
 clear I0
 go_enter Tryz.func4, Tryz.ntmps4
 have cc := A0
 obtain ⟨m0, m1, m2, m3, m4, m5, m6, m7, m8, m9⟩ := cc
 go_wp2_with fail
 go_at_call 5
 rw [← hx]
 clear hx m0 m1 m2 m3 m4 m5 m6 m7 m8 m9
 refine (bxSz x0 y0 I).mono ?_
 rintro e y1 ⟨lf, rfl, hc, kq⟩
 have sy1 := kq.size
 have A0 := A0.below kq A0.lt
 have I := I.below kq
 have BW := BW.trans (kq.mono BW.size)
 clear kq
 rcases hc with hc | ⟨hlf, hlf1, K⟩
 ·
  have hd : decide (lf < 0) = true := decide_eq_true hc
  go_wp2
  go_ret
  exact ⟨rfl, BW⟩
 have hd : decide (lf < 0) = false := decide_eq_false (by omega)
 have hlf' : ¬ lf < 0 := by omega
 obtain ⟨Q0, hQ0⟩ : ∃ Q : Prop, Q = (bxOk x0.p = true ∧ gatesJ x0.p ∧ saidJ x0.p ∧ ownJ x0.p ∧ hasJ x0.p) := ⟨_, rfl⟩
 replace hQ0 : Hid _ := hQ0
 have cc := A0
 obtain ⟨m0_0, m0_1, m0_2, m0_3, m0_4, m0_5, m0_6, m0_7, m0_8, m0_9⟩ := cc
 go_wp2_with fail
 go_at_call 7
 clear m0_0 m0_1 m0_2 m0_3 m0_4 m0_5 m0_6 m0_7 m0_8 m0_9
 refine (bxTo x0 y1 I K).mono ?_
 rintro e wd1 ⟨z1, rfl, pz1, Mz1, kq⟩
 have swd1 := kq.size
 have A0 := A0.below kq A0.lt
 have I := I.below kq
 have BW := BW.trans (kq.mono BW.size)
 clear kq
 have Kz1 := K.of pz1
 have Jz1 := Mz1.in_ Kz1
 replace pz1 : Hid _ := pz1
 obtain ⟨hz1, ehz1⟩ := mk_ wd1.heap.size
 rw [← ehz1] at Mz1
 have ehz1 := Nat.le_of_eq ehz1
 go_wp2_with fail
 go_at_call 10
 refine (jAllS z1 wd1 ⟨Jz1.v Kz1, fun i hi => (Mz1.t.nest i hi).capM⟩).mono ?_
 rintro e wd2 ⟨⟨r1, rfl, h1⟩, kq⟩
 have swd2 := kq.size
 have A0 := A0.below kq A0.lt
 have I := I.below kq
 have Mz1 := Mz1.below kq (by omega)
 have Jz1 := Jz1.below kq
 have BW := BW.trans (kq.mono BW.size)
 clear kq
 rw [pz1.out, ← hQ0.out] at h1
 replace h1 : Hid _ := h1
 clear Mz1 Jz1 Kz1 pz1
 have cc := A0
 obtain ⟨m0_0, m0_1, m0_2, m0_3, m0_4, m0_5, m0_6, m0_7, m0_8, m0_9⟩ := cc
 go_wp2_with fail
 go_at_call 7
 clear m0_0 m0_1 m0_2 m0_3 m0_4 m0_5 m0_6 m0_7 m0_8 m0_9
 refine (bxTo x0 wd2 I K).mono ?_
 rintro e wd3 ⟨z2, rfl, pz2, Mz2, kq⟩
 have swd3 := kq.size
 have A0 := A0.below kq A0.lt
 have I := I.below kq
 have BW := BW.trans (kq.mono BW.size)
 clear kq
 have Kz2 := K.of pz2
 have Jz2 := Mz2.in_ Kz2
 replace pz2 : Hid _ := pz2
 obtain ⟨hz2, ehz2⟩ := mk_ wd3.heap.size
 rw [← ehz2] at Mz2
 have ehz2 := Nat.le_of_eq ehz2
 obtain ⟨wd4, hwd4⟩ := mk_ (wd3.alloc (Obj.cells #[.int .i64 z2.id, .int .i64 z2.po, .int .i64 z2.rg.ep, .int .i64 z2.rg.ow, .int .i64 z2.rg.pa, .slice z2.aT z2.two.length z2.cT, .slice z2.aN z2.net.length z2.cN, .slice z2.aG z2.ga.length z2.cG, .slice z2.aL z2.ln.length z2.cL, .slice z2.aS z2.sd.length z2.cS] 39))
 have AX : BxAt wd4 wd3.heap.size z2 := by rw [hwd4]; exact BxAt.new wd3 _ _
 have kq : Below wd3.heap.size wd3 wd4 := by rw [hwd4]; exact below_new _
 have lwd4 := AX.lt
 have swd4 := kq.size
 have A0 := A0.below kq A0.lt
 have I := I.below kq
 have Mz2 := Mz2.below kq (by omega)
 have Jz2 := Jz2.below kq
 have BW := BW.trans (kq.mono BW.size)
 clear kq
 go_upto_region 7 with fail
 rw [← hwd4]
 clear hwd4
 have cc := AX
 obtain ⟨m0_0, m0_1, m0_2, m0_3, m0_4, m0_5, m0_6, m0_7, m0_8, m0_9⟩ := cc
 go_wp2_with fail
 go_at_call 11
 clear m0_0 m0_1 m0_2 m0_3 m0_4 m0_5 m0_6 m0_7 m0_8 m0_9
 refine (jAllI z2 wd4 ⟨Jz2.v Kz2, fun i hi => (Mz2.t.nest i hi).capM⟩).mono ?_
 rintro e wd5 ⟨⟨r2, rfl, h2⟩, kq⟩
 have swd5 := kq.size
 have A0 := A0.below kq A0.lt
 have I := I.below kq
 have Mz2 := Mz2.below kq (by omega)
 have Jz2 := Jz2.below kq
 have AX := AX.below kq AX.lt
 have BW := BW.trans (kq.mono BW.size)
 clear kq
 rw [pz2.out, ← hQ0.out] at h2
 obtain rfl : r2 = r1 := Bool.eq_iff_iff.2 (h2.trans h1.out.symm)
 clear hQ0 h1 h2
 go_upto_region 10 with fail
 refine wp_region_held (S := fun Y => Below wd5.heap.size wd5 Y) (by kernel_rfl) ?_
 change wpAnyH _ _ _ _ _ _ _ _ (World.drew _)
 have hb0 : Below wd5.heap.size wd5 wd5.drew := (Below.refl _ _).drew
 obtain ⟨u0, hy0⟩ := mk_ wd5.drew
 rw [← hy0] at hb0 ⊢
 clear hy0
 refine tw 0 22 (.agg #[.int .i64 z2.id, .int .i64 z2.po, .int .i64 z2.rg.ep, .int .i64 z2.rg.ow, .int .i64 z2.rg.pa, .slice z2.aT z2.two.length z2.cT, .slice z2.aN z2.net.length z2.cN, .slice z2.aG z2.ga.length z2.cG, .slice z2.aL z2.ln.length z2.cL, .slice z2.aS z2.sd.length z2.cS]) ?_ (hy := by intro Y hSw; obtain ⟨X0, X1, X2, X3, X4, X5, X6, X7, X8, X9⟩ := AX.below hSw AX.lt; go_simp)
 refine tw 1 23 (.agg #[.int .i64 x0.id, .int .i64 x0.po, .int .i64 x0.rg.ep, .int .i64 x0.rg.ow, .int .i64 x0.rg.pa, .slice x0.aT x0.two.length x0.cT, .slice x0.aN x0.net.length x0.cN, .slice x0.aG x0.ga.length x0.cG, .slice x0.aL x0.ln.length x0.cL, .slice x0.aS x0.sd.length x0.cS]) ?_ (hy := by intro Y hSw; obtain ⟨X0, X1, X2, X3, X4, X5, X6, X7, X8, X9⟩ := A0.below hSw A0.lt; go_simp)
 refine w1 2 fun Kz hKz => ?_
 go_simp
 go_at_call 7
 refine (bxTo x0 u0 (I.below hb0) K).mono ?_
 rintro e u1 ⟨xz, rfl, pz, Mz, kq⟩
 have hb1 : Below wd5.heap.size wd5 u1 := hb0.trans (kq.mono hb0.size)
 clear kq
 refine hKz _ _ ⟨hb1, ?_⟩
 clear hKz Kz
 refine w1 3 fun Kz hKz => ?_
 go_simp
 go_at_call 9
 refine (bxEq z2 xz u1 (Jz2.below hb1) (Mz.in_ (K.of pz)) Kz2 (pz.trans pz2.out.symm)).mono ?_
 rintro e u2 ⟨rfl, kq⟩
 have hb2 : Below wd5.heap.size wd5 u2 := hb1.trans (kq.mono hb1.size)
 clear kq
 refine hKz _ _ ⟨hb2, ?_⟩
 clear hKz Kz
 refine tw 4 26 (.bool false) ?_
 refine wpAnyH_done (by kernel_rfl) ?_ _
 have su2 := hb2.size
 have A0 := A0.below hb2 A0.lt
 have I := I.below hb2
 have Mz2 := Mz2.below hb2 (by omega)
 have Jz2 := Jz2.below hb2
 have AX := AX.below hb2 AX.lt
 have BW := BW.trans (hb2.mono BW.size)
 clear hb2
 clear hb0 hb1 Mz pz
 go_wp2
 go_ret
 exact ⟨rfl, BW⟩
set_option maxRecDepth 100000 in
theorem lifted (os : Os) (started : os.Started) (H : Type) (enc : TypeId × Value → H) :
  ReturnsInHanded {} Tryz.checked os 4 .any (Rows.fnExactJudgeAllSpec.pre6 enc Tryz.prog Tryz.f4 Rows.fnExactJudgeAllRow.domain false) (Rows.fnExactJudgeAllSpec.post enc Tryz.prog Tryz.f4 false true false false) := by
 refine returnsInHanded_of_change (C := Tryz.checked) own started (by kernel_rfl) Tryz.func4
  (ChangeSpec.witness6 (enc := enc) (C := Tryz.checked) false ⟨#[], #[.agg #[.int .i64 0, .int .i64 0, .int .i64 0, .int .i64 0, .int .i64 0, .slice none 0 0, .slice none 0 0, .slice none 0 0, .slice none 0 0, .slice none 0 0]], []⟩ 8 (by kernel_rfl) (by kernel_rfl) (by kernel_rfl) (by kernel_rfl)) ?_
 intro W base args ds gs before hval0 hW hcnd _
 have hval : ∀ (j : Nat) t v, Tryz.f4.params[j]? = some t → args[j]? = some v → Value.okWide Tryz.prog W .any base t v := hval0
 have hW' := hW
 obtain ⟨p, q, hA0, hV, rfl, hfz, hnd⟩ := hW
 have hA : DataW.TrodAll enc Tryz.prog W 0 (fun _ => true) true Tryz.f4.params.toList args.toList ds p := hA0
 rw [Tryz.params4] at hA hval
 obtain ⟨v0, vs0, d0, ds0, p0, q0, hargs, rfl, rfl, h0, r0⟩ := trodAll_cons hA
 obtain ⟨rfl, rfl, rfl⟩ := trodAll_nil r0
 obtain rfl : args = #[v0] := by cases args; simp_all
 obtain ⟨rfl, rfl⟩ := trodVars_none hV
 obtain ⟨x0, rfl, I0⟩ := bxIn_open (hval 0 30 v0 rfl rfl) h0
 have lt0 : ∀ x ∈ p0, x.block < W.heap.size := by obtain ⟨m, hm⟩ := h0; exact DataW.trod_lt m _ _ _ hm
 clear hA0 hval0
 refine (walk x0 W I0).mono fun e W' ⟨he, bel⟩ => ?_
 subst he
 exact ⟨_, rfl, _, _, _, [], _, [], hW', trodAll_mk1 (shut_bool Tryz.underlying4 _), (trodAll_cons_mk (Below.trod laidOut (by kernel_rfl) (of_decide_eq_true (by kernel_rfl)) h0 bel lt0) trodAll_mk0), rfl, bel.frame _, fun h => by cases h⟩
theorem over : Rows.fnExactJudgeAllRow.holds Tryz.pinned (OpenSpec.ofChange Rows.fnExactJudgeAllSpec) :=
 OpenClaim.holds_of_wide 4 Tryz.f4 rfl rfl rfl rfl rfl rfl rfl ⟨rfl, rfl, rfl, rfl, rfl⟩ rfl rfl rfl rfl rfl (by kernel_rfl) Tryz.func4 (by kernel_rfl)
  (of_decide_eq_true (by kernel_rfl)) (by unfold Func.isWrapper; first | (rw [if_pos (by decide +kernel)]; kernel_rfl) | (rw [if_neg (by decide +kernel)]; exact ⟨rfl, rfl⟩))
  (fun os started H enc _ => lifted os started H enc)
theorem proved : Rows.FnExactJudgeAllSaid := over
end Go.Proofs.YtnpiljegdiconabGreat.fnExactJudgeAll
namespace Go.Proofs.YtnpiljegdiconabGreat
theorem judgeAll_holds : Rows.FnExactJudgeAllSaid := fnExactJudgeAll.proved
#print axioms judgeAll_holds
end Go.Proofs.YtnpiljegdiconabGreat
