/- For every list and every number the call of FnExactForget returns true: impl.Forget answers as spec.Forget, writes into no argument, keeps nothing of one, and its answer owns its memory (a list of more than 1048576 is answered true at once). No condition. -/
import Derived.Test.YtogabciiicjloabRows
import Derived.Test.YtogabciiicjloabHeard13
import Derived.WalkKit
import Derived.Below
import Derived.ChangeOld
import Derived.WalkSmall
import Derived.ProofKit
import Derived.OpenShut
import Derived.ShutString
import Derived.BigQuiet
namespace Go.Proofs.Ytogabciiicjloab.fnExactForget
open Go.ChangeShapes Go.WideShapes Go.ChangeAt Go.RowKit
set_option linter.unusedVariables false

theorem own : ownKnob Try.prog.godebug = none := by kernel_rfl
theorem laidOut : laidOutB Try.prog = true := by kernel_rfl

set_option maxHeartbeats 2000000 in
theorem walk (ad0 : Option Addr) (cap0 : Nat) (L0 : List Hd) (n1 : Int) (w : World) (I0 : HIn w ad0 L0) (I1 : (Lit.int .i64 n1).wf = true) :
    Calls Try.prog 3 #[.slice ad0 L0.length cap0, .int .i64 n1] w fun e w' => e = .returned (.bool true) ∧ Below w.heap.size w w' := by
  obtain ⟨lm, hv, hB, wf⟩ := I0
  clear wf
  by_cases hbig : 1048576 < L0.length
  · go_enter Try.func3, Try.ntmps3
    go_wp2_with fail
    go_at_call 4
    refine (szH ad0 L0.length cap0 1048576 w (by omega) (by omega) lm).mono ?_
    rintro e w1 ⟨rfl, h1⟩
    rw [h1, if_neg (by omega)]
    clear h1 w1
    go_wp2
    go_ret
    exact ⟨rfl, Below.refl _ _⟩
  have hl : L0.length ≤ 1048576 := by omega
  have hl' : (L0.length : Int) ≤ 1048576 := by omega
  have hl2 : 0 ≤ 1048576 - (L0.length : Int) := by omega
  obtain ⟨M, hM⟩ : ∃ M, Hid (forgot n1 L0 = M) := ⟨_, rfl⟩
  have hMl : M.length ≤ 1048576 := by rw [← hM.out]; have := forgot_len n1 L0; omega
  clear hbig
  go_enter Try.func3, Try.ntmps3
  go_wp2_with fail
  go_at_call 4
  refine (szH ad0 L0.length cap0 1048576 w (by omega) (by omega) lm).mono ?_
  rintro e w1 ⟨rfl, h1⟩
  rw [h1, if_pos hl']
  clear h1 w1
  go_wp2_with fail
  go_at_call 6
  refine (toHS ad0 cap0 L0 w hv hl hB).mono ?_
  rintro e w2 ⟨rfl, F2⟩
  have B2 : Below w.heap.size w w2 := F2.1
  have s2 := B2.size
  have v2 := F2.view
  have t2 : w.heap.size < w2.heap.size := F2.2.1
  clear F2
  go_wp2_with fail
  go_at_call 5
  refine (forgS _ _ L0 n1 w2 v2 hl (his_some t2)).mono ?_
  rintro e w3 ⟨⟨adS, capS, rfl, vS, _, mS⟩, k3⟩
  rw [hM.out] at vS ⊢
  have s3 := k3.size
  have B3 : Below w.heap.size w w3 := B2.trans (k3.mono s2)
  have lS : HIs adS M (· < w3.heap.size) := fun a e _ => (mS a e).2
  clear v2 mS
  go_wp2_with fail
  go_at_call 6
  refine (toHS ad0 cap0 L0 w3 (hv.below hB B3) hl (hB.le B3.size)).mono ?_
  rintro e w4 ⟨rfl, F4⟩
  have B4 : Below w.heap.size w w4 := B3.trans (F4.1.mono B3.size)
  have v4 := F4.view
  have r4 := F4.room
  have t4 : w3.heap.size < w4.heap.size := F4.2.1
  have eqa : ∀ a : Addr, some (⟨w3.heap.size, 0, none⟩ : Addr) = some a → a.block = w3.heap.size := fun a e => by cases e; rfl
  have vS := vS.below lS F4.1
  clear F4
  go_wp2_with fail
  go_at_call 7
  refine (forgI _ _ L0 n1 w4 v4 hl (his_some t4)).mono ?_
  rintro e w5 ⟨⟨adG, capG, rfl, vG, rG, mG⟩, k5⟩
  rw [hM.out] at vG rG ⊢
  have s5 := k5.size
  have B5 : Below w.heap.size w w5 := B4.trans (k5.mono B4.size)
  have lG : HIs adG M (· < w5.heap.size) := fun a e _ => (mG a e).2
  have nG : ∀ a, adG = some a → w4.heap.size ≤ a.block := fun a e => (mG a e).1
  have nG2 : ∀ a, adG = some a → a.block < w5.heap.size := fun a e => (mG a e).2
  have vS := vS.below (lS.le (by omega)) k5
  have v4 := v4.below (his_some t4) k5
  have r4 := r4.carry (w' := w5) (fun a e _ => k5.block _ (by have := eqa a e; omega))
  clear mG
  go_wp2_with fail
  go_at_call 8
  refine (eqHS _ _ _ _ M w5 vG vS hMl lG (lS.le (by omega))).mono ?_
  rintro e w6 ⟨rfl, k6⟩
  have s6 := k6.size
  have B6 : Below w.heap.size w w6 := B5.trans (k6.mono B5.size)
  go_wp2_with fail
  go_at_call 6
  refine (toHS ad0 cap0 L0 w6 (hv.below hB B6) hl (hB.le B6.size)).mono ?_
  rintro e w7 ⟨rfl, F7⟩
  have B7 : Below w.heap.size w w7 := B6.trans (F7.1.mono B6.size)
  have v7 := F7.view
  have t7 : w6.heap.size < w7.heap.size := F7.2.1
  have k57 : Below w5.heap.size w5 w7 := k6.trans (F7.1.mono s6)
  have v4 := v4.below (his_some (by omega)) k57
  clear F7
  go_wp2_with fail
  go_at_call 8
  refine (eqHS _ _ _ _ L0 w7 v4 v7 hl (his_some (by omega)) (his_some t7)).mono ?_
  rintro e w8 ⟨rfl, k8⟩
  have s8 := k8.size
  have B8 : Below w.heap.size w w8 := B7.trans (k8.mono B7.size)
  have k58 : Below w5.heap.size w5 w8 := k57.trans (k8.mono (by omega))
  have vS := vS.below (lS.le (by omega)) k58
  have vG := vG.below lG k58
  have rG := rG.carry (w' := w8) (fun a e _ => k58.block _ (nG2 a e))
  have r4 := r4.carry (w' := w8) (fun a e _ => k58.block _ (by have := eqa a e; omega))
  clear v4 v7 k57 k58
  go_wp2_with fail
  go_at_call 9
  refine (markHS _ L0.length _ w8 r4 hl).mono ?_
  rintro e w9 ⟨rfl, _, _, h9⟩
  obtain ⟨q9, s9, d9⟩ := hmark_kept h9
  have B9 : Below w.heap.size w w9 := B8.trans (d9 _ (fun a e => by have := eqa a e; omega) B8.size)
  have vS := vS.carry (w' := w9) (fun a e p => q9 _ (by have := lS a e p; omega) (fun a' e' => by have := eqa a' e'; have := lS a e p; omega))
  have vG := vG.carry (w' := w9) (fun a e p => q9 _ (by have := lG a e p; omega) (fun a' e' => by have := eqa a' e'; have := nG a e; omega))
  have rG := rG.carry (w' := w9) (fun a e p => q9 _ (by have := nG2 a e; omega) (fun a' e' => by have := eqa a' e'; have := nG a e; omega))
  have hk1 : 0 ≤ 1 + 4 * (L0.length : Int) := by omega
  clear h9 q9 d9 r4
  go_wp2_with fail
  go_at_call 8
  refine (eqHS _ _ _ _ M w9 vG vS hMl (lG.le (by omega)) (lS.le (by omega))).mono ?_
  rintro e w10 ⟨rfl, k10⟩
  have s10 := k10.size
  have B10 : Below w.heap.size w w10 := B9.trans (k10.mono B9.size)
  have vS := vS.below (lS.le (by omega)) k10
  have rG := rG.carry (w' := w10) (fun a e _ => k10.block _ (by have := nG2 a e; omega))
  clear vG
  go_wp2_with fail
  go_at_call 9
  refine (markHS _ M.length _ w10 rG hMl).mono ?_
  rintro e w11 ⟨rfl, vM, _, h11⟩
  obtain ⟨q11, s11, d11⟩ := hmark_kept h11
  have B11 : Below w.heap.size w w11 := B10.trans (d11 _ (fun a e => by have := nG a e; omega) B10.size)
  have vS := vS.carry (w' := w11) (fun a e p => q11 _ (by have := lS a e p; omega) (fun a' e' => by have := lS a e p; have := nG a' e'; omega))
  have hk2 : 0 ≤ 1 + 4 * (M.length : Int) := by omega
  clear h11 q11 d11 rG
  go_wp2_with fail
  go_at_call 10
  refine (heldHS _ M.length _ w11 vM hMl).mono ?_
  rintro e w12 ⟨rfl, h12⟩
  rw [h12]
  clear h12 w12
  go_wp2_with fail
  go_at_call 6
  refine (toHS ad0 cap0 L0 w11 (hv.below hB B11) hl (hB.le B11.size)).mono ?_
  rintro e w13 ⟨rfl, F13⟩
  have B13 : Below w.heap.size w w13 := B11.trans (F13.1.mono B11.size)
  have v13 := F13.view
  have t13 : w11.heap.size < w13.heap.size := F13.2.1
  have k13 := F13.1
  clear F13
  go_wp2_with fail
  go_at_call 7
  refine (forgI _ _ L0 n1 w13 v13 hl (his_some t13)).mono ?_
  rintro e w14 ⟨⟨adH, capH, rfl, vH, _, mH⟩, k14⟩
  rw [hM.out] at vH ⊢
  have s14 := k14.size
  have B14 : Below w.heap.size w w14 := B13.trans (k14.mono B13.size)
  have k1114 : Below w11.heap.size w11 w14 := k13.trans (k14.mono (by omega))
  have vS := vS.below (lS.le (by omega)) k1114
  go_wp2_with fail
  go_at_call 8
  refine (eqHS _ _ _ _ M w14 vH vS hMl (fun a e _ => (mH a e).2) (lS.le (by omega))).mono ?_
  rintro e w15 ⟨rfl, k15⟩
  have B15 : Below w.heap.size w w15 := B14.trans (k15.mono B14.size)
  have vM := vM.carry (w' := w15) (fun a e p => (k1114.trans (k15.mono k1114.size)).block _ (by have := nG2 a e; omega))
  go_wp2_with fail
  go_at_call 10
  refine (heldHS _ M.length _ w15 vM hMl).mono ?_
  rintro e w16 ⟨rfl, h16⟩
  rw [h16]
  clear h16 w16
  go_wp2
  go_ret
  exact ⟨rfl, B15⟩

set_option maxRecDepth 100000 in
theorem lifted (os : Os) (started : os.Started) (H : Type) (enc : TypeId × Value → H) :
    ReturnsInHanded {} Try.checked os 3 .any (Rows.fnExactForgetSpec.pre6 enc Try.prog Try.f3 Rows.fnExactForgetRow.domain false) (Rows.fnExactForgetSpec.post enc Try.prog Try.f3 false true false false) := by
  refine returnsInHanded_of_change (C := Try.checked) own started (by kernel_rfl) Try.func3
    (ChangeSpec.witness6 (enc := enc) (C := Try.checked) false ⟨#[], #[.slice none 0 0, .int .i64 0], []⟩ 8 (by kernel_rfl) (by kernel_rfl) (by kernel_rfl) (by kernel_rfl)) ?_
  intro W base args ds gs before hval0 hW hcnd _
  have hval : ∀ (j : Nat) t v, Try.f3.params[j]? = some t → args[j]? = some v → Value.okWide Try.prog W .any base t v := hval0
  have hW' := hW
  obtain ⟨p, q, hA0, hV, rfl, hfz, hnd⟩ := hW
  have hA : DataW.TrodAll enc Try.prog W 0 (fun _ => true) true Try.f3.params.toList args.toList ds p := hA0
  rw [Try.params3] at hA hval
  obtain ⟨v0, vs0, d0, ds0, p0, q0, hargs, rfl, rfl, h0, r0⟩ := trodAll_cons hA
  obtain ⟨v1, vs1, d1, ds1, p1, q1, rfl, rfl, rfl, h1, r1⟩ := trodAll_cons r0
  obtain ⟨rfl, rfl, rfl⟩ := trodAll_nil r1
  obtain rfl : args = #[v0, v1] := by cases args; simp_all
  obtain ⟨rfl, rfl⟩ := trodVars_none hV
  have lt0 : ∀ x ∈ p0, x.block < W.heap.size := by obtain ⟨m, hm⟩ := h0; exact DataW.trod_lt m _ _ _ hm
  obtain ⟨ad0, cap0, L0, rfl, I0⟩ := heardIn_open (hval 0 22 v0 rfl rfl) h0
  have lt1 : ∀ x ∈ p1, x.block < W.heap.size := by obtain ⟨m, hm⟩ := h1; exact DataW.trod_lt m _ _ _ hm
  have g1 := h1
  obtain ⟨n1, rfl, _, _, I1⟩ := open_int Try.underlying3 (hval 1 3 v1 rfl rfl) g1
  clear hA0 hval0
  refine (walk ad0 cap0 L0 n1 W I0 I1).mono fun e W' ⟨he, bel⟩ => ?_
  subst he
  exact ⟨_, rfl, _, _, _, [], _, [], hW', trodAll_mk1 (shut_bool Try.underlying4 _), (trodAll_cons_mk (Below.trod laidOut (by kernel_rfl) (of_decide_eq_true (by kernel_rfl)) h0 bel lt0) (trodAll_cons_mk (Below.trod laidOut (by kernel_rfl) (of_decide_eq_true (by kernel_rfl)) h1 bel lt1) trodAll_mk0)), rfl, bel.frame _, fun h => by cases h⟩

theorem over : Rows.fnExactForgetRow.holds Try.pinned (OpenSpec.ofChange Rows.fnExactForgetSpec) :=
  OpenClaim.holds_of_wide 3 Try.f3 rfl rfl rfl rfl rfl rfl rfl ⟨rfl, rfl, rfl, rfl, rfl⟩ rfl rfl rfl rfl rfl (by kernel_rfl) Try.func3 (by kernel_rfl)
    (of_decide_eq_true (by kernel_rfl)) (by unfold Func.isWrapper; first | (rw [if_pos (by decide +kernel)]; kernel_rfl) | (rw [if_neg (by decide +kernel)]; exact ⟨rfl, rfl⟩))
    (fun os started H enc _ => lifted os started H enc)

theorem proved : Rows.FnExactForgetSaid := over
end Go.Proofs.Ytogabciiicjloab.fnExactForget
namespace Go.Proofs.Ytogabciiicjloab
theorem forget_holds : Rows.FnExactForgetSaid := fnExactForget.proved
#print axioms forget_holds
end Go.Proofs.Ytogabciiicjloab
