/- FnExactBpduBytes: at every Bpdu the program's BpduBytes answers as the specification's, and its answer owns its memory; no condition. -/
import Derived.Test.YtlgcjhebbmejaaaRows
import Derived.Test.YtlgcjhebbmejaaaBp4
import Derived.Test.YtlgcjhebbmejaaaBp4s
import Derived.Test.YtlgcjhebbmejaaaTakes
import Derived.Deep.Cut
import Derived.WalkKit
import Derived.Below
import Derived.ChangeOld
import Derived.WalkSmall
import Derived.ProofKit
import Derived.OpenShut
import Derived.ShutString
import Derived.BigQuiet
namespace Go.Proofs.Ytlgcjhebbmejaaa.fnExactBpduBytes
open Go.ChangeShapes Go.WideShapes Go.ChangeAt Go.RowKit
set_option linter.unusedVariables false

theorem own : ownKnob Try.prog.godebug = none := by kernel_rfl
theorem laidOut : laidOutB Try.prog = true := by kernel_rfl

set_option maxHeartbeats 8000000 in
set_option maxRecDepth 100000 in
theorem walk (z0 : Bp) (w : World) (I0 : True) :
    Calls Try.prog 6 #[.agg #[.bool z0.ch, .bool z0.ak, .bool z0.ag, .bool z0.le, .bool z0.op, .int .i64 z0.ro, .int .i64 z0.r, .int .i64 z0.c, .int .i64 z0.b, .int .i64 z0.p, .int .i64 z0.h]] w fun e w' => e = .returned (.bool true) ∧ Below w.heap.size w w' := by
  clear I0
  obtain ⟨D, hD⟩ : ∃ D, byB z0 = D := ⟨_, rfl⟩
  have hDl : D.length ≤ 36 := by rw [← hD]; exact byB_len z0
  have hDm : D.length ≤ 16777216 := by omega
  replace hD : Hid _ := hD
  obtain ⟨y0, hx⟩ : ∃ y_, y_ = w.alloc (Obj.cells #[.bool z0.ch, .bool z0.ak, .bool z0.ag, .bool z0.le, .bool z0.op, .int .i64 z0.ro, .int .i64 z0.r, .int .i64 z0.c, .int .i64 z0.b, .int .i64 z0.p, .int .i64 z0.h] 44) := ⟨_, rfl⟩
  have A0 : BpAt y0 w.heap.size z0 := by rw [hx]; exact BpAt.new w _ _
  have lx0 : w.heap.size < y0.heap.size := A0.lt
  have BW : Below w.heap.size w y0 := by rw [hx]; exact below_new _
  go_enter Try.func6, Try.ntmps6
  go_wp2_with fail
  go_at_call 26
  rw [← hx]
  clear hx
  refine (toBpI z0 y0).mono ?_
  rintro e y1 ⟨rfl, kq⟩
  have sy1 := kq.size
  have A0 := A0.below kq A0.lt
  have BW := BW.trans (kq.mono BW.size)
  clear kq
  go_wp2_with fail
  go_at_call 20
  refine (byS z0 y1).mono ?_
  rintro e wd1 ⟨aW, cW, rfl, OW, kq⟩
  rw [hD.out] at OW ⊢
  have swd1 := kq.size
  have A0 := A0.below kq A0.lt
  have BW := BW.trans (kq.mono BW.size)
  clear kq
  have iOW : ∀ g, (Value.slice aW D.length cW).ownBlock = some g → y1.heap.size ≤ g ∧ g < wd1.heap.size := fun g e => OW.lt g e
  have cc := A0
  obtain ⟨m0_0, m0_1, m0_2, m0_3, m0_4, m0_5, m0_6, m0_7, m0_8, m0_9, m0_10⟩ := cc
  go_wp2_with fail
  go_at_call 26
  clear m0_0 m0_1 m0_2 m0_3 m0_4 m0_5 m0_6 m0_7 m0_8 m0_9 m0_10
  refine (toBpI z0 wd1).mono ?_
  rintro e wd2 ⟨rfl, kq⟩
  have swd2 := kq.size
  have A0 := A0.below kq A0.lt
  have OW := OW.later kq
  have BW := BW.trans (kq.mono BW.size)
  clear kq
  go_wp2_with fail
  go_at_call 11
  refine (byI z0 wd2).mono ?_
  rintro e wd3 ⟨aG, cG, rfl, OG, kq⟩
  rw [hD.out] at OG ⊢
  have swd3 := kq.size
  have A0 := A0.below kq A0.lt
  have OW := OW.later kq
  have BW := BW.trans (kq.mono BW.size)
  clear kq
  have iOG : ∀ g, (Value.slice aG D.length cG).ownBlock = some g → wd2.heap.size ≤ g ∧ g < wd3.heap.size := fun g e => OG.lt g e
  go_wp2_with fail
  go_at_call 27
  refine (bEq aG aW cG cW D wd3 OG.view.2 OW.view.2 hDm).mono ?_
  rintro e wd4 ⟨rfl, kq⟩
  have swd4 := kq.size
  have A0 := A0.below kq A0.lt
  have OW := OW.later kq
  have OG := OG.later kq
  have BW := BW.trans (kq.mono BW.size)
  clear kq
  go_wp2_with fail
  go_at_call 28
  refine (bMark aG cG 1 _ D wd4 OG hDm (by omega) (by omega)).mono ?_
  rintro e wd5 ⟨rfl, OG', gq⟩
  have swd5 := gq.size
  have OW := OW.keep (fun g' e' => gq.block g' (OW.lt g' e').2 (fun e2 => by have := iOG _ e2.symm; have := iOW _ e'; omega))
  have A0 := A0.keep (gq.block _ A0.lt (fun e => by have := iOG _ e.symm; omega))
  have BW := BW.grown gq BW.size (fun g' e => by have := iOG _ e; omega)
  clear gq
  have OG := OG'
  clear OG'
  obtain ⟨m, hm⟩ : ∃ m, m = 1 + (D.length : Int) := ⟨_, rfl⟩
  have m0 : 0 ≤ m := by omega
  rw [← hm]
  replace hm : Hid _ := hm
  go_wp2_with fail
  go_at_call 29
  refine (bHeld aG D.length cG 1 wd5 OG.view.2 hDm (by omega) (by omega)).mono ?_
  rintro e wd6 ⟨rfl, hw_⟩
  have kq : Below wd5.heap.size wd5 wd6 := by rw [hw_]; exact Below.refl _ _
  clear hw_
  have swd6 := kq.size
  have A0 := A0.below kq A0.lt
  have OW := OW.later kq
  have OG := OG.later kq
  have BW := BW.trans (kq.mono BW.size)
  clear kq
  rw [← hm.out]
  have cc := A0
  obtain ⟨m0_0, m0_1, m0_2, m0_3, m0_4, m0_5, m0_6, m0_7, m0_8, m0_9, m0_10⟩ := cc
  go_wp2_with fail
  go_at_call 26
  clear m0_0 m0_1 m0_2 m0_3 m0_4 m0_5 m0_6 m0_7 m0_8 m0_9 m0_10
  refine (toBpI z0 wd6).mono ?_
  rintro e wd7 ⟨rfl, kq⟩
  have swd7 := kq.size
  have A0 := A0.below kq A0.lt
  have OW := OW.later kq
  have OG := OG.later kq
  have BW := BW.trans (kq.mono BW.size)
  clear kq
  go_wp2_with fail
  go_at_call 11
  refine (byI z0 wd7).mono ?_
  rintro e wd8 ⟨aH, cH, rfl, OH, kq⟩
  rw [hD.out] at OH ⊢
  have swd8 := kq.size
  have A0 := A0.below kq A0.lt
  have OW := OW.later kq
  have OG := OG.later kq
  have BW := BW.trans (kq.mono BW.size)
  clear kq
  have iOH : ∀ g, (Value.slice aH D.length cH).ownBlock = some g → wd7.heap.size ≤ g ∧ g < wd8.heap.size := fun g e => OH.lt g e
  go_wp2_with fail
  go_at_call 27
  refine (bEq aH aW cH cW D wd8 OH.view.2 OW.view.2 hDm).mono ?_
  rintro e wd9 ⟨rfl, kq⟩
  have swd9 := kq.size
  have A0 := A0.below kq A0.lt
  have OW := OW.later kq
  have OG := OG.later kq
  have OH := OH.later kq
  have BW := BW.trans (kq.mono BW.size)
  clear kq
  go_wp2_with fail
  go_at_call 29
  refine (bHeld aG D.length cG 1 wd9 OG.view.2 hDm (by omega) (by omega)).mono ?_
  rintro e wd10 ⟨rfl, hw_⟩
  have kq : Below wd9.heap.size wd9 wd10 := by rw [hw_]; exact Below.refl _ _
  clear hw_
  have swd10 := kq.size
  have A0 := A0.below kq A0.lt
  have OW := OW.later kq
  have OG := OG.later kq
  have OH := OH.later kq
  have BW := BW.trans (kq.mono BW.size)
  clear kq
  rw [← hm.out]
  go_wp2
  go_ret
  exact ⟨rfl, BW⟩


set_option maxRecDepth 100000 in
theorem lifted (os : Os) (started : os.Started) (H : Type) (enc : TypeId × Value → H) :
    ReturnsInHanded {} Try.checked os 6 .any (Rows.fnExactBpduBytesSpec.pre6 enc Try.prog Try.f6 Rows.fnExactBpduBytesRow.domain false) (Rows.fnExactBpduBytesSpec.post enc Try.prog Try.f6 false true false false) := by
  refine returnsInHanded_of_change (C := Try.checked) own started (by kernel_rfl) Try.func6
    (ChangeSpec.witness6 (enc := enc) (C := Try.checked) false ⟨#[], #[.agg #[.bool false, .bool false, .bool false, .bool false, .bool false, .int .i64 0, .int .i64 0, .int .i64 0, .int .i64 0, .int .i64 0, .int .i64 0]], []⟩ 8 (by kernel_rfl) (by kernel_rfl) (by kernel_rfl) (by kernel_rfl)) ?_
  intro W base args ds gs before hval0 hW hcnd _
  have hval : ∀ (j : Nat) t v, Try.f6.params[j]? = some t → args[j]? = some v → Value.okWide Try.prog W .any base t v := hval0
  have hW' := hW
  obtain ⟨p, q, hA0, hV, rfl, hfz, hnd⟩ := hW
  have hA : DataW.TrodAll enc Try.prog W 0 (fun _ => true) true Try.f6.params.toList args.toList ds p := hA0
  rw [Try.params6] at hA hval
  obtain ⟨v0, vs0, d0, ds0, p0, q0, hargs, rfl, rfl, h0, r0⟩ := trodAll_cons hA
  obtain ⟨rfl, rfl, rfl⟩ := trodAll_nil r0
  obtain rfl : args = #[v0] := by cases args; simp_all
  obtain ⟨rfl, rfl⟩ := trodVars_none hV
  obtain ⟨z0, rfl, I0⟩ := bpIn_open (hval 0 44 v0 rfl rfl) h0
  have lt0 : ∀ x ∈ p0, x.block < W.heap.size := by obtain ⟨m, hm⟩ := h0; exact DataW.trod_lt m _ _ _ hm
  clear hA0 hval0
  refine (walk z0 W I0).mono fun e W' ⟨he, bel⟩ => ?_
  subst he
  exact ⟨_, rfl, _, _, _, [], _, [], hW', trodAll_mk1 (shut_bool Try.underlying4 _), (trodAll_cons_mk (Below.trod laidOut (by kernel_rfl) (of_decide_eq_true (by kernel_rfl)) h0 bel lt0) trodAll_mk0), rfl, bel.frame _, fun h => by cases h⟩

theorem over : Rows.fnExactBpduBytesRow.holds Try.pinned (OpenSpec.ofChange Rows.fnExactBpduBytesSpec) :=
  OpenClaim.holds_of_wide 6 Try.f6 rfl rfl rfl rfl rfl rfl rfl ⟨rfl, rfl, rfl, rfl, rfl⟩ rfl rfl rfl rfl rfl (by kernel_rfl) Try.func6 (by kernel_rfl)
    (of_decide_eq_true (by kernel_rfl)) (by unfold Func.isWrapper; first | (rw [if_pos (by decide +kernel)]; kernel_rfl) | (rw [if_neg (by decide +kernel)]; exact ⟨rfl, rfl⟩))
    (fun os started H enc _ => lifted os started H enc)

theorem proved : Rows.FnExactBpduBytesSaid := over
end Go.Proofs.Ytlgcjhebbmejaaa.fnExactBpduBytes
namespace Go.Proofs.Ytlgcjhebbmejaaa
theorem bpduBytes_holds : Rows.FnExactBpduBytesSaid := fnExactBpduBytes.proved
#print axioms bpduBytes_holds
end Go.Proofs.Ytlgcjhebbmejaaa
