/- FnExactInBytes, proved: at every thing that comes in the program's InBytes answers as the specification's, its answer owns its memory, and no argument is written into; no condition. -/
import Derived.Test.YtlnogijlfompoaaRows
import Derived.Test.YtlnogijlfompoaaBOwn
import Derived.Test.YtlnogijlfompoaaIn4x
import Derived.Deep.Cut
import Derived.WalkKit
import Derived.Below
import Derived.ChangeOld
import Derived.WalkSmall
import Derived.ProofKit
import Derived.OpenShut
import Derived.ShutString
import Derived.BigQuiet
namespace Go.Proofs.Ytlnogijlfompoaa.fnExactInBytes
open Go.ChangeShapes Go.WideShapes Go.ChangeAt Go.RowKit
set_option linter.unusedVariables false

theorem own : ownKnob Try.prog.godebug = none := by kernel_rfl
theorem laidOut : laidOutB Try.prog = true := by kernel_rfl

set_option maxHeartbeats 8000000 in
set_option maxRecDepth 100000 in
theorem walk (x0 : Ik) (w : World) (I0 : True) :
    Calls Try.prog 3 #[.agg #[.int .i64 x0.k, .int .i64 x0.q, .int .i64 x0.r, .int .i64 x0.c, .int .i64 x0.b, .int .i64 x0.p, .int .i64 x0.h, .bool x0.up]] w fun e w' => e = .returned (.bool true) ∧ Below w.heap.size w w' := by
  clear I0
  obtain ⟨D, hD⟩ : ∃ D, inBy x0 = D := ⟨_, rfl⟩
  have hDl : D.length ≤ 11 := by rw [← hD]; exact inBy_len x0
  have hDm : D.length ≤ 16777216 := by omega
  replace hD : Hid _ := hD
  obtain ⟨y0, hx⟩ : ∃ y_, y_ = w.alloc (Obj.cells #[.int .i64 x0.k, .int .i64 x0.q, .int .i64 x0.r, .int .i64 x0.c, .int .i64 x0.b, .int .i64 x0.p, .int .i64 x0.h, .bool x0.up] 25) := ⟨_, rfl⟩
  have N0 : InAt y0 w.heap.size x0 := by rw [hx]; exact InAt.new w _ _
  have BW : Below w.heap.size w y0 := by rw [hx]; exact below_new _
  have lx0 := N0.lt
  go_enter Try.func3, Try.ntmps3
  go_wp2_with fail
  go_at_call 6
  rw [← hx]
  clear hx
  refine (toInI x0 y0).mono ?_
  rintro e y1 ⟨rfl, kq⟩
  have sy1 := kq.size
  have N0 := N0.below kq N0.lt
  have BW := BW.trans (kq.mono BW.size)
  clear kq
  go_wp2_with fail
  go_at_call 5
  refine (inBSo x0 y1).mono ?_
  rintro e wd1 ⟨aW, cW, rfl, OW, kq⟩
  rw [hD.out] at OW ⊢
  have swd1 := kq.size
  have N0 := N0.below kq N0.lt
  have BW := BW.trans (kq.mono BW.size)
  clear kq
  have iOW : ∀ g, (Value.slice aW D.length cW).ownBlock = some g → y1.heap.size ≤ g ∧ g < wd1.heap.size := fun g e => OW.lt g e
  have cc := N0
  obtain ⟨m0_0, m0_1, m0_2, m0_3, m0_4, m0_5, m0_6, m0_7⟩ := cc
  go_wp2_with fail
  go_at_call 6
  clear m0_0 m0_1 m0_2 m0_3 m0_4 m0_5 m0_6 m0_7
  refine (toInI x0 wd1).mono ?_
  rintro e wd2 ⟨rfl, kq⟩
  have swd2 := kq.size
  have OW := OW.later kq
  have N0 := N0.below kq N0.lt
  have BW := BW.trans (kq.mono BW.size)
  clear kq
  go_wp2_with fail
  go_at_call 7
  refine (inBIo x0 wd2).mono ?_
  rintro e wd3 ⟨aG, cG, rfl, OG, kq⟩
  rw [hD.out] at OG ⊢
  have swd3 := kq.size
  have OW := OW.later kq
  have N0 := N0.below kq N0.lt
  have BW := BW.trans (kq.mono BW.size)
  clear kq
  have iOG : ∀ g, (Value.slice aG D.length cG).ownBlock = some g → wd2.heap.size ≤ g ∧ g < wd3.heap.size := fun g e => OG.lt g e
  go_wp2_with fail
  go_at_call 8
  refine (bEq aG aW cG cW D wd3 OG.view.2 OW.view.2 hDm).mono ?_
  rintro e wd4 ⟨rfl, kq⟩
  have swd4 := kq.size
  have OW := OW.later kq
  have OG := OG.later kq
  have N0 := N0.below kq N0.lt
  have BW := BW.trans (kq.mono BW.size)
  clear kq
  go_wp2_with fail
  go_at_call 9
  refine (bMark aG cG 1 _ D wd4 OG hDm (by omega) (by omega)).mono ?_
  rintro e wd5 ⟨rfl, OG', gq⟩
  have swd5 := gq.size
  have N0 := N0.keep (gq.block _ N0.lt (fun e => by have := iOG _ e.symm; omega))
  have OW := OW.keep (fun g' e' => gq.block g' (OW.lt g' e').2 (fun e2 => by have := iOG _ e2.symm; have := iOW _ e'; omega))
  have BW := BW.grown gq BW.size (fun g' e => by have := iOG _ e; omega)
  clear gq
  have OG := OG'
  clear OG'
  obtain ⟨m, hm⟩ : ∃ m, m = 1 + (D.length : Int) := ⟨_, rfl⟩
  have m0 : 0 ≤ m := by omega
  rw [← hm]
  replace hm : Hid _ := hm
  go_wp2_with fail
  go_at_call 10
  refine (bHeld aG D.length cG 1 wd5 OG.view.2 hDm (by omega) (by omega)).mono ?_
  rintro e wd6 ⟨rfl, hw_⟩
  have kq : Below wd5.heap.size wd5 wd6 := by rw [hw_]; exact Below.refl _ _
  clear hw_
  have swd6 := kq.size
  have OW := OW.later kq
  have OG := OG.later kq
  have N0 := N0.below kq N0.lt
  have BW := BW.trans (kq.mono BW.size)
  clear kq
  rw [← hm.out]
  have cc := N0
  obtain ⟨m0_0, m0_1, m0_2, m0_3, m0_4, m0_5, m0_6, m0_7⟩ := cc
  go_wp2_with fail
  go_at_call 6
  clear m0_0 m0_1 m0_2 m0_3 m0_4 m0_5 m0_6 m0_7
  refine (toInI x0 wd6).mono ?_
  rintro e wd7 ⟨rfl, kq⟩
  have swd7 := kq.size
  have OW := OW.later kq
  have OG := OG.later kq
  have N0 := N0.below kq N0.lt
  have BW := BW.trans (kq.mono BW.size)
  clear kq
  go_wp2_with fail
  go_at_call 7
  refine (inBIo x0 wd7).mono ?_
  rintro e wd8 ⟨aH, cH, rfl, OH, kq⟩
  rw [hD.out] at OH ⊢
  have swd8 := kq.size
  have OW := OW.later kq
  have OG := OG.later kq
  have N0 := N0.below kq N0.lt
  have BW := BW.trans (kq.mono BW.size)
  clear kq
  have iOH : ∀ g, (Value.slice aH D.length cH).ownBlock = some g → wd7.heap.size ≤ g ∧ g < wd8.heap.size := fun g e => OH.lt g e
  go_wp2_with fail
  go_at_call 8
  refine (bEq aH aW cH cW D wd8 OH.view.2 OW.view.2 hDm).mono ?_
  rintro e wd9 ⟨rfl, kq⟩
  have swd9 := kq.size
  have OW := OW.later kq
  have OG := OG.later kq
  have OH := OH.later kq
  have N0 := N0.below kq N0.lt
  have BW := BW.trans (kq.mono BW.size)
  clear kq
  go_wp2_with fail
  go_at_call 10
  refine (bHeld aG D.length cG 1 wd9 OG.view.2 hDm (by omega) (by omega)).mono ?_
  rintro e wd10 ⟨rfl, hw_⟩
  have kq : Below wd9.heap.size wd9 wd10 := by rw [hw_]; exact Below.refl _ _
  clear hw_
  have swd10 := kq.size
  have OW := OW.later kq
  have OG := OG.later kq
  have OH := OH.later kq
  have N0 := N0.below kq N0.lt
  have BW := BW.trans (kq.mono BW.size)
  clear kq
  rw [← hm.out]
  go_wp2
  go_ret
  exact ⟨rfl, BW⟩


set_option maxRecDepth 100000 in
theorem lifted (os : Os) (started : os.Started) (H : Type) (enc : TypeId × Value → H) :
    ReturnsInHanded {} Try.checked os 3 .any (Rows.fnExactInBytesSpec.pre6 enc Try.prog Try.f3 Rows.fnExactInBytesRow.domain false) (Rows.fnExactInBytesSpec.post enc Try.prog Try.f3 false true false false) := by
  refine returnsInHanded_of_change (C := Try.checked) own started (by kernel_rfl) Try.func3
    (ChangeSpec.witness6 (enc := enc) (C := Try.checked) false ⟨#[], #[.agg #[.int .i64 0, .int .i64 0, .int .i64 0, .int .i64 0, .int .i64 0, .int .i64 0, .int .i64 0, .bool false]], []⟩ 8 (by kernel_rfl) (by kernel_rfl) (by kernel_rfl) (by kernel_rfl)) ?_
  intro W base args ds gs before hval0 hW hcnd _
  have hval : ∀ (j : Nat) t v, Try.f3.params[j]? = some t → args[j]? = some v → Value.okWide Try.prog W .any base t v := hval0
  have hW' := hW
  obtain ⟨p, q, hA0, hV, rfl, hfz, hnd⟩ := hW
  have hA : DataW.TrodAll enc Try.prog W 0 (fun _ => true) true Try.f3.params.toList args.toList ds p := hA0
  rw [Try.params3] at hA hval
  obtain ⟨v0, vs0, d0, ds0, p0, q0, hargs, rfl, rfl, h0, r0⟩ := trodAll_cons hA
  obtain ⟨rfl, rfl, rfl⟩ := trodAll_nil r0
  obtain rfl : args = #[v0] := by cases args; simp_all
  obtain ⟨rfl, rfl⟩ := trodVars_none hV
  obtain ⟨x0, rfl, I0⟩ := inIn_open (hval 0 25 v0 rfl rfl) h0
  have lt0 : ∀ x ∈ p0, x.block < W.heap.size := by obtain ⟨m, hm⟩ := h0; exact DataW.trod_lt m _ _ _ hm
  clear hA0 hval0
  refine (walk x0 W I0).mono fun e W' ⟨he, bel⟩ => ?_
  subst he
  exact ⟨_, rfl, _, _, _, [], _, [], hW', trodAll_mk1 (shut_bool Try.underlying4 _), (trodAll_cons_mk (Below.trod laidOut (by kernel_rfl) (of_decide_eq_true (by kernel_rfl)) h0 bel lt0) trodAll_mk0), rfl, bel.frame _, fun h => by cases h⟩

theorem over : Rows.fnExactInBytesRow.holds Try.pinned (OpenSpec.ofChange Rows.fnExactInBytesSpec) :=
  OpenClaim.holds_of_wide 3 Try.f3 rfl rfl rfl rfl rfl rfl rfl ⟨rfl, rfl, rfl, rfl, rfl⟩ rfl rfl rfl rfl rfl (by kernel_rfl) Try.func3 (by kernel_rfl)
    (of_decide_eq_true (by kernel_rfl)) (by unfold Func.isWrapper; first | (rw [if_pos (by decide +kernel)]; kernel_rfl) | (rw [if_neg (by decide +kernel)]; exact ⟨rfl, rfl⟩))
    (fun os started H enc _ => lifted os started H enc)

theorem proved : Rows.FnExactInBytesSaid := over
end Go.Proofs.Ytlnogijlfompoaa.fnExactInBytes
namespace Go.Proofs.Ytlnogijlfompoaa
theorem inBytes_holds : Rows.FnExactInBytesSaid := fnExactInBytes.proved
#print axioms inBytes_holds
end Go.Proofs.Ytlnogijlfompoaa
