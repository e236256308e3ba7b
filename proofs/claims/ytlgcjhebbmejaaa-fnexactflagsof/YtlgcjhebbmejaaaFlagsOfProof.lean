/- FnExactFlagsOf: at every Bpdu the program's FlagsOf answers as the specification's; no condition. -/
import Derived.Test.YtlgcjhebbmejaaaRows
import Derived.Test.YtlgcjhebbmejaaaBp1
import Derived.Test.YtlgcjhebbmejaaaTakes
import Derived.Deep.Cut
import Derived.WalkKit
import Derived.Below
import Derived.ChangeOld
import Derived.WalkSmall
import Derived.ProofKit
import Derived.OpenShut
import Derived.ShutString
import Derived.BigQuiet
namespace Go.Proofs.Ytlgcjhebbmejaaa.fnExactFlagsOf
open Go.ChangeShapes Go.WideShapes Go.ChangeAt Go.RowKit
set_option linter.unusedVariables false

theorem own : ownKnob Try.prog.godebug = none := by kernel_rfl
theorem laidOut : laidOutB Try.prog = true := by kernel_rfl

set_option maxHeartbeats 8000000 in
set_option maxRecDepth 100000 in
theorem walk (z0 : Bp) (w : World) (I0 : True) :
    Calls Try.prog 5 #[.agg #[.bool z0.ch, .bool z0.ak, .bool z0.ag, .bool z0.le, .bool z0.op, .int .i64 z0.ro, .int .i64 z0.r, .int .i64 z0.c, .int .i64 z0.b, .int .i64 z0.p, .int .i64 z0.h]] w fun e w' => e = .returned (.bool true) ∧ Below w.heap.size w w' := by
  clear I0
  obtain ⟨y0, hx⟩ : ∃ y_, y_ = w.alloc (Obj.cells #[.bool z0.ch, .bool z0.ak, .bool z0.ag, .bool z0.le, .bool z0.op, .int .i64 z0.ro, .int .i64 z0.r, .int .i64 z0.c, .int .i64 z0.b, .int .i64 z0.p, .int .i64 z0.h] 44) := ⟨_, rfl⟩
  have A0 : BpAt y0 w.heap.size z0 := by rw [hx]; exact BpAt.new w _ _
  have BW : Below w.heap.size w y0 := by rw [hx]; exact below_new _
  go_enter Try.func5, Try.ntmps5
  go_wp2_with fail
  go_at_call 26
  rw [← hx]
  clear hx
  refine (toBpI z0 y0).mono ?_
  rintro e y1 ⟨rfl, kq⟩
  have sy1 := kq.size
  have A0 := A0.below kq A0.lt
  have BW := BW.trans (kq.mono BW.size)
  clear kq
  go_wp2_with fail
  go_at_call 24
  refine (flagsS z0 y1).mono ?_
  rintro e x1 ⟨rfl, kq⟩
  have sx1 := kq.size
  have A0 := A0.below kq A0.lt
  have BW := BW.trans (kq.mono BW.size)
  clear kq
  generalize hO : flZ z0 = o
  replace hO : Hid _ := hO
  have cc := A0
  obtain ⟨m0_0, m0_1, m0_2, m0_3, m0_4, m0_5, m0_6, m0_7, m0_8, m0_9, m0_10⟩ := cc
  go_wp2_with fail
  go_at_call 26
  clear m0_0 m0_1 m0_2 m0_3 m0_4 m0_5 m0_6 m0_7 m0_8 m0_9 m0_10
  refine (toBpI z0 x1).mono ?_
  rintro e x2 ⟨rfl, kq⟩
  have sx2 := kq.size
  have A0 := A0.below kq A0.lt
  have BW := BW.trans (kq.mono BW.size)
  clear kq
  go_wp2_with fail
  go_at_call 23
  refine (flagsI z0 x2).mono ?_
  rintro e x3 ⟨rfl, kq⟩
  have sx3 := kq.size
  have A0 := A0.below kq A0.lt
  have BW := BW.trans (kq.mono BW.size)
  clear kq
  rw [hO.out]
  clear hO
  go_wp2
  go_ret
  exact ⟨rfl, BW⟩


set_option maxRecDepth 100000 in
theorem lifted (os : Os) (started : os.Started) (H : Type) (enc : TypeId × Value → H) :
    ReturnsInHanded {} Try.checked os 5 .any (Rows.fnExactFlagsOfSpec.pre6 enc Try.prog Try.f5 Rows.fnExactFlagsOfRow.domain false) (Rows.fnExactFlagsOfSpec.post enc Try.prog Try.f5 false true false false) := by
  refine returnsInHanded_of_change (C := Try.checked) own started (by kernel_rfl) Try.func5
    (ChangeSpec.witness6 (enc := enc) (C := Try.checked) false ⟨#[], #[.agg #[.bool false, .bool false, .bool false, .bool false, .bool false, .int .i64 0, .int .i64 0, .int .i64 0, .int .i64 0, .int .i64 0, .int .i64 0]], []⟩ 8 (by kernel_rfl) (by kernel_rfl) (by kernel_rfl) (by kernel_rfl)) ?_
  intro W base args ds gs before hval0 hW hcnd _
  have hval : ∀ (j : Nat) t v, Try.f5.params[j]? = some t → args[j]? = some v → Value.okWide Try.prog W .any base t v := hval0
  have hW' := hW
  obtain ⟨p, q, hA0, hV, rfl, hfz, hnd⟩ := hW
  have hA : DataW.TrodAll enc Try.prog W 0 (fun _ => true) true Try.f5.params.toList args.toList ds p := hA0
  rw [Try.params5] at hA hval
  obtain ⟨v0, vs0, d0, ds0, p0, q0, hargs, rfl, rfl, h0, r0⟩ := trodAll_cons hA
  obtain ⟨rfl, rfl, rfl⟩ := trodAll_nil r0
  obtain rfl : args = #[v0] := by cases args; simp_all
  obtain ⟨rfl, rfl⟩ := trodVars_none hV
  obtain ⟨z0, rfl, I0⟩ := bpIn_open (hval 0 44 v0 rfl rfl) h0
  have lt0 : ∀ x ∈ p0, x.block < W.heap.size := by obtain ⟨m, hm⟩ := h0; exact DataW.trod_lt m _ _ _ hm
  clear hA0 hval0
  refine (walk z0 W I0).mono fun e W' ⟨he, bel⟩ => ?_
  subst he
  exact ⟨_, rfl, _, _, _, [], _, [], hW', trodAll_mk1 (shut_bool Try.underlying4 _), (trodAll_cons_mk (Below.trod laidOut (by kernel_rfl) (of_decide_eq_true (by kernel_rfl)) h0 bel lt0) trodAll_mk0), rfl, bel.frame _, fun h => by cases h⟩

theorem over : Rows.fnExactFlagsOfRow.holds Try.pinned (OpenSpec.ofChange Rows.fnExactFlagsOfSpec) :=
  OpenClaim.holds_of_wide 5 Try.f5 rfl rfl rfl rfl rfl rfl rfl ⟨rfl, rfl, rfl, rfl, rfl⟩ rfl rfl rfl rfl rfl (by kernel_rfl) Try.func5 (by kernel_rfl)
    (of_decide_eq_true (by kernel_rfl)) (by unfold Func.isWrapper; first | (rw [if_pos (by decide +kernel)]; kernel_rfl) | (rw [if_neg (by decide +kernel)]; exact ⟨rfl, rfl⟩))
    (fun os started H enc _ => lifted os started H enc)

theorem proved : Rows.FnExactFlagsOfSaid := over
end Go.Proofs.Ytlgcjhebbmejaaa.fnExactFlagsOf
namespace Go.Proofs.Ytlgcjhebbmejaaa
theorem flagsOf_holds : Rows.FnExactFlagsOfSaid := fnExactFlagsOf.proved
#print axioms flagsOf_holds
end Go.Proofs.Ytlgcjhebbmejaaa
