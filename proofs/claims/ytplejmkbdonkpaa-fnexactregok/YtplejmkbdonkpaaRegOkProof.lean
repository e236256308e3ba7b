/- FnExactRegOk, proved: at every register the program's RegOk answers as the specification's; no condition. -/
import Derived.Test.YtplejmkbdonkpaaRows
import Derived.Test.YtplejmkbdonkpaaRr4
import Derived.Test.YtplejmkbdonkpaaRr7
import Derived.Test.YtplejmkbdonkpaaRg2
import Derived.Deep.Cut
import Derived.WalkKit
import Derived.Below
import Derived.ChangeOld
import Derived.WalkSmall
import Derived.ProofKit
import Derived.OpenShut
import Derived.ShutString
import Derived.BigQuiet
namespace Go.Proofs.Ytplejmkbdonkpaa.fnExactRegOk
open Go.ChangeShapes Go.WideShapes Go.ChangeAt Go.RowKit
set_option linter.unusedVariables false

theorem own : ownKnob Try.prog.godebug = none := by kernel_rfl
theorem laidOut : laidOutB Try.prog = true := by kernel_rfl

set_option maxHeartbeats 8000000 in
set_option maxRecDepth 100000 in
theorem walk (rg0 : Rg) (w : World) (I0 : True) :
    Calls Try.prog 4 #[.agg #[.int .i64 rg0.ep, .int .i64 rg0.ow, .int .i64 rg0.pa]] w fun e w' => e = .returned (.bool true) ∧ Below w.heap.size w w' := by
  clear I0
  obtain ⟨y0, hx⟩ : ∃ y_, y_ = w.alloc (Obj.cells #[.int .i64 rg0.ep, .int .i64 rg0.ow, .int .i64 rg0.pa] 42) := ⟨_, rfl⟩
  have A0 : RgAt y0 w.heap.size rg0 := by rw [hx]; exact RgAt.new w _ _
  have BW : Below w.heap.size w y0 := by rw [hx]; exact below_new _
  go_enter Try.func4, Try.ntmps4
  go_wp2_with fail
  go_at_call 20
  rw [← hx]
  clear hx
  refine (toRg rg0 y0).mono ?_
  rintro e y1 ⟨rfl, kq⟩
  have sy1 := kq.size
  have A0 := A0.below kq A0.lt
  have BW := BW.trans (kq.mono BW.size)
  clear kq
  go_wp2_with fail
  go_at_call 19
  refine (regOkS rg0 y1).mono ?_
  rintro e x1 ⟨rfl, kq⟩
  have sx1 := kq.size
  have A0 := A0.below kq A0.lt
  have BW := BW.trans (kq.mono BW.size)
  clear kq
  generalize hO : rgOk rg0 = o
  replace hO : Hid _ := hO
  have cc := A0
  obtain ⟨m0_0, m0_1, m0_2⟩ := cc
  go_wp2_with fail
  go_at_call 20
  clear m0_0 m0_1 m0_2
  refine (toRg rg0 x1).mono ?_
  rintro e x2 ⟨rfl, kq⟩
  have sx2 := kq.size
  have A0 := A0.below kq A0.lt
  have BW := BW.trans (kq.mono BW.size)
  clear kq
  go_wp2_with fail
  go_at_call 21
  refine (regOkI rg0 x2).mono ?_
  rintro e x3 ⟨rfl, kq⟩
  have sx3 := kq.size
  have A0 := A0.below kq A0.lt
  have BW := BW.trans (kq.mono BW.size)
  clear kq
  rw [hO.out]
  clear hO
  go_wp2
  go_ret
  exact ⟨rfl, BW⟩


set_option maxRecDepth 100000 in
theorem lifted (os : Os) (started : os.Started) (H : Type) (enc : TypeId × Value → H) :
    ReturnsInHanded {} Try.checked os 4 .any (Rows.fnExactRegOkSpec.pre6 enc Try.prog Try.f4 Rows.fnExactRegOkRow.domain false) (Rows.fnExactRegOkSpec.post enc Try.prog Try.f4 false true false false) := by
  refine returnsInHanded_of_change (C := Try.checked) own started (by kernel_rfl) Try.func4
    (ChangeSpec.witness6 (enc := enc) (C := Try.checked) false ⟨#[], #[.agg #[.int .i64 0, .int .i64 0, .int .i64 0]], []⟩ 8 (by kernel_rfl) (by kernel_rfl) (by kernel_rfl) (by kernel_rfl)) ?_
  intro W base args ds gs before hval0 hW hcnd _
  have hval : ∀ (j : Nat) t v, Try.f4.params[j]? = some t → args[j]? = some v → Value.okWide Try.prog W .any base t v := hval0
  have hW' := hW
  obtain ⟨p, q, hA0, hV, rfl, hfz, hnd⟩ := hW
  have hA : DataW.TrodAll enc Try.prog W 0 (fun _ => true) true Try.f4.params.toList args.toList ds p := hA0
  rw [Try.params4] at hA hval
  obtain ⟨v0, vs0, d0, ds0, p0, q0, hargs, rfl, rfl, h0, r0⟩ := trodAll_cons hA
  obtain ⟨rfl, rfl, rfl⟩ := trodAll_nil r0
  obtain rfl : args = #[v0] := by cases args; simp_all
  obtain ⟨rfl, rfl⟩ := trodVars_none hV
  obtain ⟨rg0, rfl, I0⟩ := rgIn_open (hval 0 42 v0 rfl rfl) h0
  have lt0 : ∀ x ∈ p0, x.block < W.heap.size := by obtain ⟨m, hm⟩ := h0; exact DataW.trod_lt m _ _ _ hm
  clear hA0 hval0
  refine (walk rg0 W I0).mono fun e W' ⟨he, bel⟩ => ?_
  subst he
  exact ⟨_, rfl, _, _, _, [], _, [], hW', trodAll_mk1 (shut_bool Try.underlying4 _), (trodAll_cons_mk (Below.trod laidOut (by kernel_rfl) (of_decide_eq_true (by kernel_rfl)) h0 bel lt0) trodAll_mk0), rfl, bel.frame _, fun h => by cases h⟩

theorem over : Rows.fnExactRegOkRow.holds Try.pinned (OpenSpec.ofChange Rows.fnExactRegOkSpec) :=
  OpenClaim.holds_of_wide 4 Try.f4 rfl rfl rfl rfl rfl rfl rfl ⟨rfl, rfl, rfl, rfl, rfl⟩ rfl rfl rfl rfl rfl (by kernel_rfl) Try.func4 (by kernel_rfl)
    (of_decide_eq_true (by kernel_rfl)) (by unfold Func.isWrapper; first | (rw [if_pos (by decide +kernel)]; kernel_rfl) | (rw [if_neg (by decide +kernel)]; exact ⟨rfl, rfl⟩))
    (fun os started H enc _ => lifted os started H enc)

theorem proved : Rows.FnExactRegOkSaid := over
end Go.Proofs.Ytplejmkbdonkpaa.fnExactRegOk
namespace Go.Proofs.Ytplejmkbdonkpaa
theorem regOk_holds : Rows.FnExactRegOkSaid := fnExactRegOk.proved
#print axioms regOk_holds
end Go.Proofs.Ytplejmkbdonkpaa
