/- For every thing that comes in the call of FnExactInOk returns true: impl.InOk answers as spec.InOk, every field, it writes into no argument, and its answer owns its memory. No condition. -/
import Derived.Test.YtbffdkjgadhdoabRows
import Derived.Test.YtbffdkjgadhdoabIn2
import Derived.Test.YtbffdkjgadhdoabIn2s
import Derived.Test.YtbffdkjgadhdoabIn4
import Derived.Deep.Cut
import Derived.WalkKit
import Derived.Below
import Derived.ChangeOld
import Derived.WalkSmall
import Derived.ProofKit
import Derived.OpenShut
import Derived.ShutString
import Derived.BigQuiet
namespace Go.Proofs.Ytbffdkjgadhdoab.fnExactInOk
open Go.ChangeShapes Go.WideShapes Go.ChangeAt Go.RowKit
set_option linter.unusedVariables false

theorem own : ownKnob Try.prog.godebug = none := by kernel_rfl
theorem laidOut : laidOutB Try.prog = true := by kernel_rfl

set_option maxHeartbeats 8000000 in
set_option maxRecDepth 100000 in
theorem walk (x0 : Ik) (w : World) (I0 : True) :
    Calls Try.prog 6 #[.agg #[.int .i64 x0.k, .int .i64 x0.q, .int .i64 x0.r, .int .i64 x0.c, .int .i64 x0.b, .int .i64 x0.p, .int .i64 x0.h, .bool x0.up]] w fun e w' => e = .returned (.bool true) ∧ Below w.heap.size w w' := by
  clear I0
  obtain ⟨y0, hx⟩ : ∃ y_, y_ = w.alloc (Obj.cells #[.int .i64 x0.k, .int .i64 x0.q, .int .i64 x0.r, .int .i64 x0.c, .int .i64 x0.b, .int .i64 x0.p, .int .i64 x0.h, .bool x0.up] 42) := ⟨_, rfl⟩
  have N0 : InAt y0 w.heap.size x0 := by rw [hx]; exact InAt.new w _ _
  have BW : Below w.heap.size w y0 := by rw [hx]; exact below_new _
  go_enter Try.func6, Try.ntmps6
  go_wp2_with fail
  go_at_call 21
  rw [← hx]
  clear hx
  refine (toInI x0 y0).mono ?_
  rintro e y1 ⟨rfl, kq⟩
  have sy1 := kq.size
  have N0 := N0.below kq N0.lt
  have BW := BW.trans (kq.mono BW.size)
  clear kq
  go_wp2_with fail
  go_at_call 20
  refine (inOkS x0 y1).mono ?_
  rintro e x1 ⟨rfl, kq⟩
  have sx1 := kq.size
  have N0 := N0.below kq N0.lt
  have BW := BW.trans (kq.mono BW.size)
  clear kq
  generalize hO : inOk x0 = o
  replace hO : Hid _ := hO
  have cc := N0
  obtain ⟨m0_0, m0_1, m0_2, m0_3, m0_4, m0_5, m0_6, m0_7⟩ := cc
  go_wp2_with fail
  go_at_call 21
  clear m0_0 m0_1 m0_2 m0_3 m0_4 m0_5 m0_6 m0_7
  refine (toInI x0 x1).mono ?_
  rintro e x2 ⟨rfl, kq⟩
  have sx2 := kq.size
  have N0 := N0.below kq N0.lt
  have BW := BW.trans (kq.mono BW.size)
  clear kq
  go_wp2_with fail
  go_at_call 22
  refine (inOkI x0 x2).mono ?_
  rintro e x3 ⟨rfl, kq⟩
  have sx3 := kq.size
  have N0 := N0.below kq N0.lt
  have BW := BW.trans (kq.mono BW.size)
  clear kq
  rw [hO.out]
  clear hO
  go_wp2
  go_ret
  exact ⟨rfl, BW⟩


set_option maxRecDepth 100000 in
theorem lifted (os : Os) (started : os.Started) (H : Type) (enc : TypeId × Value → H) :
    ReturnsInHanded {} Try.checked os 6 .any (Rows.fnExactInOkSpec.pre6 enc Try.prog Try.f6 Rows.fnExactInOkRow.domain false) (Rows.fnExactInOkSpec.post enc Try.prog Try.f6 false true false false) := by
  refine returnsInHanded_of_change (C := Try.checked) own started (by kernel_rfl) Try.func6
    (ChangeSpec.witness6 (enc := enc) (C := Try.checked) false ⟨#[], #[.agg #[.int .i64 0, .int .i64 0, .int .i64 0, .int .i64 0, .int .i64 0, .int .i64 0, .int .i64 0, .bool false]], []⟩ 8 (by kernel_rfl) (by kernel_rfl) (by kernel_rfl) (by kernel_rfl)) ?_
  intro W base args ds gs before hval0 hW hcnd _
  have hval : ∀ (j : Nat) t v, Try.f6.params[j]? = some t → args[j]? = some v → Value.okWide Try.prog W .any base t v := hval0
  have hW' := hW
  obtain ⟨p, q, hA0, hV, rfl, hfz, hnd⟩ := hW
  have hA : DataW.TrodAll enc Try.prog W 0 (fun _ => true) true Try.f6.params.toList args.toList ds p := hA0
  rw [Try.params6] at hA hval
  obtain ⟨v0, vs0, d0, ds0, p0, q0, hargs, rfl, rfl, h0, r0⟩ := trodAll_cons hA
  obtain ⟨rfl, rfl, rfl⟩ := trodAll_nil r0
  obtain rfl : args = #[v0] := by cases args; simp_all
  obtain ⟨rfl, rfl⟩ := trodVars_none hV
  obtain ⟨x0, rfl, I0⟩ := inIn_open (hval 0 42 v0 rfl rfl) h0
  have lt0 : ∀ x ∈ p0, x.block < W.heap.size := by obtain ⟨m, hm⟩ := h0; exact DataW.trod_lt m _ _ _ hm
  clear hA0 hval0
  refine (walk x0 W I0).mono fun e W' ⟨he, bel⟩ => ?_
  subst he
  exact ⟨_, rfl, _, _, _, [], _, [], hW', trodAll_mk1 (shut_bool Try.underlying4 _), (trodAll_cons_mk (Below.trod laidOut (by kernel_rfl) (of_decide_eq_true (by kernel_rfl)) h0 bel lt0) trodAll_mk0), rfl, bel.frame _, fun h => by cases h⟩

theorem over : Rows.fnExactInOkRow.holds Try.pinned (OpenSpec.ofChange Rows.fnExactInOkSpec) :=
  OpenClaim.holds_of_wide 6 Try.f6 rfl rfl rfl rfl rfl rfl rfl ⟨rfl, rfl, rfl, rfl, rfl⟩ rfl rfl rfl rfl rfl (by kernel_rfl) Try.func6 (by kernel_rfl)
    (of_decide_eq_true (by kernel_rfl)) (by unfold Func.isWrapper; first | (rw [if_pos (by decide +kernel)]; kernel_rfl) | (rw [if_neg (by decide +kernel)]; exact ⟨rfl, rfl⟩))
    (fun os started H enc _ => lifted os started H enc)

theorem proved : Rows.FnExactInOkSaid := over
end Go.Proofs.Ytbffdkjgadhdoab.fnExactInOk
namespace Go.Proofs.Ytbffdkjgadhdoab
theorem inOk_holds : Rows.FnExactInOkSaid := fnExactInOk.proved
#print axioms inOk_holds
end Go.Proofs.Ytbffdkjgadhdoab
