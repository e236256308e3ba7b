/- For every claim the call of FnExactVecOk returns true: impl.VecOk answers as spec.VecOk, and writes into no argument. No condition. -/
import Derived.Test.YtamnjaadmagdnaaRows
import Derived.Test.YtamnjaadmagdnaaVecIn
import Derived.WalkKit
import Derived.Below
import Derived.ChangeOld
import Derived.WalkSmall
import Derived.ProofKit
import Derived.OpenShut
import Derived.ShutString
import Derived.BigQuiet
namespace Go.Proofs.Ytamnjaadmagdnaa.fnExactVecOk
open Go.ChangeShapes Go.WideShapes Go.ChangeAt Go.RowKit
set_option linter.unusedVariables false

theorem own : ownKnob Try.prog.godebug = none := by kernel_rfl
theorem laidOut : laidOutB Try.prog = true := by kernel_rfl

set_option maxHeartbeats 1000000 in
theorem walk (r0 c0 b0 p0 : Int) (w : World) (I0 : VecWf r0 c0 b0 p0) :
    Calls Try.prog 3 #[.agg #[.int .i64 r0, .int .i64 c0, .int .i64 b0, .int .i64 p0]] w fun e w' => e = .returned (.bool true) ∧ Below w.heap.size w w' := by
  clear I0
  go_enter Try.func3, Try.ntmps3
  go_wp2_with fail
  go_at_call 6
  obtain ⟨x, hx⟩ : ∃ x, x = w.alloc (Obj.cells #[.int .i64 r0, .int .i64 c0, .int .i64 b0, .int .i64 p0] 23) := ⟨_, rfl⟩
  have A0 : VecAt x w.heap.size r0 c0 b0 p0 := by rw [hx]; exact vecAt_box w _ _ _ _ _
  have B0 : Below w.heap.size w x := by rw [hx]; exact below_box w _
  have S0 : w.heap.size < x.heap.size := by rw [hx]; exact size_box w _
  rw [← hx]
  clear hx
  refine (toV r0 c0 b0 p0 x).mono ?_
  rintro e w1 ⟨rfl, k1⟩
  have s1 := k1.size
  go_wp2_with fail
  go_at_call 5
  refine (vOkS r0 c0 b0 p0 w1).mono ?_
  rintro e w2 ⟨rfl, k2⟩
  have s2 := k2.size
  have B2 := (B0.trans (k1.mono (by omega))).trans (k2.mono (by omega))
  obtain ⟨C1, C2, C3, C4⟩ := (A0.below k1 S0).below k2 (by omega)
  go_wp2_with fail
  go_at_call 6
  refine (toV r0 c0 b0 p0 w2).mono ?_
  rintro e w3 ⟨rfl, k3⟩
  have s3 := k3.size
  go_wp2_with fail
  go_at_call 7
  refine (vOkI r0 c0 b0 p0 w3).mono ?_
  rintro e w4 ⟨rfl, k4⟩
  have B4 := (B2.trans (k3.mono (by omega))).trans (k4.mono (by omega))
  generalize vOk r0 c0 b0 p0 = o
  cases o
  · go_wp2
    go_ret
    exact ⟨rfl, B4⟩
  · go_wp2
    go_ret
    exact ⟨rfl, B4⟩

set_option maxRecDepth 100000 in
theorem lifted (os : Os) (started : os.Started) (H : Type) (enc : TypeId × Value → H) :
    ReturnsInHanded {} Try.checked os 3 .any (Rows.fnExactVecOkSpec.pre6 enc Try.prog Try.f3 Rows.fnExactVecOkRow.domain false) (Rows.fnExactVecOkSpec.post enc Try.prog Try.f3 false true false false) := by
  refine returnsInHanded_of_change (C := Try.checked) own started (by kernel_rfl) Try.func3
    (ChangeSpec.witness6 (enc := enc) (C := Try.checked) false ⟨#[], #[.agg #[.int .i64 0, .int .i64 0, .int .i64 0, .int .i64 0]], []⟩ 8 (by kernel_rfl) (by kernel_rfl) (by kernel_rfl) (by kernel_rfl)) ?_
  intro W base args ds gs before hval0 hW hcnd _
  have hval : ∀ (j : Nat) t v, Try.f3.params[j]? = some t → args[j]? = some v → Value.okWide Try.prog W .any base t v := hval0
  have hW' := hW
  obtain ⟨p, q, hA0, hV, rfl, hfz, hnd⟩ := hW
  have hA : DataW.TrodAll enc Try.prog W 0 (fun _ => true) true Try.f3.params.toList args.toList ds p := hA0
  rw [Try.params3] at hA hval
  obtain ⟨v0, vs0, d0, ds0, q0, qq0, hargs, rfl, rfl, h0, rr0⟩ := trodAll_cons hA
  obtain ⟨rfl, rfl, rfl⟩ := trodAll_nil rr0
  obtain rfl : args = #[v0] := by cases args; simp_all
  obtain ⟨rfl, rfl⟩ := trodVars_none hV
  have lt0 : ∀ x ∈ q0, x.block < W.heap.size := by obtain ⟨m, hm⟩ := h0; exact DataW.trod_lt m _ _ _ hm
  obtain ⟨r0, c0, b0, p0, rfl, I0⟩ := vecIn_open (hval 0 23 v0 rfl rfl) h0
  clear hA0 hval0
  refine (walk r0 c0 b0 p0 W I0).mono fun e W' ⟨he, bel⟩ => ?_
  subst he
  exact ⟨_, rfl, _, _, _, [], _, [], hW', trodAll_mk1 (shut_bool Try.underlying4 _), (trodAll_cons_mk (Below.trod laidOut (by kernel_rfl) (of_decide_eq_true (by kernel_rfl)) h0 bel lt0) trodAll_mk0), rfl, bel.frame _, fun h => by cases h⟩

theorem over : Rows.fnExactVecOkRow.holds Try.pinned (OpenSpec.ofChange Rows.fnExactVecOkSpec) :=
  OpenClaim.holds_of_wide 3 Try.f3 rfl rfl rfl rfl rfl rfl rfl ⟨rfl, rfl, rfl, rfl, rfl⟩ rfl rfl rfl rfl rfl (by kernel_rfl) Try.func3 (by kernel_rfl)
    (of_decide_eq_true (by kernel_rfl)) (by unfold Func.isWrapper; first | (rw [if_pos (by decide +kernel)]; kernel_rfl) | (rw [if_neg (by decide +kernel)]; exact ⟨rfl, rfl⟩))
    (fun os started H enc _ => lifted os started H enc)

theorem proved : Rows.FnExactVecOkSaid := over
end Go.Proofs.Ytamnjaadmagdnaa.fnExactVecOk
namespace Go.Proofs.Ytamnjaadmagdnaa
theorem vecOk_holds : Rows.FnExactVecOkSaid := fnExactVecOk.proved
#print axioms vecOk_holds
end Go.Proofs.Ytamnjaadmagdnaa
