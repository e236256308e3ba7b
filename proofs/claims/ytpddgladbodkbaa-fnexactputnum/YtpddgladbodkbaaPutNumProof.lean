/- For every int the call of FnExactPutNum returns true: impl.PutNum answers byte by byte as spec.PutNum, its answer owns its memory, and a second call leaves it as it was. No condition. -/
import Derived.Test.YtpddgladbodkbaaRows
import Derived.Test.YtpddgladbodkbaaBytes
import Derived.Test.YtpddgladbodkbaaPut
import Derived.WalkKit
import Derived.WalkSmall
import Derived.ChangeOld
import Derived.Below
import Derived.ProofKit
import Derived.OpenShut
import Derived.ShutString
namespace Go.Proofs.Ytpddgladbodkbaa.fnExactPutNum
open Go.ChangeShapes Go.WideShapes Go.ChangeAt Go.RowKit
open Go.ChangeMaps (open_string shut_string)
set_option linter.unusedVariables false

theorem own : ownKnob Try.prog.godebug = none := by kernel_rfl

theorem walk (a0 : Int) (w0 : (Lit.int .i64 a0).wf = true) (w : World) :
    Calls Try.prog 3 #[.int .i64 a0] w fun e w' => e = .returned (.bool true) ∧ Below w.heap.size w w' := by
  have hl := putZ_len a0
  go_enter Try.func3, Try.ntmps3
  go_wp2_with fail
  go_at_call 4
  refine (putSpec a0 w w0).mono ?_
  rintro e w1 ⟨v, rfl, o1, b1⟩
  obtain ⟨_, ad1, cap1, rfl, v1, _, k1⟩ := own_view o1
  clear o1
  go_wp2_with fail
  go_at_call 5
  refine (putImpl a0 w1 w0).mono ?_
  rintro e w2 ⟨v, rfl, o2, b2⟩
  obtain ⟨_, ad2, cap2, rfl, v2, r2, k2⟩ := own_view o2
  clear o2
  have v1a : View w2 ad1 (putZ a0).length (fun i => (putZ a0).getD i 0) := v1.carry (fun a h _ => b2.block _ (k1 a h).2)
  go_wp2_with fail
  go_at_call 6
  refine (eqBytes _ _ _ _ _ _ w2 v2 v1a (by omega)).mono ?_
  rintro e w3 ⟨rfl, n, rfl⟩
  go_wp2_with fail
  go_at_call 7
  refine (markBytes ad2 (putZ a0).length cap2 1 (w2.drewN n) (r2.carry (fun _ _ _ => rfl)) (by omega) (by omega) (by omega)).mono ?_
  rintro e w4 ⟨rfl, v4, r4, h4⟩
  have b4 : Below w1.heap.size w2 w4 := mark_below h4 (fun a h => (k2 a h).1) b2.size
  have s2 := b2.size
  have s4 := b4.size
  clear r4 h4
  have v1b : View w4 ad1 (putZ a0).length (fun i => (putZ a0).getD i 0) := v1a.carry (fun a h _ => b4.block _ (k1 a h).2)
  go_wp2_with fail
  go_at_call 8
  refine (heldBytes _ _ _ _ w4 v4 (by omega) (by omega) (by omega)).mono ?_
  rintro e w5 ⟨rfl, rfl⟩
  go_wp2_with fail
  go_at_call 5
  refine (putImpl a0 w5 w0).mono ?_
  rintro e w6 ⟨v, rfl, o6, b6⟩
  obtain ⟨_, ad6, cap6, rfl, v6, _, k6⟩ := own_view o6
  clear o6
  have v1c : View w6 ad1 (putZ a0).length (fun i => (putZ a0).getD i 0) := v1b.carry (fun a h _ => b6.block _ (by have := (k1 a h).2; omega))
  have v4c := v4.carry (w' := w6) (fun a h _ => b6.block _ (by have := (k2 a h).2; omega))
  go_wp2_with fail
  go_at_call 6
  refine (eqBytes _ _ _ _ _ _ w6 v6 v1c (by omega)).mono ?_
  rintro e w7 ⟨rfl, n', rfl⟩
  go_wp2_with fail
  go_at_call 8
  refine (heldBytes ad2 (putZ a0).length cap2 1 (w6.drewN n') (v4c.carry (fun _ _ _ => rfl)) (by omega) (by omega) (by omega)).mono ?_
  rintro e w8 ⟨rfl, rfl⟩
  go_wp2
  go_ret
  have s1 := b1.size
  refine ⟨rfl, below_drewN (((b1.trans (b2.mono s1)).trans (b4.mono s1)).trans (b6.mono (by omega))) n'⟩

set_option maxRecDepth 100000 in
theorem lifted (os : Os) (started : os.Started) (H : Type) (enc : TypeId × Value → H) :
    ReturnsInHanded {} Try.checked os 3 .any (Rows.fnExactPutNumSpec.pre6 enc Try.prog Try.f3 Rows.fnExactPutNumRow.domain false) (Rows.fnExactPutNumSpec.post enc Try.prog Try.f3 false true false false) := by
  refine returnsInHanded_of_change (C := Try.checked) own started (by kernel_rfl) Try.func3
    (ChangeSpec.witness6 (enc := enc) (C := Try.checked) false ⟨#[], #[.int .i64 0], []⟩ 8 (by kernel_rfl) (by kernel_rfl) (by kernel_rfl) (by kernel_rfl)) ?_
  intro W base args ds gs before hval0 hW hcnd _
  have hval : ∀ (j : Nat) t v, Try.f3.params[j]? = some t → args[j]? = some v → Value.okWide Try.prog W .any base t v := hval0
  have hW' := hW
  obtain ⟨p, q, hA0, hV, rfl, hfz, hnd⟩ := hW
  have hA : DataW.TrodAll enc Try.prog W 0 (fun _ => true) true Try.f3.params.toList args.toList ds p := hA0
  rw [Try.params3] at hA hval
  obtain ⟨v0, vs0, d0, ds0, p0, q0, hargs, rfl, rfl, h0, r0⟩ := trodAll_cons hA
  obtain ⟨rfl, rfl, rfl⟩ := trodAll_nil r0
  obtain rfl : args = #[v0] := by cases args; simp_all
  obtain ⟨rfl, rfl⟩ := trodVars_none hV
  obtain ⟨a0, rfl, rfl, rfl, w0⟩ := open_int Try.underlying3 (hval 0 3 v0 rfl rfl) h0
  clear hA0 hval0
  refine (walk a0 w0 W).mono fun e W' ⟨he, bel⟩ => ?_
  subst he
  exact ⟨_, rfl, _, _, _, [], _, [], hW', (trodAll_cons_mk (shut_bool Try.underlying4 _) trodAll_mk0), (trodAll_cons_mk (shut_int Try.underlying3 w0) trodAll_mk0), rfl, bel.frame _, fun h => by cases h⟩

theorem over : Rows.fnExactPutNumRow.holds Try.pinned (OpenSpec.ofChange Rows.fnExactPutNumSpec) :=
  OpenClaim.holds_of_wide 3 Try.f3 rfl rfl rfl rfl rfl rfl rfl ⟨rfl, rfl, rfl, rfl, rfl⟩ rfl rfl rfl rfl rfl (by kernel_rfl) Try.func3 (by kernel_rfl)
    (of_decide_eq_true (by kernel_rfl)) (by unfold Func.isWrapper; first | (rw [if_pos (by decide +kernel)]; kernel_rfl) | (rw [if_neg (by decide +kernel)]; exact ⟨rfl, rfl⟩))
    (fun os started H enc _ => lifted os started H enc)

theorem proved : Rows.FnExactPutNumSaid :=
  over
end Go.Proofs.Ytpddgladbodkbaa.fnExactPutNum
namespace Go.Proofs.Ytpddgladbodkbaa
theorem putNum_holds : Rows.FnExactPutNumSaid := fnExactPutNum.proved
#print axioms putNum_holds
end Go.Proofs.Ytpddgladbodkbaa
