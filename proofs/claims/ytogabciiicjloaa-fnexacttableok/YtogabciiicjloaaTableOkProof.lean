/- For every list the call of FnExactTableOk returns true: impl.TableOk answers as spec.TableOk, and writes into no argument (a list of more than 1048576 is answered true at once). No condition. -/
import Derived.Test.YtogabciiicjloaaRows
import Derived.Test.YtogabciiicjloaaHeard7
import Derived.WalkKit
import Derived.Below
import Derived.ChangeOld
import Derived.WalkSmall
import Derived.ProofKit
import Derived.OpenShut
import Derived.ShutString
import Derived.BigQuiet
namespace Go.Proofs.Ytogabciiicjloaa.fnExactTableOk
open Go.ChangeShapes Go.WideShapes Go.ChangeAt Go.RowKit
set_option linter.unusedVariables false

theorem own : ownKnob Try.prog.godebug = none := by kernel_rfl
theorem laidOut : laidOutB Try.prog = true := by kernel_rfl

set_option maxHeartbeats 1000000 in
theorem walk (ad0 : Option Addr) (cap0 : Nat) (L0 : List Hd) (w : World) (I0 : HIn w ad0 L0) :
    Calls Try.prog 5 #[.slice ad0 L0.length cap0] w fun e w' => e = .returned (.bool true) ∧ Below w.heap.size w w' := by
  obtain ⟨lm, hv, hB, wf⟩ := I0
  clear wf
  by_cases hbig : 1048576 < L0.length
  · go_enter Try.func5, Try.ntmps5
    go_wp2_with fail
    go_at_call 26
    refine (szH ad0 L0.length cap0 1048576 w (by omega) (by omega) lm).mono ?_
    rintro e w1 ⟨rfl, h1⟩
    rw [h1, if_neg (by omega)]
    clear h1 w1
    go_wp2
    go_ret
    exact ⟨rfl, Below.refl _ _⟩
  have hl : L0.length ≤ 1048576 := by omega
  have hl' : (L0.length : Int) ≤ 1048576 := by omega
  have hl2 : 0 ≤ 1048576 - (L0.length : Int) := by omega
  clear hbig
  go_enter Try.func5, Try.ntmps5
  go_wp2_with fail
  go_at_call 26
  refine (szH ad0 L0.length cap0 1048576 w (by omega) (by omega) lm).mono ?_
  rintro e w1 ⟨rfl, h1⟩
  rw [h1, if_pos hl']
  clear h1 w1
  go_wp2_with fail
  go_at_call 27
  refine (toHS ad0 cap0 L0 w hv hl hB).mono ?_
  rintro e w2 ⟨rfl, F2⟩
  have B2 : Below w.heap.size w w2 := F2.1
  have s2 := B2.size
  have v2 := F2.view
  have t2 : w.heap.size < w2.heap.size := F2.2.1
  clear F2
  go_wp2_with fail
  go_at_call 24
  refine (okS _ _ L0 w2 v2 lm (his_some t2)).mono ?_
  rintro e w3 ⟨rfl, k3⟩
  have B3 : Below w.heap.size w w3 := B2.trans (k3.mono s2)
  have s3 := B3.size
  clear v2 k3
  obtain ⟨r, hr⟩ : ∃ r, tokB L0 = r := ⟨_, rfl⟩
  have hR : Hid (tokB L0 = r) := hr
  rw [hr]
  clear hr
  go_wp2_with fail
  go_at_call 27
  refine (toHS ad0 cap0 L0 w3 (hv.below hB B3) hl (hB.le s3)).mono ?_
  rintro e w4 ⟨rfl, F4⟩
  have B4 : Below w.heap.size w w4 := B3.trans (F4.1.mono s3)
  have v4 := F4.view
  have t4 : w3.heap.size < w4.heap.size := F4.2.1
  clear F4
  go_wp2_with fail
  go_at_call 23
  refine (okI _ _ L0 w4 v4 lm (his_some t4)).mono ?_
  rintro e w5 ⟨rfl, k5⟩
  rw [hR.out]
  have B5 : Below w.heap.size w w5 := B4.trans (k5.mono B4.size)
  have s5 := k5.size
  clear hR
  go_wp2_with fail
  go_at_call 27
  refine (toHS ad0 cap0 L0 w5 (hv.below hB B5) hl (hB.le B5.size)).mono ?_
  rintro e w6 ⟨rfl, F6⟩
  have B6 : Below w.heap.size w w6 := B5.trans (F6.1.mono B5.size)
  have v6 := F6.view
  have t6 : w5.heap.size < w6.heap.size := F6.2.1
  have v4' : HView w6 (some ⟨w3.heap.size, 0, none⟩) L0 := (v4.below (his_some t4) k5).below (his_some (by omega)) F6.1
  clear F6 v4
  go_wp2_with fail
  go_at_call 28
  refine (eqHS _ _ _ _ L0 w6 v4' v6 hl (his_some (by omega)) (his_some t6)).mono ?_
  rintro e w7 ⟨rfl, k7⟩
  go_wp2
  go_ret
  exact ⟨rfl, B6.trans (k7.mono B6.size)⟩

set_option maxRecDepth 100000 in
theorem lifted (os : Os) (started : os.Started) (H : Type) (enc : TypeId × Value → H) :
    ReturnsInHanded {} Try.checked os 5 .any (Rows.fnExactTableOkSpec.pre6 enc Try.prog Try.f5 Rows.fnExactTableOkRow.domain false) (Rows.fnExactTableOkSpec.post enc Try.prog Try.f5 false true false false) := by
  refine returnsInHanded_of_change (C := Try.checked) own started (by kernel_rfl) Try.func5
    (ChangeSpec.witness6 (enc := enc) (C := Try.checked) false ⟨#[], #[.slice none 0 0], []⟩ 8 (by kernel_rfl) (by kernel_rfl) (by kernel_rfl) (by kernel_rfl)) ?_
  intro W base args ds gs before hval0 hW hcnd _
  have hval : ∀ (j : Nat) t v, Try.f5.params[j]? = some t → args[j]? = some v → Value.okWide Try.prog W .any base t v := hval0
  have hW' := hW
  obtain ⟨p, q, hA0, hV, rfl, hfz, hnd⟩ := hW
  have hA : DataW.TrodAll enc Try.prog W 0 (fun _ => true) true Try.f5.params.toList args.toList ds p := hA0
  rw [Try.params5] at hA hval
  obtain ⟨v0, vs0, d0, ds0, p0, q0, hargs, rfl, rfl, h0, r0⟩ := trodAll_cons hA
  obtain ⟨rfl, rfl, rfl⟩ := trodAll_nil r0
  obtain rfl : args = #[v0] := by cases args; simp_all
  obtain ⟨rfl, rfl⟩ := trodVars_none hV
  have lt0 : ∀ x ∈ p0, x.block < W.heap.size := by obtain ⟨m, hm⟩ := h0; exact DataW.trod_lt m _ _ _ hm
  obtain ⟨ad0, cap0, L0, rfl, I0⟩ := heardIn_open (hval 0 42 v0 rfl rfl) h0
  clear hA0 hval0
  refine (walk ad0 cap0 L0 W I0).mono fun e W' ⟨he, bel⟩ => ?_
  subst he
  exact ⟨_, rfl, _, _, _, [], _, [], hW', trodAll_mk1 (shut_bool Try.underlying4 _), (trodAll_cons_mk (Below.trod laidOut (by kernel_rfl) (of_decide_eq_true (by kernel_rfl)) h0 bel lt0) trodAll_mk0), rfl, bel.frame _, fun h => by cases h⟩

theorem over : Rows.fnExactTableOkRow.holds Try.pinned (OpenSpec.ofChange Rows.fnExactTableOkSpec) :=
  OpenClaim.holds_of_wide 5 Try.f5 rfl rfl rfl rfl rfl rfl rfl ⟨rfl, rfl, rfl, rfl, rfl⟩ rfl rfl rfl rfl rfl (by kernel_rfl) Try.func5 (by kernel_rfl)
    (of_decide_eq_true (by kernel_rfl)) (by unfold Func.isWrapper; first | (rw [if_pos (by decide +kernel)]; kernel_rfl) | (rw [if_neg (by decide +kernel)]; exact ⟨rfl, rfl⟩))
    (fun os started H enc _ => lifted os started H enc)

theorem proved : Rows.FnExactTableOkSaid := over
end Go.Proofs.Ytogabciiicjloaa.fnExactTableOk
namespace Go.Proofs.Ytogabciiicjloaa
theorem tableOk_holds : Rows.FnExactTableOkSaid := fnExactTableOk.proved
#print axioms tableOk_holds
end Go.Proofs.Ytogabciiicjloaa
