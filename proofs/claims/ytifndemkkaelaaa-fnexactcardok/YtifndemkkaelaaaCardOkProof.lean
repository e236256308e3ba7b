/- For every card the call of FnExactCardOk returns true: impl.CardOk answers as spec.CardOk and writes into no argument (lists of more than 1048576 values together are answered true at once). No condition. -/
import Derived.Test.YtifndemkkaelaaaRows
import Derived.Test.YtifndemkkaelaaaCard3
import Derived.Test.YtifndemkkaelaaaCard4
import Derived.Test.YtifndemkkaelaaaTakes
import Derived.WalkSpells
import Derived.WalkLawsBesides
import Derived.WalkKit
import Derived.Below
import Derived.ChangeOld
import Derived.WalkSmall
import Derived.ProofKit
import Derived.OpenShut
import Derived.ShutString
import Derived.BigQuiet
namespace Go.Proofs.Ytifndemkkaelaaa.fnExactCardOk
open Go.ChangeShapes Go.WideShapes Go.ChangeAt Go.RowKit
set_option linter.unusedVariables false

theorem own : ownKnob Try.prog.godebug = none := by kernel_rfl
theorem laidOut : laidOutB Try.prog = true := by kernel_rfl

set_option maxRecDepth 100000 in
set_option maxHeartbeats 16000000 in
theorem walk (adO0 : Option Addr) (cO0 : Nat) (O0 : List Bool) (adM0 : Option Addr) (cM0 : Nat) (D0 : DL) (adT0 : Option Addr) (cT0 : Nat) (T0 : List Hd) (w : World) (I0 : CardI w adO0 O0 adM0 D0 adT0 T0) :
    Calls Try.prog 4 #[.agg #[.slice adO0 O0.length cO0, .slice adM0 D0.length cM0, .slice adT0 T0.length cT0]] w fun e w' => e = .returned (.bool true) ∧ Below w.heap.size w w' := by
  obtain ⟨x0, hx⟩ : ∃ x, x = w.alloc (Obj.cells #[.slice adO0 O0.length cO0, .slice adM0 D0.length cM0, .slice adT0 T0.length cT0] 40) := ⟨_, rfl⟩
  have BW : Below w.heap.size w x0 := by rw [hx]; exact below_box w _
  have A0 : CdAt x0 w.heap.size adO0 O0.length cO0 adM0 D0.length cM0 adT0 T0.length cT0 := by rw [hx]; exact CdAt.box _ _ _ _ _ _ _ _ _ _ _
  have tx0 : w.heap.size < x0.heap.size := A0.lt
  have V0 := I0.view
  have V0 := V0.below BW (Nat.le_refl _)
  go_enter Try.func4, Try.ntmps4
  go_wp2_with fail
  go_at_call 14
  rw [← hx]
  clear hx
  refine (szCD adO0 cO0 O0 adM0 cM0 D0 adT0 cT0 T0 x0 (I0.later BW)).mono ?_
  rintro e x1 ⟨⟨r, rfl, r1, r2, hsz⟩, k1⟩
  have sx1 := k1.size
  have A0 := A0.below k1 (by omega)
  have V0 := V0.below k1 (by omega)
  have BW := BW.trans (k1.mono BW.size)
  clear k1
  by_cases hr : r < 0
  · go_wp2
    go_ret
    exact ⟨rfl, BW⟩
  have hsz := hsz (by omega)
  obtain ⟨bb, hbb⟩ : ∃ b, Hid (cOk O0 D0 T0 = b) := ⟨_, rfl⟩
  have A0' := A0
  obtain ⟨X1, X2, X3⟩ := A0'
  go_wp2_with fail
  go_at_call 16
  clear X1 X2 X3
  refine (toC adO0 cO0 O0 adM0 cM0 D0 adT0 cT0 T0 0 w.heap.size x1 V0 (by omega) hsz).mono ?_
  rintro e x2 ⟨aO1, kO1, aM1, kM1, aT1, kT1, rfl, W1, kx2⟩
  have sx2 := kx2.size
  have A0 := A0.below kx2 (by omega)
  have V0 := V0.below kx2 (by omega)
  have BW := BW.trans (kx2.mono BW.size)
  clear kx2
  go_wp2_with fail
  go_at_call 15
  refine (cardOkS aO1 kO1 O0 aM1 kM1 D0 aT1 kT1 T0 x1.heap.size x2.heap.size x2 W1.view (Nat.le_refl _) hsz).mono ?_
  rintro e x3 ⟨rfl, kx3⟩
  rw [hbb.out]
  have sx3 := kx3.size
  have A0 := A0.below kx3 (by omega)
  have V0 := V0.below kx3 (by omega)
  have BW := BW.trans (kx3.mono BW.size)
  clear kx3
  have A0' := A0
  obtain ⟨X1, X2, X3⟩ := A0'
  go_wp2_with fail
  go_at_call 16
  clear X1 X2 X3
  refine (toC adO0 cO0 O0 adM0 cM0 D0 adT0 cT0 T0 0 w.heap.size x3 V0 (by omega) hsz).mono ?_
  rintro e x4 ⟨aO2, kO2, aM2, kM2, aT2, kT2, rfl, W2, kx4⟩
  have sx4 := kx4.size
  have A0 := A0.below kx4 (by omega)
  have V0 := V0.below kx4 (by omega)
  have BW := BW.trans (kx4.mono BW.size)
  clear kx4
  obtain ⟨x5, hx5⟩ : ∃ y, y = x4.alloc (Obj.cells #[.slice aO2 O0.length kO2, .slice aM2 D0.length kM2, .slice aT2 T0.length kT2] 28) := ⟨_, rfl⟩
  have kx5 : Below x4.heap.size x4 x5 := by rw [hx5]; exact below_box x4 _
  have A2 : CdAt x5 x4.heap.size aO2 O0.length kO2 aM2 D0.length kM2 aT2 T0.length kT2 := by rw [hx5]; exact CdAt.box _ _ _ _ _ _ _ _ _ _ _
  have tx5 : x4.heap.size < x5.heap.size := A2.lt
  have sx5 := kx5.size
  have A0 := A0.below kx5 (by omega)
  have V0 := V0.below kx5 (by omega)
  have W2 := W2.below kx5 (by omega)
  have BW := BW.trans (kx5.mono BW.size)
  clear kx5
  go_wp2_with fail
  go_at_call 8
  rw [← hx5]
  clear hx5
  refine (cardOkI aO2 kO2 O0 aM2 kM2 D0 aT2 kT2 T0 x3.heap.size x4.heap.size x5 W2.view (by omega) hsz).mono ?_
  rintro e x6 ⟨rfl, kx6⟩
  rw [hbb.out]
  have sx6 := kx6.size
  have A0 := A0.below kx6 (by omega)
  have V0 := V0.below kx6 (by omega)
  have W2 := W2.below kx6 (by omega)
  have A2 := A2.below kx6 (by omega)
  have BW := BW.trans (kx6.mono BW.size)
  clear kx6
  go_wp2_with fail
  refine wp_region_held (S := fun Y => Below x6.heap.size x6 Y) (by kernel_rfl) ?_
  change wpAnyH _ _ _ _ _ _ _ _ (World.drew _)
  have hb0 : Below x6.heap.size x6 x6.drew := (Below.refl _ _).drew
  refine takeW 0 22 (.agg #[.slice aO2 O0.length kO2, .slice aM2 D0.length kM2, .slice aT2 T0.length kT2]) rfl rfl (by kernel_rfl) (by kernel_rfl) (by kernel_rfl) (fun _ _ _ h => h) (by kernel_rfl) (by (intro Y hSw; obtain ⟨Z1, Z2, Z3⟩ := A2.below hSw (by omega); go_simp)) (by assumption) ?_
  simp only [List.set_cons_zero, List.set_cons_succ]
  refine takeW 1 23 (.agg #[.slice adO0 O0.length cO0, .slice adM0 D0.length cM0, .slice adT0 T0.length cT0]) rfl rfl (by kernel_rfl) (by kernel_rfl) (by kernel_rfl) (fun _ _ _ h => h) (by kernel_rfl) (by (intro Y hSw; obtain ⟨Z1, Z2, Z3⟩ := A0.below hSw (by omega); go_simp)) (by assumption) ?_
  simp only [List.set_cons_zero, List.set_cons_succ]
  refine wpAnyH_all (rs := [2]) (by kernel_rfl) (by simp) ?_
  intro i hi; obtain rfl : i = 2 := by simpa using hi
  refine wpOp_step rfl (fun K hK => ?_)
  rw [if_pos (by kernel_rfl)]
  go_simp
  go_at_call 16
  refine (toC adO0 cO0 O0 adM0 cM0 D0 adT0 cT0 T0 0 w.heap.size x6.drew (V0.below hb0 (by omega)) (by show w.heap.size ≤ x6.heap.size; omega) hsz).mono ?_
  rintro e y1 ⟨aOq, kOq, aMq, kMq, aTq, kTq, rfl, Wq, jq1⟩
  have hb1 : Below x6.heap.size x6 y1 := hb0.trans (jq1.mono hb0.size)
  refine hK _ _ ⟨hb1, ?_⟩
  clear hK K hi
  refine wpAnyH_all (rs := [3]) (by kernel_rfl) (by simp) ?_
  intro i hi; obtain rfl : i = 3 := by simpa using hi
  refine wpOp_step rfl (fun K hK => ?_)
  rw [if_pos (by kernel_rfl)]
  go_simp
  go_at_call 17
  refine (eqC aO2 kO2 O0 aM2 kM2 D0 aT2 kT2 T0 aOq kOq aMq kMq aTq kTq x3.heap.size x4.heap.size x6.heap.size y1.heap.size y1 (W2.view.below hb1 (by omega)) Wq.view (by have := hb1.size; omega) (Nat.le_refl _) hsz).mono ?_
  rintro e y2 ⟨rfl, jq2⟩
  have kE : Below x6.heap.size x6 y2 := hb1.trans (jq2.mono hb1.size)
  refine hK _ _ ⟨kE, ?_⟩
  clear hK K hi
  refine takeW 4 26 (.bool false) rfl rfl (by kernel_rfl) (by kernel_rfl) (by kernel_rfl) (fun _ _ _ h => h) (by kernel_rfl) (by (intro w hSw; go_simp)) (by assumption) ?_
  simp only [List.set_cons_zero, List.set_cons_succ]
  refine wpAnyH_done (by kernel_rfl) ?_ _
  clear hb0 hb1 Wq jq1 jq2
  generalize hgy : y2 = x7 at *
  clear hgy
  have sx7 := kE.size
  have A0 := A0.below kE (by omega)
  have V0 := V0.below kE (by omega)
  have W2 := W2.below kE (by omega)
  have A2 := A2.below kE (by omega)
  have BW := BW.trans (kE.mono BW.size)
  clear kE
  go_wp2
  go_ret
  exact ⟨rfl, BW⟩

set_option maxRecDepth 100000 in
theorem lifted (os : Os) (started : os.Started) (H : Type) (enc : TypeId × Value → H) :
    ReturnsInHanded {} Try.checked os 4 .any (Rows.fnExactCardOkSpec.pre6 enc Try.prog Try.f4 Rows.fnExactCardOkRow.domain false) (Rows.fnExactCardOkSpec.post enc Try.prog Try.f4 false true false false) := by
  refine returnsInHanded_of_change (C := Try.checked) own started (by kernel_rfl) Try.func4
    (ChangeSpec.witness6 (enc := enc) (C := Try.checked) false ⟨#[], #[.agg #[.slice none 0 0, .slice none 0 0, .slice none 0 0]], []⟩ 8 (by kernel_rfl) (by kernel_rfl) (by kernel_rfl) (by kernel_rfl)) ?_
  intro W base args ds gs before hval0 hW hcnd _
  have hval : ∀ (j : Nat) t v, Try.f4.params[j]? = some t → args[j]? = some v → Value.okWide Try.prog W .any base t v := hval0
  have hW' := hW
  obtain ⟨p, q, hA0, hV, rfl, hfz, hnd⟩ := hW
  have hA : DataW.TrodAll enc Try.prog W 0 (fun _ => true) true Try.f4.params.toList args.toList ds p := hA0
  rw [Try.params4] at hA hval
  obtain ⟨v0, vs0, d0, ds0, p0, q0, hargs, rfl, rfl, h0, r0⟩ := trodAll_cons hA
  obtain ⟨rfl, rfl, rfl⟩ := trodAll_nil r0
  obtain rfl : args = #[v0] := by cases args; simp_all
  obtain ⟨rfl, rfl⟩ := trodVars_none hV
  obtain ⟨adO0, cO0, O0, adM0, cM0, D0, adT0, cT0, T0, rfl, I0⟩ := cardI_open (hval 0 40 v0 rfl rfl) h0
  have lt0 : ∀ x ∈ p0, x.block < W.heap.size := by obtain ⟨m, hm⟩ := h0; exact DataW.trod_lt m _ _ _ hm
  clear hA0 hval0
  refine (walk adO0 cO0 O0 adM0 cM0 D0 adT0 cT0 T0 W I0).mono fun e W' ⟨he, bel⟩ => ?_
  subst he
  exact ⟨_, rfl, _, _, _, [], _, [], hW', trodAll_mk1 (shut_bool Try.underlying4 _), (trodAll_cons_mk (Below.trod laidOut (by kernel_rfl) (of_decide_eq_true (by kernel_rfl)) h0 bel lt0) trodAll_mk0), rfl, bel.frame _, fun h => by cases h⟩

theorem over : Rows.fnExactCardOkRow.holds Try.pinned (OpenSpec.ofChange Rows.fnExactCardOkSpec) :=
  OpenClaim.holds_of_wide 4 Try.f4 rfl rfl rfl rfl rfl rfl rfl ⟨rfl, rfl, rfl, rfl, rfl⟩ rfl rfl rfl rfl rfl (by kernel_rfl) Try.func4 (by kernel_rfl)
    (of_decide_eq_true (by kernel_rfl)) (by unfold Func.isWrapper; first | (rw [if_pos (by decide +kernel)]; kernel_rfl) | (rw [if_neg (by decide +kernel)]; exact ⟨rfl, rfl⟩))
    (fun os started H enc _ => lifted os started H enc)

theorem proved : Rows.FnExactCardOkSaid := over
end Go.Proofs.Ytifndemkkaelaaa.fnExactCardOk
namespace Go.Proofs.Ytifndemkkaelaaa
theorem cardOk_holds : Rows.FnExactCardOkSaid := fnExactCardOk.proved
#print axioms cardOk_holds
end Go.Proofs.Ytifndemkkaelaaa
