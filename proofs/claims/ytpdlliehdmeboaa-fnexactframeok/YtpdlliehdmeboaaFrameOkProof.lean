/- For every frame the call of FnExactFrameOk returns true: impl.FrameOk answers as spec.FrameOk, and writes into no argument (a load of more than 1048576 bytes is answered true at once). No condition. -/
import Derived.Test.YtpdlliehdmeboaaRows
import Derived.Test.YtpdlliehdmeboaaFrame2
import Derived.Test.YtpdlliehdmeboaaTakes
import Derived.WalkKit
import Derived.Below
import Derived.ChangeOld
import Derived.WalkSmall
import Derived.ProofKit
import Derived.OpenShut
import Derived.ShutString
import Derived.BigQuiet
namespace Go.Proofs.Ytpdlliehdmeboaa.fnExactFrameOk
open Go.ChangeShapes Go.WideShapes Go.ChangeAt Go.RowKit
set_option linter.unusedVariables false

theorem own : ownKnob Try.prog.godebug = none := by kernel_rfl
theorem laidOut : laidOutB Try.prog = true := by kernel_rfl

set_option maxHeartbeats 1000000 in
theorem walk (a0 b0 c0 : Int) (ad0 : Option Addr) (len0 cap0 : Nat) (f0 : Nat → Int) (w : World) (I0 : FrameIn w a0 b0 c0 ad0 len0 cap0 f0) :
    Calls Try.prog 3 #[.agg #[.int .i64 a0, .int .i64 b0, .int .i64 c0, .slice ad0 len0 cap0]] w fun e w' => e = .returned (.bool true) ∧ Below w.heap.size w w' := by
  obtain ⟨wa, wb, wc, lm, hv, hB, hf⟩ := I0
  by_cases hbig : 1048576 < len0
  · go_enter Try.func3, Try.ntmps3
    go_wp2_with fail
    go_at_call 6
    refine (szF a0 b0 c0 ad0 len0 cap0 1048576 _ (by omega) (by omega) lm).mono ?_
    rintro e w1 ⟨rfl, k1⟩
    rw [if_neg (by omega)]
    go_wp2
    go_ret
    exact ⟨rfl, (below_box w _).trans (k1.mono (by simp))⟩
  have hl : len0 ≤ 1048576 := by omega
  have hl' : (len0 : Int) ≤ 1048576 := by omega
  have hl2 : 0 ≤ 1048576 - (len0 : Int) := by omega
  clear hbig
  go_enter Try.func3, Try.ntmps3
  go_wp2_with fail
  go_at_call 6
  obtain ⟨x, hx⟩ : ∃ x, x = w.alloc (Obj.cells #[.int .i64 a0, .int .i64 b0, .int .i64 c0, .slice ad0 len0 cap0] 24) := ⟨_, rfl⟩
  have F0 : FrameAt x w.heap.size a0 b0 c0 ad0 len0 cap0 := by rw [hx]; exact frameAt_box w _ _ _ _ _ _ _
  have B0 : Below w.heap.size w x := by rw [hx]; exact below_box w _
  have S0 : w.heap.size < x.heap.size := by rw [hx]; exact size_box w _
  rw [← hx]
  clear hx
  refine (szF a0 b0 c0 ad0 len0 cap0 1048576 x (by omega) (by omega) lm).mono ?_
  rintro e w1 ⟨rfl, k1⟩
  rw [if_pos hl']
  have s1 := k1.size
  have B1 := B0.trans (k1.mono (by omega))
  have F1 := F0.below k1 S0
  obtain ⟨C1, C2, C3, C4⟩ := F1
  go_wp2_with fail
  go_at_call 8
  refine (toF a0 b0 c0 ad0 len0 cap0 f0 w1 (hv.carry (fun x h hp => B1.block _ (hB x h hp))) hl (fun x h hp => by have := hB x h hp; omega)).mono ?_
  rintro e w2 ⟨N2, rfl, n2, m2, v2, r2, k2⟩
  have s2 := k2.size
  have B2 := B1.trans (k2.mono (by omega))
  go_wp2_with fail
  go_at_call 7
  refine (okSpec a0 b0 c0 _ len0 _ w2 lm).mono ?_
  rintro e w3 ⟨rfl, k3⟩
  have s3 := k3.size
  have B3 := B2.trans (k3.mono (by omega))
  obtain ⟨D1, D2, D3, D4⟩ : FrameAt w3 w.heap.size a0 b0 c0 ad0 len0 cap0 := (FrameAt.below (⟨C1, C2, C3, C4⟩ : FrameAt w1 w.heap.size a0 b0 c0 ad0 len0 cap0) k2 (by omega)).below k3 (by omega)
  clear C1 C2 C3 C4
  go_wp2_with fail
  go_at_call 8
  refine (toF a0 b0 c0 ad0 len0 cap0 f0 w3 (hv.carry (fun x h hp => B3.block _ (hB x h hp))) hl (fun x h hp => by have := hB x h hp; omega)).mono ?_
  rintro e w4 ⟨N4, rfl, n4, m4, v4, r4, k4⟩
  have s4 := k4.size
  have B4 := B3.trans (k4.mono (by omega))
  go_wp2_with fail
  go_at_call 9
  obtain ⟨y, hy⟩ : ∃ y, y = w4.alloc (Obj.cells #[.int .i64 a0, .int .i64 b0, .int .i64 c0, .slice (some ⟨N4, 0, none⟩) len0 len0] 27) := ⟨_, rfl⟩
  have F5 : FrameAt y w4.heap.size a0 b0 c0 (some ⟨N4, 0, none⟩) len0 len0 := by rw [hy]; exact frameAt_box w4 _ _ _ _ _ _ _
  have k5 : Below w4.heap.size w4 y := by rw [hy]; exact below_box w4 _
  have s5 : w4.heap.size < y.heap.size := by rw [hy]; exact size_box w4 _
  rw [← hy]
  clear hy
  refine (okImpl a0 b0 c0 _ len0 _ y lm).mono ?_
  rintro e w6 ⟨rfl, k6⟩
  have s6 := k6.size
  have B6 := (B4.trans (k5.mono (by omega))).trans (k6.mono (by omega))
  have FX := F5.below k6 s5
  have FA : FrameAt w6 w.heap.size a0 b0 c0 ad0 len0 cap0 := ((FrameAt.below (⟨D1, D2, D3, D4⟩ : FrameAt w3 w.heap.size a0 b0 c0 ad0 len0 cap0) k4 (by omega)).below k5 (by omega)).below k6 (by omega)
  have v6 := v4.carry (w' := w6) (fun x h _ => by simp at h; subst h; exact (k6.block _ (by show N4 < _; omega)).trans (k5.block _ m4))
  clear F5 v4 r4 v2 r2
  go_wp2_with fail
  refine wp_region_held (S := fun Y => Below w6.heap.size w6 Y) (by kernel_rfl) ?_
  change wpAnyH _ _ _ _ _ _ _ _ (World.drew _)
  have hb0 : Below w6.heap.size w6 w6.drew := (Below.refl _ _).drew
  refine takeW 0 22 (.agg #[.int .i64 a0, .int .i64 b0, .int .i64 c0, .slice (some ⟨N4, 0, none⟩) len0 len0]) rfl rfl (by kernel_rfl) (by kernel_rfl) (by kernel_rfl) (fun _ _ _ h => h) (by kernel_rfl) (by (intro Y hSw; obtain ⟨C1, C2, C3, C4⟩ := FX.below hSw (by omega); go_simp)) (by assumption) ?_
  simp only [List.set_cons_zero, List.set_cons_succ]
  refine takeW 1 23 (.agg #[.int .i64 a0, .int .i64 b0, .int .i64 c0, .slice ad0 len0 cap0]) rfl rfl (by kernel_rfl) (by kernel_rfl) (by kernel_rfl) (fun _ _ _ h => h) (by kernel_rfl) (by (intro Y hSw; obtain ⟨C1, C2, C3, C4⟩ := FA.below hSw (by omega); go_simp)) (by assumption) ?_
  simp only [List.set_cons_zero, List.set_cons_succ]
  refine wpAnyH_all (rs := [2]) (by kernel_rfl) (by simp) ?_
  intro i hi; obtain rfl : i = 2 := by simpa using hi
  refine wpOp_step rfl (fun K hK => ?_)
  rw [if_pos (by kernel_rfl)]
  go_simp
  go_at_call 8
  refine (toF a0 b0 c0 ad0 len0 cap0 f0 _ (hv.carry (fun x h hp => (B6.trans (hb0.mono B6.size)).block _ (hB x h hp))) hl (fun x h hp => by have := hB x h hp; have := hb0.size; have := B6.size; omega)).mono ?_
  rintro e y1 ⟨N1, rfl, n1, m1, v1, r1, c1⟩
  have hb1 : Below w6.heap.size w6 y1 := hb0.trans (c1.mono hb0.size)
  refine hK _ _ ⟨hb1, ?_⟩
  clear hK K hi
  refine wpAnyH_all (rs := [3]) (by kernel_rfl) (by simp) ?_
  intro i hi; obtain rfl : i = 3 := by simpa using hi
  refine wpOp_step rfl (fun K hK => ?_)
  rw [if_pos (by kernel_rfl)]
  go_simp
  go_at_call 10
  refine (eqF a0 b0 c0 _ _ len0 _ _ f0 _ (v6.carry (fun x h _ => by simp at h; subst h; exact hb1.block _ (by omega : N4 < w6.heap.size))) v1 hl (fun x h _ => by simp at h; subst h; have := hb1.size; have := (by omega : N4 < w6.heap.size); show N4 < _; omega) (fun x h _ => by simp at h; subst h; exact m1)).mono ?_
  rintro e y2 ⟨rfl, c2⟩
  have k7 : Below w6.heap.size w6 y2 := hb1.trans (c2.mono hb1.size)
  refine hK _ _ ⟨k7, ?_⟩
  clear hK K hi
  refine takeW 4 26 (.bool false) rfl rfl (by kernel_rfl) (by kernel_rfl) (by kernel_rfl) (fun _ _ _ h => h) (by kernel_rfl) (by (intro w hSw; go_simp)) (by assumption) ?_
  simp only [List.set_cons_zero, List.set_cons_succ]
  refine wpAnyH_done (by kernel_rfl) ?_ _
  go_wp2
  go_ret
  exact ⟨rfl, B6.trans (k7.mono B6.size)⟩

set_option maxRecDepth 100000 in
theorem lifted (os : Os) (started : os.Started) (H : Type) (enc : TypeId × Value → H) :
    ReturnsInHanded {} Try.checked os 3 .any (Rows.fnExactFrameOkSpec.pre6 enc Try.prog Try.f3 Rows.fnExactFrameOkRow.domain false) (Rows.fnExactFrameOkSpec.post enc Try.prog Try.f3 false true false false) := by
  refine returnsInHanded_of_change (C := Try.checked) own started (by kernel_rfl) Try.func3
    (ChangeSpec.witness6 (enc := enc) (C := Try.checked) false ⟨#[], #[.agg #[.int .i64 0, .int .i64 0, .int .i64 0, .slice none 0 0]], []⟩ 8 (by kernel_rfl) (by kernel_rfl) (by kernel_rfl) (by kernel_rfl)) ?_
  intro W base args ds gs before hval0 hW hcnd _
  have hval : ∀ (j : Nat) t v, Try.f3.params[j]? = some t → args[j]? = some v → Value.okWide Try.prog W .any base t v := hval0
  have hW' := hW
  obtain ⟨p, q, hA0, hV, rfl, hfz, hnd⟩ := hW
  have hA : DataW.TrodAll enc Try.prog W 0 (fun _ => true) true Try.f3.params.toList args.toList ds p := hA0
  rw [Try.params3] at hA hval
  obtain ⟨v0, vs0, d0, ds0, p0, q0, hargs, rfl, rfl, h0, r0⟩ := trodAll_cons hA
  obtain ⟨rfl, rfl, rfl⟩ := trodAll_nil r0
  obtain rfl : args = #[v0] := by cases args; simp_all
  obtain ⟨rfl, rfl⟩ := trodVars_none hV
  obtain ⟨a0, b0, c0, ad0, len0, cap0, f0, rfl, I0⟩ := frameIn_open (hval 0 24 v0 rfl rfl) h0
  have lt0 : ∀ x ∈ p0, x.block < W.heap.size := by obtain ⟨m, hm⟩ := h0; exact DataW.trod_lt m _ _ _ hm
  clear hA0 hval0
  refine (walk a0 b0 c0 ad0 len0 cap0 f0 W I0).mono fun e W' ⟨he, bel⟩ => ?_
  subst he
  exact ⟨_, rfl, _, _, _, [], _, [], hW', trodAll_mk1 (shut_bool Try.underlying4 _), (trodAll_cons_mk (Below.trod laidOut (by kernel_rfl) (of_decide_eq_true (by kernel_rfl)) h0 bel lt0) trodAll_mk0), rfl, bel.frame _, fun h => by cases h⟩

theorem over : Rows.fnExactFrameOkRow.holds Try.pinned (OpenSpec.ofChange Rows.fnExactFrameOkSpec) :=
  OpenClaim.holds_of_wide 3 Try.f3 rfl rfl rfl rfl rfl rfl rfl ⟨rfl, rfl, rfl, rfl, rfl⟩ rfl rfl rfl rfl rfl (by kernel_rfl) Try.func3 (by kernel_rfl)
    (of_decide_eq_true (by kernel_rfl)) (by unfold Func.isWrapper; first | (rw [if_pos (by decide +kernel)]; kernel_rfl) | (rw [if_neg (by decide +kernel)]; exact ⟨rfl, rfl⟩))
    (fun os started H enc _ => lifted os started H enc)

theorem proved : Rows.FnExactFrameOkSaid := over
end Go.Proofs.Ytpdlliehdmeboaa.fnExactFrameOk
namespace Go.Proofs.Ytpdlliehdmeboaa
theorem frameOk_holds : Rows.FnExactFrameOkSaid := fnExactFrameOk.proved
#print axioms frameOk_holds
end Go.Proofs.Ytpdlliehdmeboaa
