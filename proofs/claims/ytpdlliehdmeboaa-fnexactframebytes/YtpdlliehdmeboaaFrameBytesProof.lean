/- For every frame the call of FnExactFrameBytes returns true: impl.FrameBytes answers as spec.FrameBytes, writes into no argument, keeps nothing of one, and its answer owns its memory (a load of more than 1048576 bytes is answered true at once). No condition. -/
import Derived.Test.YtpdlliehdmeboaaRows
import Derived.Test.YtpdlliehdmeboaaFrame8
import Derived.WalkKit
import Derived.Below
import Derived.ChangeOld
import Derived.WalkSmall
import Derived.ProofKit
import Derived.OpenShut
import Derived.ShutString
import Derived.BigQuiet
namespace Go.Proofs.Ytpdlliehdmeboaa.fnExactFrameBytes
open Go.ChangeShapes Go.WideShapes Go.ChangeAt Go.RowKit
set_option linter.unusedVariables false

theorem own : ownKnob Try.prog.godebug = none := by kernel_rfl
theorem laidOut : laidOutB Try.prog = true := by kernel_rfl

set_option maxHeartbeats 4000000 in
theorem walk (a0 b0 c0 : Int) (ad0 : Option Addr) (len0 cap0 : Nat) (f0 : Nat → Int) (w : World) (I0 : FrameIn w a0 b0 c0 ad0 len0 cap0 f0) :
    Calls Try.prog 4 #[.agg #[.int .i64 a0, .int .i64 b0, .int .i64 c0, .slice ad0 len0 cap0]] w fun e w' => e = .returned (.bool true) ∧ Below w.heap.size w w' := by
  obtain ⟨wa, wb, wc, lm, hv, hB, hf⟩ := I0
  by_cases hbig : 1048576 < len0
  · go_enter Try.func4, Try.ntmps4
    go_wp2_with fail
    go_at_call 6
    refine (szF a0 b0 c0 ad0 len0 cap0 1048576 _ (by omega) (by omega) lm).mono ?_
    rintro e w1 ⟨rfl, k1⟩
    rw [if_neg (by omega)]
    go_wp2
    go_ret
    exact ⟨rfl, (below_box w _).trans (k1.mono (by simp))⟩
  obtain ⟨L, rfl, hv, hLb⟩ := view_list hv hf
  clear hf
  have hl : L.length ≤ 1048576 := by omega
  have hl' : (L.length : Int) ≤ 1048576 := by omega
  have hl2 : 0 ≤ 1048576 - (L.length : Int) := by omega
  have hW : (written a0 b0 c0 L).length ≤ 38 := written_len _ _ _ _
  clear hbig
  go_enter Try.func4, Try.ntmps4
  go_wp2_with fail
  go_at_call 6
  obtain ⟨x, hx⟩ : ∃ x, x = w.alloc (Obj.cells #[.int .i64 a0, .int .i64 b0, .int .i64 c0, .slice ad0 L.length cap0] 24) := ⟨_, rfl⟩
  have F0 : FrameAt x w.heap.size a0 b0 c0 ad0 L.length cap0 := by rw [hx]; exact frameAt_box w _ _ _ _ _ _ _
  have B0 : Below w.heap.size w x := by rw [hx]; exact below_box w _
  have S0 : w.heap.size < x.heap.size := by rw [hx]; exact size_box w _
  rw [← hx]
  clear hx
  refine (szF a0 b0 c0 ad0 L.length cap0 1048576 x (by omega) (by omega) lm).mono ?_
  rintro e w1 ⟨rfl, k1⟩
  rw [if_pos hl']
  have s1 := k1.size
  have B1 := B0.trans (k1.mono (by omega))
  have F1 := F0.below k1 S0
  obtain ⟨C1, C2, C3, C4⟩ := F1
  go_wp2_with fail
  go_at_call 8
  refine (toF a0 b0 c0 ad0 L.length cap0 (fun i => L.getD i 0) w1 (hv.carry (fun x h hp => B1.block _ (hB x h hp))) hl (fun x h hp => by have := hB x h hp; omega)).mono ?_
  rintro e w2 ⟨N2, rfl, n2, m2, v2, r2, k2⟩
  have s2 := k2.size
  have B2 := B1.trans (k2.mono (by omega))
  go_wp2_with fail
  go_at_call 11
  refine (bytesSpec a0 b0 c0 _ _ L w2 v2 (fun _ h => by simp at h) hLb hl).mono ?_
  rintro e w3 ⟨v, rfl, o3, k3⟩
  obtain ⟨_, ad3, cap3, rfl, q3, _, m3⟩ := own_view o3
  have s3 := k3.size
  have B3 := B2.trans (k3.mono (by omega))
  have FA : FrameAt w3 w.heap.size a0 b0 c0 ad0 L.length cap0 := (FrameAt.below (⟨C1, C2, C3, C4⟩ : FrameAt w1 w.heap.size a0 b0 c0 ad0 L.length cap0) k2 (by omega)).below k3 (by omega)
  clear C1 C2 C3 C4 v2 r2 o3
  obtain ⟨D1, D2, D3, D4⟩ := FA
  go_wp2_with fail
  go_at_call 8
  refine (toF a0 b0 c0 ad0 L.length cap0 (fun i => L.getD i 0) w3 (hv.carry (fun x h hp => B3.block _ (hB x h hp))) hl (fun x h hp => by have := hB x h hp; omega)).mono ?_
  rintro e w4 ⟨N4, rfl, n4, m4, v4, r4, k4⟩
  have s4 := k4.size
  have B4 := B3.trans (k4.mono (by omega))
  go_wp2_with fail
  go_at_call 12
  obtain ⟨y, hy⟩ : ∃ y, y = w4.alloc (Obj.cells #[.int .i64 a0, .int .i64 b0, .int .i64 c0, .slice (some ⟨N4, 0, none⟩) L.length L.length] 27) := ⟨_, rfl⟩
  have F5 : FrameAt y w4.heap.size a0 b0 c0 (some ⟨N4, 0, none⟩) L.length L.length := by rw [hy]; exact frameAt_box w4 _ _ _ _ _ _ _
  have k5 : Below w4.heap.size w4 y := by rw [hy]; exact below_box w4 _
  have s5 : w4.heap.size < y.heap.size := by rw [hy]; exact size_box w4 _
  rw [← hy]
  clear hy
  have v5 := v4.carry (w' := y) (fun x h _ => by simp at h; subst h; exact k5.block _ m4)
  refine (bytesImpl a0 b0 c0 _ _ L y v5 (fun _ h => by simp at h) hLb hl).mono ?_
  rintro e w6 ⟨v, rfl, o6, k6⟩
  obtain ⟨_, ad6, cap6, rfl, q6, r6, m6⟩ := own_view o6
  have s6 := k6.size
  have B6 := (B4.trans (k5.mono (by omega))).trans (k6.mono (by omega))
  have FX := F5.below k6 s5
  have FA : FrameAt w6 w.heap.size a0 b0 c0 ad0 L.length cap0 := ((FrameAt.below (⟨D1, D2, D3, D4⟩ : FrameAt w3 w.heap.size a0 b0 c0 ad0 L.length cap0) k4 (by omega)).below k5 (by omega)).below k6 (by omega)
  have v6 := v5.carry (w' := w6) (fun x h _ => by simp at h; subst h; exact k6.block _ (by show N4 < _; omega))
  have r6x := (r4.carry (w' := y) (fun x h _ => by simp at h; subst h; exact k5.block _ m4)).carry (w' := w6) (fun x h _ => by simp at h; subst h; exact k6.block _ (by show N4 < _; omega))
  have q36 := ((q3.carry (w' := w4) (fun x h _ => k4.block _ (m3 x h).2)).carry (w' := y) (fun x h _ => k5.block _ (by have := (m3 x h).2; omega))).carry (w' := w6) (fun x h _ => k6.block _ (by have := (m3 x h).2; omega))
  clear F5 v4 r4 v5 q3 o6 D1 D2 D3 D4
  have ne3 : ∀ x, ad3 = some x → x.block ≠ N4 := fun x h => by have := (m3 x h).2; omega
  have ne6 : ∀ x, ad6 = some x → x.block ≠ N4 := fun x h => by have := (m6 x h).1; omega
  have lt3 : ∀ x, ad3 = some x → x.block < w4.heap.size := fun x h => by have := (m3 x h).2; omega
  have ge6 : ∀ x, ad6 = some x → w4.heap.size < x.block := fun x h => by have := (m6 x h).1; omega
  have lt6 : ∀ x, ad6 = some x → x.block < w6.heap.size := fun x h => (m6 x h).2
  clear m3 m6
  go_wp2_with fail
  go_at_call 13
  refine (eqBytes ad6 ad3 (written a0 b0 c0 L).length cap6 cap3 (fun i => (written a0 b0 c0 L).getD i 0) w6 q6 q36 (by omega)).mono ?_
  rintro e w7 ⟨rfl, n7, h7⟩
  have k7 : Below w6.heap.size w6 w7 := by rw [h7]; exact below_drewN (Below.refl _ _) _
  have e7 : w7.heap = w6.heap := by rw [h7]; rfl
  clear h7
  have s7 := k7.size
  have B7 := B6.trans (k7.mono (by omega))
  have FX := FX.below k7 (by omega)
  have FA := FA.below k7 (by omega)
  have v7 := v6.carry (w' := w7) (fun x h _ => by rw [e7])
  have r7x := r6x.carry (w' := w7) (fun x h _ => by rw [e7])
  have q7 := q6.carry (w' := w7) (fun x h _ => by rw [e7])
  have q37 := q36.carry (w' := w7) (fun x h _ => by rw [e7])
  have r7 := r6.carry (w' := w7) (fun x h _ => by rw [e7])
  clear v6 r6x q6 q36 r6 e7
  have hN7 : N4 < w7.heap.size := by omega
  have hX7 : w4.heap.size < w7.heap.size := by omega
  have hA7 : w.heap.size < w7.heap.size := by omega
  go_wp2_with fail
  refine wp_region_held (S := fun Y => Below w7.heap.size w7 Y) (by kernel_rfl) ?_
  change wpAnyH _ _ _ _ _ _ _ _ (World.drew _)
  have hb0 : Below w7.heap.size w7 w7.drew := (Below.refl _ _).drew
  refine takeW 0 27 (.agg #[.int .i64 a0, .int .i64 b0, .int .i64 c0, .slice (some ⟨N4, 0, none⟩) L.length L.length]) rfl rfl (by kernel_rfl) (by kernel_rfl) (by kernel_rfl) (fun _ _ _ h => h) (by kernel_rfl) (by (intro Y hSw; obtain ⟨C1, C2, C3, C4⟩ := FX.below hSw hX7; go_simp)) (by assumption) ?_
  simp only [List.set_cons_zero, List.set_cons_succ]
  refine takeW 1 28 (.agg #[.int .i64 a0, .int .i64 b0, .int .i64 c0, .slice ad0 L.length cap0]) rfl rfl (by kernel_rfl) (by kernel_rfl) (by kernel_rfl) (fun _ _ _ h => h) (by kernel_rfl) (by (intro Y hSw; obtain ⟨C1, C2, C3, C4⟩ := FA.below hSw hA7; go_simp)) (by assumption) ?_
  simp only [List.set_cons_zero, List.set_cons_succ]
  refine wpAnyH_all (rs := [2]) (by kernel_rfl) (by simp) ?_
  intro i hi; obtain rfl : i = 2 := by simpa using hi
  refine wpOp_step rfl (fun K hK => ?_)
  rw [if_pos (by kernel_rfl)]
  go_simp
  go_at_call 8
  refine (toF a0 b0 c0 ad0 L.length cap0 (fun i => L.getD i 0) _ (hv.carry (fun x h hp => (B7.trans (hb0.mono B7.size)).block _ (hB x h hp))) hl (fun x h hp => by have := hB x h hp; have := hb0.size; have := B7.size; omega)).mono ?_
  rintro e y1 ⟨N1, rfl, nq1, mq1, vq1, rq1, jq1⟩
  have hb1 : Below w7.heap.size w7 y1 := hb0.trans (jq1.mono hb0.size)
  refine hK _ _ ⟨hb1, ?_⟩
  clear hK K hi
  refine wpAnyH_all (rs := [3]) (by kernel_rfl) (by simp) ?_
  intro i hi; obtain rfl : i = 3 := by simpa using hi
  refine wpOp_step rfl (fun K hK => ?_)
  rw [if_pos (by kernel_rfl)]
  go_simp
  go_at_call 10
  refine (eqF a0 b0 c0 _ _ L.length _ _ (fun i => L.getD i 0) _ (v7.carry (fun x h _ => by simp at h; subst h; exact hb1.block _ hN7)) vq1 hl (fun x h _ => by simp at h; subst h; have := hb1.size; have := hN7; show N4 < _; omega) (fun x h _ => by simp at h; subst h; exact mq1)).mono ?_
  rintro e y2 ⟨rfl, jq2⟩
  have k8 : Below w7.heap.size w7 y2 := hb1.trans (jq2.mono hb1.size)
  refine hK _ _ ⟨k8, ?_⟩
  clear hK K hi
  refine takeW 4 31 (.bool false) rfl rfl (by kernel_rfl) (by kernel_rfl) (by kernel_rfl) (fun _ _ _ h => h) (by kernel_rfl) (by (intro w hSw; go_simp)) (by assumption) ?_
  simp only [List.set_cons_zero, List.set_cons_succ]
  refine wpAnyH_done (by kernel_rfl) ?_ _
  clear hb0 hb1 vq1 rq1 jq1 jq2 nq1 mq1
  have s8 := k8.size
  have B8 := B7.trans (k8.mono (by omega))
  have FX := FX.below k8 (by omega)
  have FA := FA.below k8 (by omega)
  have r8x := r7x.carry (w' := y2) (fun x h _ => by simp at h; subst h; exact k8.block _ hN7)
  have q8 := q7.carry (w' := y2) (fun x h _ => k8.block _ (by have := lt6 x h; omega))
  have q38 := q37.carry (w' := y2) (fun x h _ => k8.block _ (by have := lt3 x h; omega))
  have r8 := r7.carry (w' := y2) (fun x h _ => k8.block _ (by have := lt6 x h; omega))
  clear r7x q7 q37 r7 v7
  obtain ⟨D1, D2, D3, D4⟩ := FX
  go_wp2_with fail
  go_at_call 14
  refine (markF a0 b0 c0 N4 L.length L.length y2 r8x hl (by omega)).mono ?_
  rintro e w9 ⟨rfl, g9, _⟩
  have s9 := g9.size
  have B9 := B8.trans (grown_below g9 (by omega : w.heap.size ≤ N4) (by omega))
  have FA : FrameAt w9 w.heap.size a0 b0 c0 ad0 L.length cap0 := FA.below (grown_below g9 (by omega : w3.heap.size ≤ N4) (by omega)) (by omega)
  have q9 := grown_other g9 q8 ne6
  have q39 := grown_other g9 q38 ne3
  have r9 := r8.carry (w' := w9) (fun x h _ => g9.block _ (by have := lt6 x h; omega) (by have := ne6 x h; simp; omega))
  clear D1 D2 D3 D4 q8 q38 r8 r8x
  have hk1 : 0 ≤ 1 + (L.length : Int) := by omega
  go_wp2_with fail
  go_at_call 13
  refine (eqBytes ad6 ad3 (written a0 b0 c0 L).length cap6 cap3 (fun i => (written a0 b0 c0 L).getD i 0) w9 q9 q39 (by omega)).mono ?_
  rintro e w10 ⟨rfl, n10, h10⟩
  have k10 : Below w9.heap.size w9 w10 := by rw [h10]; exact below_drewN (Below.refl _ _) _
  have e10 : w10.heap = w9.heap := by rw [h10]; rfl
  clear h10
  have s10 := k10.size
  have B10 := B9.trans (k10.mono (by omega))
  have FA := FA.below k10 (by omega)
  have q39 := q39.carry (w' := w10) (fun x h _ => by rw [e10])
  have r10 := r9.carry (w' := w10) (fun x h _ => by rw [e10])
  clear q9 r9 e10
  go_wp2_with fail
  go_at_call 15
  refine (markBytes ad6 (written a0 b0 c0 L).length cap6 1 w10 r10 (by omega) (by omega) (by omega)).mono ?_
  rintro e w11 ⟨rfl, v11, _, h11⟩
  have k11 : Below (w4.heap.size + 1) w10 w11 := by
    rcases h11 with rfl | ⟨a, ea, _, hg⟩
    · exact Below.refl _ _
    · exact grown_below hg (by have := ge6 a ea; omega) (by omega)
  clear h11
  have s11 := k11.size
  have B11 := B10.trans (k11.mono (by omega))
  have FA := FA.below k11 (by omega)
  have q11 := q39.carry (w' := w11) (fun x h _ => k11.block _ (by have := lt3 x h; omega))
  clear q39 r10
  have hmm : ¬ (1 + ((written a0 b0 c0 L).length : Int) < 0) := by omega
  go_wp2_with fail
  go_at_call 16
  refine (heldBytes ad6 (written a0 b0 c0 L).length cap6 1 w11 v11 (by omega) (by omega) (by omega)).mono ?_
  rintro e w12 ⟨rfl, h12⟩
  rw [h12]
  clear h12 w12
  obtain ⟨D1, D2, D3, D4⟩ := FA
  go_wp2_with fail
  go_at_call 8
  refine (toF a0 b0 c0 ad0 L.length cap0 (fun i => L.getD i 0) w11 (hv.carry (fun x h hp => B11.block _ (hB x h hp))) hl (fun x h hp => by have := hB x h hp; omega)).mono ?_
  rintro e w13 ⟨N13, rfl, n13, m13, v13, r13, k13⟩
  have s13 := k13.size
  have B13 := B11.trans (k13.mono (by omega))
  clear D1 D2 D3 D4
  go_wp2_with fail
  go_at_call 12
  refine (bytesImpl a0 b0 c0 _ _ L w13 v13 (fun _ h => by simp at h) hLb hl).mono ?_
  rintro e w14 ⟨v, rfl, o14, k14⟩
  obtain ⟨_, ad14, cap14, rfl, q14, _, m14⟩ := own_view o14
  have s14 := k14.size
  have B14 := B13.trans (k14.mono (by omega))
  have q314 := (q11.carry (w' := w13) (fun x h _ => k13.block _ (by have := lt3 x h; omega))).carry (w' := w14) (fun x h _ => k14.block _ (by have := lt3 x h; omega))
  have v14 := (v11.carry (w' := w13) (fun x h _ => k13.block _ (by have := lt6 x h; omega))).carry (w' := w14) (fun x h _ => k14.block _ (by have := lt6 x h; omega))
  clear o14 v13 r13 q11 v11
  go_wp2_with fail
  go_at_call 13
  refine (eqBytes ad14 ad3 (written a0 b0 c0 L).length cap14 cap3 (fun i => (written a0 b0 c0 L).getD i 0) w14 q14 q314 (by omega)).mono ?_
  rintro e w15 ⟨rfl, n15, h15⟩
  have k15 : Below w14.heap.size w14 w15 := by rw [h15]; exact below_drewN (Below.refl _ _) _
  have v15 := v14.carry (w' := w15) (fun x h _ => by rw [h15]; rfl)
  clear h15
  go_wp2_with fail
  go_at_call 16
  refine (heldBytes ad6 (written a0 b0 c0 L).length cap6 1 w15 v15 (by omega) (by omega) (by omega)).mono ?_
  rintro e w16 ⟨rfl, h16⟩
  rw [h16]
  clear h16 w16
  go_wp2
  go_ret
  exact ⟨rfl, B14.trans (k15.mono B14.size)⟩

set_option maxRecDepth 100000 in
theorem lifted (os : Os) (started : os.Started) (H : Type) (enc : TypeId × Value → H) :
    ReturnsInHanded {} Try.checked os 4 .any (Rows.fnExactFrameBytesSpec.pre6 enc Try.prog Try.f4 Rows.fnExactFrameBytesRow.domain false) (Rows.fnExactFrameBytesSpec.post enc Try.prog Try.f4 false true false false) := by
  refine returnsInHanded_of_change (C := Try.checked) own started (by kernel_rfl) Try.func4
    (ChangeSpec.witness6 (enc := enc) (C := Try.checked) false ⟨#[], #[.agg #[.int .i64 0, .int .i64 0, .int .i64 0, .slice none 0 0]], []⟩ 8 (by kernel_rfl) (by kernel_rfl) (by kernel_rfl) (by kernel_rfl)) ?_
  intro W base args ds gs before hval0 hW hcnd _
  have hval : ∀ (j : Nat) t v, Try.f4.params[j]? = some t → args[j]? = some v → Value.okWide Try.prog W .any base t v := hval0
  have hW' := hW
  obtain ⟨p, q, hA0, hV, rfl, hfz, hnd⟩ := hW
  have hA : DataW.TrodAll enc Try.prog W 0 (fun _ => true) true Try.f4.params.toList args.toList ds p := hA0
  rw [Try.params4] at hA hval
  obtain ⟨v0, vs0, d0, ds0, p0, q0, hargs, rfl, rfl, h0, r0⟩ := trodAll_cons hA
  obtain ⟨rfl, rfl, rfl⟩ := trodAll_nil r0
  obtain rfl : args = #[v0] := by cases args; simp_all
  obtain ⟨rfl, rfl⟩ := trodVars_none hV
  obtain ⟨a0, b0, c0, ad0, len0, cap0, f0, rfl, I0⟩ := frameIn_open (hval 0 24 v0 rfl rfl) h0
  have lt0 : ∀ x ∈ p0, x.block < W.heap.size := by obtain ⟨m, hm⟩ := h0; exact DataW.trod_lt m _ _ _ hm
  clear hA0 hval0
  refine (walk a0 b0 c0 ad0 len0 cap0 f0 W I0).mono fun e W' ⟨he, bel⟩ => ?_
  subst he
  exact ⟨_, rfl, _, _, _, [], _, [], hW', trodAll_mk1 (shut_bool Try.underlying4 _), (trodAll_cons_mk (Below.trod laidOut (by kernel_rfl) (of_decide_eq_true (by kernel_rfl)) h0 bel lt0) trodAll_mk0), rfl, bel.frame _, fun h => by cases h⟩

theorem over : Rows.fnExactFrameBytesRow.holds Try.pinned (OpenSpec.ofChange Rows.fnExactFrameBytesSpec) :=
  OpenClaim.holds_of_wide 4 Try.f4 rfl rfl rfl rfl rfl rfl rfl ⟨rfl, rfl, rfl, rfl, rfl⟩ rfl rfl rfl rfl rfl (by kernel_rfl) Try.func4 (by kernel_rfl)
    (of_decide_eq_true (by kernel_rfl)) (by unfold Func.isWrapper; first | (rw [if_pos (by decide +kernel)]; kernel_rfl) | (rw [if_neg (by decide +kernel)]; exact ⟨rfl, rfl⟩))
    (fun os started H enc _ => lifted os started H enc)

theorem proved : Rows.FnExactFrameBytesSaid := over
end Go.Proofs.Ytpdlliehdmeboaa.fnExactFrameBytes
namespace Go.Proofs.Ytpdlliehdmeboaa
theorem frameBytes_holds : Rows.FnExactFrameBytesSaid := fnExactFrameBytes.proved
#print axioms frameBytes_holds
end Go.Proofs.Ytpdlliehdmeboaa
