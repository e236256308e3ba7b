/- For every net the call of FnExactSpans returns true: impl.Spans answers as spec.Spans and writes into no argument. No condition. -/
import Derived.Test.YtdfjfodfnildiabRows
import Derived.Test.YtdfjfodfnildiabZs
import Derived.Test.YtdfjfodfnildiabNe3
import Derived.Deep.Cut
import Derived.WalkKit
import Derived.Below
import Derived.ChangeOld
import Derived.WalkSmall
import Derived.ProofKit
import Derived.OpenShut
import Derived.ShutString
import Derived.BigQuiet
namespace Go.Proofs.Ytdfjfodfnildiab.fnExactSpans
open Go.ChangeShapes Go.WideShapes Go.ChangeAt Go.RowKit
set_option maxRecDepth 100000
set_option linter.unusedVariables false

theorem own : ownKnob Try.prog.godebug = none := by kernel_rfl
theorem laidOut : laidOutB Try.prog = true := by kernel_rfl

theorem NetIn.later {w w' : World} {adB : Option Addr} {capB : Nat} {Bs : List Bd} {adK : Option Addr} {capK : Nat} {K : List Lk} (h : NetIn w adB capB Bs adK capK K) (k : Below w.heap.size w w') : NetIn w' adB capB Bs adK capK K :=
  ⟨h.lb, h.vb.below k (Nat.le_refl _), h.ls, h.nb, h.lk, h.vk.below k (h.vk.lt lkEnc_len (by omega)), h.nk⟩
set_option maxHeartbeats 8000000 in
set_option maxRecDepth 100000 in
theorem walk (adB0 : Option Addr) (cB0 : Nat) (Bs0 : List Bd) (adK0 : Option Addr) (cK0 : Nat) (K0 : List Lk) (w : World) (I0 : NetIn w adB0 cB0 Bs0 adK0 cK0 K0) :
    Calls Try.prog 3 #[.agg #[.slice adB0 Bs0.length cB0, .slice adK0 K0.length cK0]] w fun e w' => e = .returned (.bool true) ∧ Below w.heap.size w w' := by
  obtain ⟨x0, hx⟩ : ∃ y_, y_ = (w.alloc (Obj.cells #[.slice adB0 Bs0.length cB0, .slice adK0 K0.length cK0] 25)) := ⟨_, rfl⟩
  have A0 : NeAt x0 (w.heap.size) (.slice adB0 Bs0.length cB0) (.slice adK0 K0.length cK0) := by rw [hx]; constructor <;> simp [go_sem]
  have BW : Below w.heap.size w x0 := by rw [hx]; exact below_new _
  have sx0 := BW.size
  go_enter Try.func3, Try.ntmps3
  go_wp2_with fail
  go_at_call 6
  rw [← hx]
  clear hx
  refine (neSz adB0 cB0 Bs0 adK0 cK0 K0 1048576 x0 (NetIn.later I0 BW) (by omega) (by omega)).mono ?_
  rintro e y0 ⟨⟨r0, rfl, r0m, hr0⟩, kq⟩
  have sy0 := kq.size
  have A0 := A0.below kq A0.lt
  have BW := BW.trans (kq.mono BW.size)
  clear kq
  by_cases q0 : 0 ≤ r0
  rotate_left
  · have q0' : r0 < 0 := by omega
    clear hr0
    go_wp2
    go_ret
    exact ⟨rfl, BW⟩
  have q0' : ¬ r0 < 0 := by omega
  obtain ⟨hb0, hs0, hk0⟩ := hr0 q0
  clear hr0
  have V0 : NN w adB0 Bs0 adK0 K0 := ⟨I0.vb, I0.vk, hb0, fun i hi => Nat.le_trans (getL_le Bs0 hi) hs0, hk0⟩
  have V0 := V0.later BW
  clear I0 hs0
  have cc := A0
  obtain ⟨m0_0, m0_1⟩ := cc
  go_wp2_with fail
  go_at_call 8
  clear m0_0 m0_1
  refine (netTo adB0 cB0 Bs0 adK0 cK0 K0 y0 V0).mono ?_
  rintro e x1 ⟨gBs, gKs, Cs, rfl, ds, Ms, Vs, kq⟩
  have sx1 := kq.size
  have A0 := A0.below kq A0.lt
  have V0 := V0.later kq
  have BW := BW.trans (kq.mono BW.size)
  clear kq
  replace ds : Hid _ := ds
  go_wp2_with fail
  go_at_call 7
  refine (spanS (some ⟨gBs, 0, none⟩) Cs.length Cs (some ⟨gKs, 0, none⟩) K0.length K0 x1 Vs).mono ?_
  rintro e x2 ⟨⟨R1, rfl, hR1⟩, kq⟩
  have sx2 := kq.size
  have A0 := A0.below kq A0.lt
  have V0 := V0.later kq
  have BW := BW.trans (kq.mono BW.size)
  clear kq
  replace hR1 : Hid _ := hR1
  have cc := A0
  obtain ⟨m0_0, m0_1⟩ := cc
  go_wp2_with fail
  go_at_call 8
  clear m0_0 m0_1
  refine (netTo adB0 cB0 Bs0 adK0 cK0 K0 x2 V0).mono ?_
  rintro e x3 ⟨gBx, gKx, Cx, rfl, dx, Mx, Vx, kq⟩
  have sx3 := kq.size
  have A0 := A0.below kq A0.lt
  have V0 := V0.later kq
  have BW := BW.trans (kq.mono BW.size)
  clear kq
  replace dx : Hid _ := dx
  obtain ⟨x4, hx4⟩ : ∃ y_, y_ = x3.alloc (Obj.cells #[.slice (some ⟨gBx, 0, none⟩) Cx.length Cx.length, .slice (some ⟨gKx, 0, none⟩) K0.length K0.length] 31) := ⟨_, rfl⟩
  have AX : NeAt x4 x3.heap.size (.slice (some ⟨gBx, 0, none⟩) Cx.length Cx.length) (.slice (some ⟨gKx, 0, none⟩) K0.length K0.length) := by rw [hx4]; exact NeAt.new x3 _
  have kq : Below x3.heap.size x3 x4 := by rw [hx4]; exact below_new _
  have lAX := AX.lt
  have sx4 := kq.size
  have A0 := A0.below kq A0.lt
  have V0 := V0.later kq
  have Vx := Vx.later kq
  have Mx := Mx.later kq
  have BW := BW.trans (kq.mono BW.size)
  clear kq
  go_upto_region 7 with fail
  rw [← hx4]
  clear hx4
  have cc := AX
  obtain ⟨m0_0, m0_1⟩ := cc
  go_wp2_with fail
  go_at_call 9
  clear m0_0 m0_1
  refine (spanI (some ⟨gBx, 0, none⟩) Cx.length Cx (some ⟨gKx, 0, none⟩) K0.length K0 x4 Vx (Nat.le_refl _)).mono ?_
  rintro e x5 ⟨⟨R2, rfl, hR2⟩, kq⟩
  have sx5 := kq.size
  have A0 := A0.below kq A0.lt
  have V0 := V0.later kq
  have Vx := Vx.later kq
  have Mx := Mx.later kq
  have AX := AX.below kq AX.lt
  have BW := BW.trans (kq.mono BW.size)
  clear kq
  obtain rfl : R2 = R1 := Bool.eq_iff_iff.2 (hR2.trans (Iff.trans (by unfold dB; rw [ds.out, dx.out]) hR1.out.symm))
  clear hR1 hR2
  go_upto_region 10 with fail
  refine wp_region_held (S := fun Y => Below x5.heap.size x5 Y) (by kernel_rfl) ?_
  change wpAnyH _ _ _ _ _ _ _ _ (World.drew _)
  have hb0 : Below x5.heap.size x5 x5.drew := (Below.refl _ _).drew
  obtain ⟨u0, hy0⟩ : ∃ y_, y_ = x5.drew := ⟨_, rfl⟩
  rw [← hy0] at hb0 ⊢
  clear hy0
  refine takeW 0 22 (.agg #[.slice (some ⟨gBx, 0, none⟩) Cx.length Cx.length, .slice (some ⟨gKx, 0, none⟩) K0.length K0.length]) rfl rfl (by kernel_rfl) (by kernel_rfl) (by kernel_rfl) (fun _ _ _ h => h) (by kernel_rfl) (by (intro Y hSw; obtain ⟨X0, X1⟩ := AX.below hSw AX.lt; go_simp)) (by assumption) ?_
  simp only [List.set_cons_zero, List.set_cons_succ]
  refine takeW 1 23 (.agg #[.slice adB0 Bs0.length cB0, .slice adK0 K0.length cK0]) rfl rfl (by kernel_rfl) (by kernel_rfl) (by kernel_rfl) (fun _ _ _ h => h) (by kernel_rfl) (by (intro Y hSw; obtain ⟨X0, X1⟩ := A0.below hSw A0.lt; go_simp)) (by assumption) ?_
  simp only [List.set_cons_zero, List.set_cons_succ]
  refine wpAnyH_all (rs := [2]) (by kernel_rfl) (by simp) ?_
  intro i hi; obtain rfl : i = 2 := by simpa using hi
  refine wpOp_step rfl (fun Kz hKz => ?_)
  rw [if_pos (by kernel_rfl)]
  go_simp
  go_at_call 8
  refine (netTo adB0 cB0 Bs0 adK0 cK0 K0 u0 (V0.later hb0)).mono ?_
  rintro e u1 ⟨gBq, gKq, Cq, rfl, dq, mq, vq, kq⟩
  have hb1 : Below x5.heap.size x5 u1 := hb0.trans (kq.mono hb0.size)
  clear kq mq
  replace dq : Hid _ := dq
  refine hKz _ _ ⟨hb1, ?_⟩
  clear hKz Kz hi
  refine wpAnyH_all (rs := [3]) (by kernel_rfl) (by simp) ?_
  intro i hi; obtain rfl : i = 3 := by simpa using hi
  refine wpOp_step rfl (fun Kz hKz => ?_)
  rw [if_pos (by kernel_rfl)]
  go_simp
  go_at_call 10
  refine (netEq (some ⟨gBx, 0, none⟩) (some ⟨gBq, 0, none⟩) Cx.length Cq.length Cx Cq (some ⟨gKx, 0, none⟩) (some ⟨gKq, 0, none⟩) K0.length K0.length K0 u1 (Vx.later hb1) vq (dq.out.trans dx.out.symm)).mono ?_
  rintro e x6 ⟨rfl, kq⟩
  have hb2 : Below x5.heap.size x5 x6 := hb1.trans (kq.mono hb1.size)
  clear kq vq
  refine hKz _ _ ⟨hb2, ?_⟩
  clear hKz Kz hi
  refine takeW 4 26 (.bool false) rfl rfl (by kernel_rfl) (by kernel_rfl) (by kernel_rfl) (fun _ _ _ h => h) (by kernel_rfl) (by (intro w hSw; go_simp)) (by assumption) ?_
  simp only [List.set_cons_zero, List.set_cons_succ]
  refine wpAnyH_done (by kernel_rfl) ?_ _
  have sx6 := hb2.size
  have A0 := A0.below hb2 A0.lt
  have V0 := V0.later hb2
  have Vx := Vx.later hb2
  have Mx := Mx.later hb2
  have AX := AX.below hb2 AX.lt
  have BW := BW.trans (hb2.mono BW.size)
  clear hb2
  clear hb0 hb1
  go_wp2
  go_ret
  exact ⟨rfl, BW⟩


set_option maxRecDepth 100000 in
theorem lifted (os : Os) (started : os.Started) (H : Type) (enc : TypeId × Value → H) :
    ReturnsInHanded {} Try.checked os 3 .any (Rows.fnExactSpansSpec.pre6 enc Try.prog Try.f3 Rows.fnExactSpansRow.domain false) (Rows.fnExactSpansSpec.post enc Try.prog Try.f3 false true false false) := by
  refine returnsInHanded_of_change (C := Try.checked) own started (by kernel_rfl) Try.func3
    (ChangeSpec.witness6 (enc := enc) (C := Try.checked) false ⟨#[], #[.agg #[.slice none 0 0, .slice none 0 0]], []⟩ 8 (by kernel_rfl) (by kernel_rfl) (by kernel_rfl) (by kernel_rfl)) ?_
  intro W base args ds gs before hval0 hW hcnd _
  have hval : ∀ (j : Nat) t v, Try.f3.params[j]? = some t → args[j]? = some v → Value.okWide Try.prog W .any base t v := hval0
  have hW' := hW
  obtain ⟨p, q, hA0, hV, rfl, hfz, hnd⟩ := hW
  have hA : DataW.TrodAll enc Try.prog W 0 (fun _ => true) true Try.f3.params.toList args.toList ds p := hA0
  rw [Try.params3] at hA hval
  obtain ⟨v0, vs0, d0, ds0, p0, q0, hargs, rfl, rfl, h0, r0⟩ := trodAll_cons hA
  obtain ⟨rfl, rfl, rfl⟩ := trodAll_nil r0
  obtain rfl : args = #[v0] := by cases args; simp_all
  obtain ⟨rfl, rfl⟩ := trodVars_none hV
  obtain ⟨adB0, cB0, Bs0, adK0, cK0, K0, rfl, I0⟩ := netIn_open (hval 0 25 v0 rfl rfl) h0
  have lt0 : ∀ x ∈ p0, x.block < W.heap.size := by obtain ⟨m, hm⟩ := h0; exact DataW.trod_lt m _ _ _ hm
  clear hA0 hval0
  refine (walk adB0 cB0 Bs0 adK0 cK0 K0 W I0).mono fun e W' ⟨he, bel⟩ => ?_
  subst he
  exact ⟨_, rfl, _, _, _, [], _, [], hW', trodAll_mk1 (shut_bool Try.underlying4 _), (trodAll_cons_mk (Below.trod laidOut (by kernel_rfl) (of_decide_eq_true (by kernel_rfl)) h0 bel lt0) trodAll_mk0), rfl, bel.frame _, fun h => by cases h⟩

theorem over : Rows.fnExactSpansRow.holds Try.pinned (OpenSpec.ofChange Rows.fnExactSpansSpec) :=
  OpenClaim.holds_of_wide 3 Try.f3 rfl rfl rfl rfl rfl rfl rfl ⟨rfl, rfl, rfl, rfl, rfl⟩ rfl rfl rfl rfl rfl (by kernel_rfl) Try.func3 (by kernel_rfl)
    (of_decide_eq_true (by kernel_rfl)) (by unfold Func.isWrapper; first | (rw [if_pos (by decide +kernel)]; kernel_rfl) | (rw [if_neg (by decide +kernel)]; exact ⟨rfl, rfl⟩))
    (fun os started H enc _ => lifted os started H enc)

theorem proved : Rows.FnExactSpansSaid := over
end Go.Proofs.Ytdfjfodfnildiab.fnExactSpans
namespace Go.Proofs.Ytdfjfodfnildiab
theorem spans_holds : Rows.FnExactSpansSaid := fnExactSpans.proved
#print axioms spans_holds
end Go.Proofs.Ytdfjfodfnildiab
