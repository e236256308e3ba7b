/- For every two nets the call of FnExactSame returns true: impl.Same answers as spec.Same and writes into no argument. No condition. -/
import Derived.Test.YtemibefbkjpnaabRows
import Derived.Test.YtemibefbkjpnaabSm4
import Derived.Test.YtemibefbkjpnaabNe3
import Derived.Deep.Cut
import Derived.WalkKit
import Derived.Below
import Derived.ChangeOld
import Derived.WalkSmall
import Derived.ProofKit
import Derived.OpenShut
import Derived.ShutString
import Derived.BigQuiet
namespace Go.Proofs.Ytemibefbkjpnaab.fnExactSame
open Go.ChangeShapes Go.WideShapes Go.ChangeAt Go.RowKit
set_option maxRecDepth 100000
set_option linter.unusedVariables false

theorem own : ownKnob Try.prog.godebug = none := by kernel_rfl
theorem laidOut : laidOutB Try.prog = true := by kernel_rfl

theorem NetIn.later {w w' : World} {adB : Option Addr} {capB : Nat} {Bs : List Bd} {adK : Option Addr} {capK : Nat} {K : List Lk} (h : NetIn w adB capB Bs adK capK K) (k : Below w.heap.size w w') : NetIn w' adB capB Bs adK capK K :=
  ⟨h.lb, h.vb.below k (Nat.le_refl _), h.ls, h.nb, h.lk, h.vk.below k (h.vk.lt lkEnc_len (by omega)), h.nk⟩
set_option maxHeartbeats 8000000 in
set_option maxRecDepth 100000 in
theorem walk (adB0 : Option Addr) (cB0 : Nat) (Bs0 : List Bd) (adK0 : Option Addr) (cK0 : Nat) (K0 : List Lk) (adB1 : Option Addr) (cB1 : Nat) (Bs1 : List Bd) (adK1 : Option Addr) (cK1 : Nat) (K1 : List Lk) (w : World) (I0 : NetIn w adB0 cB0 Bs0 adK0 cK0 K0) (I1 : NetIn w adB1 cB1 Bs1 adK1 cK1 K1) :
    Calls Try.prog 3 #[.agg #[.slice adB0 Bs0.length cB0, .slice adK0 K0.length cK0], .agg #[.slice adB1 Bs1.length cB1, .slice adK1 K1.length cK1]] w fun e w' => e = .returned (.bool true) ∧ Below w.heap.size w w' := by
  obtain ⟨x0, hx⟩ : ∃ y_, y_ = ((w.alloc (Obj.cells #[.slice adB0 Bs0.length cB0, .slice adK0 K0.length cK0] 25)).alloc (Obj.cells #[.slice adB1 Bs1.length cB1, .slice adK1 K1.length cK1] 25)) := ⟨_, rfl⟩
  have A0 : NeAt x0 (w.heap.size) (.slice adB0 Bs0.length cB0) (.slice adK0 K0.length cK0) := by rw [hx]; constructor <;> simp [go_sem]
  have A1 : NeAt x0 (w.heap.size + 1) (.slice adB1 Bs1.length cB1) (.slice adK1 K1.length cK1) := by rw [hx]; constructor <;> simp [go_sem]
  have BW : Below w.heap.size w x0 := by rw [hx]; exact ((Below.refl _ _).alloc (Nat.le_refl _) _).alloc (by simp) _
  have sx0 := BW.size
  go_enter Try.func3, Try.ntmps3
  go_wp2_with fail
  go_at_call 4
  rw [← hx]
  clear hx
  refine (neSz adB0 cB0 Bs0 adK0 cK0 K0 1048576 x0 (NetIn.later I0 BW) (by omega) (by omega)).mono ?_
  rintro e y0 ⟨⟨r0, rfl, r0m, hr0⟩, kq⟩
  have sy0 := kq.size
  have A0 := A0.below kq A0.lt
  have A1 := A1.below kq A1.lt
  have BW := BW.trans (kq.mono BW.size)
  clear kq
  by_cases q0 : 0 ≤ r0
  rotate_left
  · have q0' : r0 < 0 := by omega
    clear hr0
    go_wp2
    go_ret
    exact ⟨rfl, BW⟩
  have q0' : ¬ r0 < 0 := by omega
  obtain ⟨hb0, hs0, hk0⟩ := hr0 q0
  clear hr0
  have cc := A1
  obtain ⟨m0_0, m0_1⟩ := cc
  go_wp2_with fail
  go_at_call 4
  clear m0_0 m0_1
  refine (neSz adB1 cB1 Bs1 adK1 cK1 K1 r0 y0 (NetIn.later I1 BW) (by omega) (by omega)).mono ?_
  rintro e y1 ⟨⟨r1, rfl, r1m, hr1⟩, kq⟩
  have sy1 := kq.size
  have A0 := A0.below kq A0.lt
  have A1 := A1.below kq A1.lt
  have BW := BW.trans (kq.mono BW.size)
  clear kq
  by_cases q1 : 0 ≤ r1
  rotate_left
  · have q1' : r1 < 0 := by omega
    clear hr1
    go_wp2
    go_ret
    exact ⟨rfl, BW⟩
  have q1' : ¬ r1 < 0 := by omega
  obtain ⟨hb1, hs1, hk1⟩ := hr1 q1
  clear hr1
  have V0 : NN w adB0 Bs0 adK0 K0 := ⟨I0.vb, I0.vk, hb0, fun i hi => Nat.le_trans (getL_le Bs0 hi) hs0, hk0⟩
  have V0 := V0.later BW
  clear I0 hs0
  have V1 : NN w adB1 Bs1 adK1 K1 := ⟨I1.vb, I1.vk, hb1, fun i hi => Nat.le_trans (getL_le Bs1 hi) hs1, hk1⟩
  have V1 := V1.later BW
  clear I1 hs1
  go_upto_region 8 with fail
  refine wp_region_held (S := fun Y => Below y1.heap.size y1 Y) (by kernel_rfl) ?_
  change wpAnyH _ _ _ _ _ _ _ _ (World.drew _)
  have hb0 : Below y1.heap.size y1 y1.drew := (Below.refl _ _).drew
  obtain ⟨u0, hy0⟩ : ∃ y_, y_ = y1.drew := ⟨_, rfl⟩
  rw [← hy0] at hb0 ⊢
  clear hy0
  refine takeW 0 20 (.agg #[.slice adB0 Bs0.length cB0, .slice adK0 K0.length cK0]) rfl rfl (by kernel_rfl) (by kernel_rfl) (by kernel_rfl) (fun _ _ _ h => h) (by kernel_rfl) (by (intro Y hSw; obtain ⟨X0, X1⟩ := A0.below hSw A0.lt; go_simp)) (by assumption) ?_
  simp only [List.set_cons_zero, List.set_cons_succ]
  refine takeW 2 22 (.agg #[.slice adB1 Bs1.length cB1, .slice adK1 K1.length cK1]) rfl rfl (by kernel_rfl) (by kernel_rfl) (by kernel_rfl) (fun _ _ _ h => h) (by kernel_rfl) (by (intro Y hSw; obtain ⟨X0, X1⟩ := A1.below hSw A1.lt; go_simp)) (by assumption) ?_
  simp only [List.set_cons_zero, List.set_cons_succ]
  refine wpAnyH_all (rs := [1]) (by kernel_rfl) (by simp) ?_
  intro i hi; obtain rfl : i = 1 := by simpa using hi
  refine wpOp_step rfl (fun Kz hKz => ?_)
  rw [if_pos (by kernel_rfl)]
  go_simp
  go_at_call 6
  refine (netTo adB0 cB0 Bs0 adK0 cK0 K0 u0 (V0.later hb0)).mono ?_
  rintro e u1 ⟨gBs0, gKs0, Cs0, rfl, ds0, ms0, vs0, kq⟩
  have hb1 : Below y1.heap.size y1 u1 := hb0.trans (kq.mono hb0.size)
  replace ds0 : Hid _ := ds0
  clear ms0
  clear kq
  refine hKz _ _ ⟨hb1, ?_⟩
  clear hKz Kz hi
  refine wpAnyH_all (rs := [3]) (by kernel_rfl) (by simp) ?_
  intro i hi; obtain rfl : i = 3 := by simpa using hi
  refine wpOp_step rfl (fun Kz hKz => ?_)
  rw [if_pos (by kernel_rfl)]
  go_simp
  go_at_call 6
  refine (netTo adB1 cB1 Bs1 adK1 cK1 K1 u1 (V1.later hb1)).mono ?_
  rintro e u2 ⟨gBs1, gKs1, Cs1, rfl, ds1, ms1, vs1, kq⟩
  have hb2 : Below y1.heap.size y1 u2 := hb1.trans (kq.mono hb1.size)
  replace ds1 : Hid _ := ds1
  clear ms1
  have vs0 := vs0.later kq
  clear kq
  refine hKz _ _ ⟨hb2, ?_⟩
  clear hKz Kz hi
  refine wpAnyH_all (rs := [4]) (by kernel_rfl) (by simp) ?_
  intro i hi; obtain rfl : i = 4 := by simpa using hi
  refine wpOp_step rfl (fun Kz hKz => ?_)
  rw [if_pos (by kernel_rfl)]
  go_simp
  go_at_call 5
  refine (sameS (some ⟨gBs0, 0, none⟩) (some ⟨gBs1, 0, none⟩) Cs0.length Cs1.length Cs0 Cs1 (some ⟨gKs0, 0, none⟩) (some ⟨gKs1, 0, none⟩) K0.length K1.length K0 K1 u2 vs0 vs1).mono ?_
  rintro e x1 ⟨⟨R1, rfl, hR1⟩, kq⟩
  have hb3 : Below y1.heap.size y1 x1 := hb2.trans (kq.mono hb2.size)
  clear kq vs0 vs1
  replace hR1 : Hid _ := hR1
  refine hKz _ _ ⟨hb3, ?_⟩
  clear hKz Kz hi
  refine takeW 5 6 (.bool R1) rfl rfl (by kernel_rfl) (by kernel_rfl) (by kernel_rfl) (fun _ _ _ h => h) (by kernel_rfl) (by (intro w hSw; go_simp)) (by assumption) ?_
  simp only [List.set_cons_zero, List.set_cons_succ]
  refine wpAnyH_done (by kernel_rfl) ?_ _
  have sx1 := hb3.size
  have A0 := A0.below hb3 A0.lt
  have A1 := A1.below hb3 A1.lt
  have V0 := V0.later hb3
  have V1 := V1.later hb3
  have BW := BW.trans (hb3.mono BW.size)
  clear hb3
  clear hb0 hb1 hb2
  have cc := A0
  obtain ⟨m0_0, m0_1⟩ := cc
  go_wp2_with fail
  go_at_call 6
  clear m0_0 m0_1
  refine (netTo adB0 cB0 Bs0 adK0 cK0 K0 x1 V0).mono ?_
  rintro e x2 ⟨gBx, gKx, Cx, rfl, dx, Mx, Vx, kq⟩
  have sx2 := kq.size
  have A0 := A0.below kq A0.lt
  have A1 := A1.below kq A1.lt
  have V0 := V0.later kq
  have V1 := V1.later kq
  have BW := BW.trans (kq.mono BW.size)
  clear kq
  replace dx : Hid _ := dx
  obtain ⟨x3, hx3⟩ : ∃ y_, y_ = x2.alloc (Obj.cells #[.slice (some ⟨gBx, 0, none⟩) Cx.length Cx.length, .slice (some ⟨gKx, 0, none⟩) K0.length K0.length] 31) := ⟨_, rfl⟩
  have AX : NeAt x3 x2.heap.size (.slice (some ⟨gBx, 0, none⟩) Cx.length Cx.length) (.slice (some ⟨gKx, 0, none⟩) K0.length K0.length) := by rw [hx3]; exact NeAt.new x2 _
  have kq : Below x2.heap.size x2 x3 := by rw [hx3]; exact below_new _
  have lAX := AX.lt
  have sx3 := kq.size
  have A0 := A0.below kq A0.lt
  have A1 := A1.below kq A1.lt
  have V0 := V0.later kq
  have V1 := V1.later kq
  have Vx := Vx.later kq
  have Mx := Mx.later kq
  have BW := BW.trans (kq.mono BW.size)
  clear kq
  go_upto_region 10 with fail
  rw [← hx3]
  clear hx3
  have cc := A1
  obtain ⟨m0_0, m0_1⟩ := cc
  go_wp2_with fail
  go_at_call 6
  clear m0_0 m0_1
  refine (netTo adB1 cB1 Bs1 adK1 cK1 K1 x3 V1).mono ?_
  rintro e x4 ⟨gBz, gKz, Cz, rfl, dz, Mz, Vz, kq⟩
  have sx4 := kq.size
  have A0 := A0.below kq A0.lt
  have A1 := A1.below kq A1.lt
  have V0 := V0.later kq
  have V1 := V1.later kq
  have Vx := Vx.later kq
  have Mx := Mx.later kq
  have AX := AX.below kq AX.lt
  have BW := BW.trans (kq.mono BW.size)
  clear kq
  replace dz : Hid _ := dz
  obtain ⟨x5, hx5⟩ : ∃ y_, y_ = x4.alloc (Obj.cells #[.slice (some ⟨gBz, 0, none⟩) Cz.length Cz.length, .slice (some ⟨gKz, 0, none⟩) K1.length K1.length] 31) := ⟨_, rfl⟩
  have AZ : NeAt x5 x4.heap.size (.slice (some ⟨gBz, 0, none⟩) Cz.length Cz.length) (.slice (some ⟨gKz, 0, none⟩) K1.length K1.length) := by rw [hx5]; exact NeAt.new x4 _
  have kq : Below x4.heap.size x4 x5 := by rw [hx5]; exact below_new _
  have lAZ := AZ.lt
  have sx5 := kq.size
  have A0 := A0.below kq A0.lt
  have A1 := A1.below kq A1.lt
  have V0 := V0.later kq
  have V1 := V1.later kq
  have Vx := Vx.later kq
  have Mx := Mx.later kq
  have AX := AX.below kq AX.lt
  have Vz := Vz.later kq
  have Mz := Mz.later kq
  have BW := BW.trans (kq.mono BW.size)
  clear kq
  go_upto_region 11 with fail
  rw [← hx5]
  clear hx5
  have cc := AX
  obtain ⟨m0_0, m0_1⟩ := cc
  have cc := AZ
  obtain ⟨m1_0, m1_1⟩ := cc
  go_wp2_with fail
  go_at_call 7
  clear m0_0 m0_1 m1_0 m1_1
  refine (sameI (some ⟨gBx, 0, none⟩) (some ⟨gBz, 0, none⟩) Cx.length Cz.length Cx Cz (some ⟨gKx, 0, none⟩) (some ⟨gKz, 0, none⟩) K0.length K1.length K0 K1 x5 Vx Vz).mono ?_
  rintro e x6 ⟨⟨R2, rfl, hR2⟩, kq⟩
  have sx6 := kq.size
  have A0 := A0.below kq A0.lt
  have A1 := A1.below kq A1.lt
  have V0 := V0.later kq
  have V1 := V1.later kq
  have Vx := Vx.later kq
  have Mx := Mx.later kq
  have AX := AX.below kq AX.lt
  have Vz := Vz.later kq
  have Mz := Mz.later kq
  have AZ := AZ.below kq AZ.lt
  have BW := BW.trans (kq.mono BW.size)
  clear kq
  obtain rfl : R2 = R1 := Bool.eq_iff_iff.2 (hR2.trans (Iff.trans (by unfold dB; rw [ds0.out, ds1.out, dx.out, dz.out]) hR1.out.symm))
  clear hR1 hR2
  go_upto_region 14 with fail
  refine wp_region_held (S := fun Y => Below x6.heap.size x6 Y) (by kernel_rfl) ?_
  change wpAnyH _ _ _ _ _ _ _ _ (World.drew _)
  have hb0 : Below x6.heap.size x6 x6.drew := (Below.refl _ _).drew
  obtain ⟨u0, hy0⟩ : ∃ y_, y_ = x6.drew := ⟨_, rfl⟩
  rw [← hy0] at hb0 ⊢
  clear hy0
  refine takeW 0 35 (.agg #[.slice (some ⟨gBx, 0, none⟩) Cx.length Cx.length, .slice (some ⟨gKx, 0, none⟩) K0.length K0.length]) rfl rfl (by kernel_rfl) (by kernel_rfl) (by kernel_rfl) (fun _ _ _ h => h) (by kernel_rfl) (by (intro Y hSw; obtain ⟨X0, X1⟩ := AX.below hSw AX.lt; go_simp)) (by assumption) ?_
  simp only [List.set_cons_zero, List.set_cons_succ]
  refine takeW 1 36 (.agg #[.slice adB0 Bs0.length cB0, .slice adK0 K0.length cK0]) rfl rfl (by kernel_rfl) (by kernel_rfl) (by kernel_rfl) (fun _ _ _ h => h) (by kernel_rfl) (by (intro Y hSw; obtain ⟨X0, X1⟩ := A0.below hSw A0.lt; go_simp)) (by assumption) ?_
  simp only [List.set_cons_zero, List.set_cons_succ]
  refine wpAnyH_all (rs := [2]) (by kernel_rfl) (by simp) ?_
  intro i hi; obtain rfl : i = 2 := by simpa using hi
  refine wpOp_step rfl (fun Kz hKz => ?_)
  rw [if_pos (by kernel_rfl)]
  go_simp
  go_at_call 6
  refine (netTo adB0 cB0 Bs0 adK0 cK0 K0 u0 (V0.later hb0)).mono ?_
  rintro e u1 ⟨gBq, gKq, Cq, rfl, dq, mq, vq, kq⟩
  have hb1 : Below x6.heap.size x6 u1 := hb0.trans (kq.mono hb0.size)
  clear kq mq
  replace dq : Hid _ := dq
  refine hKz _ _ ⟨hb1, ?_⟩
  clear hKz Kz hi
  refine wpAnyH_all (rs := [3]) (by kernel_rfl) (by simp) ?_
  intro i hi; obtain rfl : i = 3 := by simpa using hi
  refine wpOp_step rfl (fun Kz hKz => ?_)
  rw [if_pos (by kernel_rfl)]
  go_simp
  go_at_call 8
  refine (netEq (some ⟨gBx, 0, none⟩) (some ⟨gBq, 0, none⟩) Cx.length Cq.length Cx Cq (some ⟨gKx, 0, none⟩) (some ⟨gKq, 0, none⟩) K0.length K0.length K0 u1 (Vx.later hb1) vq (dq.out.trans dx.out.symm)).mono ?_
  rintro e x7 ⟨rfl, kq⟩
  have hb2 : Below x6.heap.size x6 x7 := hb1.trans (kq.mono hb1.size)
  clear kq vq
  refine hKz _ _ ⟨hb2, ?_⟩
  clear hKz Kz hi
  refine takeW 4 39 (.bool false) rfl rfl (by kernel_rfl) (by kernel_rfl) (by kernel_rfl) (fun _ _ _ h => h) (by kernel_rfl) (by (intro w hSw; go_simp)) (by assumption) ?_
  simp only [List.set_cons_zero, List.set_cons_succ]
  refine wpAnyH_done (by kernel_rfl) ?_ _
  have sx7 := hb2.size
  have A0 := A0.below hb2 A0.lt
  have A1 := A1.below hb2 A1.lt
  have V0 := V0.later hb2
  have V1 := V1.later hb2
  have Vx := Vx.later hb2
  have Mx := Mx.later hb2
  have AX := AX.below hb2 AX.lt
  have Vz := Vz.later hb2
  have Mz := Mz.later hb2
  have AZ := AZ.below hb2 AZ.lt
  have BW := BW.trans (hb2.mono BW.size)
  clear hb2
  clear hb0 hb1
  go_upto_region 16 with fail
  refine wp_region_held (S := fun Y => Below x7.heap.size x7 Y) (by kernel_rfl) ?_
  change wpAnyH _ _ _ _ _ _ _ _ (World.drew _)
  have hb0 : Below x7.heap.size x7 x7.drew := (Below.refl _ _).drew
  obtain ⟨u0, hy0⟩ : ∃ y_, y_ = x7.drew := ⟨_, rfl⟩
  rw [← hy0] at hb0 ⊢
  clear hy0
  refine takeW 0 40 (.agg #[.slice (some ⟨gBz, 0, none⟩) Cz.length Cz.length, .slice (some ⟨gKz, 0, none⟩) K1.length K1.length]) rfl rfl (by kernel_rfl) (by kernel_rfl) (by kernel_rfl) (fun _ _ _ h => h) (by kernel_rfl) (by (intro Y hSw; obtain ⟨X0, X1⟩ := AZ.below hSw AZ.lt; go_simp)) (by assumption) ?_
  simp only [List.set_cons_zero, List.set_cons_succ]
  refine takeW 1 41 (.agg #[.slice adB1 Bs1.length cB1, .slice adK1 K1.length cK1]) rfl rfl (by kernel_rfl) (by kernel_rfl) (by kernel_rfl) (fun _ _ _ h => h) (by kernel_rfl) (by (intro Y hSw; obtain ⟨X0, X1⟩ := A1.below hSw A1.lt; go_simp)) (by assumption) ?_
  simp only [List.set_cons_zero, List.set_cons_succ]
  refine wpAnyH_all (rs := [2]) (by kernel_rfl) (by simp) ?_
  intro i hi; obtain rfl : i = 2 := by simpa using hi
  refine wpOp_step rfl (fun Kz hKz => ?_)
  rw [if_pos (by kernel_rfl)]
  go_simp
  go_at_call 6
  refine (netTo adB1 cB1 Bs1 adK1 cK1 K1 u0 (V1.later hb0)).mono ?_
  rintro e u1 ⟨gBq, gKq, Cq, rfl, dq, mq, vq, kq⟩
  have hb1 : Below x7.heap.size x7 u1 := hb0.trans (kq.mono hb0.size)
  clear kq mq
  replace dq : Hid _ := dq
  refine hKz _ _ ⟨hb1, ?_⟩
  clear hKz Kz hi
  refine wpAnyH_all (rs := [3]) (by kernel_rfl) (by simp) ?_
  intro i hi; obtain rfl : i = 3 := by simpa using hi
  refine wpOp_step rfl (fun Kz hKz => ?_)
  rw [if_pos (by kernel_rfl)]
  go_simp
  go_at_call 8
  refine (netEq (some ⟨gBz, 0, none⟩) (some ⟨gBq, 0, none⟩) Cz.length Cq.length Cz Cq (some ⟨gKz, 0, none⟩) (some ⟨gKq, 0, none⟩) K1.length K1.length K1 u1 (Vz.later hb1) vq (dq.out.trans dz.out.symm)).mono ?_
  rintro e x8 ⟨rfl, kq⟩
  have hb2 : Below x7.heap.size x7 x8 := hb1.trans (kq.mono hb1.size)
  clear kq vq
  refine hKz _ _ ⟨hb2, ?_⟩
  clear hKz Kz hi
  refine takeW 4 44 (.bool false) rfl rfl (by kernel_rfl) (by kernel_rfl) (by kernel_rfl) (fun _ _ _ h => h) (by kernel_rfl) (by (intro w hSw; go_simp)) (by assumption) ?_
  simp only [List.set_cons_zero, List.set_cons_succ]
  refine wpAnyH_done (by kernel_rfl) ?_ _
  have sx8 := hb2.size
  have A0 := A0.below hb2 A0.lt
  have A1 := A1.below hb2 A1.lt
  have V0 := V0.later hb2
  have V1 := V1.later hb2
  have Vx := Vx.later hb2
  have Mx := Mx.later hb2
  have AX := AX.below hb2 AX.lt
  have Vz := Vz.later hb2
  have Mz := Mz.later hb2
  have AZ := AZ.below hb2 AZ.lt
  have BW := BW.trans (hb2.mono BW.size)
  clear hb2
  clear hb0 hb1
  go_wp2
  go_ret
  exact ⟨rfl, BW⟩


set_option maxRecDepth 100000 in
theorem lifted (os : Os) (started : os.Started) (H : Type) (enc : TypeId × Value → H) :
    ReturnsInHanded {} Try.checked os 3 .any (Rows.fnExactSameSpec.pre6 enc Try.prog Try.f3 Rows.fnExactSameRow.domain false) (Rows.fnExactSameSpec.post enc Try.prog Try.f3 false true false false) := by
  refine returnsInHanded_of_change (C := Try.checked) own started (by kernel_rfl) Try.func3
    (ChangeSpec.witness6 (enc := enc) (C := Try.checked) false ⟨#[], #[.agg #[.slice none 0 0, .slice none 0 0], .agg #[.slice none 0 0, .slice none 0 0]], []⟩ 8 (by kernel_rfl) (by kernel_rfl) (by kernel_rfl) (by kernel_rfl)) ?_
  intro W base args ds gs before hval0 hW hcnd _
  have hval : ∀ (j : Nat) t v, Try.f3.params[j]? = some t → args[j]? = some v → Value.okWide Try.prog W .any base t v := hval0
  have hW' := hW
  obtain ⟨p, q, hA0, hV, rfl, hfz, hnd⟩ := hW
  have hA : DataW.TrodAll enc Try.prog W 0 (fun _ => true) true Try.f3.params.toList args.toList ds p := hA0
  rw [Try.params3] at hA hval
  obtain ⟨v0, vs0, d0, ds0, p0, q0, hargs, rfl, rfl, h0, r0⟩ := trodAll_cons hA
  obtain ⟨v1, vs1, d1, ds1, p1, q1, rfl, rfl, rfl, h1, r1⟩ := trodAll_cons r0
  obtain ⟨rfl, rfl, rfl⟩ := trodAll_nil r1
  obtain rfl : args = #[v0, v1] := by cases args; simp_all
  obtain ⟨rfl, rfl⟩ := trodVars_none hV
  obtain ⟨adB0, cB0, Bs0, adK0, cK0, K0, rfl, I0⟩ := netIn_open (hval 0 25 v0 rfl rfl) h0
  have lt0 : ∀ x ∈ p0, x.block < W.heap.size := by obtain ⟨m, hm⟩ := h0; exact DataW.trod_lt m _ _ _ hm
  obtain ⟨adB1, cB1, Bs1, adK1, cK1, K1, rfl, I1⟩ := netIn_open (hval 1 25 v1 rfl rfl) h1
  have lt1 : ∀ x ∈ p1, x.block < W.heap.size := by obtain ⟨m, hm⟩ := h1; exact DataW.trod_lt m _ _ _ hm
  clear hA0 hval0
  refine (walk adB0 cB0 Bs0 adK0 cK0 K0 adB1 cB1 Bs1 adK1 cK1 K1 W I0 I1).mono fun e W' ⟨he, bel⟩ => ?_
  subst he
  exact ⟨_, rfl, _, _, _, [], _, [], hW', trodAll_mk1 (shut_bool Try.underlying4 _), (trodAll_cons_mk (Below.trod laidOut (by kernel_rfl) (of_decide_eq_true (by kernel_rfl)) h0 bel lt0) (trodAll_cons_mk (Below.trod laidOut (by kernel_rfl) (of_decide_eq_true (by kernel_rfl)) h1 bel lt1) trodAll_mk0)), rfl, bel.frame _, fun h => by cases h⟩

theorem over : Rows.fnExactSameRow.holds Try.pinned (OpenSpec.ofChange Rows.fnExactSameSpec) :=
  OpenClaim.holds_of_wide 3 Try.f3 rfl rfl rfl rfl rfl rfl rfl ⟨rfl, rfl, rfl, rfl, rfl⟩ rfl rfl rfl rfl rfl (by kernel_rfl) Try.func3 (by kernel_rfl)
    (of_decide_eq_true (by kernel_rfl)) (by unfold Func.isWrapper; first | (rw [if_pos (by decide +kernel)]; kernel_rfl) | (rw [if_neg (by decide +kernel)]; exact ⟨rfl, rfl⟩))
    (fun os started H enc _ => lifted os started H enc)

theorem proved : Rows.FnExactSameSaid := over
end Go.Proofs.Ytemibefbkjpnaab.fnExactSame
namespace Go.Proofs.Ytemibefbkjpnaab
theorem same_holds : Rows.FnExactSameSaid := fnExactSame.proved
#print axioms same_holds
end Go.Proofs.Ytemibefbkjpnaab
