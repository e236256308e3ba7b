/- For every card, port and flag the call of FnExactGate returns true: impl.Gate answers as spec.Gate, writes into no argument, keeps nothing of one, and its answer owns its memory, behind another call too (lists of more than 1048576 values together are answered true at once). No condition. -/
import Derived.Test.YtifndemkkaelaaaRows
import Derived.Test.YtifndemkkaelaaaGateI
import Derived.Test.YtifndemkkaelaaaGateS
import Derived.Test.YtifndemkkaelaaaCard4
import Derived.Test.YtifndemkkaelaaaTakes
import Derived.WalkSpells
import Derived.WalkLawsBesides
import Derived.WalkKit
import Derived.Below
import Derived.ChangeOld
import Derived.WalkSmall
import Derived.ProofKit
import Derived.OpenShut
import Derived.ShutString
import Derived.BigQuiet
namespace Go.Proofs.Ytifndemkkaelaaa.fnExactGate
open Go.ChangeShapes Go.WideShapes Go.ChangeAt Go.RowKit
set_option linter.unusedVariables false

theorem own : ownKnob Try.prog.godebug = none := by kernel_rfl
theorem laidOut : laidOutB Try.prog = true := by kernel_rfl

set_option maxRecDepth 100000 in
theorem intIn_open {H : Type} {enc : TypeId × Value → H} {w : World} {r : Reach} {b0 : Nat} {v : Value} {d : DataW H} {p : List MemPlace} (hv : Value.okWide Try.prog w r b0 3 v) (h : DataW.Trod enc Try.prog w 0 (fun _ => true) true 3 v d p) : ∃ n : Int, v = .int .i64 n ∧ (Lit.int .i64 n).wf = true := by
  obtain ⟨n, rfl, _, _, I⟩ := open_int Try.underlying3 hv h
  exact ⟨n, rfl, I⟩
set_option maxRecDepth 100000 in
theorem boolIn_open {H : Type} {enc : TypeId × Value → H} {w : World} {r : Reach} {b0 : Nat} {v : Value} {d : DataW H} {p : List MemPlace} (hv : Value.okWide Try.prog w r b0 4 v) (h : DataW.Trod enc Try.prog w 0 (fun _ => true) true 4 v d p) : ∃ b : Bool, v = .bool b ∧ True := by
  obtain ⟨b, rfl, _, _⟩ := open_bool Try.underlying4 hv h
  exact ⟨b, rfl, trivial⟩
set_option maxRecDepth 100000 in
set_option maxHeartbeats 16000000 in
theorem walk (adO0 : Option Addr) (cO0 : Nat) (O0 : List Bool) (adM0 : Option Addr) (cM0 : Nat) (D0 : DL) (adT0 : Option Addr) (cT0 : Nat) (T0 : List Hd) (n1 : Int) (b2 : Bool) (w : World) (I0 : CardI w adO0 O0 adM0 D0 adT0 T0) (I1 : (Lit.int .i64 n1).wf = true) (I2 : True) :
    Calls Try.prog 5 #[.agg #[.slice adO0 O0.length cO0, .slice adM0 D0.length cM0, .slice adT0 T0.length cT0], .int .i64 n1, .bool b2] w fun e w' => e = .returned (.bool true) ∧ Below w.heap.size w w' := by
  obtain ⟨x0, hx⟩ : ∃ x, x = w.alloc (Obj.cells #[.slice adO0 O0.length cO0, .slice adM0 D0.length cM0, .slice adT0 T0.length cT0] 40) := ⟨_, rfl⟩
  have BW : Below w.heap.size w x0 := by rw [hx]; exact below_box w _
  have A0 : CdAt x0 w.heap.size adO0 O0.length cO0 adM0 D0.length cM0 adT0 T0.length cT0 := by rw [hx]; exact CdAt.box _ _ _ _ _ _ _ _ _ _ _
  have tx0 : w.heap.size < x0.heap.size := A0.lt
  have V0 := I0.view
  have V0 := V0.below BW (Nat.le_refl _)
  go_enter Try.func5, Try.ntmps5
  go_wp2_with fail
  go_at_call 14
  rw [← hx]
  clear hx
  refine (szCD adO0 cO0 O0 adM0 cM0 D0 adT0 cT0 T0 x0 (I0.later BW)).mono ?_
  rintro e x1 ⟨⟨r, rfl, r1, r2, hsz⟩, k1⟩
  have sx1 := k1.size
  have A0 := A0.below k1 (by omega)
  have V0 := V0.below k1 (by omega)
  have BW := BW.trans (k1.mono BW.size)
  clear k1
  by_cases hr : r < 0
  · go_wp2
    go_ret
    exact ⟨rfl, BW⟩
  have hsz := hsz (by omega)
  have hgl : (gO O0 D0 T0 n1 b2).length + totD D0 + (gT O0 D0 T0 n1 b2).length ≤ 1048576 := by have := gO_len O0 D0 T0 n1 b2; have := gT_len O0 D0 T0 n1 b2; omega
  obtain ⟨GO, hGO⟩ : ∃ x, Hid (gO O0 D0 T0 n1 b2 = x) := ⟨_, rfl⟩
  obtain ⟨GT, hGT⟩ : ∃ x, Hid (gT O0 D0 T0 n1 b2 = x) := ⟨_, rfl⟩
  rw [hGO.out, hGT.out] at hgl
  obtain ⟨tt, htt⟩ : ∃ t : Int, Hid ((GO.length : Int) + (totD D0 : Int) + 4 * (GT.length : Int) = t) := ⟨_, rfl⟩
  have htt0 : 0 ≤ tt := by rw [← htt.out]; omega
  have htt1 : tt ≤ 100000000 := by rw [← htt.out]; omega
  obtain ⟨t0, ht0⟩ : ∃ t : Int, Hid ((O0.length : Int) + (totD D0 : Int) + 4 * (T0.length : Int) = t) := ⟨_, rfl⟩
  have ht00 : 0 ≤ t0 := by rw [← ht0.out]; omega
  have ht01 : t0 ≤ 100000000 := by rw [← ht0.out]; omega
  have hn1 : ¬ 1 + t0 < 0 := by omega
  have hn2 : ¬ 1 + tt < 0 := by omega
  have A0' := A0
  obtain ⟨X1, X2, X3⟩ := A0'
  go_wp2_with fail
  go_at_call 16
  clear X1 X2 X3
  refine (toCS adO0 cO0 O0 adM0 cM0 D0 adT0 cT0 T0 0 w.heap.size x1 V0 (by omega) hsz).mono ?_
  rintro e x2 ⟨bO1, bM1, bT1, rfl, W1, kx2⟩
  have sx2 := kx2.size
  have A0 := A0.below kx2 (by omega)
  have V0 := V0.below kx2 (by omega)
  have BW := BW.trans (kx2.mono BW.size)
  clear kx2
  go_wp2_with fail
  go_at_call 18
  refine (gateS (some ⟨bO1, 0, none⟩) O0.length O0 (some ⟨bM1, 0, none⟩) D0.length D0 (some ⟨bT1, 0, none⟩) T0.length T0 n1 b2 x1.heap.size x2.heap.size x2 W1.view (by omega) hsz I1 (fun h => by cases h) (fun h => by cases h)).mono ?_
  intro e x3 hq
  rw [hGO.out, hGT.out] at hq
  obtain ⟨aO2, kO2, aM2, kM2, aT2, kT2, rfl, W2, kx3⟩ := hq
  have sx3 := kx3.size
  have A0 := A0.below kx3 (by omega)
  have V0 := V0.below kx3 (by omega)
  have W1 := W1.below kx3 (by omega)
  have BW := BW.trans (kx3.mono BW.size)
  clear kx3
  have V2 := W2.view
  obtain ⟨x4, hx4⟩ : ∃ y, y = x3.alloc (Obj.cells #[.slice aO2 GO.length kO2, .slice aM2 D0.length kM2, .slice aT2 GT.length kT2] 28) := ⟨_, rfl⟩
  have kx4 : Below x3.heap.size x3 x4 := by rw [hx4]; exact below_box x3 _
  have A8 : CdAt x4 x3.heap.size aO2 GO.length kO2 aM2 D0.length kM2 aT2 GT.length kT2 := by rw [hx4]; exact CdAt.box _ _ _ _ _ _ _ _ _ _ _
  have tx4 : x3.heap.size < x4.heap.size := A8.lt
  have sx4 := kx4.size
  have A0 := A0.below kx4 (by omega)
  have V0 := V0.below kx4 (by omega)
  have V2 := V2.below kx4 (by omega)
  have BW := BW.trans (kx4.mono BW.size)
  clear kx4
  have A0' := A0
  obtain ⟨X1, X2, X3⟩ := A0'
  rw [hx4] at X1 X2 X3
  go_wp2_with fail
  go_at_call 16
  rw [← hx4]
  clear hx4
  clear X1 X2 X3
  refine (toC adO0 cO0 O0 adM0 cM0 D0 adT0 cT0 T0 0 w.heap.size x4 V0 (by omega) hsz).mono ?_
  rintro e x5 ⟨aO3, kO3, aM3, kM3, aT3, kT3, rfl, W3, kx5⟩
  have sx5 := kx5.size
  have A0 := A0.below kx5 (by omega)
  have V0 := V0.below kx5 (by omega)
  have V2 := V2.below kx5 (by omega)
  have A8 := A8.below kx5 (by omega)
  have BW := BW.trans (kx5.mono BW.size)
  clear kx5
  obtain ⟨x6, hx6⟩ : ∃ y, y = x5.alloc (Obj.cells #[.slice aO3 O0.length kO3, .slice aM3 D0.length kM3, .slice aT3 T0.length kT3] 28) := ⟨_, rfl⟩
  have kx6 : Below x5.heap.size x5 x6 := by rw [hx6]; exact below_box x5 _
  have A9 : CdAt x6 x5.heap.size aO3 O0.length kO3 aM3 D0.length kM3 aT3 T0.length kT3 := by rw [hx6]; exact CdAt.box _ _ _ _ _ _ _ _ _ _ _
  have tx6 : x5.heap.size < x6.heap.size := A9.lt
  have sx6 := kx6.size
  have A0 := A0.below kx6 (by omega)
  have V0 := V0.below kx6 (by omega)
  have V2 := V2.below kx6 (by omega)
  have A8 := A8.below kx6 (by omega)
  have W3 := W3.below kx6 (by omega)
  have BW := BW.trans (kx6.mono BW.size)
  clear kx6
  go_wp2_with fail
  go_at_call 10
  rw [← hx6]
  clear hx6
  refine (gateI aO3 kO3 O0 aM3 kM3 D0 aT3 kT3 T0 n1 b2 x4.heap.size x5.heap.size x6 W3.view (by omega) hsz I1).mono ?_
  intro e x7 hq
  rw [hGO.out, hGT.out] at hq
  obtain ⟨aO4, kO4, aM4, kM4, aT4, kT4, rfl, W4, kx7⟩ := hq
  have sx7 := kx7.size
  have A0 := A0.below kx7 (by omega)
  have V0 := V0.below kx7 (by omega)
  have V2 := V2.below kx7 (by omega)
  have A8 := A8.below kx7 (by omega)
  have W3 := W3.below kx7 (by omega)
  have A9 := A9.below kx7 (by omega)
  have BW := BW.trans (kx7.mono BW.size)
  clear kx7
  obtain ⟨x8, hx8⟩ : ∃ y, y = x7.alloc (Obj.cells #[.slice aO4 GO.length kO4, .slice aM4 D0.length kM4, .slice aT4 GT.length kT4] 28) := ⟨_, rfl⟩
  have kx8 : Below x7.heap.size x7 x8 := by rw [hx8]; exact below_box x7 _
  have A10 : CdAt x8 x7.heap.size aO4 GO.length kO4 aM4 D0.length kM4 aT4 GT.length kT4 := by rw [hx8]; exact CdAt.box _ _ _ _ _ _ _ _ _ _ _
  have tx8 : x7.heap.size < x8.heap.size := A10.lt
  have sx8 := kx8.size
  have A0 := A0.below kx8 (by omega)
  have V0 := V0.below kx8 (by omega)
  have V2 := V2.below kx8 (by omega)
  have A8 := A8.below kx8 (by omega)
  have W3 := W3.below kx8 (by omega)
  have A9 := A9.below kx8 (by omega)
  have W4 := W4.below kx8 (by omega)
  have BW := BW.trans (kx8.mono BW.size)
  clear kx8
  have A8' := A8
  obtain ⟨X1, X2, X3⟩ := A8'
  rw [hx8] at X1 X2 X3
  go_wp2_with fail
  go_at_call 17
  rw [← hx8]
  clear hx8
  clear X1 X2 X3
  refine (eqC aO4 kO4 GO aM4 kM4 D0 aT4 kT4 GT aO2 kO2 aM2 kM2 aT2 kT2 x6.heap.size x7.heap.size x2.heap.size x3.heap.size x8 W4.view V2 (by omega) (by omega) hgl).mono ?_
  rintro e x9 ⟨rfl, kx9⟩
  have sx9 := kx9.size
  have A0 := A0.below kx9 (by omega)
  have V0 := V0.below kx9 (by omega)
  have V2 := V2.below kx9 (by omega)
  have A8 := A8.below kx9 (by omega)
  have W3 := W3.below kx9 (by omega)
  have A9 := A9.below kx9 (by omega)
  have W4 := W4.below kx9 (by omega)
  have A10 := A10.below kx9 (by omega)
  have BW := BW.trans (kx9.mono BW.size)
  clear kx9
  go_wp2_with fail
  refine wp_region_held (S := fun Y => Below x9.heap.size x9 Y) (by kernel_rfl) ?_
  change wpAnyH _ _ _ _ _ _ _ _ (World.drew _)
  have hb0 : Below x9.heap.size x9 x9.drew := (Below.refl _ _).drew
  refine takeW 0 35 (.agg #[.slice aO3 O0.length kO3, .slice aM3 D0.length kM3, .slice aT3 T0.length kT3]) rfl rfl (by kernel_rfl) (by kernel_rfl) (by kernel_rfl) (fun _ _ _ h => h) (by kernel_rfl) (by (intro Y hSw; obtain ⟨Z1, Z2, Z3⟩ := A9.below hSw (by omega); go_simp)) (by assumption) ?_
  simp only [List.set_cons_zero, List.set_cons_succ]
  refine takeW 1 36 (.agg #[.slice adO0 O0.length cO0, .slice adM0 D0.length cM0, .slice adT0 T0.length cT0]) rfl rfl (by kernel_rfl) (by kernel_rfl) (by kernel_rfl) (fun _ _ _ h => h) (by kernel_rfl) (by (intro Y hSw; obtain ⟨Z1, Z2, Z3⟩ := A0.below hSw (by omega); go_simp)) (by assumption) ?_
  simp only [List.set_cons_zero, List.set_cons_succ]
  refine wpAnyH_all (rs := [2]) (by kernel_rfl) (by simp) ?_
  intro i hi; obtain rfl : i = 2 := by simpa using hi
  refine wpOp_step rfl (fun K hK => ?_)
  rw [if_pos (by kernel_rfl)]
  go_simp
  go_at_call 16
  refine (toC adO0 cO0 O0 adM0 cM0 D0 adT0 cT0 T0 0 w.heap.size x9.drew (V0.below hb0 (by omega)) (by show w.heap.size ≤ x9.heap.size; omega) hsz).mono ?_
  rintro e y1 ⟨aOq, kOq, aMq, kMq, aTq, kTq, rfl, Wq, jq1⟩
  have hb1 : Below x9.heap.size x9 y1 := hb0.trans (jq1.mono hb0.size)
  refine hK _ _ ⟨hb1, ?_⟩
  clear hK K hi
  refine wpAnyH_all (rs := [3]) (by kernel_rfl) (by simp) ?_
  intro i hi; obtain rfl : i = 3 := by simpa using hi
  refine wpOp_step rfl (fun K hK => ?_)
  rw [if_pos (by kernel_rfl)]
  go_simp
  go_at_call 17
  refine (eqC aO3 kO3 O0 aM3 kM3 D0 aT3 kT3 T0 aOq kOq aMq kMq aTq kTq x4.heap.size x5.heap.size x9.heap.size y1.heap.size y1 (W3.view.below hb1 (by omega)) Wq.view (by have := hb1.size; omega) (Nat.le_refl _) hsz).mono ?_
  rintro e y2 ⟨rfl, jq2⟩
  have kE : Below x9.heap.size x9 y2 := hb1.trans (jq2.mono hb1.size)
  refine hK _ _ ⟨kE, ?_⟩
  clear hK K hi
  refine takeW 4 39 (.bool false) rfl rfl (by kernel_rfl) (by kernel_rfl) (by kernel_rfl) (fun _ _ _ h => h) (by kernel_rfl) (by (intro w hSw; go_simp)) (by assumption) ?_
  simp only [List.set_cons_zero, List.set_cons_succ]
  refine wpAnyH_done (by kernel_rfl) ?_ _
  clear hb0 hb1 Wq jq1 jq2
  generalize hgy : y2 = x10 at *
  clear hgy
  have sx10 := kE.size
  have A0 := A0.below kE (by omega)
  have V0 := V0.below kE (by omega)
  have V2 := V2.below kE (by omega)
  have A8 := A8.below kE (by omega)
  have W3 := W3.below kE (by omega)
  have A9 := A9.below kE (by omega)
  have W4 := W4.below kE (by omega)
  have A10 := A10.below kE (by omega)
  have BW := BW.trans (kE.mono BW.size)
  clear kE
  have A9' := A9
  obtain ⟨X1, X2, X3⟩ := A9'
  go_wp2_with fail
  go_at_call 19
  clear X1 X2 X3
  refine (markC aO3 kO3 O0 aM3 kM3 D0 aT3 kT3 T0 x4.heap.size x5.heap.size 1 x10 W3 (by omega) hsz (by omega) (by omega)).mono ?_
  rintro e x11 ⟨rfl, _, Kx11⟩
  rw [ht0.out]
  have sx11 := Kx11.size
  have A0 := A0.same (Kx11.block _ (by omega) (by omega))
  have V0 := V0.kept Kx11 (by omega) (by omega)
  have V2 := V2.kept Kx11 (by omega) (by omega)
  have A8 := A8.same (Kx11.block _ (by omega) (by omega))
  have W4 := W4.kept Kx11 (by omega) (by omega)
  have A10 := A10.same (Kx11.block _ (by omega) (by omega))
  have BW := BW.trans ((Kx11.below (by omega)).mono (by omega))
  clear A9 W3
  have A10' := A10
  obtain ⟨X1, X2, X3⟩ := A10'
  have A8' := A8
  obtain ⟨Y1, Y2, Y3⟩ := A8'
  go_wp2_with fail
  go_at_call 17
  clear X1 X2 X3 Y1 Y2 Y3
  refine (eqC aO4 kO4 GO aM4 kM4 D0 aT4 kT4 GT aO2 kO2 aM2 kM2 aT2 kT2 x6.heap.size x7.heap.size x2.heap.size x3.heap.size x11 W4.view V2 (by omega) (by omega) hgl).mono ?_
  rintro e x12 ⟨rfl, kx12⟩
  have sx12 := kx12.size
  have A0 := A0.below kx12 (by omega)
  have V0 := V0.below kx12 (by omega)
  have V2 := V2.below kx12 (by omega)
  have A8 := A8.below kx12 (by omega)
  have W4 := W4.below kx12 (by omega)
  have A10 := A10.below kx12 (by omega)
  have BW := BW.trans (kx12.mono BW.size)
  clear kx12
  have A10' := A10
  obtain ⟨X1, X2, X3⟩ := A10'
  go_wp2_with fail
  go_at_call 19
  clear X1 X2 X3
  refine (markC aO4 kO4 GO aM4 kM4 D0 aT4 kT4 GT x6.heap.size x7.heap.size 1 x12 W4 (by omega) hgl (by omega) (by omega)).mono ?_
  rintro e x13 ⟨rfl, H4, Kx13⟩
  rw [htt.out] at H4 ⊢
  have sx13 := Kx13.size
  have A0 := A0.same (Kx13.block _ (by omega) (by omega))
  have V0 := V0.kept Kx13 (by omega) (by omega)
  have V2 := V2.kept Kx13 (by omega) (by omega)
  have A8 := A8.same (Kx13.block _ (by omega) (by omega))
  have A10 := A10.same (Kx13.block _ (by omega) (by omega))
  have BW := BW.trans ((Kx13.below (by omega)).mono (by omega))
  clear W4
  have A10' := A10
  obtain ⟨X1, X2, X3⟩ := A10'
  go_wp2_with fail
  go_at_call 20
  clear X1 X2 X3
  refine (heldC aO4 GO.length kO4 aM4 D0.length kM4 aT4 GT.length kT4 x6.heap.size x7.heap.size 1 tt x13 H4 (by omega) (by omega) (by omega)).mono ?_
  rintro e x14 ⟨rfl, kx14⟩
  have sx14 := kx14.size
  have A0 := A0.below kx14 (by omega)
  have V0 := V0.below kx14 (by omega)
  have V2 := V2.below kx14 (by omega)
  have A8 := A8.below kx14 (by omega)
  have A10 := A10.below kx14 (by omega)
  have H4 := H4.below kx14 (by omega)
  have BW := BW.trans (kx14.mono BW.size)
  clear kx14
  have A0' := A0
  obtain ⟨X1, X2, X3⟩ := A0'
  go_wp2_with fail
  go_at_call 16
  clear X1 X2 X3
  refine (toC adO0 cO0 O0 adM0 cM0 D0 adT0 cT0 T0 0 w.heap.size x14 V0 (by omega) hsz).mono ?_
  rintro e x15 ⟨aO5, kO5, aM5, kM5, aT5, kT5, rfl, W5, kx15⟩
  have sx15 := kx15.size
  have A0 := A0.below kx15 (by omega)
  have V0 := V0.below kx15 (by omega)
  have V2 := V2.below kx15 (by omega)
  have A8 := A8.below kx15 (by omega)
  have A10 := A10.below kx15 (by omega)
  have H4 := H4.below kx15 (by omega)
  have BW := BW.trans (kx15.mono BW.size)
  clear kx15
  go_wp2_with fail
  go_at_call 10
  refine (gateI aO5 kO5 O0 aM5 kM5 D0 aT5 kT5 T0 n1 b2 x14.heap.size x15.heap.size x15 W5.view (by omega) hsz I1).mono ?_
  intro e x16 hq
  rw [hGO.out, hGT.out] at hq
  obtain ⟨aO6, kO6, aM6, kM6, aT6, kT6, rfl, W6, kx16⟩ := hq
  have sx16 := kx16.size
  have A0 := A0.below kx16 (by omega)
  have V0 := V0.below kx16 (by omega)
  have V2 := V2.below kx16 (by omega)
  have A8 := A8.below kx16 (by omega)
  have A10 := A10.below kx16 (by omega)
  have H4 := H4.below kx16 (by omega)
  have W5 := W5.below kx16 (by omega)
  have BW := BW.trans (kx16.mono BW.size)
  clear kx16
  obtain ⟨x17, hx17⟩ : ∃ y, y = x16.alloc (Obj.cells #[.slice aO6 GO.length kO6, .slice aM6 D0.length kM6, .slice aT6 GT.length kT6] 28) := ⟨_, rfl⟩
  have kx17 : Below x16.heap.size x16 x17 := by rw [hx17]; exact below_box x16 _
  have A14 : CdAt x17 x16.heap.size aO6 GO.length kO6 aM6 D0.length kM6 aT6 GT.length kT6 := by rw [hx17]; exact CdAt.box _ _ _ _ _ _ _ _ _ _ _
  have tx17 : x16.heap.size < x17.heap.size := A14.lt
  have sx17 := kx17.size
  have A0 := A0.below kx17 (by omega)
  have V0 := V0.below kx17 (by omega)
  have V2 := V2.below kx17 (by omega)
  have A8 := A8.below kx17 (by omega)
  have A10 := A10.below kx17 (by omega)
  have H4 := H4.below kx17 (by omega)
  have W6 := W6.below kx17 (by omega)
  have BW := BW.trans (kx17.mono BW.size)
  clear kx17
  have A8' := A8
  obtain ⟨X1, X2, X3⟩ := A8'
  rw [hx17] at X1 X2 X3
  go_wp2_with fail
  go_at_call 17
  rw [← hx17]
  clear hx17
  clear X1 X2 X3
  refine (eqC aO6 kO6 GO aM6 kM6 D0 aT6 kT6 GT aO2 kO2 aM2 kM2 aT2 kT2 x15.heap.size x16.heap.size x2.heap.size x3.heap.size x17 W6.view V2 (by omega) (by omega) hgl).mono ?_
  rintro e x18 ⟨rfl, kx18⟩
  have sx18 := kx18.size
  have A0 := A0.below kx18 (by omega)
  have V0 := V0.below kx18 (by omega)
  have V2 := V2.below kx18 (by omega)
  have A8 := A8.below kx18 (by omega)
  have A10 := A10.below kx18 (by omega)
  have H4 := H4.below kx18 (by omega)
  have W6 := W6.below kx18 (by omega)
  have A14 := A14.below kx18 (by omega)
  have BW := BW.trans (kx18.mono BW.size)
  clear kx18
  have A10' := A10
  obtain ⟨X1, X2, X3⟩ := A10'
  go_wp2_with fail
  go_at_call 20
  clear X1 X2 X3
  refine (heldC aO4 GO.length kO4 aM4 D0.length kM4 aT4 GT.length kT4 x6.heap.size x7.heap.size 1 tt x18 H4 (by omega) (by omega) (by omega)).mono ?_
  rintro e x19 ⟨rfl, kx19⟩
  have sx19 := kx19.size
  have A0 := A0.below kx19 (by omega)
  have V0 := V0.below kx19 (by omega)
  have V2 := V2.below kx19 (by omega)
  have A8 := A8.below kx19 (by omega)
  have A10 := A10.below kx19 (by omega)
  have H4 := H4.below kx19 (by omega)
  have BW := BW.trans (kx19.mono BW.size)
  clear kx19
  go_wp2
  go_ret
  exact ⟨rfl, BW⟩

set_option maxRecDepth 100000 in
theorem lifted (os : Os) (started : os.Started) (H : Type) (enc : TypeId × Value → H) :
    ReturnsInHanded {} Try.checked os 5 .any (Rows.fnExactGateSpec.pre6 enc Try.prog Try.f5 Rows.fnExactGateRow.domain false) (Rows.fnExactGateSpec.post enc Try.prog Try.f5 false true false false) := by
  refine returnsInHanded_of_change (C := Try.checked) own started (by kernel_rfl) Try.func5
    (ChangeSpec.witness6 (enc := enc) (C := Try.checked) false ⟨#[], #[.agg #[.slice none 0 0, .slice none 0 0, .slice none 0 0], .int .i64 0, .bool false], []⟩ 8 (by kernel_rfl) (by kernel_rfl) (by kernel_rfl) (by kernel_rfl)) ?_
  intro W base args ds gs before hval0 hW hcnd _
  have hval : ∀ (j : Nat) t v, Try.f5.params[j]? = some t → args[j]? = some v → Value.okWide Try.prog W .any base t v := hval0
  have hW' := hW
  obtain ⟨p, q, hA0, hV, rfl, hfz, hnd⟩ := hW
  have hA : DataW.TrodAll enc Try.prog W 0 (fun _ => true) true Try.f5.params.toList args.toList ds p := hA0
  rw [Try.params5] at hA hval
  obtain ⟨v0, vs0, d0, ds0, p0, q0, hargs, rfl, rfl, h0, r0⟩ := trodAll_cons hA
  obtain ⟨v1, vs1, d1, ds1, p1, q1, rfl, rfl, rfl, h1, r1⟩ := trodAll_cons r0
  obtain ⟨v2, vs2, d2, ds2, p2, q2, rfl, rfl, rfl, h2, r2⟩ := trodAll_cons r1
  obtain ⟨rfl, rfl, rfl⟩ := trodAll_nil r2
  obtain rfl : args = #[v0, v1, v2] := by cases args; simp_all
  obtain ⟨rfl, rfl⟩ := trodVars_none hV
  obtain ⟨adO0, cO0, O0, adM0, cM0, D0, adT0, cT0, T0, rfl, I0⟩ := cardI_open (hval 0 40 v0 rfl rfl) h0
  have lt0 : ∀ x ∈ p0, x.block < W.heap.size := by obtain ⟨m, hm⟩ := h0; exact DataW.trod_lt m _ _ _ hm
  obtain ⟨n1, rfl, I1⟩ := intIn_open (hval 1 3 v1 rfl rfl) h1
  have lt1 : ∀ x ∈ p1, x.block < W.heap.size := by obtain ⟨m, hm⟩ := h1; exact DataW.trod_lt m _ _ _ hm
  obtain ⟨b2, rfl, I2⟩ := boolIn_open (hval 2 4 v2 rfl rfl) h2
  have lt2 : ∀ x ∈ p2, x.block < W.heap.size := by obtain ⟨m, hm⟩ := h2; exact DataW.trod_lt m _ _ _ hm
  clear hA0 hval0
  refine (walk adO0 cO0 O0 adM0 cM0 D0 adT0 cT0 T0 n1 b2 W I0 I1 I2).mono fun e W' ⟨he, bel⟩ => ?_
  subst he
  exact ⟨_, rfl, _, _, _, [], _, [], hW', trodAll_mk1 (shut_bool Try.underlying4 _), (trodAll_cons_mk (Below.trod laidOut (by kernel_rfl) (of_decide_eq_true (by kernel_rfl)) h0 bel lt0) (trodAll_cons_mk (Below.trod laidOut (by kernel_rfl) (of_decide_eq_true (by kernel_rfl)) h1 bel lt1) (trodAll_cons_mk (Below.trod laidOut (by kernel_rfl) (of_decide_eq_true (by kernel_rfl)) h2 bel lt2) trodAll_mk0))), rfl, bel.frame _, fun h => by cases h⟩

theorem over : Rows.fnExactGateRow.holds Try.pinned (OpenSpec.ofChange Rows.fnExactGateSpec) :=
  OpenClaim.holds_of_wide 5 Try.f5 rfl rfl rfl rfl rfl rfl rfl ⟨rfl, rfl, rfl, rfl, rfl⟩ rfl rfl rfl rfl rfl (by kernel_rfl) Try.func5 (by kernel_rfl)
    (of_decide_eq_true (by kernel_rfl)) (by unfold Func.isWrapper; first | (rw [if_pos (by decide +kernel)]; kernel_rfl) | (rw [if_neg (by decide +kernel)]; exact ⟨rfl, rfl⟩))
    (fun os started H enc _ => lifted os started H enc)

theorem proved : Rows.FnExactGateSaid := over
end Go.Proofs.Ytifndemkkaelaaa.fnExactGate
namespace Go.Proofs.Ytifndemkkaelaaa
theorem gate_holds : Rows.FnExactGateSaid := fnExactGate.proved
#print axioms gate_holds
end Go.Proofs.Ytifndemkkaelaaa
