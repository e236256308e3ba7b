/- For every slice of bytes the call of FnCards returns true: at what is drawn of it both Pass, both Gate and both CardOk answer alike, what goes out goes out at open ports in their order, never where it came in, and is a frame; a port is as it was set; a card stays a card (a slice of more than 1048576 bytes is answered true at once). No condition. -/
import Derived.Test.YtifndemkkaelaaaGreatRows
import Derived.Test.YtifndemkkaelaaaGreatZcPassS
import Derived.Test.YtifndemkkaelaaaGreatZcSent
import Derived.Test.YtifndemkkaelaaaGreatZc30
import Derived.Test.YtifndemkkaelaaaGreatZc1
import Derived.Test.YtifndemkkaelaaaGreatZcDrawP
import Derived.Test.YtifndemkkaelaaaGreatZcDrawG
import Derived.Test.YtifndemkkaelaaaGreatZcGateI
import Derived.Test.YtifndemkkaelaaaGreatZcGateS
import Derived.Test.YtifndemkkaelaaaGreatZc44
import Derived.Test.YtifndemkkaelaaaGreatZcCards0
import Derived.WalkSpells
import Derived.WalkLawsBesides
import Derived.WalkKit
import Derived.Below
import Derived.ChangeOld
import Derived.WalkSmall
import Derived.ProofKit
import Derived.OpenShut
import Derived.ShutString
import Derived.BigQuiet
namespace Go.Proofs.YtifndemkkaelaaaGreat.fnCards
open Go.ChangeShapes Go.WideShapes Go.ChangeAt Go.RowKit
set_option linter.unusedVariables false
set_option maxRecDepth 100000

theorem own : ownKnob Tryz.prog.godebug = none := by kernel_rfl
theorem laidOut : laidOutB Tryz.prog = true := by kernel_rfl

set_option maxRecDepth 100000 in
set_option maxHeartbeats 64000000 in
theorem walk (ad0 : Option Addr) (len0 cap0 : Nat) (f0 : Nat → Int) (w : World) (I0 : CodeIn w ad0 len0 f0) :
    Calls Tryz.prog 3 #[.slice ad0 len0 cap0] w fun e w' => e = .returned (.bool true) ∧ Below w.heap.size w w' := by
  by_cases hbig : 1048576 < len0
  · have hbi : (1048576 : Int) < (len0 : Int) := by omega
    go_enter Tryz.func3, Tryz.ntmps3
    go_wp2_with fail
    go_at_call 6
    refine (bigYes ad0 len0 cap0 w hbi).mono ?_
    rintro e w1 ⟨rfl, h1⟩
    rw [h1]
    clear h1 w1
    go_wp2
    go_ret
    exact ⟨rfl, Below.refl _ _⟩
  have hl0 : len0 ≤ 1048576 := by omega
  have hC : Code0 w ad0 len0 f0 := ⟨I0.view, I0.lt, hl0, I0.bytes⟩
  clear hbig I0
  go_enter Tryz.func3, Tryz.ntmps3
  go_wp2_with fail
  go_at_call 6
  refine (bigNo ad0 len0 cap0 w hl0).mono ?_
  rintro e w1 ⟨rfl, h1⟩
  rw [h1]
  clear h1 w1
  have BW : Below w.heap.size w w := Below.refl _ _
  go_wp2_with fail
  go_at_call 7
  refine (drawP ad0 len0 cap0 f0 w hC).mono ?_
  rintro e x1 ⟨aO3_, O0, kO3_, aM3_, D0, kM3_, aT3_, T0, kT3_, p, a, b, c, aL, kL, L, rfl, V3, kx1, d1, d2, d3, hp, zO3, zT3, vL, bL, dL, zL⟩
  have VL := VwI.of vL
  clear vL
  have sx1 := kx1.size
  have BW := BW.trans (kx1.mono BW.size)
  clear kx1
  obtain ⟨x2, hx2⟩ : ∃ y, y = (x1.alloc (Obj.cells #[.slice aO3_ O0.length kO3_, .slice aM3_ D0.length kM3_, .slice aT3_ T0.length kT3_] 28)).alloc (Obj.cells #[.int .i64 a, .int .i64 b, .int .i64 c, .slice aL L.length kL] 30) := ⟨_, rfl⟩
  have kx2 : Below x1.heap.size x1 x2 := by rw [hx2]; exact ((Below.refl _ _).alloc (Nat.le_refl _) _).alloc (by simp) _
  have A3 : CdAt x2 x1.heap.size aO3_ O0.length kO3_ aM3_ D0.length kM3_ aT3_ T0.length kT3_ := by rw [hx2]; refine ⟨?_, ?_, ?_⟩ <;> simp [go_sem]
  have F5 : FrameAt x2 (x1.heap.size + 1) a b c aL L.length kL := by rw [hx2]; refine ⟨?_, ?_, ?_, ?_⟩ <;> simp [go_sem]
  have tx2 : x1.heap.size + 1 < x2.heap.size := F5.lt
  have sx2 := kx2.size
  have V3 := V3.below kx2 (by omega)
  have VL := VL.below kx2 (by omega)
  have BW := BW.trans (kx2.mono BW.size)
  clear kx2
  have hsz : O0.length + totD D0 + T0.length ≤ 1048576 := by omega
  have hlL : L.length ≤ 1048576 := by omega
  have hgl := pTab_size (p := p) (a := a) (b := b) (c := c) (L := L) hsz
  have hfew := pOuts_few O0 D0 T0 p a b c L
  obtain ⟨T1, hT1⟩ : ∃ x, Hid (pTab O0 D0 T0 p a b c L = x) := ⟨_, rfl⟩
  obtain ⟨XO, hXO⟩ : ∃ x, Hid (pOuts O0 D0 T0 p a b c L = x) := ⟨_, rfl⟩
  rw [hT1.out] at hgl
  rw [hXO.out] at hfew
  have A3' := A3
  obtain ⟨X1, X2, X3⟩ := A3'
  have F5' := F5
  obtain ⟨Y1, Y2, Y3, Y4⟩ := F5'
  rw [hx2] at X1 X2 X3 Y1 Y2 Y3 Y4
  go_wp2_with fail
  go_at_call 8
  rw [← hx2]
  clear hx2
  clear X1 X2 X3 Y1 Y2 Y3 Y4
  refine (passI sentI aO3_ kO3_ O0 aM3_ kM3_ D0 aT3_ kT3_ T0 p a b c aL kL L w.heap.size x1.heap.size x2 V3 (by omega) hsz hp VL.v hlL).mono ?_
  intro e x3 hq
  rw [hT1.out, hXO.out] at hq
  obtain ⟨aO6_, kO6_, aM6_, kM6_, aT6_, kT6_, aL4, kL4, Ns4, fp, mid, rfl, cW, m1, m2, hd4, ow, hf, kx3⟩ := hq
  have V6 : CdV x3 x2.heap.size x3.heap.size aO6_ O0 aM6_ D0 aT6_ T1 := cW.view.wide (Nat.le_refl _) m2
  have Q4 : ObI x3 x2.heap.size x3.heap.size aL4 Ns4 := ((⟨fp, ow, hf⟩ : ObJ x3 mid x3.heap.size aL4 Ns4).view).wide m1 (Nat.le_refl _)
  clear cW ow hf m1 m2
  replace hd4 : Hid _ := hd4
  have sm4 := outs_small hfew hd4.out
  have sx3 := kx3.size
  have V3 := V3.below kx3 (by omega)
  have VL := VL.below kx3 (by omega)
  have A3 := A3.below kx3 (by omega)
  have F5 := F5.below kx3 (by omega)
  have BW := BW.trans (kx3.mono BW.size)
  clear kx3
  obtain ⟨x4, hx4⟩ : ∃ y, y = x3.alloc (Obj.cells #[.slice aO6_ O0.length kO6_, .slice aM6_ D0.length kM6_, .slice aT6_ T1.length kT6_] 28) := ⟨_, rfl⟩
  have kx4 : Below x3.heap.size x3 x4 := by rw [hx4]; exact below_box x3 _
  have A6 : CdAt x4 x3.heap.size aO6_ O0.length kO6_ aM6_ D0.length kM6_ aT6_ T1.length kT6_ := by rw [hx4]; exact CdAt.box _ _ _ _ _ _ _ _ _ _ _
  have tx4 : x3.heap.size < x4.heap.size := A6.lt
  have sx4 := kx4.size
  have V3 := V3.below kx4 (by omega)
  have VL := VL.below kx4 (by omega)
  have A3 := A3.below kx4 (by omega)
  have F5 := F5.below kx4 (by omega)
  have V6 := V6.below kx4 (by omega)
  have Q4 := Q4.below kx4 (by omega)
  have BW := BW.trans (kx4.mono BW.size)
  clear kx4
  have A3' := A3
  obtain ⟨X1, X2, X3⟩ := A3'
  have F5' := F5
  obtain ⟨Y1, Y2, Y3, Y4⟩ := F5'
  rw [hx4] at X1 X2 X3 Y1 Y2 Y3 Y4
  go_wp2_with fail
  go_at_call 9
  rw [← hx4]
  clear hx4
  clear X1 X2 X3 Y1 Y2 Y3 Y4
  refine (passS aO3_ kO3_ O0 aM3_ kM3_ D0 aT3_ kT3_ T0 p a b c aL kL L w.heap.size x1.heap.size x4 V3 (by omega) hsz hp zO3 zT3 VL.v hlL zL).mono ?_
  intro e x5 hq
  rw [hT1.out, hXO.out] at hq
  obtain ⟨aO8_, kO8_, aM8_, kM8_, aT8_, kT8_, aL5, kL5, Ns5, rfl, V8, hd5, ov, oR, oN, kx5⟩ := hq
  have Q5 : ObI x5 x4.heap.size x5.heap.size aL5 Ns5 := ⟨ov, oR, oN⟩
  clear ov oR oN
  replace hd5 : Hid _ := hd5
  have hlen : Ns5.length = Ns4.length := by have h1 := congrArg List.length hd5.out; have h2 := congrArg List.length hd4.out; rw [List.length_map] at h1 h2; omega
  rw [hlen]
  have sx5 := kx5.size
  have V3 := V3.below kx5 (by omega)
  have VL := VL.below kx5 (by omega)
  have A3 := A3.below kx5 (by omega)
  have F5 := F5.below kx5 (by omega)
  have V6 := V6.below kx5 (by omega)
  have Q4 := Q4.below kx5 (by omega)
  have A6 := A6.below kx5 (by omega)
  have BW := BW.trans (kx5.mono BW.size)
  clear kx5
  obtain ⟨x6, hx6⟩ : ∃ y, y = x5.alloc (Obj.cells #[.slice aO8_ O0.length kO8_, .slice aM8_ D0.length kM8_, .slice aT8_ T1.length kT8_] 28) := ⟨_, rfl⟩
  have kx6 : Below x5.heap.size x5 x6 := by rw [hx6]; exact below_box x5 _
  have A8 : CdAt x6 x5.heap.size aO8_ O0.length kO8_ aM8_ D0.length kM8_ aT8_ T1.length kT8_ := by rw [hx6]; exact CdAt.box _ _ _ _ _ _ _ _ _ _ _
  have tx6 : x5.heap.size < x6.heap.size := A8.lt
  have sx6 := kx6.size
  have V3 := V3.below kx6 (by omega)
  have VL := VL.below kx6 (by omega)
  have A3 := A3.below kx6 (by omega)
  have F5 := F5.below kx6 (by omega)
  have V6 := V6.below kx6 (by omega)
  have Q4 := Q4.below kx6 (by omega)
  have A6 := A6.below kx6 (by omega)
  have V8 := V8.below kx6 (by omega)
  have Q5 := Q5.below kx6 (by omega)
  have BW := BW.trans (kx6.mono BW.size)
  clear kx6
  go_wp2_with fail
  go_at_call 10
  rw [← hx6]
  clear hx6
  refine (drawG ad0 len0 cap0 f0 x6 (hC.later BW (Nat.le_refl _))).mono ?_
  rintro e x7 ⟨aO10_, O2, kO10_, aM10_, D2, kM10_, aT10_, T2, kT10_, q, on, rfl, V10, kx7, d4, d5, d6, q1, q2, zO10, zT10⟩
  have sx7 := kx7.size
  have V3 := V3.below kx7 (by omega)
  have VL := VL.below kx7 (by omega)
  have A3 := A3.below kx7 (by omega)
  have F5 := F5.below kx7 (by omega)
  have V6 := V6.below kx7 (by omega)
  have Q4 := Q4.below kx7 (by omega)
  have A6 := A6.below kx7 (by omega)
  have V8 := V8.below kx7 (by omega)
  have Q5 := Q5.below kx7 (by omega)
  have A8 := A8.below kx7 (by omega)
  have BW := BW.trans (kx7.mono BW.size)
  clear kx7
  obtain ⟨x8, hx8⟩ : ∃ y, y = x7.alloc (Obj.cells #[.slice aO10_ O2.length kO10_, .slice aM10_ D2.length kM10_, .slice aT10_ T2.length kT10_] 28) := ⟨_, rfl⟩
  have kx8 : Below x7.heap.size x7 x8 := by rw [hx8]; exact below_box x7 _
  have A10 : CdAt x8 x7.heap.size aO10_ O2.length kO10_ aM10_ D2.length kM10_ aT10_ T2.length kT10_ := by rw [hx8]; exact CdAt.box _ _ _ _ _ _ _ _ _ _ _
  have tx8 : x7.heap.size < x8.heap.size := A10.lt
  have sx8 := kx8.size
  have V3 := V3.below kx8 (by omega)
  have VL := VL.below kx8 (by omega)
  have A3 := A3.below kx8 (by omega)
  have F5 := F5.below kx8 (by omega)
  have V6 := V6.below kx8 (by omega)
  have Q4 := Q4.below kx8 (by omega)
  have A6 := A6.below kx8 (by omega)
  have V8 := V8.below kx8 (by omega)
  have Q5 := Q5.below kx8 (by omega)
  have A8 := A8.below kx8 (by omega)
  have V10 := V10.below kx8 (by omega)
  have BW := BW.trans (kx8.mono BW.size)
  clear kx8
  have hsz2 : O2.length + totD D2 + T2.length ≤ 1048576 := by omega
  have hqw : (Lit.int .i64 q).wf = true := wf_in (by omega) (by omega)
  have gl1 := gO_len O2 D2 T2 q on
  have gl2 := gT_len O2 D2 T2 q on
  obtain ⟨O5, hO5⟩ : ∃ x, Hid (gO O2 D2 T2 q on = x) := ⟨_, rfl⟩
  obtain ⟨T5, hT5⟩ : ∃ x, Hid (gT O2 D2 T2 q on = x) := ⟨_, rfl⟩
  rw [hO5.out] at gl1
  rw [hT5.out] at gl2
  have gl3 : O5.length ≤ O2.length := by omega
  have gl4 : O2.length ≤ O5.length := by omega
  clear gl1
  have hsz5 : O5.length + totD D2 + T5.length ≤ 1048576 := by omega
  have A10' := A10
  obtain ⟨X1, X2, X3⟩ := A10'
  rw [hx8] at X1 X2 X3
  go_wp2_with fail
  go_at_call 11
  rw [← hx8]
  clear hx8
  clear X1 X2 X3
  refine (gateI aO10_ kO10_ O2 aM10_ kM10_ D2 aT10_ kT10_ T2 q on x6.heap.size x7.heap.size x8 V10 (by omega) hsz2 hqw).mono ?_
  intro e x9 hq
  rw [hO5.out, hT5.out] at hq
  obtain ⟨aO13_, kO13_, aM13_, kM13_, aT13_, kT13_, rfl, W13, kx9⟩ := hq
  have V13 := W13.view
  clear W13
  have sx9 := kx9.size
  have V3 := V3.below kx9 (by omega)
  have VL := VL.below kx9 (by omega)
  have A3 := A3.below kx9 (by omega)
  have F5 := F5.below kx9 (by omega)
  have V6 := V6.below kx9 (by omega)
  have Q4 := Q4.below kx9 (by omega)
  have A6 := A6.below kx9 (by omega)
  have V8 := V8.below kx9 (by omega)
  have Q5 := Q5.below kx9 (by omega)
  have A8 := A8.below kx9 (by omega)
  have V10 := V10.below kx9 (by omega)
  have A10 := A10.below kx9 (by omega)
  have BW := BW.trans (kx9.mono BW.size)
  clear kx9
  obtain ⟨x10, hx10⟩ : ∃ y, y = x9.alloc (Obj.cells #[.slice aO13_ O5.length kO13_, .slice aM13_ D2.length kM13_, .slice aT13_ T5.length kT13_] 28) := ⟨_, rfl⟩
  have kx10 : Below x9.heap.size x9 x10 := by rw [hx10]; exact below_box x9 _
  have A13 : CdAt x10 x9.heap.size aO13_ O5.length kO13_ aM13_ D2.length kM13_ aT13_ T5.length kT13_ := by rw [hx10]; exact CdAt.box _ _ _ _ _ _ _ _ _ _ _
  have tx10 : x9.heap.size < x10.heap.size := A13.lt
  have sx10 := kx10.size
  have V3 := V3.below kx10 (by omega)
  have VL := VL.below kx10 (by omega)
  have A3 := A3.below kx10 (by omega)
  have F5 := F5.below kx10 (by omega)
  have V6 := V6.below kx10 (by omega)
  have Q4 := Q4.below kx10 (by omega)
  have A6 := A6.below kx10 (by omega)
  have V8 := V8.below kx10 (by omega)
  have Q5 := Q5.below kx10 (by omega)
  have A8 := A8.below kx10 (by omega)
  have V10 := V10.below kx10 (by omega)
  have A10 := A10.below kx10 (by omega)
  have V13 := V13.below kx10 (by omega)
  have BW := BW.trans (kx10.mono BW.size)
  clear kx10
  go_wp2_with fail
  go_at_call 12
  rw [← hx10]
  clear hx10
  refine (drawK ad0 len0 cap0 f0 x10 (hC.later BW (Nat.le_refl _))).mono ?_
  rintro e x11 ⟨aO14_, O3, kO14_, aM14_, D3, kM14_, aT14_, T3, kT14_, rfl, V14, kx11, d7, d8, d9⟩
  have hsz3 : O3.length + totD D3 + T3.length ≤ 1048576 := by omega
  obtain ⟨bb, hbb⟩ : ∃ b, Hid (cOk O3 D3 T3 = b) := ⟨_, rfl⟩
  have sx11 := kx11.size
  have V3 := V3.below kx11 (by omega)
  have VL := VL.below kx11 (by omega)
  have A3 := A3.below kx11 (by omega)
  have F5 := F5.below kx11 (by omega)
  have V6 := V6.below kx11 (by omega)
  have Q4 := Q4.below kx11 (by omega)
  have A6 := A6.below kx11 (by omega)
  have V8 := V8.below kx11 (by omega)
  have Q5 := Q5.below kx11 (by omega)
  have A8 := A8.below kx11 (by omega)
  have V10 := V10.below kx11 (by omega)
  have A10 := A10.below kx11 (by omega)
  have V13 := V13.below kx11 (by omega)
  have A13 := A13.below kx11 (by omega)
  have BW := BW.trans (kx11.mono BW.size)
  clear kx11
  obtain ⟨x12, hx12⟩ : ∃ y, y = x11.alloc (Obj.cells #[.slice aO14_ O3.length kO14_, .slice aM14_ D3.length kM14_, .slice aT14_ T3.length kT14_] 28) := ⟨_, rfl⟩
  have kx12 : Below x11.heap.size x11 x12 := by rw [hx12]; exact below_box x11 _
  have A14 : CdAt x12 x11.heap.size aO14_ O3.length kO14_ aM14_ D3.length kM14_ aT14_ T3.length kT14_ := by rw [hx12]; exact CdAt.box _ _ _ _ _ _ _ _ _ _ _
  have tx12 : x11.heap.size < x12.heap.size := A14.lt
  have sx12 := kx12.size
  have V3 := V3.below kx12 (by omega)
  have VL := VL.below kx12 (by omega)
  have A3 := A3.below kx12 (by omega)
  have F5 := F5.below kx12 (by omega)
  have V6 := V6.below kx12 (by omega)
  have Q4 := Q4.below kx12 (by omega)
  have A6 := A6.below kx12 (by omega)
  have V8 := V8.below kx12 (by omega)
  have Q5 := Q5.below kx12 (by omega)
  have A8 := A8.below kx12 (by omega)
  have V10 := V10.below kx12 (by omega)
  have A10 := A10.below kx12 (by omega)
  have V13 := V13.below kx12 (by omega)
  have A13 := A13.below kx12 (by omega)
  have V14 := V14.below kx12 (by omega)
  have BW := BW.trans (kx12.mono BW.size)
  clear kx12
  go_wp2_with fail
  rw [← hx12]
  clear hx12
  refine wp_region_held (S := fun Y => Below x12.heap.size x12 Y) (by kernel_rfl) ?_
  change wpAnyH _ _ _ _ _ _ _ _ (World.drew _)
  have hb0 : Below x12.heap.size x12 x12.drew := (Below.refl _ _).drew
  obtain ⟨y0, hy0⟩ : ∃ z, z = x12.drew := ⟨_, rfl⟩
  rw [← hy0] at hb0 ⊢
  clear hy0
  refine takeW 0 51 (.agg #[.slice aO6_ O0.length kO6_, .slice aM6_ D0.length kM6_, .slice aT6_ T1.length kT6_]) rfl rfl (by kernel_rfl) (by kernel_rfl) (by kernel_rfl) (fun _ _ _ h => h) (by kernel_rfl) (by (intro Y hSw; obtain ⟨C1, C2, C3⟩ := A6.below hSw (by omega); go_simp)) (by assumption) ?_
  simp only [List.set_cons_zero, List.set_cons_succ]
  refine takeW 1 52 (.agg #[.slice aO8_ O0.length kO8_, .slice aM8_ D0.length kM8_, .slice aT8_ T1.length kT8_]) rfl rfl (by kernel_rfl) (by kernel_rfl) (by kernel_rfl) (fun _ _ _ h => h) (by kernel_rfl) (by (intro Y hSw; obtain ⟨C1, C2, C3⟩ := A8.below hSw (by omega); go_simp)) (by assumption) ?_
  simp only [List.set_cons_zero, List.set_cons_succ]
  refine wpAnyH_all (rs := [2]) (by kernel_rfl) (by simp) ?_
  intro i hi; obtain rfl : i = 2 := by simpa using hi
  refine wpOp_step rfl (fun K hK => ?_)
  rw [if_pos (by kernel_rfl)]
  go_simp
  go_at_call 13
  refine (sameC aO6_ kO6_ O0 aM6_ kM6_ D0 aT6_ kT6_ T1 aO8_ kO8_ aM8_ kM8_ aT8_ kT8_ x2.heap.size x3.heap.size x4.heap.size x5.heap.size y0 (V6.below hb0 (by omega)) (V8.below hb0 (by omega)) hgl).mono ?_
  rintro e y1 ⟨rfl, kz⟩
  have hb1 : Below x12.heap.size x12 y1 := hb0.trans (kz.mono hb0.size)
  clear kz
  refine hK _ _ ⟨hb1, ?_⟩
  clear hK K hi
  refine takeW 3 54 (.bool false) rfl rfl (by kernel_rfl) (by kernel_rfl) (by kernel_rfl) (fun _ _ _ h => h) (by kernel_rfl) (by (intro w hSw; go_simp)) (by assumption) ?_
  simp only [List.set_cons_zero, List.set_cons_succ]
  refine takeW 4 55 (.bool false) rfl rfl (by kernel_rfl) (by kernel_rfl) (by kernel_rfl) (fun _ _ _ h => h) (by kernel_rfl) (by (intro w hSw; go_simp)) (by assumption) ?_
  simp only [List.set_cons_zero, List.set_cons_succ]
  refine takeW 5 56 (.slice aL4 Ns4.length kL4) rfl rfl (by kernel_rfl) (by kernel_rfl) (by kernel_rfl) (fun _ _ _ h => h) (by kernel_rfl) (by (intro w hSw; go_simp)) (by assumption) ?_
  simp only [List.set_cons_zero, List.set_cons_succ]
  refine takeW 6 57 (.int .i64 Ns4.length) rfl rfl (by kernel_rfl) (by kernel_rfl) (by kernel_rfl) (fun _ _ _ h => h) (by kernel_rfl) (by (intro w hSw; go_simp)) (by assumption) ?_
  simp only [List.set_cons_zero, List.set_cons_succ]
  refine takeW 7 58 (.slice aL5 Ns4.length kL5) rfl rfl (by kernel_rfl) (by kernel_rfl) (by kernel_rfl) (fun _ _ _ h => h) (by kernel_rfl) (by (intro w hSw; go_simp)) (by assumption) ?_
  simp only [List.set_cons_zero, List.set_cons_succ]
  refine takeW 8 59 (.int .i64 Ns4.length) rfl rfl (by kernel_rfl) (by kernel_rfl) (by kernel_rfl) (fun _ _ _ h => h) (by kernel_rfl) (by (intro w hSw; go_simp)) (by assumption) ?_
  simp only [List.set_cons_zero, List.set_cons_succ]
  refine takeW 9 60 (.bool false) rfl rfl (by kernel_rfl) (by kernel_rfl) (by kernel_rfl) (fun _ _ _ h => h) (by kernel_rfl) (by (intro Y hSw; go_simp)) (by assumption) ?_
  simp only [List.set_cons_zero, List.set_cons_succ]
  refine takeW 10 61 (.bool false) rfl rfl (by kernel_rfl) (by kernel_rfl) (by kernel_rfl) (fun _ _ _ h => h) (by kernel_rfl) (by (intro w hSw; go_simp)) (by assumption) ?_
  simp only [List.set_cons_zero, List.set_cons_succ]
  refine takeW 11 62 (.bool false) rfl rfl (by kernel_rfl) (by kernel_rfl) (by kernel_rfl) (fun _ _ _ h => h) (by kernel_rfl) (by (intro w hSw; go_simp)) (by assumption) ?_
  simp only [List.set_cons_zero, List.set_cons_succ]
  refine takeW 12 63 (.agg #[.slice aO13_ O5.length kO13_, .slice aM13_ D2.length kM13_, .slice aT13_ T5.length kT13_]) rfl rfl (by kernel_rfl) (by kernel_rfl) (by kernel_rfl) (fun _ _ _ h => h) (by kernel_rfl) (by (intro Y hSw; obtain ⟨C1, C2, C3⟩ := A13.below hSw (by omega); go_simp)) (by assumption) ?_
  simp only [List.set_cons_zero, List.set_cons_succ]
  refine takeW 13 64 (.agg #[.slice aO10_ O2.length kO10_, .slice aM10_ D2.length kM10_, .slice aT10_ T2.length kT10_]) rfl rfl (by kernel_rfl) (by kernel_rfl) (by kernel_rfl) (fun _ _ _ h => h) (by kernel_rfl) (by (intro Y hSw; obtain ⟨C1, C2, C3⟩ := A10.below hSw (by omega); go_simp)) (by assumption) ?_
  simp only [List.set_cons_zero, List.set_cons_succ]
  refine takeW 14 65 (.int .i64 q) rfl rfl (by kernel_rfl) (by kernel_rfl) (by kernel_rfl) (fun _ _ _ h => h) (by kernel_rfl) (by (intro w hSw; go_simp)) (by assumption) ?_
  simp only [List.set_cons_zero, List.set_cons_succ]
  refine takeW 15 66 (.bool on) rfl rfl (by kernel_rfl) (by kernel_rfl) (by kernel_rfl) (fun _ _ _ h => h) (by kernel_rfl) (by (intro w hSw; go_simp)) (by assumption) ?_
  simp only [List.set_cons_zero, List.set_cons_succ]
  refine wpAnyH_all (rs := [16]) (by kernel_rfl) (by simp) ?_
  intro i hi; obtain rfl : i = 16 := by simpa using hi
  refine wpOp_step rfl (fun K hK => ?_)
  rw [if_pos (by kernel_rfl)]
  go_simp
  go_at_call 14
  have zy1 := hb1.size
  refine (gateS aO10_ kO10_ O2 aM10_ kM10_ D2 aT10_ kT10_ T2 q on x6.heap.size x7.heap.size y1 (V10.below hb1 (by omega)) (by omega) hsz2 hqw zO10 zT10).mono ?_
  intro e y2 hq
  rw [hO5.out, hT5.out] at hq
  obtain ⟨aOg, kOg, aMg, kMg, aTg, kTg, rfl, Wg, kz⟩ := hq
  have Vg := Wg.view
  clear Wg
  have hb2 : Below x12.heap.size x12 y2 := hb1.trans (kz.mono hb1.size)
  clear kz
  refine hK _ _ ⟨hb2, ?_⟩
  clear hK K hi
  refine wpAnyH_all (rs := [17]) (by kernel_rfl) (by simp) ?_
  intro i hi; obtain rfl : i = 17 := by simpa using hi
  refine wpOp_step rfl (fun K hK => ?_)
  rw [if_pos (by kernel_rfl)]
  go_simp
  go_at_call 13
  refine (sameC aO13_ kO13_ O5 aM13_ kM13_ D2 aT13_ kT13_ T5 aOg kOg aMg kMg aTg kTg x8.heap.size x9.heap.size y1.heap.size y2.heap.size y2 (V13.below hb2 (by omega)) Vg hsz5).mono ?_
  rintro e y3 ⟨rfl, kz⟩
  have hb3 : Below x12.heap.size x12 y3 := hb2.trans (kz.mono hb2.size)
  clear kz
  clear Vg
  refine hK _ _ ⟨hb3, ?_⟩
  clear hK K hi
  refine takeW 18 69 (.bool false) rfl rfl (by kernel_rfl) (by kernel_rfl) (by kernel_rfl) (fun _ _ _ h => h) (by kernel_rfl) (by (intro w hSw; go_simp)) (by assumption) ?_
  simp only [List.set_cons_zero, List.set_cons_succ]
  refine takeW 19 70 (.bool false) rfl rfl (by kernel_rfl) (by kernel_rfl) (by kernel_rfl) (fun _ _ _ h => h) (by kernel_rfl) (by (intro w hSw; go_simp)) (by assumption) ?_
  simp only [List.set_cons_zero, List.set_cons_succ]
  refine takeW 20 71 (.bool false) rfl rfl (by kernel_rfl) (by kernel_rfl) (by kernel_rfl) (fun _ _ _ h => h) (by kernel_rfl) (by (intro w hSw; go_simp)) (by assumption) ?_
  simp only [List.set_cons_zero, List.set_cons_succ]
  refine takeW 21 72 (.agg #[.slice aO14_ O3.length kO14_, .slice aM14_ D3.length kM14_, .slice aT14_ T3.length kT14_]) rfl rfl (by kernel_rfl) (by kernel_rfl) (by kernel_rfl) (fun _ _ _ h => h) (by kernel_rfl) (by (intro Y hSw; obtain ⟨C1, C2, C3⟩ := A14.below hSw (by omega); go_simp)) (by assumption) ?_
  simp only [List.set_cons_zero, List.set_cons_succ]
  refine takeW 23 74 (.agg #[.slice aO14_ O3.length kO14_, .slice aM14_ D3.length kM14_, .slice aT14_ T3.length kT14_]) rfl rfl (by kernel_rfl) (by kernel_rfl) (by kernel_rfl) (fun _ _ _ h => h) (by kernel_rfl) (by (intro Y hSw; obtain ⟨C1, C2, C3⟩ := A14.below hSw (by omega); go_simp)) (by assumption) ?_
  simp only [List.set_cons_zero, List.set_cons_succ]
  refine wpAnyH_all (rs := [22]) (by kernel_rfl) (by simp) ?_
  intro i hi; obtain rfl : i = 22 := by simpa using hi
  refine wpOp_step rfl (fun K hK => ?_)
  rw [if_pos (by kernel_rfl)]
  go_simp
  go_at_call 15
  have zy3 := hb3.size
  refine (cardOkI aO14_ kO14_ O3 aM14_ kM14_ D3 aT14_ kT14_ T3 x10.heap.size x11.heap.size y3 (V14.below hb3 (by omega)) (by omega) hsz3).mono ?_
  rintro e y4 ⟨rfl, kz⟩
  rw [hbb.out]
  have hb4 : Below x12.heap.size x12 y4 := hb3.trans (kz.mono hb3.size)
  clear kz
  refine hK _ _ ⟨hb4, ?_⟩
  clear hK K hi
  refine wpAnyH_all (rs := [24]) (by kernel_rfl) (by simp) ?_
  intro i hi; obtain rfl : i = 24 := by simpa using hi
  refine wpOp_step rfl (fun K hK => ?_)
  rw [if_pos (by kernel_rfl)]
  go_simp
  go_at_call 16
  have zy4 := hb4.size
  refine (cardOkS aO14_ kO14_ O3 aM14_ kM14_ D3 aT14_ kT14_ T3 x10.heap.size x11.heap.size y4 (V14.below hb4 (by omega)) (by omega) hsz3).mono ?_
  rintro e y5 ⟨rfl, kz⟩
  rw [hbb.out]
  have hb5 : Below x12.heap.size x12 y5 := hb4.trans (kz.mono hb4.size)
  clear kz
  refine hK _ _ ⟨hb5, ?_⟩
  clear hK K hi
  refine takeW 25 76 (.bool false) rfl rfl (by kernel_rfl) (by kernel_rfl) (by kernel_rfl) (fun _ _ _ h => h) (by kernel_rfl) (by (intro Y hSw; go_simp)) (by assumption) ?_
  simp only [List.set_cons_zero, List.set_cons_succ]
  refine takeW 26 77 (.bool false) rfl rfl (by kernel_rfl) (by kernel_rfl) (by kernel_rfl) (fun _ _ _ h => h) (by kernel_rfl) (by (intro w hSw; go_simp)) (by assumption) ?_
  simp only [List.set_cons_zero, List.set_cons_succ]
  refine wpAnyH_done (by kernel_rfl) ?_ _
  clear hb0 hb1 hb2 hb3 hb4
  generalize hgy : y5 = x13 at *
  clear hgy
  have sx13 := hb5.size
  have V3 := V3.below hb5 (by omega)
  have VL := VL.below hb5 (by omega)
  have A3 := A3.below hb5 (by omega)
  have F5 := F5.below hb5 (by omega)
  have V6 := V6.below hb5 (by omega)
  have Q4 := Q4.below hb5 (by omega)
  have A6 := A6.below hb5 (by omega)
  have V8 := V8.below hb5 (by omega)
  have Q5 := Q5.below hb5 (by omega)
  have A8 := A8.below hb5 (by omega)
  have V10 := V10.below hb5 (by omega)
  have A10 := A10.below hb5 (by omega)
  have V13 := V13.below hb5 (by omega)
  have A13 := A13.below hb5 (by omega)
  have V14 := V14.below hb5 (by omega)
  have A14 := A14.below hb5 (by omega)
  have BW := BW.trans (hb5.mono BW.size)
  clear hb5
  have FN : Fine O0 p L Ns4 := fine_of (hd4.out.trans hXO.out.symm)
  have hdd : Ns5.map Ob.d = Ns4.map Ob.d := hd5.out.trans hd4.out.symm
  go_wp2
  go_loopw [15] (fun i wr => ∃ k : Nat, k ≤ Ns4.length ∧ i = .int .i64 k ∧ Below x13.heap.size x13 wr) (fun i _ => Ns4.length - (intOf i).toNat)
  case atStart => exact ⟨0, Nat.zero_le _, rfl, Below.refl _ _⟩
  case round =>
    obtain ⟨k, hk, rfl, hb⟩ := hrel
    have sk := hb.size
    by_cases hlt : k < Ns4.length
    · have sm1 := sm4.1
      obtain ⟨p0, p1, p2⟩ := FN.p0 (by omega)
      obtain ⟨lo1, lo2, lo3, lo4⟩ := FN.lo k hlt
      have ok1 := FN.ok k hlt
      have ld1 := FN.ld k hlt
      have asc1 := FN.asc k hlt
      obtain ⟨e1, e2, e3, e4, e5⟩ := ob_same hdd k
      obtain ⟨c1, o1, rfl, hc0⟩ := Q4.v.row (by omega)
      obtain ⟨c2, o2, rfl, hc0'⟩ := Q5.v.row (by omega)
      obtain ⟨c3, o3, hO3, hcO⟩ := V3.vO (by omega)
      subst hO3
      have i4 := Q4.r ⟨c1, o1, none⟩ rfl (by omega)
      have i5 := Q5.r ⟨c2, o2, none⟩ rfl (by omega)
      have i3 := V3.iO ⟨c3, o3, none⟩ rfl (by omega)
      simp only [] at i3 i4 i5
      have hn : ∀ Y, Below x13.heap.size x13 Y → ObL Y (Ns4.getD k Ob.nil) := fun Y hY => View.carry (Q4.v.nest k hlt) (fun x e hp => hY.block _ (View.lt (Q4.v.nest k hlt) x e hp))
      have hn' : ∀ Y, Below x13.heap.size x13 Y → ObL Y (Ns5.getD k Ob.nil) := fun Y hY => View.carry (Q5.v.nest k (by omega)) (fun x e hp => hY.block _ (View.lt (Q5.v.nest k (by omega)) x e hp))
      have hc : ∀ j, j < Ns4.length → ∀ Y, Below x13.heap.size x13 Y → ObAt Y c1 (o1 + j * 5) (Ns4.getD j Ob.nil) := fun j hj Y hY => (hc0 j hj).same (hY.block _ (by omega))
      have hc' : ∀ Y, Below x13.heap.size x13 Y → ObAt Y c2 (o2 + k * 5) (Ns5.getD k Ob.nil) := fun Y hY => (hc0' k (by omega)).same (hY.block _ (by omega))
      have hcp : ∀ Y, Below x13.heap.size x13 Y → Y.cell? ⟨c3, o3 + p.toNat, none⟩ = some (.bool true) := fun Y hY => by rw [← p2]; exact (World.cell?_of_block (a := ⟨c3, o3 + p.toNat, none⟩) (hY.block c3 (by omega))).trans (hcO p.toNat (by omega))
      have hcm : ∀ Y, Below x13.heap.size x13 Y → Y.cell? ⟨c3, o3 + (Ns4.getD k Ob.nil).p.toNat, none⟩ = some (.bool true) := fun Y hY => by rw [← lo4]; exact (World.cell?_of_block (a := ⟨c3, o3 + (Ns4.getD k Ob.nil).p.toNat, none⟩) (hY.block c3 (by omega))).trans (hcO (Ns4.getD k Ob.nil).p.toNat (by omega))
      have hA3 : ∀ Y, Below x13.heap.size x13 Y → CdAt Y x1.heap.size (some ⟨c3, o3, none⟩) O0.length kO3_ aM3_ D0.length kM3_ aT3_ T0.length kT3_ := fun Y hY => A3.below hY (by omega)
      have hcj : 0 < k → ∃ mj : Ob, mj.p < (Ns4.getD k Ob.nil).p ∧ ∀ Y, Below x13.heap.size x13 Y → ObAt Y c1 (o1 + (k - 1) * 5) mj := fun h0 => ⟨Ns4.getD (k - 1) Ob.nil, asc1 h0, hc (k - 1) (by omega)⟩
      replace hc := hc k hlt
      have smk := sm4.2.1 k hlt
      obtain ⟨m, hh⟩ : ∃ m, Ns4.getD k Ob.nil = m := ⟨_, rfl⟩
      obtain ⟨m', hh'⟩ : ∃ m, Ns5.getD k Ob.nil = m := ⟨_, rfl⟩
      simp only [hh] at lo1 lo2 lo3 ok1 ld1 e1 e2 e3 e4 e5 hn hc hcm hcj smk
      simp only [hh'] at e1 e2 e3 e4 e5 hn' hc'
      unfold ObL at hn hn'
      unfold ObAt at hc hc' hcj
      rw [e1, e2, e3, e4, e5] at hc'
      rw [e5] at hn'
      obtain ⟨mp, ma, mb, mc, mad, mcap, mL⟩ := m
      obtain ⟨_, _, _, _, mad', mcap', _⟩ := m'
      simp only [] at lo1 lo2 lo3 ok1 ld1 hn hc hcm hcj hn' hc' smk
      have bM : ∀ x ∈ mL, 0 ≤ x ∧ x ≤ 255 := by rw [ld1]; exact bL
      clear hh hh' hc0 hc0' e1 e2 e3 e4 e5 asc1 ld1 FN hdd hcO lo4 p2 A3 hfew hd4 hd5 sm4
      obtain ⟨pn, hpn⟩ : ∃ n : Nat, p = (n : Int) := ⟨p.toNat, by omega⟩
      obtain ⟨pi, hpi⟩ : ∃ n : Nat, mp = (n : Int) := ⟨mp.toNat, by omega⟩
      rw [hpn] at p0 p1 lo3 hcp ⊢
      rw [hpi] at lo1 lo2 lo3 hc hcm hcj hc'
      simp only [Int.toNat_natCast] at hcp hcm
      obtain ⟨X1, X2, X3, X4, X5⟩ := hc _ hb
      go_wp2_with fail
      obtain ⟨z, hz⟩ : ∃ y, y = wr.alloc (Obj.cells #[.int .i64 pi, .int .i64 ma, .int .i64 mb, .int .i64 mc, .slice mad mL.length mcap] 43) := ⟨_, rfl⟩
      have B16 : ObAt z wr.heap.size 0 ⟨pi, ma, mb, mc, mad, mcap, mL⟩ := by rw [hz]; refine ⟨?_, ?_, ?_, ?_, ?_⟩ <;> simp [go_sem]
      have kz : Below wr.heap.size wr z := by rw [hz]; exact below_box wr _
      have hbz := hb.trans (kz.mono hb.size)
      have szz := kz.size
      have tzz : wr.heap.size < z.heap.size := by rw [hz]; exact size_box wr _
      rw [← hz]
      clear hz kz X1 X2 X3 X4 X5 hb
      obtain ⟨P, hP⟩ : ∃ n, n = wr.heap.size := ⟨_, rfl⟩
      rw [← hP] at B16 tzz ⊢
      clear hP
      have hB16 : ∀ Y, Below z.heap.size z Y → z.heap.size ≤ Y.heap.size ∧ Below x13.heap.size x13 Y ∧ ObAt Y P 0 ⟨pi, ma, mb, mc, mad, mcap, mL⟩ := fun Y hY => ⟨hY.size, hbz.trans (hY.mono hbz.size), B16.same (hY.block _ (by omega))⟩
      unfold ObAt at hB16
      simp only [Nat.zero_add] at hB16
      have nq : decide ((pi : Int) = (pn : Int)) = false := decide_eq_false lo3
      by_cases hk0 : k = 0
      · subst hk0
        simp only [Nat.zero_mul, Nat.add_zero] at hc'
        refine wp_region_held (S := fun Y => Below z.heap.size z Y) (by kernel_rfl) ?_
        change wpAnyH _ _ _ _ _ _ _ _ (World.drew _)
        have hb0 : Below z.heap.size z z.drew := (Below.refl _ _).drew
        obtain ⟨y0, hy0⟩ : ∃ x, x = z.drew := ⟨_, rfl⟩
        rw [← hy0] at hb0 ⊢
        clear hy0
        refine takeW 0 88 (.pointer (some ⟨P, 0, none⟩)) rfl rfl (by kernel_rfl) (by kernel_rfl) (by kernel_rfl) (fun _ _ _ h => h) (by kernel_rfl) (by (intro w hSw; go_simp)) (by assumption) ?_
        simp only [List.set_cons_zero, List.set_cons_succ]
        refine takeW 1 89 (.int .i64 pi) rfl rfl (by kernel_rfl) (by kernel_rfl) (by kernel_rfl) (fun _ _ _ h => h) (by kernel_rfl) (by (intro Y hSw; obtain ⟨_, _, X1, X2, X3, X4, X5⟩ := hB16 Y hSw; go_simp)) (by assumption) ?_
        simp only [List.set_cons_zero, List.set_cons_succ]
        refine takeW 2 90 (.slice (some ⟨c2, o2, none⟩) Ns4.length kL5) rfl rfl (by kernel_rfl) (by kernel_rfl) (by kernel_rfl) (fun _ _ _ h => h) (by kernel_rfl) (by (intro w hSw; go_simp)) (by assumption) ?_
        simp only [List.set_cons_zero, List.set_cons_succ]
        refine takeW 3 91 (.int .i64 0) rfl rfl (by kernel_rfl) (by kernel_rfl) (by kernel_rfl) (fun _ _ _ h => h) (by kernel_rfl) (by (intro w hSw; go_simp)) (by assumption) ?_
        simp only [List.set_cons_zero, List.set_cons_succ]
        refine takeW 4 92 (.pointer (some ⟨c2, o2, none⟩)) rfl rfl (by kernel_rfl) (by kernel_rfl) (by kernel_rfl) (fun _ _ _ h => h) (by kernel_rfl) (by (intro Y hSw; go_simp; try omega)) (by assumption) ?_
        simp only [List.set_cons_zero, List.set_cons_succ]
        refine takeW 5 93 (.pointer (some ⟨c2, o2, none⟩)) rfl rfl (by kernel_rfl) (by kernel_rfl) (by kernel_rfl) (fun _ _ _ h => h) (by kernel_rfl) (by (intro w hSw; go_simp)) (by assumption) ?_
        simp only [List.set_cons_zero, List.set_cons_succ]
        refine takeW 6 94 (.int .i64 pi) rfl rfl (by kernel_rfl) (by kernel_rfl) (by kernel_rfl) (fun _ _ _ h => h) (by kernel_rfl) (by (intro Y hSw; obtain ⟨X1, X2, X3, X4, X5⟩ := hc' Y (hB16 Y hSw).2.1; go_simp)) (by assumption) ?_
        simp only [List.set_cons_zero, List.set_cons_succ]
        refine takeW 7 95 (.bool false) rfl rfl (by kernel_rfl) (by kernel_rfl) (by kernel_rfl) (fun _ _ _ h => h) (by kernel_rfl) (by (intro Y hSw; go_simp)) (by assumption) ?_
        simp only [List.set_cons_zero, List.set_cons_succ]
        refine takeW 8 96 (.bool false) rfl rfl (by kernel_rfl) (by kernel_rfl) (by kernel_rfl) (fun _ _ _ h => h) (by kernel_rfl) (by (intro w hSw; go_simp)) (by assumption) ?_
        simp only [List.set_cons_zero, List.set_cons_succ]
        refine takeW 9 97 (.pointer (some ⟨P, 1, none⟩)) rfl rfl (by kernel_rfl) (by kernel_rfl) (by kernel_rfl) (fun _ _ _ h => h) (by kernel_rfl) (by (intro w hSw; go_simp)) (by assumption) ?_
        simp only [List.set_cons_zero, List.set_cons_succ]
        refine takeW 10 98 (.agg #[.int .i64 ma, .int .i64 mb, .int .i64 mc, .slice mad mL.length mcap]) rfl rfl (by kernel_rfl) (by kernel_rfl) (by kernel_rfl) (fun _ _ _ h => h) (by kernel_rfl) (by (intro Y hSw; obtain ⟨_, _, X1, X2, X3, X4, X5⟩ := hB16 Y hSw; go_simp)) (by assumption) ?_
        simp only [List.set_cons_zero, List.set_cons_succ]
        refine takeW 11 99 (.slice (some ⟨c2, o2, none⟩) Ns4.length kL5) rfl rfl (by kernel_rfl) (by kernel_rfl) (by kernel_rfl) (fun _ _ _ h => h) (by kernel_rfl) (by (intro w hSw; go_simp)) (by assumption) ?_
        simp only [List.set_cons_zero, List.set_cons_succ]
        refine takeW 12 100 (.int .i64 0) rfl rfl (by kernel_rfl) (by kernel_rfl) (by kernel_rfl) (fun _ _ _ h => h) (by kernel_rfl) (by (intro w hSw; go_simp)) (by assumption) ?_
        simp only [List.set_cons_zero, List.set_cons_succ]
        refine takeW 13 101 (.pointer (some ⟨c2, o2, none⟩)) rfl rfl (by kernel_rfl) (by kernel_rfl) (by kernel_rfl) (fun _ _ _ h => h) (by kernel_rfl) (by (intro Y hSw; go_simp; try omega)) (by assumption) ?_
        simp only [List.set_cons_zero, List.set_cons_succ]
        refine takeW 14 102 (.pointer (some ⟨c2, o2 + 1, none⟩)) rfl rfl (by kernel_rfl) (by kernel_rfl) (by kernel_rfl) (fun _ _ _ h => h) (by kernel_rfl) (by (intro w hSw; go_simp)) (by assumption) ?_
        simp only [List.set_cons_zero, List.set_cons_succ]
        refine takeW 15 103 (.agg #[.int .i64 ma, .int .i64 mb, .int .i64 mc, .slice mad' mL.length mcap']) rfl rfl (by kernel_rfl) (by kernel_rfl) (by kernel_rfl) (fun _ _ _ h => h) (by kernel_rfl) (by (intro Y hSw; obtain ⟨X1, X2, X3, X4, X5⟩ := hc' Y (hB16 Y hSw).2.1; go_simp)) (by assumption) ?_
        simp only [List.set_cons_zero, List.set_cons_succ]
        refine wpAnyH_all (rs := [16]) (by kernel_rfl) (by simp) ?_
        intro i hi; obtain rfl : i = 16 := by simpa using hi
        refine wpOp_step rfl (fun K hK => ?_)
        rw [if_pos (by kernel_rfl)]
        go_simp
        go_at_call 17
        have hq := (hB16 y0 hb0).2.1
        refine (sameImpl ma mb mc ma mb mc mad mad' mL.length mcap mL.length mcap' (fun i => mL.getD i 0) (fun i => mL.getD i 0) y0 (hn _ hq) (hn' _ hq) (bd_get bM) (bd_get bM)).mono ?_
        rintro e y1 ⟨rfl, kz⟩
        rw [same_refl]
        clear hq
        have hb1 : Below z.heap.size z y1 := hb0.trans (kz.mono hb0.size)
        clear kz
        refine hK _ _ ⟨hb1, ?_⟩
        clear hK K hi
        refine takeW 17 105 (.bool false) rfl rfl (by kernel_rfl) (by kernel_rfl) (by kernel_rfl) (fun _ _ _ h => h) (by kernel_rfl) (by (intro w hSw; go_simp)) (by assumption) ?_
        simp only [List.set_cons_zero, List.set_cons_succ]
        refine takeW 18 106 (.bool false) rfl rfl (by kernel_rfl) (by kernel_rfl) (by kernel_rfl) (fun _ _ _ h => h) (by kernel_rfl) (by (intro w hSw; go_simp)) (by assumption) ?_
        simp only [List.set_cons_zero, List.set_cons_succ]
        refine takeW 19 107 (.bool false) rfl rfl (by kernel_rfl) (by kernel_rfl) (by kernel_rfl) (fun _ _ _ h => h) (by kernel_rfl) (by (intro w hSw; go_simp)) (by assumption) ?_
        simp only [List.set_cons_zero, List.set_cons_succ]
        refine takeW 20 108 (.pointer (some ⟨P, 0, none⟩)) rfl rfl (by kernel_rfl) (by kernel_rfl) (by kernel_rfl) (fun _ _ _ h => h) (by kernel_rfl) (by (intro w hSw; go_simp)) (by assumption) ?_
        simp only [List.set_cons_zero, List.set_cons_succ]
        refine takeW 21 109 (.int .i64 pi) rfl rfl (by kernel_rfl) (by kernel_rfl) (by kernel_rfl) (fun _ _ _ h => h) (by kernel_rfl) (by (intro Y hSw; obtain ⟨_, _, X1, X2, X3, X4, X5⟩ := hB16 Y hSw; go_simp)) (by assumption) ?_
        simp only [List.set_cons_zero, List.set_cons_succ]
        refine takeW 22 110 (.int .i64 pn) rfl rfl (by kernel_rfl) (by kernel_rfl) (by kernel_rfl) (fun _ _ _ h => h) (by kernel_rfl) (by (intro w hSw; go_simp)) (by assumption) ?_
        simp only [List.set_cons_zero, List.set_cons_succ]
        refine takeW 23 111 (.bool false) rfl rfl (by kernel_rfl) (by kernel_rfl) (by kernel_rfl) (fun _ _ _ h => h) (by kernel_rfl) (by (intro Y hSw; go_simp)) (by assumption) ?_
        simp only [List.set_cons_zero, List.set_cons_succ]
        refine takeW 24 112 (.bool false) rfl rfl (by kernel_rfl) (by kernel_rfl) (by kernel_rfl) (fun _ _ _ h => h) (by kernel_rfl) (by (intro w hSw; go_simp)) (by assumption) ?_
        simp only [List.set_cons_zero, List.set_cons_succ]
        refine takeW 25 113 (.bool false) rfl rfl (by kernel_rfl) (by kernel_rfl) (by kernel_rfl) (fun _ _ _ h => h) (by kernel_rfl) (by (intro w hSw; go_simp)) (by assumption) ?_
        simp only [List.set_cons_zero, List.set_cons_succ]
        refine takeW 26 114 (.pointer (some ⟨x1.heap.size, 0, none⟩)) rfl rfl (by kernel_rfl) (by kernel_rfl) (by kernel_rfl) (fun _ _ _ h => h) (by kernel_rfl) (by (intro w hSw; go_simp)) (by assumption) ?_
        simp only [List.set_cons_zero, List.set_cons_succ]
        refine takeW 27 115 (.slice (some ⟨c3, o3, none⟩) O0.length kO3_) rfl rfl (by kernel_rfl) (by kernel_rfl) (by kernel_rfl) (fun _ _ _ h => h) (by kernel_rfl) (by (intro Y hSw; obtain ⟨X1, X2, X3⟩ := hA3 Y (hB16 Y hSw).2.1; go_simp)) (by assumption) ?_
        simp only [List.set_cons_zero, List.set_cons_succ]
        refine takeW 28 116 (.pointer (some ⟨P, 0, none⟩)) rfl rfl (by kernel_rfl) (by kernel_rfl) (by kernel_rfl) (fun _ _ _ h => h) (by kernel_rfl) (by (intro w hSw; go_simp)) (by assumption) ?_
        simp only [List.set_cons_zero, List.set_cons_succ]
        refine takeW 29 117 (.int .i64 pi) rfl rfl (by kernel_rfl) (by kernel_rfl) (by kernel_rfl) (fun _ _ _ h => h) (by kernel_rfl) (by (intro Y hSw; obtain ⟨_, _, X1, X2, X3, X4, X5⟩ := hB16 Y hSw; go_simp)) (by assumption) ?_
        simp only [List.set_cons_zero, List.set_cons_succ]
        refine takeW 30 118 (.pointer (some ⟨c3, o3 + pi, none⟩)) rfl rfl (by kernel_rfl) (by kernel_rfl) (by kernel_rfl) (fun _ _ _ h => h) (by kernel_rfl) (by (intro Y hSw; go_simp; try omega)) (by assumption) ?_
        simp only [List.set_cons_zero, List.set_cons_succ]
        refine takeW 31 119 (.bool true) rfl rfl (by kernel_rfl) (by kernel_rfl) (by kernel_rfl) (fun _ _ _ h => h) (by kernel_rfl) (by (intro Y hSw; have X1 := hcm Y (hB16 Y hSw).2.1; go_simp)) (by assumption) ?_
        simp only [List.set_cons_zero, List.set_cons_succ]
        refine takeW 32 120 (.bool false) rfl rfl (by kernel_rfl) (by kernel_rfl) (by kernel_rfl) (fun _ _ _ h => h) (by kernel_rfl) (by (intro w hSw; go_simp)) (by assumption) ?_
        simp only [List.set_cons_zero, List.set_cons_succ]
        refine takeW 33 121 (.bool false) rfl rfl (by kernel_rfl) (by kernel_rfl) (by kernel_rfl) (fun _ _ _ h => h) (by kernel_rfl) (by (intro w hSw; go_simp)) (by assumption) ?_
        simp only [List.set_cons_zero, List.set_cons_succ]
        refine takeW 34 122 (.bool false) rfl rfl (by kernel_rfl) (by kernel_rfl) (by kernel_rfl) (fun _ _ _ h => h) (by kernel_rfl) (by (intro w hSw; go_simp)) (by assumption) ?_
        simp only [List.set_cons_zero, List.set_cons_succ]
        refine takeW 35 123 (.pointer (some ⟨x1.heap.size, 0, none⟩)) rfl rfl (by kernel_rfl) (by kernel_rfl) (by kernel_rfl) (fun _ _ _ h => h) (by kernel_rfl) (by (intro w hSw; go_simp)) (by assumption) ?_
        simp only [List.set_cons_zero, List.set_cons_succ]
        refine takeW 36 124 (.slice (some ⟨c3, o3, none⟩) O0.length kO3_) rfl rfl (by kernel_rfl) (by kernel_rfl) (by kernel_rfl) (fun _ _ _ h => h) (by kernel_rfl) (by (intro Y hSw; obtain ⟨X1, X2, X3⟩ := hA3 Y (hB16 Y hSw).2.1; go_simp)) (by assumption) ?_
        simp only [List.set_cons_zero, List.set_cons_succ]
        refine takeW 37 125 (.int .i64 pn) rfl rfl (by kernel_rfl) (by kernel_rfl) (by kernel_rfl) (fun _ _ _ h => h) (by kernel_rfl) (by (intro w hSw; go_simp)) (by assumption) ?_
        simp only [List.set_cons_zero, List.set_cons_succ]
        refine takeW 38 126 (.pointer (some ⟨c3, o3 + pn, none⟩)) rfl rfl (by kernel_rfl) (by kernel_rfl) (by kernel_rfl) (fun _ _ _ h => h) (by kernel_rfl) (by (intro Y hSw; go_simp; try omega)) (by assumption) ?_
        simp only [List.set_cons_zero, List.set_cons_succ]
        refine takeW 39 127 (.bool true) rfl rfl (by kernel_rfl) (by kernel_rfl) (by kernel_rfl) (fun _ _ _ h => h) (by kernel_rfl) (by (intro Y hSw; have X1 := hcp Y (hB16 Y hSw).2.1; go_simp)) (by assumption) ?_
        simp only [List.set_cons_zero, List.set_cons_succ]
        refine takeW 40 128 (.bool false) rfl rfl (by kernel_rfl) (by kernel_rfl) (by kernel_rfl) (fun _ _ _ h => h) (by kernel_rfl) (by (intro w hSw; go_simp)) (by assumption) ?_
        simp only [List.set_cons_zero, List.set_cons_succ]
        refine takeW 41 129 (.bool false) rfl rfl (by kernel_rfl) (by kernel_rfl) (by kernel_rfl) (fun _ _ _ h => h) (by kernel_rfl) (by (intro w hSw; go_simp)) (by assumption) ?_
        simp only [List.set_cons_zero, List.set_cons_succ]
        refine takeW 42 130 (.bool false) rfl rfl (by kernel_rfl) (by kernel_rfl) (by kernel_rfl) (fun _ _ _ h => h) (by kernel_rfl) (by (intro w hSw; go_simp)) (by assumption) ?_
        simp only [List.set_cons_zero, List.set_cons_succ]
        refine takeW 43 131 (.int .i64 0) rfl rfl (by kernel_rfl) (by kernel_rfl) (by kernel_rfl) (fun _ _ _ h => h) (by kernel_rfl) (by (intro w hSw; go_simp)) (by assumption) ?_
        simp only [List.set_cons_zero, List.set_cons_succ]
        refine takeW 44 132 (.bool false) rfl rfl (by kernel_rfl) (by kernel_rfl) (by kernel_rfl) (fun _ _ _ h => h) (by kernel_rfl) (by (intro Y hSw; go_simp; try omega)) (by assumption) ?_
        simp only [List.set_cons_zero, List.set_cons_succ]
        refine takeW 45 133 (.bool false) rfl rfl (by kernel_rfl) (by kernel_rfl) (by kernel_rfl) (fun _ _ _ h => h) (by kernel_rfl) (by (intro w hSw; go_simp)) (by assumption) ?_
        simp only [List.set_cons_zero, List.set_cons_succ]
        refine takeS 46 134 rfl rfl (by kernel_rfl) (by kernel_rfl) (by kernel_rfl) (fun _ _ _ h => h) (by kernel_rfl) (by assumption) ?_
        simp only [List.set_cons_zero, List.set_cons_succ]
        refine takeS 47 135 rfl rfl (by kernel_rfl) (by kernel_rfl) (by kernel_rfl) (fun _ _ _ h => h) (by kernel_rfl) (by assumption) ?_
        simp only [List.set_cons_zero, List.set_cons_succ]
        refine takeS 48 136 rfl rfl (by kernel_rfl) (by kernel_rfl) (by kernel_rfl) (fun _ _ _ h => h) (by kernel_rfl) (by assumption) ?_
        simp only [List.set_cons_zero, List.set_cons_succ]
        refine takeS 49 137 rfl rfl (by kernel_rfl) (by kernel_rfl) (by kernel_rfl) (fun _ _ _ h => h) (by kernel_rfl) (by assumption) ?_
        simp only [List.set_cons_zero, List.set_cons_succ]
        refine takeS 50 138 rfl rfl (by kernel_rfl) (by kernel_rfl) (by kernel_rfl) (fun _ _ _ h => h) (by kernel_rfl) (by assumption) ?_
        simp only [List.set_cons_zero, List.set_cons_succ]
        refine takeS 51 139 rfl rfl (by kernel_rfl) (by kernel_rfl) (by kernel_rfl) (fun _ _ _ h => h) (by kernel_rfl) (by assumption) ?_
        simp only [List.set_cons_zero, List.set_cons_succ]
        refine takeS 52 140 rfl rfl (by kernel_rfl) (by kernel_rfl) (by kernel_rfl) (fun _ _ _ h => h) (by kernel_rfl) (by assumption) ?_
        simp only [List.set_cons_zero, List.set_cons_succ]
        refine takeS 53 141 rfl rfl (by kernel_rfl) (by kernel_rfl) (by kernel_rfl) (fun _ _ _ h => h) (by kernel_rfl) (by assumption) ?_
        simp only [List.set_cons_zero, List.set_cons_succ]
        refine takeS 54 142 rfl rfl (by kernel_rfl) (by kernel_rfl) (by kernel_rfl) (fun _ _ _ h => h) (by kernel_rfl) (by assumption) ?_
        simp only [List.set_cons_zero, List.set_cons_succ]
        refine takeW 55 143 (.bool false) rfl rfl (by kernel_rfl) (by kernel_rfl) (by kernel_rfl) (fun _ _ _ h => h) (by kernel_rfl) (by (intro w hSw; go_simp)) (by assumption) ?_
        simp only [List.set_cons_zero, List.set_cons_succ]
        refine takeW 56 144 (.bool false) rfl rfl (by kernel_rfl) (by kernel_rfl) (by kernel_rfl) (fun _ _ _ h => h) (by kernel_rfl) (by (intro w hSw; go_simp)) (by assumption) ?_
        simp only [List.set_cons_zero, List.set_cons_succ]
        refine takeW 57 145 (.bool false) rfl rfl (by kernel_rfl) (by kernel_rfl) (by kernel_rfl) (fun _ _ _ h => h) (by kernel_rfl) (by (intro w hSw; go_simp)) (by assumption) ?_
        simp only [List.set_cons_zero, List.set_cons_succ]
        refine takeW 58 146 (.pointer (some ⟨P, 1, none⟩)) rfl rfl (by kernel_rfl) (by kernel_rfl) (by kernel_rfl) (fun _ _ _ h => h) (by kernel_rfl) (by (intro w hSw; go_simp)) (by assumption) ?_
        simp only [List.set_cons_zero, List.set_cons_succ]
        refine takeW 59 147 (.agg #[.int .i64 ma, .int .i64 mb, .int .i64 mc, .slice mad mL.length mcap]) rfl rfl (by kernel_rfl) (by kernel_rfl) (by kernel_rfl) (fun _ _ _ h => h) (by kernel_rfl) (by (intro Y hSw; obtain ⟨_, _, X1, X2, X3, X4, X5⟩ := hB16 Y hSw; go_simp)) (by assumption) ?_
        simp only [List.set_cons_zero, List.set_cons_succ]
        refine wpAnyH_all (rs := [60]) (by kernel_rfl) (by simp) ?_
        intro i hi; obtain rfl : i = 60 := by simpa using hi
        refine wpOp_step rfl (fun K hK => ?_)
        rw [if_pos (by kernel_rfl)]
        go_simp
        go_at_call 18
        refine (okImpl ma mb mc mad mL.length mcap y1 (by unfold maxLen; omega)).mono ?_
        rintro e y2 ⟨rfl, kz⟩
        rw [ok1]
        have hb2 : Below z.heap.size z y2 := hb1.trans (kz.mono hb1.size)
        clear kz
        refine hK _ _ ⟨hb2, ?_⟩
        clear hK K hi
        refine takeW 61 149 (.bool false) rfl rfl (by kernel_rfl) (by kernel_rfl) (by kernel_rfl) (fun _ _ _ h => h) (by kernel_rfl) (by (intro w hSw; go_simp)) (by assumption) ?_
        simp only [List.set_cons_zero, List.set_cons_succ]
        refine takeW 62 150 (.bool false) rfl rfl (by kernel_rfl) (by kernel_rfl) (by kernel_rfl) (fun _ _ _ h => h) (by kernel_rfl) (by (intro w hSw; go_simp)) (by assumption) ?_
        simp only [List.set_cons_zero, List.set_cons_succ]
        refine wpAnyH_done (by kernel_rfl) ?_ _
        have hbe := (hB16 y2 hb2).2.1
        clear hb0 hb1 hb2
        go_wp2
        go_roundw
        case rel => exact ⟨0 + 1, by omega, by go_num, hbe⟩
        case measure => simp [intOf]; omega
      · obtain ⟨mj, qa, hcj⟩ := hcj (by omega)
        obtain ⟨j, rfl⟩ : ∃ j, k = j + 1 := ⟨k - 1, by omega⟩
        simp only [Nat.add_sub_cancel] at hcj
        obtain ⟨qj, ja, jb, jc, jad, jcap, jL⟩ := mj
        simp only [] at qa hcj
        have ng : decide ((pi : Int) ≤ qj) = false := decide_eq_false (by omega)
        have ng2 : decide (qj ≥ (pi : Int)) = false := decide_eq_false (by omega)
        have gt0 : decide ((0 : Int) < ((j + 1 : Nat) : Int)) = true := decide_eq_true (by omega)
        refine wp_region_held (S := fun Y => Below z.heap.size z Y) (by kernel_rfl) ?_
        change wpAnyH _ _ _ _ _ _ _ _ (World.drew _)
        have hb0 : Below z.heap.size z z.drew := (Below.refl _ _).drew
        obtain ⟨y0, hy0⟩ : ∃ x, x = z.drew := ⟨_, rfl⟩
        rw [← hy0] at hb0 ⊢
        clear hy0
        refine takeW 0 88 (.pointer (some ⟨P, 0, none⟩)) rfl rfl (by kernel_rfl) (by kernel_rfl) (by kernel_rfl) (fun _ _ _ h => h) (by kernel_rfl) (by (intro w hSw; go_simp)) (by assumption) ?_
        simp only [List.set_cons_zero, List.set_cons_succ]
        refine takeW 1 89 (.int .i64 pi) rfl rfl (by kernel_rfl) (by kernel_rfl) (by kernel_rfl) (fun _ _ _ h => h) (by kernel_rfl) (by (intro Y hSw; obtain ⟨_, _, X1, X2, X3, X4, X5⟩ := hB16 Y hSw; go_simp)) (by assumption) ?_
        simp only [List.set_cons_zero, List.set_cons_succ]
        refine takeW 2 90 (.slice (some ⟨c2, o2, none⟩) Ns4.length kL5) rfl rfl (by kernel_rfl) (by kernel_rfl) (by kernel_rfl) (fun _ _ _ h => h) (by kernel_rfl) (by (intro w hSw; go_simp)) (by assumption) ?_
        simp only [List.set_cons_zero, List.set_cons_succ]
        refine takeW 3 91 (.int .i64 ((j + 1 : Nat) : Int)) rfl rfl (by kernel_rfl) (by kernel_rfl) (by kernel_rfl) (fun _ _ _ h => h) (by kernel_rfl) (by (intro w hSw; go_simp)) (by assumption) ?_
        simp only [List.set_cons_zero, List.set_cons_succ]
        refine takeW 4 92 (.pointer (some ⟨c2, o2 + (j + 1) * 5, none⟩)) rfl rfl (by kernel_rfl) (by kernel_rfl) (by kernel_rfl) (fun _ _ _ h => h) (by kernel_rfl) (by (intro Y hSw; go_simp; try omega)) (by assumption) ?_
        simp only [List.set_cons_zero, List.set_cons_succ]
        refine takeW 5 93 (.pointer (some ⟨c2, o2 + (j + 1) * 5, none⟩)) rfl rfl (by kernel_rfl) (by kernel_rfl) (by kernel_rfl) (fun _ _ _ h => h) (by kernel_rfl) (by (intro w hSw; go_simp)) (by assumption) ?_
        simp only [List.set_cons_zero, List.set_cons_succ]
        refine takeW 6 94 (.int .i64 pi) rfl rfl (by kernel_rfl) (by kernel_rfl) (by kernel_rfl) (fun _ _ _ h => h) (by kernel_rfl) (by (intro Y hSw; obtain ⟨X1, X2, X3, X4, X5⟩ := hc' Y (hB16 Y hSw).2.1; go_simp)) (by assumption) ?_
        simp only [List.set_cons_zero, List.set_cons_succ]
        refine takeW 7 95 (.bool false) rfl rfl (by kernel_rfl) (by kernel_rfl) (by kernel_rfl) (fun _ _ _ h => h) (by kernel_rfl) (by (intro Y hSw; go_simp)) (by assumption) ?_
        simp only [List.set_cons_zero, List.set_cons_succ]
        refine takeW 8 96 (.bool false) rfl rfl (by kernel_rfl) (by kernel_rfl) (by kernel_rfl) (fun _ _ _ h => h) (by kernel_rfl) (by (intro w hSw; go_simp)) (by assumption) ?_
        simp only [List.set_cons_zero, List.set_cons_succ]
        refine takeW 9 97 (.pointer (some ⟨P, 1, none⟩)) rfl rfl (by kernel_rfl) (by kernel_rfl) (by kernel_rfl) (fun _ _ _ h => h) (by kernel_rfl) (by (intro w hSw; go_simp)) (by assumption) ?_
        simp only [List.set_cons_zero, List.set_cons_succ]
        refine takeW 10 98 (.agg #[.int .i64 ma, .int .i64 mb, .int .i64 mc, .slice mad mL.length mcap]) rfl rfl (by kernel_rfl) (by kernel_rfl) (by kernel_rfl) (fun _ _ _ h => h) (by kernel_rfl) (by (intro Y hSw; obtain ⟨_, _, X1, X2, X3, X4, X5⟩ := hB16 Y hSw; go_simp)) (by assumption) ?_
        simp only [List.set_cons_zero, List.set_cons_succ]
        refine takeW 11 99 (.slice (some ⟨c2, o2, none⟩) Ns4.length kL5) rfl rfl (by kernel_rfl) (by kernel_rfl) (by kernel_rfl) (fun _ _ _ h => h) (by kernel_rfl) (by (intro w hSw; go_simp)) (by assumption) ?_
        simp only [List.set_cons_zero, List.set_cons_succ]
        refine takeW 12 100 (.int .i64 ((j + 1 : Nat) : Int)) rfl rfl (by kernel_rfl) (by kernel_rfl) (by kernel_rfl) (fun _ _ _ h => h) (by kernel_rfl) (by (intro w hSw; go_simp)) (by assumption) ?_
        simp only [List.set_cons_zero, List.set_cons_succ]
        refine takeW 13 101 (.pointer (some ⟨c2, o2 + (j + 1) * 5, none⟩)) rfl rfl (by kernel_rfl) (by kernel_rfl) (by kernel_rfl) (fun _ _ _ h => h) (by kernel_rfl) (by (intro Y hSw; go_simp; try omega)) (by assumption) ?_
        simp only [List.set_cons_zero, List.set_cons_succ]
        refine takeW 14 102 (.pointer (some ⟨c2, o2 + (j + 1) * 5 + 1, none⟩)) rfl rfl (by kernel_rfl) (by kernel_rfl) (by kernel_rfl) (fun _ _ _ h => h) (by kernel_rfl) (by (intro w hSw; go_simp)) (by assumption) ?_
        simp only [List.set_cons_zero, List.set_cons_succ]
        refine takeW 15 103 (.agg #[.int .i64 ma, .int .i64 mb, .int .i64 mc, .slice mad' mL.length mcap']) rfl rfl (by kernel_rfl) (by kernel_rfl) (by kernel_rfl) (fun _ _ _ h => h) (by kernel_rfl) (by (intro Y hSw; obtain ⟨X1, X2, X3, X4, X5⟩ := hc' Y (hB16 Y hSw).2.1; go_simp)) (by assumption) ?_
        simp only [List.set_cons_zero, List.set_cons_succ]
        refine wpAnyH_all (rs := [16]) (by kernel_rfl) (by simp) ?_
        intro i hi; obtain rfl : i = 16 := by simpa using hi
        refine wpOp_step rfl (fun K hK => ?_)
        rw [if_pos (by kernel_rfl)]
        go_simp
        go_at_call 17
        have hq := (hB16 y0 hb0).2.1
        refine (sameImpl ma mb mc ma mb mc mad mad' mL.length mcap mL.length mcap' (fun i => mL.getD i 0) (fun i => mL.getD i 0) y0 (hn _ hq) (hn' _ hq) (bd_get bM) (bd_get bM)).mono ?_
        rintro e y1 ⟨rfl, kz⟩
        rw [same_refl]
        clear hq
        have hb1 : Below z.heap.size z y1 := hb0.trans (kz.mono hb0.size)
        clear kz
        refine hK _ _ ⟨hb1, ?_⟩
        clear hK K hi
        refine takeW 17 105 (.bool false) rfl rfl (by kernel_rfl) (by kernel_rfl) (by kernel_rfl) (fun _ _ _ h => h) (by kernel_rfl) (by (intro w hSw; go_simp)) (by assumption) ?_
        simp only [List.set_cons_zero, List.set_cons_succ]
        refine takeW 18 106 (.bool false) rfl rfl (by kernel_rfl) (by kernel_rfl) (by kernel_rfl) (fun _ _ _ h => h) (by kernel_rfl) (by (intro w hSw; go_simp)) (by assumption) ?_
        simp only [List.set_cons_zero, List.set_cons_succ]
        refine takeW 19 107 (.bool false) rfl rfl (by kernel_rfl) (by kernel_rfl) (by kernel_rfl) (fun _ _ _ h => h) (by kernel_rfl) (by (intro w hSw; go_simp)) (by assumption) ?_
        simp only [List.set_cons_zero, List.set_cons_succ]
        refine takeW 20 108 (.pointer (some ⟨P, 0, none⟩)) rfl rfl (by kernel_rfl) (by kernel_rfl) (by kernel_rfl) (fun _ _ _ h => h) (by kernel_rfl) (by (intro w hSw; go_simp)) (by assumption) ?_
        simp only [List.set_cons_zero, List.set_cons_succ]
        refine takeW 21 109 (.int .i64 pi) rfl rfl (by kernel_rfl) (by kernel_rfl) (by kernel_rfl) (fun _ _ _ h => h) (by kernel_rfl) (by (intro Y hSw; obtain ⟨_, _, X1, X2, X3, X4, X5⟩ := hB16 Y hSw; go_simp)) (by assumption) ?_
        simp only [List.set_cons_zero, List.set_cons_succ]
        refine takeW 22 110 (.int .i64 pn) rfl rfl (by kernel_rfl) (by kernel_rfl) (by kernel_rfl) (fun _ _ _ h => h) (by kernel_rfl) (by (intro w hSw; go_simp)) (by assumption) ?_
        simp only [List.set_cons_zero, List.set_cons_succ]
        refine takeW 23 111 (.bool false) rfl rfl (by kernel_rfl) (by kernel_rfl) (by kernel_rfl) (fun _ _ _ h => h) (by kernel_rfl) (by (intro Y hSw; go_simp)) (by assumption) ?_
        simp only [List.set_cons_zero, List.set_cons_succ]
        refine takeW 24 112 (.bool false) rfl rfl (by kernel_rfl) (by kernel_rfl) (by kernel_rfl) (fun _ _ _ h => h) (by kernel_rfl) (by (intro w hSw; go_simp)) (by assumption) ?_
        simp only [List.set_cons_zero, List.set_cons_succ]
        refine takeW 25 113 (.bool false) rfl rfl (by kernel_rfl) (by kernel_rfl) (by kernel_rfl) (fun _ _ _ h => h) (by kernel_rfl) (by (intro w hSw; go_simp)) (by assumption) ?_
        simp only [List.set_cons_zero, List.set_cons_succ]
        refine takeW 26 114 (.pointer (some ⟨x1.heap.size, 0, none⟩)) rfl rfl (by kernel_rfl) (by kernel_rfl) (by kernel_rfl) (fun _ _ _ h => h) (by kernel_rfl) (by (intro w hSw; go_simp)) (by assumption) ?_
        simp only [List.set_cons_zero, List.set_cons_succ]
        refine takeW 27 115 (.slice (some ⟨c3, o3, none⟩) O0.length kO3_) rfl rfl (by kernel_rfl) (by kernel_rfl) (by kernel_rfl) (fun _ _ _ h => h) (by kernel_rfl) (by (intro Y hSw; obtain ⟨X1, X2, X3⟩ := hA3 Y (hB16 Y hSw).2.1; go_simp)) (by assumption) ?_
        simp only [List.set_cons_zero, List.set_cons_succ]
        refine takeW 28 116 (.pointer (some ⟨P, 0, none⟩)) rfl rfl (by kernel_rfl) (by kernel_rfl) (by kernel_rfl) (fun _ _ _ h => h) (by kernel_rfl) (by (intro w hSw; go_simp)) (by assumption) ?_
        simp only [List.set_cons_zero, List.set_cons_succ]
        refine takeW 29 117 (.int .i64 pi) rfl rfl (by kernel_rfl) (by kernel_rfl) (by kernel_rfl) (fun _ _ _ h => h) (by kernel_rfl) (by (intro Y hSw; obtain ⟨_, _, X1, X2, X3, X4, X5⟩ := hB16 Y hSw; go_simp)) (by assumption) ?_
        simp only [List.set_cons_zero, List.set_cons_succ]
        refine takeW 30 118 (.pointer (some ⟨c3, o3 + pi, none⟩)) rfl rfl (by kernel_rfl) (by kernel_rfl) (by kernel_rfl) (fun _ _ _ h => h) (by kernel_rfl) (by (intro Y hSw; go_simp; try omega)) (by assumption) ?_
        simp only [List.set_cons_zero, List.set_cons_succ]
        refine takeW 31 119 (.bool true) rfl rfl (by kernel_rfl) (by kernel_rfl) (by kernel_rfl) (fun _ _ _ h => h) (by kernel_rfl) (by (intro Y hSw; have X1 := hcm Y (hB16 Y hSw).2.1; go_simp)) (by assumption) ?_
        simp only [List.set_cons_zero, List.set_cons_succ]
        refine takeW 32 120 (.bool false) rfl rfl (by kernel_rfl) (by kernel_rfl) (by kernel_rfl) (fun _ _ _ h => h) (by kernel_rfl) (by (intro w hSw; go_simp)) (by assumption) ?_
        simp only [List.set_cons_zero, List.set_cons_succ]
        refine takeW 33 121 (.bool false) rfl rfl (by kernel_rfl) (by kernel_rfl) (by kernel_rfl) (fun _ _ _ h => h) (by kernel_rfl) (by (intro w hSw; go_simp)) (by assumption) ?_
        simp only [List.set_cons_zero, List.set_cons_succ]
        refine takeW 34 122 (.bool false) rfl rfl (by kernel_rfl) (by kernel_rfl) (by kernel_rfl) (fun _ _ _ h => h) (by kernel_rfl) (by (intro w hSw; go_simp)) (by assumption) ?_
        simp only [List.set_cons_zero, List.set_cons_succ]
        refine takeW 35 123 (.pointer (some ⟨x1.heap.size, 0, none⟩)) rfl rfl (by kernel_rfl) (by kernel_rfl) (by kernel_rfl) (fun _ _ _ h => h) (by kernel_rfl) (by (intro w hSw; go_simp)) (by assumption) ?_
        simp only [List.set_cons_zero, List.set_cons_succ]
        refine takeW 36 124 (.slice (some ⟨c3, o3, none⟩) O0.length kO3_) rfl rfl (by kernel_rfl) (by kernel_rfl) (by kernel_rfl) (fun _ _ _ h => h) (by kernel_rfl) (by (intro Y hSw; obtain ⟨X1, X2, X3⟩ := hA3 Y (hB16 Y hSw).2.1; go_simp)) (by assumption) ?_
        simp only [List.set_cons_zero, List.set_cons_succ]
        refine takeW 37 125 (.int .i64 pn) rfl rfl (by kernel_rfl) (by kernel_rfl) (by kernel_rfl) (fun _ _ _ h => h) (by kernel_rfl) (by (intro w hSw; go_simp)) (by assumption) ?_
        simp only [List.set_cons_zero, List.set_cons_succ]
        refine takeW 38 126 (.pointer (some ⟨c3, o3 + pn, none⟩)) rfl rfl (by kernel_rfl) (by kernel_rfl) (by kernel_rfl) (fun _ _ _ h => h) (by kernel_rfl) (by (intro Y hSw; go_simp; try omega)) (by assumption) ?_
        simp only [List.set_cons_zero, List.set_cons_succ]
        refine takeW 39 127 (.bool true) rfl rfl (by kernel_rfl) (by kernel_rfl) (by kernel_rfl) (fun _ _ _ h => h) (by kernel_rfl) (by (intro Y hSw; have X1 := hcp Y (hB16 Y hSw).2.1; go_simp)) (by assumption) ?_
        simp only [List.set_cons_zero, List.set_cons_succ]
        refine takeW 40 128 (.bool false) rfl rfl (by kernel_rfl) (by kernel_rfl) (by kernel_rfl) (fun _ _ _ h => h) (by kernel_rfl) (by (intro w hSw; go_simp)) (by assumption) ?_
        simp only [List.set_cons_zero, List.set_cons_succ]
        refine takeW 41 129 (.bool false) rfl rfl (by kernel_rfl) (by kernel_rfl) (by kernel_rfl) (fun _ _ _ h => h) (by kernel_rfl) (by (intro w hSw; go_simp)) (by assumption) ?_
        simp only [List.set_cons_zero, List.set_cons_succ]
        refine takeW 42 130 (.bool false) rfl rfl (by kernel_rfl) (by kernel_rfl) (by kernel_rfl) (fun _ _ _ h => h) (by kernel_rfl) (by (intro w hSw; go_simp)) (by assumption) ?_
        simp only [List.set_cons_zero, List.set_cons_succ]
        refine takeW 43 131 (.int .i64 ((j + 1 : Nat) : Int)) rfl rfl (by kernel_rfl) (by kernel_rfl) (by kernel_rfl) (fun _ _ _ h => h) (by kernel_rfl) (by (intro w hSw; go_simp)) (by assumption) ?_
        simp only [List.set_cons_zero, List.set_cons_succ]
        refine takeW 44 132 (.bool true) rfl rfl (by kernel_rfl) (by kernel_rfl) (by kernel_rfl) (fun _ _ _ h => h) (by kernel_rfl) (by (intro Y hSw; go_simp; try omega)) (by assumption) ?_
        simp only [List.set_cons_zero, List.set_cons_succ]
        refine takeW 45 133 (.bool true) rfl rfl (by kernel_rfl) (by kernel_rfl) (by kernel_rfl) (fun _ _ _ h => h) (by kernel_rfl) (by (intro w hSw; go_simp)) (by assumption) ?_
        simp only [List.set_cons_zero, List.set_cons_succ]
        refine takeW 46 134 (.slice (some ⟨c1, o1, none⟩) Ns4.length kL4) rfl rfl (by kernel_rfl) (by kernel_rfl) (by kernel_rfl) (fun _ _ _ h => h) (by kernel_rfl) (by (intro w hSw; go_simp)) (by assumption) ?_
        simp only [List.set_cons_zero, List.set_cons_succ]
        refine takeW 47 135 (.int .i64 ((j + 1 : Nat) : Int)) rfl rfl (by kernel_rfl) (by kernel_rfl) (by kernel_rfl) (fun _ _ _ h => h) (by kernel_rfl) (by (intro w hSw; go_simp)) (by assumption) ?_
        simp only [List.set_cons_zero, List.set_cons_succ]
        refine takeW 48 136 (.int .i64 (j : Int)) rfl rfl (by kernel_rfl) (by kernel_rfl) (by kernel_rfl) (fun _ _ _ h => h) (by kernel_rfl) (by (intro Y hSw; go_simp; exact wrap_i64' (by omega) (by omega))) (by assumption) ?_
        simp only [List.set_cons_zero, List.set_cons_succ]
        refine takeW 49 137 (.pointer (some ⟨c1, o1 + j * 5, none⟩)) rfl rfl (by kernel_rfl) (by kernel_rfl) (by kernel_rfl) (fun _ _ _ h => h) (by kernel_rfl) (by (intro Y hSw; go_simp; try omega)) (by assumption) ?_
        simp only [List.set_cons_zero, List.set_cons_succ]
        refine takeW 50 138 (.pointer (some ⟨c1, o1 + j * 5, none⟩)) rfl rfl (by kernel_rfl) (by kernel_rfl) (by kernel_rfl) (fun _ _ _ h => h) (by kernel_rfl) (by (intro w hSw; go_simp)) (by assumption) ?_
        simp only [List.set_cons_zero, List.set_cons_succ]
        refine takeW 51 139 (.int .i64 qj) rfl rfl (by kernel_rfl) (by kernel_rfl) (by kernel_rfl) (fun _ _ _ h => h) (by kernel_rfl) (by (intro Y hSw; obtain ⟨X1, X2, X3, X4, X5⟩ := hcj Y (hB16 Y hSw).2.1; go_simp)) (by assumption) ?_
        simp only [List.set_cons_zero, List.set_cons_succ]
        refine takeW 52 140 (.pointer (some ⟨P, 0, none⟩)) rfl rfl (by kernel_rfl) (by kernel_rfl) (by kernel_rfl) (fun _ _ _ h => h) (by kernel_rfl) (by (intro w hSw; go_simp)) (by assumption) ?_
        simp only [List.set_cons_zero, List.set_cons_succ]
        refine takeW 53 141 (.int .i64 pi) rfl rfl (by kernel_rfl) (by kernel_rfl) (by kernel_rfl) (fun _ _ _ h => h) (by kernel_rfl) (by (intro Y hSw; obtain ⟨_, _, X1, X2, X3, X4, X5⟩ := hB16 Y hSw; go_simp)) (by assumption) ?_
        simp only [List.set_cons_zero, List.set_cons_succ]
        refine takeW 54 142 (.bool false) rfl rfl (by kernel_rfl) (by kernel_rfl) (by kernel_rfl) (fun _ _ _ h => h) (by kernel_rfl) (by (intro Y hSw; go_simp)) (by assumption) ?_
        simp only [List.set_cons_zero, List.set_cons_succ]
        refine takeW 55 143 (.bool false) rfl rfl (by kernel_rfl) (by kernel_rfl) (by kernel_rfl) (fun _ _ _ h => h) (by kernel_rfl) (by (intro w hSw; go_simp)) (by assumption) ?_
        simp only [List.set_cons_zero, List.set_cons_succ]
        refine takeW 56 144 (.bool false) rfl rfl (by kernel_rfl) (by kernel_rfl) (by kernel_rfl) (fun _ _ _ h => h) (by kernel_rfl) (by (intro w hSw; go_simp)) (by assumption) ?_
        simp only [List.set_cons_zero, List.set_cons_succ]
        refine takeW 57 145 (.bool false) rfl rfl (by kernel_rfl) (by kernel_rfl) (by kernel_rfl) (fun _ _ _ h => h) (by kernel_rfl) (by (intro w hSw; go_simp)) (by assumption) ?_
        simp only [List.set_cons_zero, List.set_cons_succ]
        refine takeW 58 146 (.pointer (some ⟨P, 1, none⟩)) rfl rfl (by kernel_rfl) (by kernel_rfl) (by kernel_rfl) (fun _ _ _ h => h) (by kernel_rfl) (by (intro w hSw; go_simp)) (by assumption) ?_
        simp only [List.set_cons_zero, List.set_cons_succ]
        refine takeW 59 147 (.agg #[.int .i64 ma, .int .i64 mb, .int .i64 mc, .slice mad mL.length mcap]) rfl rfl (by kernel_rfl) (by kernel_rfl) (by kernel_rfl) (fun _ _ _ h => h) (by kernel_rfl) (by (intro Y hSw; obtain ⟨_, _, X1, X2, X3, X4, X5⟩ := hB16 Y hSw; go_simp)) (by assumption) ?_
        simp only [List.set_cons_zero, List.set_cons_succ]
        refine wpAnyH_all (rs := [60]) (by kernel_rfl) (by simp) ?_
        intro i hi; obtain rfl : i = 60 := by simpa using hi
        refine wpOp_step rfl (fun K hK => ?_)
        rw [if_pos (by kernel_rfl)]
        go_simp
        go_at_call 18
        refine (okImpl ma mb mc mad mL.length mcap y1 (by unfold maxLen; omega)).mono ?_
        rintro e y2 ⟨rfl, kz⟩
        rw [ok1]
        have hb2 : Below z.heap.size z y2 := hb1.trans (kz.mono hb1.size)
        clear kz
        refine hK _ _ ⟨hb2, ?_⟩
        clear hK K hi
        refine takeW 61 149 (.bool false) rfl rfl (by kernel_rfl) (by kernel_rfl) (by kernel_rfl) (fun _ _ _ h => h) (by kernel_rfl) (by (intro w hSw; go_simp)) (by assumption) ?_
        simp only [List.set_cons_zero, List.set_cons_succ]
        refine takeW 62 150 (.bool false) rfl rfl (by kernel_rfl) (by kernel_rfl) (by kernel_rfl) (fun _ _ _ h => h) (by kernel_rfl) (by (intro w hSw; go_simp)) (by assumption) ?_
        simp only [List.set_cons_zero, List.set_cons_succ]
        refine wpAnyH_done (by kernel_rfl) ?_ _
        have hbe := (hB16 y2 hb2).2.1
        clear hb0 hb1 hb2
        go_wp2
        go_roundw
        case rel => exact ⟨(j + 1) + 1, by omega, by go_num, hbe⟩
        case measure => simp [intOf]; omega
    · obtain rfl : k = Ns4.length := by omega
      generalize hgy : wr = xr at *
      clear hgy
      have sxr := hb.size
      have V3 := V3.below hb (by omega)
      have A3 := A3.below hb (by omega)
      have V6 := V6.below hb (by omega)
      have A6 := A6.below hb (by omega)
      have V10 := V10.below hb (by omega)
      have A10 := A10.below hb (by omega)
      have V13 := V13.below hb (by omega)
      have A13 := A13.below hb (by omega)
      have BW := BW.trans (hb.mono BW.size)
      clear hb
      have A10' := A10
      obtain ⟨X1, X2, X3⟩ := A10'
      go_wp2_with fail
      go_at_call 15
      clear X1 X2 X3
      obtain ⟨bg, hbg⟩ : ∃ b, Hid (cOk O2 D2 T2 = b) := ⟨_, rfl⟩
      refine (cardOkI aO10_ kO10_ O2 aM10_ kM10_ D2 aT10_ kT10_ T2 x6.heap.size x7.heap.size xr V10 (by omega) hsz2).mono ?_
      rintro e x14 ⟨rfl, kx14⟩
      rw [hbg.out]
      have sx14 := kx14.size
      have V3 := V3.below kx14 (by omega)
      have A3 := A3.below kx14 (by omega)
      have V6 := V6.below kx14 (by omega)
      have A6 := A6.below kx14 (by omega)
      have V10 := V10.below kx14 (by omega)
      have A10 := A10.below kx14 (by omega)
      have V13 := V13.below kx14 (by omega)
      have A13 := A13.below kx14 (by omega)
      have BW := BW.trans (kx14.mono BW.size)
      clear kx14
      cases bg
      · skip
        have A3' := A3
        obtain ⟨X1, X2, X3⟩ := A3'
        go_wp2_with fail
        go_at_call 15
        clear X1 X2 X3
        obtain ⟨bk, hbk⟩ : ∃ b, Hid (cOk O0 D0 T0 = b) := ⟨_, rfl⟩
        refine (cardOkI aO3_ kO3_ O0 aM3_ kM3_ D0 aT3_ kT3_ T0 w.heap.size x1.heap.size x14 V3 (by omega) hsz).mono ?_
        rintro e x15 ⟨rfl, kx15⟩
        rw [hbk.out]
        have sx15 := kx15.size
        have V3 := V3.below kx15 (by omega)
        have A3 := A3.below kx15 (by omega)
        have V6 := V6.below kx15 (by omega)
        have A6 := A6.below kx15 (by omega)
        have V10 := V10.below kx15 (by omega)
        have A10 := A10.below kx15 (by omega)
        have V13 := V13.below kx15 (by omega)
        have A13 := A13.below kx15 (by omega)
        have BW := BW.trans (kx15.mono BW.size)
        clear kx15
        cases bk
        · go_wp2
          go_ret
          exact ⟨rfl, BW⟩
        have hok : cOk O0 D0 T1 = true := by rw [← hT1.out]; exact cOk_tab hbk.out
        have A6' := A6
        obtain ⟨X1, X2, X3⟩ := A6'
        go_wp2_with fail
        go_at_call 15
        clear X1 X2 X3
        refine (cardOkI aO6_ kO6_ O0 aM6_ kM6_ D0 aT6_ kT6_ T1 x2.heap.size x3.heap.size x15 V6 (by omega) hgl).mono ?_
        rintro e x16 ⟨rfl, kx16⟩
        rw [hok]
        have sx16 := kx16.size
        have V3 := V3.below kx16 (by omega)
        have A3 := A3.below kx16 (by omega)
        have V6 := V6.below kx16 (by omega)
        have A6 := A6.below kx16 (by omega)
        have V10 := V10.below kx16 (by omega)
        have A10 := A10.below kx16 (by omega)
        have V13 := V13.below kx16 (by omega)
        have A13 := A13.below kx16 (by omega)
        have BW := BW.trans (kx16.mono BW.size)
        clear kx16
        go_wp2
        go_ret
        exact ⟨rfl, BW⟩
      by_cases hq0 : 0 ≤ q
      · by_cases hq1 : q < (O2.length : Int)
        · have hg := gO_at (on := on) hbg.out hq0 hq1
          rw [hO5.out] at hg
          obtain ⟨cg, og, hcg, hcG⟩ := V13.vO (by omega)
          have iG := V13.iO ⟨cg, og, none⟩ hcg (by omega)
          simp only [] at iG
          have hGq := hcG q.toNat (by omega)
          simp only [] at hGq
          rw [hg] at hGq
          subst hcg
          obtain ⟨qn, hqn⟩ : ∃ n : Nat, q = (n : Int) := ⟨q.toNat, by omega⟩
          rw [hqn] at hq0 hq1 hGq ⊢
          simp only [Int.toNat_natCast] at hGq
          have A10' := A10
          obtain ⟨U1, U2, U3⟩ := A10'
          have A13' := A13
          obtain ⟨T1', T2', T3'⟩ := A13'
          have dq1 : decide ((qn : Int) < (O2.length : Int)) = true := decide_eq_true hq1
          have dq2 : (qn : Int) < (O5.length : Int) := by omega
          have A3' := A3
          obtain ⟨X1, X2, X3⟩ := A3'
          go_wp2_with fail
          go_at_call 15
          clear X1 X2 X3
          obtain ⟨bk, hbk⟩ : ∃ b, Hid (cOk O0 D0 T0 = b) := ⟨_, rfl⟩
          refine (cardOkI aO3_ kO3_ O0 aM3_ kM3_ D0 aT3_ kT3_ T0 w.heap.size x1.heap.size x14 V3 (by omega) hsz).mono ?_
          rintro e x15 ⟨rfl, kx15⟩
          rw [hbk.out]
          have sx15 := kx15.size
          have V3 := V3.below kx15 (by omega)
          have A3 := A3.below kx15 (by omega)
          have V6 := V6.below kx15 (by omega)
          have A6 := A6.below kx15 (by omega)
          have V10 := V10.below kx15 (by omega)
          have A10 := A10.below kx15 (by omega)
          have V13 := V13.below kx15 (by omega)
          have A13 := A13.below kx15 (by omega)
          have BW := BW.trans (kx15.mono BW.size)
          clear kx15
          cases bk
          · go_wp2
            go_ret
            exact ⟨rfl, BW⟩
          have hok : cOk O0 D0 T1 = true := by rw [← hT1.out]; exact cOk_tab hbk.out
          have A6' := A6
          obtain ⟨X1, X2, X3⟩ := A6'
          go_wp2_with fail
          go_at_call 15
          clear X1 X2 X3
          refine (cardOkI aO6_ kO6_ O0 aM6_ kM6_ D0 aT6_ kT6_ T1 x2.heap.size x3.heap.size x15 V6 (by omega) hgl).mono ?_
          rintro e x16 ⟨rfl, kx16⟩
          rw [hok]
          have sx16 := kx16.size
          have V3 := V3.below kx16 (by omega)
          have A3 := A3.below kx16 (by omega)
          have V6 := V6.below kx16 (by omega)
          have A6 := A6.below kx16 (by omega)
          have V10 := V10.below kx16 (by omega)
          have A10 := A10.below kx16 (by omega)
          have V13 := V13.below kx16 (by omega)
          have A13 := A13.below kx16 (by omega)
          have BW := BW.trans (kx16.mono BW.size)
          clear kx16
          go_wp2
          go_ret
          exact ⟨rfl, BW⟩
        · have dq1 : decide (q < (O2.length : Int)) = false := decide_eq_false hq1
          have A10' := A10
          obtain ⟨U1, U2, U3⟩ := A10'
          have A3' := A3
          obtain ⟨X1, X2, X3⟩ := A3'
          go_wp2_with fail
          go_at_call 15
          clear X1 X2 X3
          obtain ⟨bk, hbk⟩ : ∃ b, Hid (cOk O0 D0 T0 = b) := ⟨_, rfl⟩
          refine (cardOkI aO3_ kO3_ O0 aM3_ kM3_ D0 aT3_ kT3_ T0 w.heap.size x1.heap.size x14 V3 (by omega) hsz).mono ?_
          rintro e x15 ⟨rfl, kx15⟩
          rw [hbk.out]
          have sx15 := kx15.size
          have V3 := V3.below kx15 (by omega)
          have A3 := A3.below kx15 (by omega)
          have V6 := V6.below kx15 (by omega)
          have A6 := A6.below kx15 (by omega)
          have V10 := V10.below kx15 (by omega)
          have A10 := A10.below kx15 (by omega)
          have V13 := V13.below kx15 (by omega)
          have A13 := A13.below kx15 (by omega)
          have BW := BW.trans (kx15.mono BW.size)
          clear kx15
          cases bk
          · go_wp2
            go_ret
            exact ⟨rfl, BW⟩
          have hok : cOk O0 D0 T1 = true := by rw [← hT1.out]; exact cOk_tab hbk.out
          have A6' := A6
          obtain ⟨X1, X2, X3⟩ := A6'
          go_wp2_with fail
          go_at_call 15
          clear X1 X2 X3
          refine (cardOkI aO6_ kO6_ O0 aM6_ kM6_ D0 aT6_ kT6_ T1 x2.heap.size x3.heap.size x15 V6 (by omega) hgl).mono ?_
          rintro e x16 ⟨rfl, kx16⟩
          rw [hok]
          have sx16 := kx16.size
          have V3 := V3.below kx16 (by omega)
          have A3 := A3.below kx16 (by omega)
          have V6 := V6.below kx16 (by omega)
          have A6 := A6.below kx16 (by omega)
          have V10 := V10.below kx16 (by omega)
          have A10 := A10.below kx16 (by omega)
          have V13 := V13.below kx16 (by omega)
          have A13 := A13.below kx16 (by omega)
          have BW := BW.trans (kx16.mono BW.size)
          clear kx16
          go_wp2
          go_ret
          exact ⟨rfl, BW⟩
      · have dq0 : decide (0 ≤ q) = false := decide_eq_false hq0
        have A3' := A3
        obtain ⟨X1, X2, X3⟩ := A3'
        go_wp2_with fail
        go_at_call 15
        clear X1 X2 X3
        obtain ⟨bk, hbk⟩ : ∃ b, Hid (cOk O0 D0 T0 = b) := ⟨_, rfl⟩
        refine (cardOkI aO3_ kO3_ O0 aM3_ kM3_ D0 aT3_ kT3_ T0 w.heap.size x1.heap.size x14 V3 (by omega) hsz).mono ?_
        rintro e x15 ⟨rfl, kx15⟩
        rw [hbk.out]
        have sx15 := kx15.size
        have V3 := V3.below kx15 (by omega)
        have A3 := A3.below kx15 (by omega)
        have V6 := V6.below kx15 (by omega)
        have A6 := A6.below kx15 (by omega)
        have V10 := V10.below kx15 (by omega)
        have A10 := A10.below kx15 (by omega)
        have V13 := V13.below kx15 (by omega)
        have A13 := A13.below kx15 (by omega)
        have BW := BW.trans (kx15.mono BW.size)
        clear kx15
        cases bk
        · go_wp2
          go_ret
          exact ⟨rfl, BW⟩
        have hok : cOk O0 D0 T1 = true := by rw [← hT1.out]; exact cOk_tab hbk.out
        have A6' := A6
        obtain ⟨X1, X2, X3⟩ := A6'
        go_wp2_with fail
        go_at_call 15
        clear X1 X2 X3
        refine (cardOkI aO6_ kO6_ O0 aM6_ kM6_ D0 aT6_ kT6_ T1 x2.heap.size x3.heap.size x15 V6 (by omega) hgl).mono ?_
        rintro e x16 ⟨rfl, kx16⟩
        rw [hok]
        have sx16 := kx16.size
        have V3 := V3.below kx16 (by omega)
        have A3 := A3.below kx16 (by omega)
        have V6 := V6.below kx16 (by omega)
        have A6 := A6.below kx16 (by omega)
        have V10 := V10.below kx16 (by omega)
        have A10 := A10.below kx16 (by omega)
        have V13 := V13.below kx16 (by omega)
        have A13 := A13.below kx16 (by omega)
        have BW := BW.trans (kx16.mono BW.size)
        clear kx16
        go_wp2
        go_ret
        exact ⟨rfl, BW⟩

set_option maxRecDepth 100000 in
theorem lifted (os : Os) (started : os.Started) (H : Type) (enc : TypeId × Value → H) :
    ReturnsInHanded {} Tryz.checked os 3 .any (Rows.fnCardsSpec.pre6 enc Tryz.prog Tryz.f3 Rows.fnCardsRow.domain false) (Rows.fnCardsSpec.post enc Tryz.prog Tryz.f3 false true false false) := by
  refine returnsInHanded_of_change (C := Tryz.checked) own started (by kernel_rfl) Tryz.func3
    (ChangeSpec.witness6 (enc := enc) (C := Tryz.checked) false ⟨#[], #[.slice none 0 0], []⟩ 8 (by kernel_rfl) (by kernel_rfl) (by kernel_rfl) (by kernel_rfl)) ?_
  intro W base args ds gs before hval0 hW hcnd _
  have hval : ∀ (j : Nat) t v, Tryz.f3.params[j]? = some t → args[j]? = some v → Value.okWide Tryz.prog W .any base t v := hval0
  have hW' := hW
  obtain ⟨p, q, hA0, hV, rfl, hfz, hnd⟩ := hW
  have hA : DataW.TrodAll enc Tryz.prog W 0 (fun _ => true) true Tryz.f3.params.toList args.toList ds p := hA0
  rw [Tryz.params3] at hA hval
  obtain ⟨v0, vs0, d0, ds0, p0, q0, hargs, rfl, rfl, h0, r0⟩ := trodAll_cons hA
  obtain ⟨rfl, rfl, rfl⟩ := trodAll_nil r0
  obtain rfl : args = #[v0] := by cases args; simp_all
  obtain ⟨rfl, rfl⟩ := trodVars_none hV
  obtain ⟨ad0, len0, cap0, f0, rfl, I0⟩ := codeIn_open (hval 0 22 v0 rfl rfl) h0
  have lt0 : ∀ x ∈ p0, x.block < W.heap.size := by obtain ⟨m, hm⟩ := h0; exact DataW.trod_lt m _ _ _ hm
  clear hA0 hval0
  refine (walk ad0 len0 cap0 f0 W I0).mono fun e W' ⟨he, bel⟩ => ?_
  subst he
  exact ⟨_, rfl, _, _, _, [], _, [], hW', trodAll_mk1 (shut_bool Tryz.underlying4 _), (trodAll_cons_mk (Below.trod laidOut (by kernel_rfl) (of_decide_eq_true (by kernel_rfl)) h0 bel lt0) trodAll_mk0), rfl, bel.frame _, fun h => by cases h⟩

theorem over : Rows.fnCardsRow.holds Tryz.pinned (OpenSpec.ofChange Rows.fnCardsSpec) :=
  OpenClaim.holds_of_wide 3 Tryz.f3 rfl rfl rfl rfl rfl rfl rfl ⟨rfl, rfl, rfl, rfl, rfl⟩ rfl rfl rfl rfl rfl (by kernel_rfl) Tryz.func3 (by kernel_rfl)
    (of_decide_eq_true (by kernel_rfl)) (by unfold Func.isWrapper; first | (rw [if_pos (by decide +kernel)]; kernel_rfl) | (rw [if_neg (by decide +kernel)]; exact ⟨rfl, rfl⟩))
    (fun os started H enc _ => lifted os started H enc)

theorem proved : Rows.FnCardsSaid := over
end Go.Proofs.YtifndemkkaelaaaGreat.fnCards
namespace Go.Proofs.YtifndemkkaelaaaGreat
theorem cards_holds : Rows.FnCardsSaid := fnCards.proved
#print axioms cards_holds
end Go.Proofs.YtifndemkkaelaaaGreat
