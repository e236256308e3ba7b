/- For every bridge the call of FnExactDecide returns true: impl.Decide answers as spec.Decide, every field, it writes into no argument, and its answer owns its memory. No condition. -/
import Derived.Test.YtbffdkjgadhdoabRows
import Derived.Test.YtbffdkjgadhdoabBr8s
import Derived.Test.YtbffdkjgadhdoabBr8
import Derived.Test.YtbffdkjgadhdoabBr2
import Derived.Deep.Cut
import Derived.WalkKit
import Derived.Below
import Derived.ChangeOld
import Derived.WalkSmall
import Derived.ProofKit
import Derived.OpenShut
import Derived.ShutString
import Derived.BigQuiet
namespace Go.Proofs.Ytbffdkjgadhdoab.fnExactDecide
open Go.ChangeShapes Go.WideShapes Go.ChangeAt Go.RowKit
set_option linter.unusedVariables false

theorem own : ownKnob Try.prog.godebug = none := by kernel_rfl
theorem laidOut : laidOutB Try.prog = true := by kernel_rfl

set_option maxHeartbeats 8000000 in
set_option maxRecDepth 100000 in
theorem walk (id0 : Int) (ad0 : Option Addr) (cap0 : Nat) (L0 : List Pt) (w : World) (I0 : (Lit.int .i64 id0).wf = true ∧ BrIn w ad0 cap0 L0) :
    Calls Try.prog 5 #[.agg #[.int .i64 id0, .slice ad0 L0.length cap0]] w fun e w' => e = .returned (.bool true) ∧ Below w.heap.size w w' := by
  obtain ⟨hwf, hlm, V0, hn0⟩ := I0
  clear hwf
  obtain ⟨x0, hx⟩ : ∃ y_, y_ = w.alloc (Obj.cells #[.int .i64 id0, .slice ad0 L0.length cap0] 24) := ⟨_, rfl⟩
  have A0 : BrAt x0 w.heap.size id0 (.slice ad0 L0.length cap0) := by rw [hx]; exact BrAt.new w _ _ _
  have BW : Below w.heap.size w x0 := by rw [hx]; exact below_new _
  have lx0 := A0.lt
  have vb : ∀ a, ad0 = some a → 0 < L0.length → a.block < w.heap.size := V0.lt ptEnc_len (by omega)
  have V0 := V0.below BW vb
  go_enter Try.func5, Try.ntmps5
  go_wp2_with fail
  go_at_call 8
  rw [← hx]
  clear hx
  refine (brSz id0 ad0 L0.length cap0 1048576 x0 (by decide) (by decide) hlm).mono ?_
  rintro e y1 ⟨rfl, kq⟩
  have sy1 := kq.size
  have A0 := A0.below kq A0.lt
  have V0 := V0.below kq (V0.lt ptEnc_len (by omega))
  have BW := BW.trans (kq.mono BW.size)
  clear kq
  by_cases hl : L0.length ≤ 1048576
  rotate_left
  · rw [if_neg (by omega)]
    go_wp2
    go_ret
    exact ⟨rfl, BW⟩
  rw [if_pos (by omega)]
  have hlf : 0 ≤ 1048576 - (L0.length : Int) := by omega
  generalize 1048576 - (L0.length : Int) = lf at hlf ⊢
  obtain ⟨D, hD⟩ : ∃ D, decideR id0 L0 = D := ⟨_, rfl⟩
  have hDl : D.length ≤ 1048576 := by rw [← hD, decideR_len]; exact hl
  replace hD : Hid _ := hD
  have cc := A0
  obtain ⟨m0_0, m0_1⟩ := cc
  go_wp2_with fail
  go_at_call 10
  clear m0_0 m0_1
  refine (brTo id0 ad0 cap0 L0 y1 V0 hl).mono ?_
  rintro e x1 ⟨gO1, rfl, _, _, O1, kq⟩
  have sx1 := kq.size
  have A0 := A0.below kq A0.lt
  have V0 := V0.below kq (V0.lt ptEnc_len (by omega))
  have BW := BW.trans (kq.mono BW.size)
  clear kq
  have iO1 : ∀ g, (Value.slice (some ⟨gO1, 0, none⟩) L0.length L0.length).ownBlock = some g → y1.heap.size ≤ g ∧ g < x1.heap.size := fun g e => O1.lt g e
  go_wp2_with fail
  go_at_call 16
  refine (decideS id0 (some ⟨gO1, 0, none⟩) L0.length L0 x1 O1.view.2 hl (fun e => by cases e)).mono ?_
  rintro e x2 ⟨aW, cW, rfl, OW, kq⟩
  have sx2 := kq.size
  have A0 := A0.below kq A0.lt
  have V0 := V0.below kq (V0.lt ptEnc_len (by omega))
  have BW := BW.trans (kq.mono BW.size)
  clear kq
  rw [hD.out] at OW ⊢
  have iOW : ∀ g, (Value.slice aW D.length cW).ownBlock = some g → x1.heap.size ≤ g ∧ g < x2.heap.size := fun g e => OW.lt g e
  obtain ⟨x3, hx3⟩ : ∃ y_, y_ = x2.alloc (Obj.cells #[.int .i64 id0, .slice aW D.length cW] 31) := ⟨_, rfl⟩
  have AW : BrAt x3 x2.heap.size id0 (.slice aW D.length cW) := by rw [hx3]; exact BrAt.new x2 _ _ _
  have kq : Below x2.heap.size x2 x3 := by rw [hx3]; exact below_new _
  have lx3 := AW.lt
  have sx3 := kq.size
  have A0 := A0.below kq A0.lt
  have V0 := V0.below kq (V0.lt ptEnc_len (by omega))
  have OW := OW.later kq
  have BW := BW.trans (kq.mono BW.size)
  clear kq
  go_upto_region 6 with fail
  rw [← hx3]
  clear hx3
  have cc := A0
  obtain ⟨m0_0, m0_1⟩ := cc
  go_wp2_with fail
  go_at_call 10
  clear m0_0 m0_1
  refine (brTo id0 ad0 cap0 L0 x3 V0 hl).mono ?_
  rintro e x4 ⟨gOX, rfl, _, _, OX, kq⟩
  have sx4 := kq.size
  have A0 := A0.below kq A0.lt
  have V0 := V0.below kq (V0.lt ptEnc_len (by omega))
  have OW := OW.later kq
  have AW := AW.below kq AW.lt
  have BW := BW.trans (kq.mono BW.size)
  clear kq
  have iOX : ∀ g, (Value.slice (some ⟨gOX, 0, none⟩) L0.length L0.length).ownBlock = some g → x3.heap.size ≤ g ∧ g < x4.heap.size := fun g e => OX.lt g e
  obtain ⟨x5, hx5⟩ : ∃ y_, y_ = x4.alloc (Obj.cells #[.int .i64 id0, .slice (some ⟨gOX, 0, none⟩) L0.length L0.length] 31) := ⟨_, rfl⟩
  have AX : BrAt x5 x4.heap.size id0 (.slice (some ⟨gOX, 0, none⟩) L0.length L0.length) := by rw [hx5]; exact BrAt.new x4 _ _ _
  have kq : Below x4.heap.size x4 x5 := by rw [hx5]; exact below_new _
  have lx5 := AX.lt
  have sx5 := kq.size
  have A0 := A0.below kq A0.lt
  have V0 := V0.below kq (V0.lt ptEnc_len (by omega))
  have OW := OW.later kq
  have AW := AW.below kq AW.lt
  have OX := OX.later kq
  have BW := BW.trans (kq.mono BW.size)
  clear kq
  go_upto_region 7 with fail
  rw [← hx5]
  clear hx5
  have cc := AX
  obtain ⟨m0_0, m0_1⟩ := cc
  go_wp2_with fail
  go_at_call 17
  clear m0_0 m0_1
  refine (decideI id0 (some ⟨gOX, 0, none⟩) L0.length L0 x5 OX.view.2 hl (fun e => by cases e)).mono ?_
  rintro e x6 ⟨aG, cG, rfl, OG, kq⟩
  have sx6 := kq.size
  have A0 := A0.below kq A0.lt
  have V0 := V0.below kq (V0.lt ptEnc_len (by omega))
  have OW := OW.later kq
  have AW := AW.below kq AW.lt
  have OX := OX.later kq
  have AX := AX.below kq AX.lt
  have BW := BW.trans (kq.mono BW.size)
  clear kq
  rw [hD.out] at OG ⊢
  have iOG : ∀ g, (Value.slice aG D.length cG).ownBlock = some g → x5.heap.size ≤ g ∧ g < x6.heap.size := fun g e => OG.lt g e
  obtain ⟨x7, hx7⟩ : ∃ y_, y_ = x6.alloc (Obj.cells #[.int .i64 id0, .slice aG D.length cG] 31) := ⟨_, rfl⟩
  have AG : BrAt x7 x6.heap.size id0 (.slice aG D.length cG) := by rw [hx7]; exact BrAt.new x6 _ _ _
  have kq : Below x6.heap.size x6 x7 := by rw [hx7]; exact below_new _
  have lx7 := AG.lt
  have sx7 := kq.size
  have A0 := A0.below kq A0.lt
  have V0 := V0.below kq (V0.lt ptEnc_len (by omega))
  have OW := OW.later kq
  have AW := AW.below kq AW.lt
  have OX := OX.later kq
  have AX := AX.below kq AX.lt
  have OG := OG.later kq
  have BW := BW.trans (kq.mono BW.size)
  clear kq
  go_upto_region 8 with fail
  rw [← hx7]
  clear hx7
  have cc := AG
  obtain ⟨m0_0, m0_1⟩ := cc
  have cc := AW
  obtain ⟨m1_0, m1_1⟩ := cc
  go_wp2_with fail
  go_at_call 13
  clear m0_0 m0_1 m1_0 m1_1
  refine (brEq id0 aG aW cG cW D x7 OG.view.2 OW.view.2 hDl).mono ?_
  rintro e x8 ⟨rfl, kq⟩
  have sx8 := kq.size
  have A0 := A0.below kq A0.lt
  have V0 := V0.below kq (V0.lt ptEnc_len (by omega))
  have OW := OW.later kq
  have AW := AW.below kq AW.lt
  have OX := OX.later kq
  have AX := AX.below kq AX.lt
  have OG := OG.later kq
  have AG := AG.below kq AG.lt
  have BW := BW.trans (kq.mono BW.size)
  clear kq
  go_upto_region 10 with fail
  refine wp_region_held (S := fun Y => Below x8.heap.size x8 Y) (by kernel_rfl) ?_
  change wpAnyH _ _ _ _ _ _ _ _ (World.drew _)
  have hb0 : Below x8.heap.size x8 x8.drew := (Below.refl _ _).drew
  obtain ⟨u0, hy0⟩ : ∃ y_, y_ = x8.drew := ⟨_, rfl⟩
  rw [← hy0] at hb0 ⊢
  clear hy0
  refine takeW 0 27 (.agg #[.int .i64 id0, .slice (some ⟨gOX, 0, none⟩) L0.length L0.length]) rfl rfl (by kernel_rfl) (by kernel_rfl) (by kernel_rfl) (fun _ _ _ h => h) (by kernel_rfl) (by (intro Y hSw; obtain ⟨X0, X1⟩ := AX.below hSw AX.lt; go_simp)) (by assumption) ?_
  simp only [List.set_cons_zero, List.set_cons_succ]
  refine takeW 1 28 (.agg #[.int .i64 id0, .slice ad0 L0.length cap0]) rfl rfl (by kernel_rfl) (by kernel_rfl) (by kernel_rfl) (fun _ _ _ h => h) (by kernel_rfl) (by (intro Y hSw; obtain ⟨X0, X1⟩ := A0.below hSw A0.lt; go_simp)) (by assumption) ?_
  simp only [List.set_cons_zero, List.set_cons_succ]
  refine wpAnyH_all (rs := [2]) (by kernel_rfl) (by simp) ?_
  intro i hi; obtain rfl : i = 2 := by simpa using hi
  refine wpOp_step rfl (fun K hK => ?_)
  rw [if_pos (by kernel_rfl)]
  go_simp
  go_at_call 10
  refine (brTo id0 ad0 cap0 L0 u0 (V0.below hb0 (V0.lt ptEnc_len (by omega))) hl).mono ?_
  rintro e u1 ⟨gz, rfl, _, _, oz, kq⟩
  have hb1 : Below x8.heap.size x8 u1 := hb0.trans (kq.mono hb0.size)
  clear kq
  refine hK _ _ ⟨hb1, ?_⟩
  clear hK K hi
  refine wpAnyH_all (rs := [3]) (by kernel_rfl) (by simp) ?_
  intro i hi; obtain rfl : i = 3 := by simpa using hi
  refine wpOp_step rfl (fun K hK => ?_)
  rw [if_pos (by kernel_rfl)]
  go_simp
  go_at_call 13
  refine (brEq id0 (some ⟨gOX, 0, none⟩) (some ⟨gz, 0, none⟩) L0.length L0.length L0 u1 (OX.later hb1).view.2 oz.view.2 hl).mono ?_
  rintro e u2 ⟨rfl, kq⟩
  have hb2 : Below x8.heap.size x8 u2 := hb1.trans (kq.mono hb1.size)
  clear kq oz
  refine hK _ _ ⟨hb2, ?_⟩
  clear hK K hi
  refine takeW 4 31 (.bool false) rfl rfl (by kernel_rfl) (by kernel_rfl) (by kernel_rfl) (fun _ _ _ h => h) (by kernel_rfl) (by (intro w hSw; go_simp)) (by assumption) ?_
  simp only [List.set_cons_zero, List.set_cons_succ]
  refine wpAnyH_done (by kernel_rfl) ?_ _
  have su2 := hb2.size
  have A0 := A0.below hb2 A0.lt
  have V0 := V0.below hb2 (V0.lt ptEnc_len (by omega))
  have OW := OW.later hb2
  have AW := AW.below hb2 AW.lt
  have OX := OX.later hb2
  have AX := AX.below hb2 AX.lt
  have OG := OG.later hb2
  have AG := AG.below hb2 AG.lt
  have BW := BW.trans (hb2.mono BW.size)
  clear hb2
  clear hb0 hb1
  have cc := AX
  obtain ⟨m0_0, m0_1⟩ := cc
  go_wp2_with fail
  go_at_call 18
  clear m0_0 m0_1
  refine (brMark id0 (some ⟨gOX, 0, none⟩) L0.length 1 _ L0 u2 OX (by omega) (by decide) (by decide)).mono ?_
  rintro e x9 ⟨rfl, OX', gq⟩
  have iOX' := iOX
  have sx9 := gq.size
  have A0 := A0.keep (gq.block _ A0.lt (fun e => by have := iOX _ e.symm; omega))
  have V0 := V0.carry (fun a e p => gq.block _ (V0.lt ptEnc_len (by omega) a e p) (fun e2 => by have := iOX _ e2.symm; have := vb a e p; omega))
  have OW := OW.keep (fun g' e' => gq.block g' (OW.lt g' e').2 (fun e2 => by have := iOX _ e2.symm; have := iOW _ e'; omega))
  have AW := AW.keep (gq.block _ AW.lt (fun e => by have := iOX _ e.symm; omega))
  have AX := AX.keep (gq.block _ AX.lt (fun e => by have := iOX _ e.symm; omega))
  have OG := OG.keep (fun g' e' => gq.block g' (OG.lt g' e').2 (fun e2 => by have := iOX _ e2.symm; have := iOG _ e'; omega))
  have AG := AG.keep (gq.block _ AG.lt (fun e => by have := iOX _ e.symm; omega))
  have BW := BW.grown gq BW.size (fun g' e => by have := iOX _ e; omega)
  clear gq
  have OX := OX'
  clear OX'
  have hk0 : 0 ≤ 1 + 11 * (L0.length : Int) := by omega
  have cc := AG
  obtain ⟨m0_0, m0_1⟩ := cc
  have cc := AW
  obtain ⟨m1_0, m1_1⟩ := cc
  go_wp2_with fail
  go_at_call 13
  clear m0_0 m0_1 m1_0 m1_1
  refine (brEq id0 aG aW cG cW D x9 OG.view.2 OW.view.2 hDl).mono ?_
  rintro e x10 ⟨rfl, kq⟩
  have sx10 := kq.size
  have A0 := A0.below kq A0.lt
  have V0 := V0.below kq (V0.lt ptEnc_len (by omega))
  have OW := OW.later kq
  have AW := AW.below kq AW.lt
  have AX := AX.below kq AX.lt
  have OG := OG.later kq
  have AG := AG.below kq AG.lt
  have BW := BW.trans (kq.mono BW.size)
  clear kq
  have cc := AG
  obtain ⟨m0_0, m0_1⟩ := cc
  go_wp2_with fail
  go_at_call 18
  clear m0_0 m0_1
  refine (brMark id0 (aG) cG 1 _ D x10 OG (by omega) (by decide) (by decide)).mono ?_
  rintro e x11 ⟨rfl, OG', gq⟩
  have iOG' := iOG
  have sx11 := gq.size
  have A0 := A0.keep (gq.block _ A0.lt (fun e => by have := iOG _ e.symm; omega))
  have V0 := V0.carry (fun a e p => gq.block _ (V0.lt ptEnc_len (by omega) a e p) (fun e2 => by have := iOG _ e2.symm; have := vb a e p; omega))
  have OW := OW.keep (fun g' e' => gq.block g' (OW.lt g' e').2 (fun e2 => by have := iOG _ e2.symm; have := iOW _ e'; omega))
  have AW := AW.keep (gq.block _ AW.lt (fun e => by have := iOG _ e.symm; omega))
  have AX := AX.keep (gq.block _ AX.lt (fun e => by have := iOG _ e.symm; omega))
  have AG := AG.keep (gq.block _ AG.lt (fun e => by have := iOG _ e.symm; omega))
  have BW := BW.grown gq BW.size (fun g' e => by have := iOG _ e; omega)
  clear gq
  have OG := OG'
  clear OG'
  have hk0 : 0 ≤ 1 + 11 * (D.length : Int) := by omega
  obtain ⟨m, hm⟩ : ∃ m, m = 1 + 11 * (D.length : Int) := ⟨_, rfl⟩
  have m0 : 0 ≤ m := by omega
  rw [← hm]
  replace hm : Hid _ := hm
  have hml : ((List.range D.length).map (ptMk 1)).length = D.length := by simp
  have cc := AG
  obtain ⟨m0_0, m0_1⟩ := cc
  go_wp2_with fail
  go_at_call 19
  clear m0_0 m0_1
  refine (brHeld id0 aG D.length cG 1 x11 (by have := OG.view.2; exact this) hDl (by decide) (by decide)).mono ?_
  rintro e x12 ⟨rfl, kq⟩
  have sx12 := kq.size
  have A0 := A0.below kq A0.lt
  have V0 := V0.below kq (V0.lt ptEnc_len (by omega))
  have OW := OW.later kq
  have AW := AW.below kq AW.lt
  have AX := AX.below kq AX.lt
  have OG := OG.later kq
  have AG := AG.below kq AG.lt
  have BW := BW.trans (kq.mono BW.size)
  clear kq
  rw [← hm.out]
  have cc := A0
  obtain ⟨m0_0, m0_1⟩ := cc
  go_wp2_with fail
  go_at_call 10
  clear m0_0 m0_1
  refine (brTo id0 ad0 cap0 L0 x12 V0 hl).mono ?_
  rintro e x13 ⟨gOH, rfl, _, _, OH, kq⟩
  have sx13 := kq.size
  have A0 := A0.below kq A0.lt
  have V0 := V0.below kq (V0.lt ptEnc_len (by omega))
  have OW := OW.later kq
  have AW := AW.below kq AW.lt
  have AX := AX.below kq AX.lt
  have OG := OG.later kq
  have AG := AG.below kq AG.lt
  have BW := BW.trans (kq.mono BW.size)
  clear kq
  have iOH : ∀ g, (Value.slice (some ⟨gOH, 0, none⟩) L0.length L0.length).ownBlock = some g → x12.heap.size ≤ g ∧ g < x13.heap.size := fun g e => OH.lt g e
  go_wp2_with fail
  go_at_call 17
  refine (decideI id0 (some ⟨gOH, 0, none⟩) L0.length L0 x13 OH.view.2 hl (fun e => by cases e)).mono ?_
  rintro e x14 ⟨aH, cH, rfl, OZ, kq⟩
  have sx14 := kq.size
  have A0 := A0.below kq A0.lt
  have V0 := V0.below kq (V0.lt ptEnc_len (by omega))
  have OW := OW.later kq
  have AW := AW.below kq AW.lt
  have AX := AX.below kq AX.lt
  have OG := OG.later kq
  have AG := AG.below kq AG.lt
  have BW := BW.trans (kq.mono BW.size)
  clear kq
  rw [hD.out] at OZ ⊢
  have iOZ : ∀ g, (Value.slice aH D.length cH).ownBlock = some g → x13.heap.size ≤ g ∧ g < x14.heap.size := fun g e => OZ.lt g e
  obtain ⟨x15, hx15⟩ : ∃ y_, y_ = x14.alloc (Obj.cells #[.int .i64 id0, .slice aH D.length cH] 31) := ⟨_, rfl⟩
  have AH : BrAt x15 x14.heap.size id0 (.slice aH D.length cH) := by rw [hx15]; exact BrAt.new x14 _ _ _
  have kq : Below x14.heap.size x14 x15 := by rw [hx15]; exact below_new _
  have lx15 := AH.lt
  have sx15 := kq.size
  have A0 := A0.below kq A0.lt
  have V0 := V0.below kq (V0.lt ptEnc_len (by omega))
  have OW := OW.later kq
  have AW := AW.below kq AW.lt
  have AX := AX.below kq AX.lt
  have OG := OG.later kq
  have AG := AG.below kq AG.lt
  have OZ := OZ.later kq
  have BW := BW.trans (kq.mono BW.size)
  clear kq
  go_upto_region 25 with fail
  rw [← hx15]
  clear hx15
  have cc := AH
  obtain ⟨m0_0, m0_1⟩ := cc
  have cc := AW
  obtain ⟨m1_0, m1_1⟩ := cc
  go_wp2_with fail
  go_at_call 13
  clear m0_0 m0_1 m1_0 m1_1
  refine (brEq id0 aH aW cH cW D x15 OZ.view.2 OW.view.2 hDl).mono ?_
  rintro e x16 ⟨rfl, kq⟩
  have sx16 := kq.size
  have A0 := A0.below kq A0.lt
  have V0 := V0.below kq (V0.lt ptEnc_len (by omega))
  have OW := OW.later kq
  have AW := AW.below kq AW.lt
  have AX := AX.below kq AX.lt
  have OG := OG.later kq
  have AG := AG.below kq AG.lt
  have OZ := OZ.later kq
  have AH := AH.below kq AH.lt
  have BW := BW.trans (kq.mono BW.size)
  clear kq
  have cc := AG
  obtain ⟨m0_0, m0_1⟩ := cc
  go_wp2_with fail
  go_at_call 19
  clear m0_0 m0_1
  refine (brHeld id0 aG D.length cG 1 x16 (by have := OG.view.2; exact this) hDl (by decide) (by decide)).mono ?_
  rintro e x17 ⟨rfl, kq⟩
  have sx17 := kq.size
  have A0 := A0.below kq A0.lt
  have V0 := V0.below kq (V0.lt ptEnc_len (by omega))
  have OW := OW.later kq
  have AW := AW.below kq AW.lt
  have AX := AX.below kq AX.lt
  have OG := OG.later kq
  have AG := AG.below kq AG.lt
  have OZ := OZ.later kq
  have AH := AH.below kq AH.lt
  have BW := BW.trans (kq.mono BW.size)
  clear kq
  rw [← hm.out]
  go_wp2
  go_ret
  exact ⟨rfl, BW⟩


set_option maxRecDepth 100000 in
theorem lifted (os : Os) (started : os.Started) (H : Type) (enc : TypeId × Value → H) :
    ReturnsInHanded {} Try.checked os 5 .any (Rows.fnExactDecideSpec.pre6 enc Try.prog Try.f5 Rows.fnExactDecideRow.domain false) (Rows.fnExactDecideSpec.post enc Try.prog Try.f5 false true false false) := by
  refine returnsInHanded_of_change (C := Try.checked) own started (by kernel_rfl) Try.func5
    (ChangeSpec.witness6 (enc := enc) (C := Try.checked) false ⟨#[], #[.agg #[.int .i64 0, .slice none 0 0]], []⟩ 8 (by kernel_rfl) (by kernel_rfl) (by kernel_rfl) (by kernel_rfl)) ?_
  intro W base args ds gs before hval0 hW hcnd _
  have hval : ∀ (j : Nat) t v, Try.f5.params[j]? = some t → args[j]? = some v → Value.okWide Try.prog W .any base t v := hval0
  have hW' := hW
  obtain ⟨p, q, hA0, hV, rfl, hfz, hnd⟩ := hW
  have hA : DataW.TrodAll enc Try.prog W 0 (fun _ => true) true Try.f5.params.toList args.toList ds p := hA0
  rw [Try.params5] at hA hval
  obtain ⟨v0, vs0, d0, ds0, p0, q0, hargs, rfl, rfl, h0, r0⟩ := trodAll_cons hA
  obtain ⟨rfl, rfl, rfl⟩ := trodAll_nil r0
  obtain rfl : args = #[v0] := by cases args; simp_all
  obtain ⟨rfl, rfl⟩ := trodVars_none hV
  obtain ⟨id0, ad0, cap0, L0, rfl, I0⟩ := brIn_open (hval 0 24 v0 rfl rfl) h0
  have lt0 : ∀ x ∈ p0, x.block < W.heap.size := by obtain ⟨m, hm⟩ := h0; exact DataW.trod_lt m _ _ _ hm
  clear hA0 hval0
  refine (walk id0 ad0 cap0 L0 W I0).mono fun e W' ⟨he, bel⟩ => ?_
  subst he
  exact ⟨_, rfl, _, _, _, [], _, [], hW', trodAll_mk1 (shut_bool Try.underlying4 _), (trodAll_cons_mk (Below.trod laidOut (by kernel_rfl) (of_decide_eq_true (by kernel_rfl)) h0 bel lt0) trodAll_mk0), rfl, bel.frame _, fun h => by cases h⟩

theorem over : Rows.fnExactDecideRow.holds Try.pinned (OpenSpec.ofChange Rows.fnExactDecideSpec) :=
  OpenClaim.holds_of_wide 5 Try.f5 rfl rfl rfl rfl rfl rfl rfl ⟨rfl, rfl, rfl, rfl, rfl⟩ rfl rfl rfl rfl rfl (by kernel_rfl) Try.func5 (by kernel_rfl)
    (of_decide_eq_true (by kernel_rfl)) (by unfold Func.isWrapper; first | (rw [if_pos (by decide +kernel)]; kernel_rfl) | (rw [if_neg (by decide +kernel)]; exact ⟨rfl, rfl⟩))
    (fun os started H enc _ => lifted os started H enc)

theorem proved : Rows.FnExactDecideSaid := over
end Go.Proofs.Ytbffdkjgadhdoab.fnExactDecide
namespace Go.Proofs.Ytbffdkjgadhdoab
theorem decide_holds : Rows.FnExactDecideSaid := fnExactDecide.proved
#print axioms decide_holds
end Go.Proofs.Ytbffdkjgadhdoab
