/- For every code the call of FnRootPorts returns true: the port that leads to the least, of the drawn bridge, has the best claim, and what the bridge claims itself is worse. No condition. -/
import Derived.Test.YtbffdkjgadhdoaaRows
import Derived.Test.YtbffdkjgadhdoaaZd
import Derived.Test.YtbffdkjgadhdoaaBSame
import Derived.Test.YtbffdkjgadhdoaaBr8s
import Derived.Test.YtbffdkjgadhdoaaCodeIn
import Derived.Deep.Cut
import Derived.WalkKit
import Derived.Below
import Derived.ChangeOld
import Derived.WalkSmall
import Derived.ProofKit
import Derived.OpenShut
import Derived.ShutString
import Derived.BigQuiet
namespace Go.Proofs.Ytbffdkjgadhdoaa.fnRootPorts
open Go.ChangeShapes Go.WideShapes Go.ChangeAt Go.RowKit
set_option linter.unusedVariables false

theorem own : ownKnob Try.prog.godebug = none := by kernel_rfl
theorem laidOut : laidOutB Try.prog = true := by kernel_rfl

set_option maxHeartbeats 32000000 in
set_option maxRecDepth 100000 in
theorem walk (ad0 : Option Addr) (len0 cap0 : Nat) (f0 : Nat → Int) (w : World) (I0 : CodeIn w ad0 len0 f0) :
    Calls Try.prog 3 #[.slice ad0 len0 cap0] w fun e w' => e = .returned (.bool true) ∧ Below w.heap.size w w' := by
  obtain ⟨lm, hv, hB, hf⟩ := I0
  by_cases hbig : 1048576 < len0
  · have hbig' : (1048576 : Int) < (len0 : Int) := by omega
    go_enter Try.func3, Try.ntmps3
    go_wp2_with fail
    go_at_call 9
    refine (bigYes ad0 len0 cap0 w hbig').mono ?_
    rintro e w1 ⟨rfl, h1⟩
    rw [h1]
    clear h1 w1 hbig
    go_wp2
    go_ret
    exact ⟨rfl, Below.refl _ _⟩
  have hC : Code0 w ad0 len0 f0 := ⟨hv, hB, by omega, hf⟩
  go_enter Try.func3, Try.ntmps3
  go_wp2_with fail
  go_at_call 9
  refine (bigNo ad0 len0 cap0 w (by omega)).mono ?_
  rintro e w1 ⟨rfl, h1⟩
  rw [h1]
  clear h1 w1 hbig hv hB hf lm
  have BW : Below w.heap.size w w := Below.refl _ _
  have sw := BW.size
  go_wp2_with fail
  go_at_call 10
  refine (drawRP ad0 len0 cap0 f0 w (hC.later BW (Nat.le_refl _))).mono ?_
  rintro e wd1 ⟨id, a, c, L, rfl, hL, OB, kq⟩
  have swd1 := kq.size
  have BW := BW.trans (kq.mono BW.size)
  clear kq
  have iOB : ∀ g, (Value.slice a L.length c).ownBlock = some g → w.heap.size ≤ g ∧ g < wd1.heap.size := fun g e => OB.lt g e
  obtain ⟨wd2, hwd2⟩ : ∃ y_, y_ = wd1.alloc (Obj.cells #[.int .i64 id, .slice a L.length c] 26) := ⟨_, rfl⟩
  have AB : BrAt wd2 wd1.heap.size id (.slice a L.length c) := by rw [hwd2]; exact BrAt.new wd1 _ _ _
  have kq : Below wd1.heap.size wd1 wd2 := by rw [hwd2]; exact below_new _
  have lwd2 := AB.lt
  have swd2 := kq.size
  have OB := OB.later kq
  have BW := BW.trans (kq.mono BW.size)
  clear kq
  go_upto_region 4 with fail
  rw [← hwd2]
  clear hwd2
  have cc := AB
  obtain ⟨m0_0, m0_1⟩ := cc
  go_wp2_with fail
  go_at_call 11
  clear m0_0 m0_1
  refine (rootPI id a c L wd2 OB.view.2 (by omega)).mono ?_
  rintro e wd3 ⟨rfl, kq⟩
  have swd3 := kq.size
  have OB := OB.later kq
  have AB := AB.below kq AB.lt
  have BW := BW.trans (kq.mono BW.size)
  clear kq
  generalize hk1 : oI (rootO id L) = k1
  generalize hk2 : (rootO id L).isSome = k2
  replace hk1 : Hid _ := hk1
  replace hk2 : Hid _ := hk2
  have cc := AB
  obtain ⟨m0_0, m0_1⟩ := cc
  go_wp2_with fail
  go_at_call 12
  clear m0_0 m0_1
  refine (rootPS id a c L wd3 OB.view.2 (by omega)).mono ?_
  rintro e wd4 ⟨rfl, kq⟩
  have swd4 := kq.size
  have OB := OB.later kq
  have AB := AB.below kq AB.lt
  have BW := BW.trans (kq.mono BW.size)
  clear kq
  rw [hk1.out, hk2.out]
  go_wp2_with fail
  go_at_call 13
  refine (drawOw ad0 len0 cap0 f0 wd4 (hC.later BW (Nat.le_refl _))).mono ?_
  rintro e wd5 ⟨io, ao, co, Lo, ⟨pp, hpp, rfl⟩, hLo, OO, kq⟩
  have swd5 := kq.size
  have OB := OB.later kq
  have AB := AB.below kq AB.lt
  have BW := BW.trans (kq.mono BW.size)
  clear kq
  have iOO : ∀ g, (Value.slice ao Lo.length co).ownBlock = some g → wd4.heap.size ≤ g ∧ g < wd5.heap.size := fun g e => OO.lt g e
  obtain ⟨wd6, hwd6⟩ : ∃ y_, y_ = wd5.alloc (Obj.cells #[.int .i64 io, .slice ao Lo.length co] 26) := ⟨_, rfl⟩
  have AO : BrAt wd6 wd5.heap.size io (.slice ao Lo.length co) := by rw [hwd6]; exact BrAt.new wd5 _ _ _
  have kq : Below wd5.heap.size wd5 wd6 := by rw [hwd6]; exact below_new _
  have lwd6 := AO.lt
  have swd6 := kq.size
  have OB := OB.later kq
  have AB := AB.below kq AB.lt
  have OO := OO.later kq
  have BW := BW.trans (kq.mono BW.size)
  clear kq
  go_upto_region 7 with fail
  rw [← hwd6]
  clear hwd6
  go_wp2_with fail
  go_at_call 14
  refine (drawDe ad0 len0 cap0 f0 wd6 (hC.later BW (Nat.le_refl _))).mono ?_
  rintro e wd7 ⟨jd, ae, ce, Ld, rfl, hLd, OD, kq⟩
  have swd7 := kq.size
  have OB := OB.later kq
  have AB := AB.below kq AB.lt
  have OO := OO.later kq
  have AO := AO.below kq AO.lt
  have BW := BW.trans (kq.mono BW.size)
  clear kq
  have iOD : ∀ g, (Value.slice ae Ld.length ce).ownBlock = some g → wd6.heap.size ≤ g ∧ g < wd7.heap.size := fun g e => OD.lt g e
  obtain ⟨wd8, hwd8⟩ : ∃ y_, y_ = wd7.alloc (Obj.cells #[.int .i64 jd, .slice ae Ld.length ce] 26) := ⟨_, rfl⟩
  have AD : BrAt wd8 wd7.heap.size jd (.slice ae Ld.length ce) := by rw [hwd8]; exact BrAt.new wd7 _ _ _
  have kq : Below wd7.heap.size wd7 wd8 := by rw [hwd8]; exact below_new _
  have lwd8 := AD.lt
  have swd8 := kq.size
  have OB := OB.later kq
  have AB := AB.below kq AB.lt
  have OO := OO.later kq
  have AO := AO.below kq AO.lt
  have OD := OD.later kq
  have BW := BW.trans (kq.mono BW.size)
  clear kq
  go_upto_region 8 with fail
  rw [← hwd8]
  clear hwd8
  go_wp2_with fail
  go_at_call 15
  refine (drawHo ad0 len0 cap0 f0 wd8 (hC.later BW (Nat.le_refl _))).mono ?_
  rintro e wd9 ⟨ih, ah, ch, Lh, rfl, hLh, OH, kq⟩
  have swd9 := kq.size
  have OB := OB.later kq
  have AB := AB.below kq AB.lt
  have OO := OO.later kq
  have AO := AO.below kq AO.lt
  have OD := OD.later kq
  have AD := AD.below kq AD.lt
  have BW := BW.trans (kq.mono BW.size)
  clear kq
  have iOH : ∀ g, (Value.slice ah Lh.length ch).ownBlock = some g → wd8.heap.size ≤ g ∧ g < wd9.heap.size := fun g e => OH.lt g e
  obtain ⟨wd10, hwd10⟩ : ∃ y_, y_ = wd9.alloc (Obj.cells #[.int .i64 ih, .slice ah Lh.length ch] 26) := ⟨_, rfl⟩
  have AH : BrAt wd10 wd9.heap.size ih (.slice ah Lh.length ch) := by rw [hwd10]; exact BrAt.new wd9 _ _ _
  have kq : Below wd9.heap.size wd9 wd10 := by rw [hwd10]; exact below_new _
  have lwd10 := AH.lt
  have swd10 := kq.size
  have OB := OB.later kq
  have AB := AB.below kq AB.lt
  have OO := OO.later kq
  have AO := AO.below kq AO.lt
  have OD := OD.later kq
  have AD := AD.below kq AD.lt
  have OH := OH.later kq
  have BW := BW.trans (kq.mono BW.size)
  clear kq
  go_upto_region 9 with fail
  rw [← hwd10]
  clear hwd10
  have cc := AD
  obtain ⟨m0_0, m0_1⟩ := cc
  go_wp2_with fail
  go_at_call 16
  clear m0_0 m0_1
  refine (decideI jd ae ce Ld wd10 OD.view.2 (by omega) OD.capn).mono ?_
  rintro e wd11 ⟨aE, cE, rfl, OE, kq⟩
  have swd11 := kq.size
  have OB := OB.later kq
  have AB := AB.below kq AB.lt
  have OO := OO.later kq
  have AO := AO.below kq AO.lt
  have OD := OD.later kq
  have AD := AD.below kq AD.lt
  have OH := OH.later kq
  have AH := AH.below kq AH.lt
  have BW := BW.trans (kq.mono BW.size)
  clear kq
  have hEl := decideR_len jd Ld
  have hEi := decideR_idem jd Ld
  obtain ⟨Ed, hE⟩ : ∃ Ed, decideR jd Ld = Ed := ⟨_, rfl⟩
  rw [hE] at OE hEl hEi ⊢
  have hEl6 : Ed.length ≤ 6 := by omega
  replace hE : Hid _ := hE
  replace hEi : Hid _ := hEi
  clear hEl
  have iOE : ∀ g, (Value.slice aE Ed.length cE).ownBlock = some g → wd10.heap.size ≤ g ∧ g < wd11.heap.size := fun g e => OE.lt g e
  obtain ⟨wd12, hwd12⟩ : ∃ y_, y_ = wd11.alloc (Obj.cells #[.int .i64 jd, .slice aE Ed.length cE] 26) := ⟨_, rfl⟩
  have AE : BrAt wd12 wd11.heap.size jd (.slice aE Ed.length cE) := by rw [hwd12]; exact BrAt.new wd11 _ _ _
  have kq : Below wd11.heap.size wd11 wd12 := by rw [hwd12]; exact below_new _
  have lwd12 := AE.lt
  have swd12 := kq.size
  have OB := OB.later kq
  have AB := AB.below kq AB.lt
  have OO := OO.later kq
  have AO := AO.below kq AO.lt
  have OD := OD.later kq
  have AD := AD.below kq AD.lt
  have OH := OH.later kq
  have AH := AH.below kq AH.lt
  have OE := OE.later kq
  have BW := BW.trans (kq.mono BW.size)
  clear kq
  go_upto_region 10 with fail
  rw [← hwd12]
  clear hwd12
  obtain ⟨⟨v1, v2, v3, v4⟩, hov⟩ : ∃ v, ownR io Lo pp = v := ⟨_, rfl⟩
  replace hov : Hid _ := hov
  obtain ⟨hh, hhq⟩ : ∃ v, hopsR ih Lh = v := ⟨_, rfl⟩
  replace hhq : Hid _ := hhq
  obtain ⟨bo, hbo⟩ : ∃ v, bOk id L = v := ⟨_, rfl⟩
  replace hbo : Hid _ := hbo
  refine wp_region_held (S := fun Y => Below wd12.heap.size wd12 Y) (by kernel_rfl) ?_
  change wpAnyH _ _ _ _ _ _ _ _ (World.drew _)
  have hb0 : Below wd12.heap.size wd12 wd12.drew := (Below.refl _ _).drew
  obtain ⟨u0, hy0⟩ : ∃ y_, y_ = wd12.drew := ⟨_, rfl⟩
  rw [← hy0] at hb0 ⊢
  clear hy0
  refine takeW 0 39 (.int .i64 k1) rfl rfl (by kernel_rfl) (by kernel_rfl) (by kernel_rfl) (fun _ _ _ h => h) (by kernel_rfl) (by (intro w hSw; go_simp)) (by assumption) ?_
  simp only [List.set_cons_zero, List.set_cons_succ]
  refine takeW 1 40 (.int .i64 k1) rfl rfl (by kernel_rfl) (by kernel_rfl) (by kernel_rfl) (fun _ _ _ h => h) (by kernel_rfl) (by (intro w hSw; go_simp)) (by assumption) ?_
  simp only [List.set_cons_zero, List.set_cons_succ]
  refine takeW 2 41 (.bool false) rfl rfl (by kernel_rfl) (by kernel_rfl) (by kernel_rfl) (fun _ _ _ h => h) (by kernel_rfl) (by (intro w hSw; go_simp)) (by assumption) ?_
  simp only [List.set_cons_zero, List.set_cons_succ]
  refine takeW 3 42 (.bool false) rfl rfl (by kernel_rfl) (by kernel_rfl) (by kernel_rfl) (fun _ _ _ h => h) (by kernel_rfl) (by (intro w hSw; go_simp)) (by assumption) ?_
  simp only [List.set_cons_zero, List.set_cons_succ]
  refine takeW 4 43 (.bool k2) rfl rfl (by kernel_rfl) (by kernel_rfl) (by kernel_rfl) (fun _ _ _ h => h) (by kernel_rfl) (by (intro w hSw; go_simp)) (by assumption) ?_
  simp only [List.set_cons_zero, List.set_cons_succ]
  refine takeW 5 44 (.bool k2) rfl rfl (by kernel_rfl) (by kernel_rfl) (by kernel_rfl) (fun _ _ _ h => h) (by kernel_rfl) (by (intro w hSw; go_simp)) (by assumption) ?_
  simp only [List.set_cons_zero, List.set_cons_succ]
  refine takeW 6 45 (.bool false) rfl rfl (by kernel_rfl) (by kernel_rfl) (by kernel_rfl) (fun _ _ _ h => h) (by kernel_rfl) (by (intro w hSw; go_simp)) (by assumption) ?_
  simp only [List.set_cons_zero, List.set_cons_succ]
  refine takeW 7 46 (.bool false) rfl rfl (by kernel_rfl) (by kernel_rfl) (by kernel_rfl) (fun _ _ _ h => h) (by kernel_rfl) (by (intro w hSw; go_simp)) (by assumption) ?_
  simp only [List.set_cons_zero, List.set_cons_succ]
  refine takeW 8 47 (.bool false) rfl rfl (by kernel_rfl) (by kernel_rfl) (by kernel_rfl) (fun _ _ _ h => h) (by kernel_rfl) (by (intro w hSw; go_simp)) (by assumption) ?_
  simp only [List.set_cons_zero, List.set_cons_succ]
  refine takeW 9 48 (.agg #[.int .i64 io, .slice ao Lo.length co]) rfl rfl (by kernel_rfl) (by kernel_rfl) (by kernel_rfl) (fun _ _ _ h => h) (by kernel_rfl) (by (intro Y hSw; obtain ⟨X0_, X1_⟩ := AO.below hSw AO.lt; go_simp)) (by assumption) ?_
  simp only [List.set_cons_zero, List.set_cons_succ]
  refine takeW 10 49 (.int .i64 pp) rfl rfl (by kernel_rfl) (by kernel_rfl) (by kernel_rfl) (fun _ _ _ h => h) (by kernel_rfl) (by (intro w hSw; go_simp)) (by assumption) ?_
  simp only [List.set_cons_zero, List.set_cons_succ]
  refine takeW 12 51 (.agg #[.int .i64 io, .slice ao Lo.length co]) rfl rfl (by kernel_rfl) (by kernel_rfl) (by kernel_rfl) (fun _ _ _ h => h) (by kernel_rfl) (by (intro Y hSw; obtain ⟨X0_, X1_⟩ := AO.below hSw AO.lt; go_simp)) (by assumption) ?_
  simp only [List.set_cons_zero, List.set_cons_succ]
  refine takeW 13 52 (.int .i64 pp) rfl rfl (by kernel_rfl) (by kernel_rfl) (by kernel_rfl) (fun _ _ _ h => h) (by kernel_rfl) (by (intro w hSw; go_simp)) (by assumption) ?_
  simp only [List.set_cons_zero, List.set_cons_succ]
  refine wpAnyH_all (rs := [11]) (by kernel_rfl) (by simp) ?_
  intro i hi; obtain rfl : i = 11 := by simpa using hi
  refine wpOp_step rfl (fun K hK => ?_)
  rw [if_pos (by kernel_rfl)]
  go_simp
  go_at_call 17
  refine (ownI io ao co Lo pp u0 (OO.later hb0).view.2 (by omega)).mono ?_
  rintro e u1 ⟨rfl, kq⟩
  have hb1 : Below wd12.heap.size wd12 u1 := hb0.trans (kq.mono hb0.size)
  clear kq
  rw [hov.out]
  refine hK _ _ ⟨hb1, ?_⟩
  clear hK K hi
  refine wpAnyH_all (rs := [14]) (by kernel_rfl) (by simp) ?_
  intro i hi; obtain rfl : i = 14 := by simpa using hi
  refine wpOp_step rfl (fun K hK => ?_)
  rw [if_pos (by kernel_rfl)]
  go_simp
  go_at_call 18
  refine (ownS io ao co Lo pp u1 (OO.later hb1).view.2 (by omega)).mono ?_
  rintro e u2 ⟨rfl, kq⟩
  have hb2 : Below wd12.heap.size wd12 u2 := hb1.trans (kq.mono hb1.size)
  clear kq
  rw [hov.out]
  refine hK _ _ ⟨hb2, ?_⟩
  clear hK K hi
  refine takeW 15 54 (.bool false) rfl rfl (by kernel_rfl) (by kernel_rfl) (by kernel_rfl) (fun _ _ _ h => h) (by kernel_rfl) (by (intro w hSw; go_simp)) (by assumption) ?_
  simp only [List.set_cons_zero, List.set_cons_succ]
  refine takeW 16 55 (.bool false) rfl rfl (by kernel_rfl) (by kernel_rfl) (by kernel_rfl) (fun _ _ _ h => h) (by kernel_rfl) (by (intro w hSw; go_simp)) (by assumption) ?_
  simp only [List.set_cons_zero, List.set_cons_succ]
  refine takeW 17 56 (.bool false) rfl rfl (by kernel_rfl) (by kernel_rfl) (by kernel_rfl) (fun _ _ _ h => h) (by kernel_rfl) (by (intro w hSw; go_simp)) (by assumption) ?_
  simp only [List.set_cons_zero, List.set_cons_succ]
  refine takeW 18 57 (.agg #[.int .i64 jd, .slice aE Ed.length cE]) rfl rfl (by kernel_rfl) (by kernel_rfl) (by kernel_rfl) (fun _ _ _ h => h) (by kernel_rfl) (by (intro Y hSw; obtain ⟨X0_, X1_⟩ := AE.below hSw AE.lt; go_simp)) (by assumption) ?_
  simp only [List.set_cons_zero, List.set_cons_succ]
  refine takeW 19 58 (.agg #[.int .i64 jd, .slice ae Ld.length ce]) rfl rfl (by kernel_rfl) (by kernel_rfl) (by kernel_rfl) (fun _ _ _ h => h) (by kernel_rfl) (by (intro Y hSw; obtain ⟨X0_, X1_⟩ := AD.below hSw AD.lt; go_simp)) (by assumption) ?_
  simp only [List.set_cons_zero, List.set_cons_succ]
  refine wpAnyH_all (rs := [20]) (by kernel_rfl) (by simp) ?_
  intro i hi; obtain rfl : i = 20 := by simpa using hi
  refine wpOp_step rfl (fun K hK => ?_)
  rw [if_pos (by kernel_rfl)]
  go_simp
  go_at_call 20
  refine (decideS jd ae ce Ld u2 (OD.later hb2).view.2 (by omega) OD.capn).mono ?_
  rintro e u3 ⟨aS, cS, rfl, OS, kq⟩
  have hb3 : Below wd12.heap.size wd12 u3 := hb2.trans (kq.mono hb2.size)
  clear kq
  rw [hE.out] at OS ⊢
  refine hK _ _ ⟨hb3, ?_⟩
  clear hK K hi
  refine wpAnyH_all (rs := [21]) (by kernel_rfl) (by simp) ?_
  intro i hi; obtain rfl : i = 21 := by simpa using hi
  refine wpOp_step rfl (fun K hK => ?_)
  rw [if_pos (by kernel_rfl)]
  go_simp
  go_at_call 19
  refine (brSame jd aE aS cE cS Ed u3 (OE.later hb3).view.2 OS.view.2 (by omega)).mono ?_
  rintro e u4 ⟨rfl, kq⟩
  have hb4 : Below wd12.heap.size wd12 u4 := hb3.trans (kq.mono hb3.size)
  clear kq
  clear OS
  refine hK _ _ ⟨hb4, ?_⟩
  clear hK K hi
  refine takeW 22 61 (.bool false) rfl rfl (by kernel_rfl) (by kernel_rfl) (by kernel_rfl) (fun _ _ _ h => h) (by kernel_rfl) (by (intro w hSw; go_simp)) (by assumption) ?_
  simp only [List.set_cons_zero, List.set_cons_succ]
  refine takeW 23 62 (.bool false) rfl rfl (by kernel_rfl) (by kernel_rfl) (by kernel_rfl) (fun _ _ _ h => h) (by kernel_rfl) (by (intro w hSw; go_simp)) (by assumption) ?_
  simp only [List.set_cons_zero, List.set_cons_succ]
  refine takeW 24 63 (.bool false) rfl rfl (by kernel_rfl) (by kernel_rfl) (by kernel_rfl) (fun _ _ _ h => h) (by kernel_rfl) (by (intro w hSw; go_simp)) (by assumption) ?_
  simp only [List.set_cons_zero, List.set_cons_succ]
  refine takeW 25 64 (.agg #[.int .i64 ih, .slice ah Lh.length ch]) rfl rfl (by kernel_rfl) (by kernel_rfl) (by kernel_rfl) (fun _ _ _ h => h) (by kernel_rfl) (by (intro Y hSw; obtain ⟨X0_, X1_⟩ := AH.below hSw AH.lt; go_simp)) (by assumption) ?_
  simp only [List.set_cons_zero, List.set_cons_succ]
  refine takeW 27 66 (.agg #[.int .i64 ih, .slice ah Lh.length ch]) rfl rfl (by kernel_rfl) (by kernel_rfl) (by kernel_rfl) (fun _ _ _ h => h) (by kernel_rfl) (by (intro Y hSw; obtain ⟨X0_, X1_⟩ := AH.below hSw AH.lt; go_simp)) (by assumption) ?_
  simp only [List.set_cons_zero, List.set_cons_succ]
  refine wpAnyH_all (rs := [26]) (by kernel_rfl) (by simp) ?_
  intro i hi; obtain rfl : i = 26 := by simpa using hi
  refine wpOp_step rfl (fun K hK => ?_)
  rw [if_pos (by kernel_rfl)]
  go_simp
  go_at_call 21
  refine (hopsI ih ah ch Lh u4 (OH.later hb4).view.2 (by omega)).mono ?_
  rintro e u5 ⟨rfl, kq⟩
  have hb5 : Below wd12.heap.size wd12 u5 := hb4.trans (kq.mono hb4.size)
  clear kq
  rw [hhq.out]
  refine hK _ _ ⟨hb5, ?_⟩
  clear hK K hi
  refine wpAnyH_all (rs := [28]) (by kernel_rfl) (by simp) ?_
  intro i hi; obtain rfl : i = 28 := by simpa using hi
  refine wpOp_step rfl (fun K hK => ?_)
  rw [if_pos (by kernel_rfl)]
  go_simp
  go_at_call 22
  refine (hopsS ih ah ch Lh u5 (OH.later hb5).view.2 (by omega)).mono ?_
  rintro e u6 ⟨rfl, kq⟩
  have hb6 : Below wd12.heap.size wd12 u6 := hb5.trans (kq.mono hb5.size)
  clear kq
  rw [hhq.out]
  refine hK _ _ ⟨hb6, ?_⟩
  clear hK K hi
  refine takeW 29 68 (.bool false) rfl rfl (by kernel_rfl) (by kernel_rfl) (by kernel_rfl) (fun _ _ _ h => h) (by kernel_rfl) (by (intro w hSw; go_simp)) (by assumption) ?_
  simp only [List.set_cons_zero, List.set_cons_succ]
  refine takeW 30 69 (.bool false) rfl rfl (by kernel_rfl) (by kernel_rfl) (by kernel_rfl) (fun _ _ _ h => h) (by kernel_rfl) (by (intro w hSw; go_simp)) (by assumption) ?_
  simp only [List.set_cons_zero, List.set_cons_succ]
  refine takeW 31 70 (.bool false) rfl rfl (by kernel_rfl) (by kernel_rfl) (by kernel_rfl) (fun _ _ _ h => h) (by kernel_rfl) (by (intro w hSw; go_simp)) (by assumption) ?_
  simp only [List.set_cons_zero, List.set_cons_succ]
  refine takeW 32 71 (.agg #[.int .i64 id, .slice a L.length c]) rfl rfl (by kernel_rfl) (by kernel_rfl) (by kernel_rfl) (fun _ _ _ h => h) (by kernel_rfl) (by (intro Y hSw; obtain ⟨X0_, X1_⟩ := AB.below hSw AB.lt; go_simp)) (by assumption) ?_
  simp only [List.set_cons_zero, List.set_cons_succ]
  refine takeW 34 73 (.agg #[.int .i64 id, .slice a L.length c]) rfl rfl (by kernel_rfl) (by kernel_rfl) (by kernel_rfl) (fun _ _ _ h => h) (by kernel_rfl) (by (intro Y hSw; obtain ⟨X0_, X1_⟩ := AB.below hSw AB.lt; go_simp)) (by assumption) ?_
  simp only [List.set_cons_zero, List.set_cons_succ]
  refine wpAnyH_all (rs := [33]) (by kernel_rfl) (by simp) ?_
  intro i hi; obtain rfl : i = 33 := by simpa using hi
  refine wpOp_step rfl (fun K hK => ?_)
  rw [if_pos (by kernel_rfl)]
  go_simp
  go_at_call 23
  refine (bOkI id a c L u6 (OB.later hb6).view.2 (by omega)).mono ?_
  rintro e u7 ⟨rfl, kq⟩
  have hb7 : Below wd12.heap.size wd12 u7 := hb6.trans (kq.mono hb6.size)
  clear kq
  rw [hbo.out]
  refine hK _ _ ⟨hb7, ?_⟩
  clear hK K hi
  refine wpAnyH_all (rs := [35]) (by kernel_rfl) (by simp) ?_
  intro i hi; obtain rfl : i = 35 := by simpa using hi
  refine wpOp_step rfl (fun K hK => ?_)
  rw [if_pos (by kernel_rfl)]
  go_simp
  go_at_call 24
  refine (bOkS id a c L u7 (OB.later hb7).view.2 (by omega)).mono ?_
  rintro e u8 ⟨rfl, kq⟩
  have hb8 : Below wd12.heap.size wd12 u8 := hb7.trans (kq.mono hb7.size)
  clear kq
  rw [hbo.out]
  refine hK _ _ ⟨hb8, ?_⟩
  clear hK K hi
  refine takeW 36 75 (.bool false) rfl rfl (by kernel_rfl) (by kernel_rfl) (by kernel_rfl) (fun _ _ _ h => h) (by kernel_rfl) (by (intro w hSw; go_simp)) (by assumption) ?_
  simp only [List.set_cons_zero, List.set_cons_succ]
  refine takeW 37 76 (.bool false) rfl rfl (by kernel_rfl) (by kernel_rfl) (by kernel_rfl) (fun _ _ _ h => h) (by kernel_rfl) (by (intro w hSw; go_simp)) (by assumption) ?_
  simp only [List.set_cons_zero, List.set_cons_succ]
  refine takeW 38 77 (.bool false) rfl rfl (by kernel_rfl) (by kernel_rfl) (by kernel_rfl) (fun _ _ _ h => h) (by kernel_rfl) (by (intro w hSw; go_simp)) (by assumption) ?_
  simp only [List.set_cons_zero, List.set_cons_succ]
  refine takeW 39 78 (.agg #[.int .i64 jd, .slice aE Ed.length cE]) rfl rfl (by kernel_rfl) (by kernel_rfl) (by kernel_rfl) (fun _ _ _ h => h) (by kernel_rfl) (by (intro Y hSw; obtain ⟨X0_, X1_⟩ := AE.below hSw AE.lt; go_simp)) (by assumption) ?_
  simp only [List.set_cons_zero, List.set_cons_succ]
  refine takeW 41 80 (.agg #[.int .i64 jd, .slice aE Ed.length cE]) rfl rfl (by kernel_rfl) (by kernel_rfl) (by kernel_rfl) (fun _ _ _ h => h) (by kernel_rfl) (by (intro Y hSw; obtain ⟨X0_, X1_⟩ := AE.below hSw AE.lt; go_simp)) (by assumption) ?_
  simp only [List.set_cons_zero, List.set_cons_succ]
  refine wpAnyH_all (rs := [40]) (by kernel_rfl) (by simp) ?_
  intro i hi; obtain rfl : i = 40 := by simpa using hi
  refine wpOp_step rfl (fun K hK => ?_)
  rw [if_pos (by kernel_rfl)]
  go_simp
  go_at_call 16
  refine (decideI jd aE cE Ed u8 (OE.later hb8).view.2 (by omega) OE.capn).mono ?_
  rintro e u9 ⟨aT, cT, rfl, OT, kq⟩
  have hb9 : Below wd12.heap.size wd12 u9 := hb8.trans (kq.mono hb8.size)
  clear kq
  rw [hEi.out] at OT ⊢
  refine hK _ _ ⟨hb9, ?_⟩
  clear hK K hi
  refine wpAnyH_all (rs := [42]) (by kernel_rfl) (by simp) ?_
  intro i hi; obtain rfl : i = 42 := by simpa using hi
  refine wpOp_step rfl (fun K hK => ?_)
  rw [if_pos (by kernel_rfl)]
  go_simp
  go_at_call 19
  refine (brSame jd aT aE cT cE Ed u9 OT.view.2 (OE.later hb9).view.2 (by omega)).mono ?_
  rintro e u10 ⟨rfl, kq⟩
  have hb10 : Below wd12.heap.size wd12 u10 := hb9.trans (kq.mono hb9.size)
  clear kq
  clear OT
  refine hK _ _ ⟨hb10, ?_⟩
  clear hK K hi
  refine takeW 43 82 (.bool false) rfl rfl (by kernel_rfl) (by kernel_rfl) (by kernel_rfl) (fun _ _ _ h => h) (by kernel_rfl) (by (intro w hSw; go_simp)) (by assumption) ?_
  simp only [List.set_cons_zero, List.set_cons_succ]
  refine takeW 44 83 (.bool false) rfl rfl (by kernel_rfl) (by kernel_rfl) (by kernel_rfl) (fun _ _ _ h => h) (by kernel_rfl) (by (intro w hSw; go_simp)) (by assumption) ?_
  simp only [List.set_cons_zero, List.set_cons_succ]
  refine wpAnyH_done (by kernel_rfl) ?_ _
  have su10 := hb10.size
  have OB := OB.later hb10
  have AB := AB.below hb10 AB.lt
  have BW := BW.trans (hb10.mono BW.size)
  clear hb10
  obtain ⟨wd13, hY⟩ : ∃ y_, y_ = u10 := ⟨_, rfl⟩
  rw [← hY] at AB OB BW su10 ⊢
  clear hY hb0 hb1 hb2 hb3 hb4 hb5 hb6 hb7 hb8 hb9
  cases hr : rootO id L with
  | none =>
    obtain rfl : k1 = -1 := by rw [← hk1.out, hr]; rfl
    obtain rfl : k2 = false := by rw [← hk2.out, hr]; rfl
    clear hk1 hk2
    go_upto_region 13 with fail
    cases bo
    · refine wp_region_held (S := fun Y => Below wd13.heap.size wd13 Y) (by kernel_rfl) ?_
      change wpAnyH _ _ _ _ _ _ _ _ (World.drew _)
      have hb0 : Below wd13.heap.size wd13 wd13.drew := (Below.refl _ _).drew
      obtain ⟨u0, hy0⟩ : ∃ y_, y_ = wd13.drew := ⟨_, rfl⟩
      rw [← hy0] at hb0 ⊢
      clear hy0
      refine takeW 0 86 (.int .i64 (-1)) rfl rfl (by kernel_rfl) (by kernel_rfl) (by kernel_rfl) (fun _ _ _ h => h) (by kernel_rfl) (by (intro w hSw; go_simp)) (by assumption) ?_
      simp only [List.set_cons_zero, List.set_cons_succ]
      refine takeW 1 87 (.bool true) rfl rfl (by kernel_rfl) (by kernel_rfl) (by kernel_rfl) (fun _ _ _ h => h) (by kernel_rfl) (by (intro w hSw; go_simp)) (by assumption) ?_
      simp only [List.set_cons_zero, List.set_cons_succ]
      refine takeW 2 88 (.bool true) rfl rfl (by kernel_rfl) (by kernel_rfl) (by kernel_rfl) (fun _ _ _ h => h) (by kernel_rfl) (by (intro w hSw; go_simp)) (by assumption) ?_
      simp only [List.set_cons_zero, List.set_cons_succ]
      refine takeW 3 89 (.agg #[.int .i64 id, .slice a L.length c]) rfl rfl (by kernel_rfl) (by kernel_rfl) (by kernel_rfl) (fun _ _ _ h => h) (by kernel_rfl) (by (intro Y hSw; obtain ⟨X0_, X1_⟩ := AB.below hSw AB.lt; go_simp)) (by assumption) ?_
      simp only [List.set_cons_zero, List.set_cons_succ]
      refine wpAnyH_all (rs := [4]) (by kernel_rfl) (by simp) ?_
      intro i hi; obtain rfl : i = 4 := by simpa using hi
      refine wpOp_step rfl (fun K hK => ?_)
      rw [if_pos (by kernel_rfl)]
      go_simp
      go_at_call 23
      refine (bOkI id a c L u0 (OB.later hb0).view.2 (by omega)).mono ?_
      rintro e u1 ⟨rfl, kq⟩
      have hb1 : Below wd13.heap.size wd13 u1 := hb0.trans (kq.mono hb0.size)
      clear kq
      rw [hbo.out]
      refine hK _ _ ⟨hb1, ?_⟩
      clear hK K hi
      refine takeW 5 91 (.bool true) rfl rfl (by kernel_rfl) (by kernel_rfl) (by kernel_rfl) (fun _ _ _ h => h) (by kernel_rfl) (by (intro w hSw; go_simp)) (by assumption) ?_
      simp only [List.set_cons_zero, List.set_cons_succ]
      refine takeW 6 92 (.bool true) rfl rfl (by kernel_rfl) (by kernel_rfl) (by kernel_rfl) (fun _ _ _ h => h) (by kernel_rfl) (by (intro w hSw; go_simp)) (by assumption) ?_
      simp only [List.set_cons_zero, List.set_cons_succ]
      refine takeS 7 93 rfl rfl (by kernel_rfl) (by kernel_rfl) (by kernel_rfl) (fun _ _ _ h => h) (by kernel_rfl) (by assumption) ?_
      simp only [List.set_cons_zero, List.set_cons_succ]
      refine takeS 8 94 rfl rfl (by kernel_rfl) (by kernel_rfl) (by kernel_rfl) (fun _ _ _ h => h) (by kernel_rfl) (by assumption) ?_
      simp only [List.set_cons_zero, List.set_cons_succ]
      refine takeS 9 95 rfl rfl (by kernel_rfl) (by kernel_rfl) (by kernel_rfl) (fun _ _ _ h => h) (by kernel_rfl) (by assumption) ?_
      simp only [List.set_cons_zero, List.set_cons_succ]
      refine takeS 10 96 rfl rfl (by kernel_rfl) (by kernel_rfl) (by kernel_rfl) (fun _ _ _ h => h) (by kernel_rfl) (by assumption) ?_
      simp only [List.set_cons_zero, List.set_cons_succ]
      refine takeS 11 97 rfl rfl (by kernel_rfl) (by kernel_rfl) (by kernel_rfl) (fun _ _ _ h => h) (by kernel_rfl) (by assumption) ?_
      simp only [List.set_cons_zero, List.set_cons_succ]
      refine takeS 12 98 rfl rfl (by kernel_rfl) (by kernel_rfl) (by kernel_rfl) (fun _ _ _ h => h) (by kernel_rfl) (by assumption) ?_
      simp only [List.set_cons_zero, List.set_cons_succ]
      refine takeW 13 99 (.bool true) rfl rfl (by kernel_rfl) (by kernel_rfl) (by kernel_rfl) (fun _ _ _ h => h) (by kernel_rfl) (by (intro w hSw; go_simp)) (by assumption) ?_
      simp only [List.set_cons_zero, List.set_cons_succ]
      refine takeW 14 100 (.bool true) rfl rfl (by kernel_rfl) (by kernel_rfl) (by kernel_rfl) (fun _ _ _ h => h) (by kernel_rfl) (by (intro w hSw; go_simp)) (by assumption) ?_
      simp only [List.set_cons_zero, List.set_cons_succ]
      refine takeW 15 2 (.bool true) rfl rfl (by kernel_rfl) (by kernel_rfl) (by kernel_rfl) (fun _ _ _ h => h) (by kernel_rfl) (by (intro w hSw; go_simp)) (by assumption) ?_
      simp only [List.set_cons_zero, List.set_cons_succ]
      refine wpAnyH_done (by kernel_rfl) ?_ _
      have BZ := BW.trans (hb1.mono BW.size)
      go_wp2
      go_ret
      exact ⟨rfl, BZ⟩
    · have hown := own_none hbo.out hr
      replace hown : Hid _ := hown
      have hfld : ∀ (v1_ v2_ v3_ v4_ : Int) (w_ : World), (Instr.field 34 (.agg #[.int .i64 v1_, .int .i64 v2_, .int .i64 v3_, .int .i64 v4_]) 0).run Try.prog w_ = .ok (.int .i64 v1_) w_ := fun _ _ _ _ _ => by kernel_rfl
      refine wp_region_held (S := fun Y => Below wd13.heap.size wd13 Y) (by kernel_rfl) ?_
      change wpAnyH _ _ _ _ _ _ _ _ (World.drew _)
      have hb0 : Below wd13.heap.size wd13 wd13.drew := (Below.refl _ _).drew
      obtain ⟨u0, hy0⟩ : ∃ y_, y_ = wd13.drew := ⟨_, rfl⟩
      rw [← hy0] at hb0 ⊢
      clear hy0
      refine takeW 0 86 (.int .i64 (-1)) rfl rfl (by kernel_rfl) (by kernel_rfl) (by kernel_rfl) (fun _ _ _ h => h) (by kernel_rfl) (by (intro w hSw; go_simp)) (by assumption) ?_
      simp only [List.set_cons_zero, List.set_cons_succ]
      refine takeW 1 87 (.bool true) rfl rfl (by kernel_rfl) (by kernel_rfl) (by kernel_rfl) (fun _ _ _ h => h) (by kernel_rfl) (by (intro w hSw; go_simp)) (by assumption) ?_
      simp only [List.set_cons_zero, List.set_cons_succ]
      refine takeW 2 88 (.bool true) rfl rfl (by kernel_rfl) (by kernel_rfl) (by kernel_rfl) (fun _ _ _ h => h) (by kernel_rfl) (by (intro w hSw; go_simp)) (by assumption) ?_
      simp only [List.set_cons_zero, List.set_cons_succ]
      refine takeW 3 89 (.agg #[.int .i64 id, .slice a L.length c]) rfl rfl (by kernel_rfl) (by kernel_rfl) (by kernel_rfl) (fun _ _ _ h => h) (by kernel_rfl) (by (intro Y hSw; obtain ⟨X0_, X1_⟩ := AB.below hSw AB.lt; go_simp)) (by assumption) ?_
      simp only [List.set_cons_zero, List.set_cons_succ]
      refine wpAnyH_all (rs := [4]) (by kernel_rfl) (by simp) ?_
      intro i hi; obtain rfl : i = 4 := by simpa using hi
      refine wpOp_step rfl (fun K hK => ?_)
      rw [if_pos (by kernel_rfl)]
      go_simp
      go_at_call 23
      refine (bOkI id a c L u0 (OB.later hb0).view.2 (by omega)).mono ?_
      rintro e u1 ⟨rfl, kq⟩
      have hb1 : Below wd13.heap.size wd13 u1 := hb0.trans (kq.mono hb0.size)
      clear kq
      rw [hbo.out]
      refine hK _ _ ⟨hb1, ?_⟩
      clear hK K hi
      refine takeW 5 91 (.bool false) rfl rfl (by kernel_rfl) (by kernel_rfl) (by kernel_rfl) (fun _ _ _ h => h) (by kernel_rfl) (by (intro w hSw; go_simp)) (by assumption) ?_
      simp only [List.set_cons_zero, List.set_cons_succ]
      refine takeW 6 92 (.bool false) rfl rfl (by kernel_rfl) (by kernel_rfl) (by kernel_rfl) (fun _ _ _ h => h) (by kernel_rfl) (by (intro w hSw; go_simp)) (by assumption) ?_
      simp only [List.set_cons_zero, List.set_cons_succ]
      refine takeW 7 93 (.agg #[.int .i64 id, .slice a L.length c]) rfl rfl (by kernel_rfl) (by kernel_rfl) (by kernel_rfl) (fun _ _ _ h => h) (by kernel_rfl) (by (intro Y hSw; obtain ⟨X0_, X1_⟩ := AB.below hSw AB.lt; go_simp)) (by assumption) ?_
      simp only [List.set_cons_zero, List.set_cons_succ]
      refine takeW 10 96 (.pointer (some ⟨wd1.heap.size, 0, none⟩)) rfl rfl (by kernel_rfl) (by kernel_rfl) (by kernel_rfl) (fun _ _ _ h => h) (by kernel_rfl) (by (intro w hSw; go_simp)) (by assumption) ?_
      simp only [List.set_cons_zero, List.set_cons_succ]
      refine takeW 11 97 (.int .i64 id) rfl rfl (by kernel_rfl) (by kernel_rfl) (by kernel_rfl) (fun _ _ _ h => h) (by kernel_rfl) (by (intro Y hSw; obtain ⟨X0_, X1_⟩ := AB.below hSw AB.lt; go_simp)) (by assumption) ?_
      simp only [List.set_cons_zero, List.set_cons_succ]
      refine wpAnyH_all (rs := [8]) (by kernel_rfl) (by simp) ?_
      intro i hi; obtain rfl : i = 8 := by simpa using hi
      refine wpOp_step rfl (fun K hK => ?_)
      rw [if_pos (by kernel_rfl)]
      go_simp
      go_at_call 17
      refine (ownI id a c L 0 u1 (OB.later hb1).view.2 (by omega)).mono ?_
      rintro e u2 ⟨rfl, kq⟩
      have hb2 : Below wd13.heap.size wd13 u2 := hb1.trans (kq.mono hb1.size)
      clear kq
      rw [hown.out]
      refine hK _ _ ⟨hb2, ?_⟩
      clear hK K hi
      refine takeW 9 95 (.int .i64 id) rfl rfl (by kernel_rfl) (by kernel_rfl) (by kernel_rfl) (fun _ _ _ h => h) (by kernel_rfl) (by (intro w hSw; go_simp)) (by assumption) ?_
      simp only [List.set_cons_zero, List.set_cons_succ]
      refine takeW 12 98 (.bool true) rfl rfl (by kernel_rfl) (by kernel_rfl) (by kernel_rfl) (fun _ _ _ h => h) (by kernel_rfl) (by (intro w hSw; go_simp)) (by assumption) ?_
      simp only [List.set_cons_zero, List.set_cons_succ]
      refine takeW 13 99 (.bool true) rfl rfl (by kernel_rfl) (by kernel_rfl) (by kernel_rfl) (fun _ _ _ h => h) (by kernel_rfl) (by (intro w hSw; go_simp)) (by assumption) ?_
      simp only [List.set_cons_zero, List.set_cons_succ]
      refine takeW 14 100 (.bool true) rfl rfl (by kernel_rfl) (by kernel_rfl) (by kernel_rfl) (fun _ _ _ h => h) (by kernel_rfl) (by (intro w hSw; go_simp)) (by assumption) ?_
      simp only [List.set_cons_zero, List.set_cons_succ]
      refine takeW 15 2 (.bool true) rfl rfl (by kernel_rfl) (by kernel_rfl) (by kernel_rfl) (fun _ _ _ h => h) (by kernel_rfl) (by (intro w hSw; go_simp)) (by assumption) ?_
      simp only [List.set_cons_zero, List.set_cons_succ]
      refine wpAnyH_done (by kernel_rfl) ?_ _
      have BZ := BW.trans (hb2.mono BW.size)
      go_wp2
      go_ret
      exact ⟨rfl, BZ⟩
  | some k =>
    obtain rfl : k1 = (k : Int) := by rw [← hk1.out, hr]; rfl
    obtain rfl : k2 = true := by rw [← hk2.out, hr]; rfl
    clear hk1 hk2
    obtain ⟨hbk, hkl, hcd⟩ := rootO_some hr
    obtain ⟨g, hg⟩ : ∃ g, L.getD k Pt.nil = g := ⟨_, rfl⟩
    have hownk : Hid (ownR id L (k : Int) = (g.r, g.c + 1, id, (k : Int))) := by
      unfold Hid ownR
      rw [hbk, decide_eq_true (by constructor <;> omega), hr, ← hg]
      rfl
    have hhk : Hid (hopsR id L = g.h + 1) := by unfold Hid hopsR; rw [hr, ← hg]
    have hpk := (bOk_all hbk).2.2 k
    rw [hg] at hcd hpk
    simp only [cand, Bool.and_eq_true, decide_eq_true_eq] at hcd
    have hph := pOk_has hpk hcd.1
    have hvo := hph.2.1
    simp only [vOk, decide_eq_true_eq] at hvo
    have d1 : decide (g.r < id) = true := decide_eq_true hcd.2.2.1
    have hc20 : 0 ≤ g.c ∧ g.c < 20 := ⟨by omega, hcd.2.2.2.1⟩
    have hh8 : 0 ≤ g.h ∧ g.h < 8 := ⟨hph.2.2.1, hcd.2.2.2.2⟩
    have hlt : Hid (vLt g.r g.c g.b g.p g.r (g.c + 1) id (k : Int) = true) := by unfold Hid vLt; rw [if_neg (by simp), if_pos (by omega)]; simp; omega
    clear hcd hpk hph hvo
    obtain ⟨bk, off, rfl, _⟩ := OB.view.2 (by omega)
    have hgc : ∀ Y, Below wd13.heap.size wd13 Y → PtAtO Y bk (off + k * 11) g := fun Y hY => by rw [← hg]; exact ptAtO_of ((OB.later hY).view.2.at_ ptEnc_len Pt.nil hkl)
    replace hg : Hid _ := hg
    replace hr : Hid _ := hr
    replace hbk : Hid _ := hbk
    have cc := AB
    obtain ⟨m0_0, m0_1⟩ := cc
    go_wp2_with fail
    go_at_call 17
    clear m0_0 m0_1
    refine (ownI id (some ⟨bk, off, none⟩) c L (k : Int) wd13 OB.view.2 (by omega)).mono ?_
    rintro e wd14 ⟨rfl, kq⟩
    rw [hownk.out]
    have hgc : ∀ Y, Below wd14.heap.size wd14 Y → PtAtO Y bk (off + k * 11) g := fun Y hY => hgc Y (kq.trans (hY.mono kq.size))
    have swd14 := kq.size
    have OB := OB.later kq
    have AB := AB.below kq AB.lt
    have BW := BW.trans (kq.mono BW.size)
    clear kq
    obtain ⟨wd15, hwd15⟩ : ∃ y_, y_ = wd14.alloc (Obj.cells #[.int .i64 g.r, .int .i64 (g.c + 1), .int .i64 id, .int .i64 (k : Int)] 34) := ⟨_, rfl⟩
    have EV : VecAt wd15 wd14.heap.size g.r (g.c + 1) id (k : Int) := by rw [hwd15]; exact vecAt_box wd14 _ _ _ _ _
    have kq : Below wd14.heap.size wd14 wd15 := by rw [hwd15]; exact below_new _
    have hgc : ∀ Y, Below wd15.heap.size wd15 Y → PtAtO Y bk (off + k * 11) g := fun Y hY => hgc Y (kq.trans (hY.mono kq.size))
    have evl := (World.block_lt_of_cell? _ _ EV.1)
    have swd15 := kq.size
    have OB := OB.later kq
    have AB := AB.below kq AB.lt
    have BW := BW.trans (kq.mono BW.size)
    clear kq
    go_upto_region 15 with fail
    rw [← hwd15]
    clear hwd15
    generalize wd14.heap.size = PE at EV evl ⊢
    refine wp_region_held (S := fun Y => Below wd15.heap.size wd15 Y) (by kernel_rfl) ?_
    change wpAnyH _ _ _ _ _ _ _ _ (World.drew _)
    have hb0 : Below wd15.heap.size wd15 wd15.drew := (Below.refl _ _).drew
    obtain ⟨u0, hy0⟩ : ∃ y_, y_ = wd15.drew := ⟨_, rfl⟩
    rw [← hy0] at hb0 ⊢
    clear hy0
    refine takeW 0 104 (.pointer (some ⟨wd1.heap.size, 1, none⟩)) rfl rfl (by kernel_rfl) (by kernel_rfl) (by kernel_rfl) (fun _ _ _ h => h) (by kernel_rfl) (by (intro w hSw; go_simp)) (by assumption) ?_
    simp only [List.set_cons_zero, List.set_cons_succ]
    refine takeW 1 105 (.slice (some ⟨bk, off, none⟩) L.length c) rfl rfl (by kernel_rfl) (by kernel_rfl) (by kernel_rfl) (fun _ _ _ h => h) (by kernel_rfl) (by (intro Y hSw; obtain ⟨X0_, X1_⟩ := AB.below hSw AB.lt; go_simp)) (by assumption) ?_
    simp only [List.set_cons_zero, List.set_cons_succ]
    refine takeW 2 106 (.int .i64 (k : Int)) rfl rfl (by kernel_rfl) (by kernel_rfl) (by kernel_rfl) (fun _ _ _ h => h) (by kernel_rfl) (by (intro w hSw; go_simp)) (by assumption) ?_
    simp only [List.set_cons_zero, List.set_cons_succ]
    refine takeW 3 107 (.pointer (some ⟨bk, off + k * 11, none⟩)) rfl rfl (by kernel_rfl) (by kernel_rfl) (by kernel_rfl) (fun _ _ _ h => h) (by kernel_rfl) (by (intro Y hSw; go_simp; try omega)) (by assumption) ?_
    simp only [List.set_cons_zero, List.set_cons_succ]
    refine takeW 4 108 (.pointer (some ⟨bk, off + k * 11 + 2, none⟩)) rfl rfl (by kernel_rfl) (by kernel_rfl) (by kernel_rfl) (fun _ _ _ h => h) (by kernel_rfl) (by (intro w hSw; go_simp)) (by assumption) ?_
    simp only [List.set_cons_zero, List.set_cons_succ]
    refine takeW 5 109 (.agg #[.int .i64 g.r, .int .i64 g.c, .int .i64 g.b, .int .i64 g.p]) rfl rfl (by kernel_rfl) (by kernel_rfl) (by kernel_rfl) (fun _ _ _ h => h) (by kernel_rfl) (by (intro Y hSw; obtain ⟨X0, X1, X2, X3, X4, X5, X6, X7, X8, X9, X10⟩ := hgc Y hSw; go_simp)) (by assumption) ?_
    simp only [List.set_cons_zero, List.set_cons_succ]
    refine takeW 6 110 (.agg #[.int .i64 g.r, .int .i64 (g.c + 1), .int .i64 id, .int .i64 (k : Int)]) rfl rfl (by kernel_rfl) (by kernel_rfl) (by kernel_rfl) (fun _ _ _ h => h) (by kernel_rfl) (by (intro Y hSw; obtain ⟨E0, E1, E2, E3⟩ := EV.below hSw evl; go_simp)) (by assumption) ?_
    simp only [List.set_cons_zero, List.set_cons_succ]
    refine wpAnyH_all (rs := [7]) (by kernel_rfl) (by simp) ?_
    intro i hi; obtain rfl : i = 7 := by simpa using hi
    refine wpOp_step rfl (fun K hK => ?_)
    rw [if_pos (by kernel_rfl)]
    go_simp
    go_at_call 25
    refine (betterI g.r g.c g.b g.p g.r (g.c + 1) id (k : Int) u0).mono ?_
    rintro e u1 ⟨rfl, kq⟩
    have hb1 : Below wd15.heap.size wd15 u1 := hb0.trans (kq.mono hb0.size)
    clear kq
    rw [hlt.out]
    refine hK _ _ ⟨hb1, ?_⟩
    clear hK K hi
    refine takeW 8 112 (.bool true) rfl rfl (by kernel_rfl) (by kernel_rfl) (by kernel_rfl) (fun _ _ _ h => h) (by kernel_rfl) (by (intro w hSw; go_simp)) (by assumption) ?_
    simp only [List.set_cons_zero, List.set_cons_succ]
    refine takeW 9 113 (.pointer (some ⟨PE, 0, none⟩)) rfl rfl (by kernel_rfl) (by kernel_rfl) (by kernel_rfl) (fun _ _ _ h => h) (by kernel_rfl) (by (intro w hSw; go_simp)) (by assumption) ?_
    simp only [List.set_cons_zero, List.set_cons_succ]
    refine takeW 10 114 (.int .i64 g.r) rfl rfl (by kernel_rfl) (by kernel_rfl) (by kernel_rfl) (fun _ _ _ h => h) (by kernel_rfl) (by (intro Y hSw; obtain ⟨E0, E1, E2, E3⟩ := EV.below hSw evl; go_simp)) (by assumption) ?_
    simp only [List.set_cons_zero, List.set_cons_succ]
    refine takeW 11 115 (.pointer (some ⟨wd1.heap.size, 0, none⟩)) rfl rfl (by kernel_rfl) (by kernel_rfl) (by kernel_rfl) (fun _ _ _ h => h) (by kernel_rfl) (by (intro w hSw; go_simp)) (by assumption) ?_
    simp only [List.set_cons_zero, List.set_cons_succ]
    refine takeW 12 116 (.int .i64 id) rfl rfl (by kernel_rfl) (by kernel_rfl) (by kernel_rfl) (fun _ _ _ h => h) (by kernel_rfl) (by (intro Y hSw; obtain ⟨X0_, X1_⟩ := AB.below hSw AB.lt; go_simp)) (by assumption) ?_
    simp only [List.set_cons_zero, List.set_cons_succ]
    refine takeW 13 117 (.bool true) rfl rfl (by kernel_rfl) (by kernel_rfl) (by kernel_rfl) (fun _ _ _ h => h) (by kernel_rfl) (by (intro w hSw; go_simp)) (by assumption) ?_
    simp only [List.set_cons_zero, List.set_cons_succ]
    refine takeW 14 118 (.bool true) rfl rfl (by kernel_rfl) (by kernel_rfl) (by kernel_rfl) (fun _ _ _ h => h) (by kernel_rfl) (by (intro w hSw; go_simp)) (by assumption) ?_
    simp only [List.set_cons_zero, List.set_cons_succ]
    refine takeW 15 119 (.bool true) rfl rfl (by kernel_rfl) (by kernel_rfl) (by kernel_rfl) (fun _ _ _ h => h) (by kernel_rfl) (by (intro w hSw; go_simp)) (by assumption) ?_
    simp only [List.set_cons_zero, List.set_cons_succ]
    refine takeW 16 120 (.pointer (some ⟨PE, 2, none⟩)) rfl rfl (by kernel_rfl) (by kernel_rfl) (by kernel_rfl) (fun _ _ _ h => h) (by kernel_rfl) (by (intro w hSw; go_simp)) (by assumption) ?_
    simp only [List.set_cons_zero, List.set_cons_succ]
    refine takeW 17 121 (.int .i64 id) rfl rfl (by kernel_rfl) (by kernel_rfl) (by kernel_rfl) (fun _ _ _ h => h) (by kernel_rfl) (by (intro Y hSw; obtain ⟨E0, E1, E2, E3⟩ := EV.below hSw evl; go_simp)) (by assumption) ?_
    simp only [List.set_cons_zero, List.set_cons_succ]
    refine takeW 18 122 (.pointer (some ⟨wd1.heap.size, 0, none⟩)) rfl rfl (by kernel_rfl) (by kernel_rfl) (by kernel_rfl) (fun _ _ _ h => h) (by kernel_rfl) (by (intro w hSw; go_simp)) (by assumption) ?_
    simp only [List.set_cons_zero, List.set_cons_succ]
    refine takeW 19 123 (.int .i64 id) rfl rfl (by kernel_rfl) (by kernel_rfl) (by kernel_rfl) (fun _ _ _ h => h) (by kernel_rfl) (by (intro Y hSw; obtain ⟨X0_, X1_⟩ := AB.below hSw AB.lt; go_simp)) (by assumption) ?_
    simp only [List.set_cons_zero, List.set_cons_succ]
    refine takeW 20 124 (.bool true) rfl rfl (by kernel_rfl) (by kernel_rfl) (by kernel_rfl) (fun _ _ _ h => h) (by kernel_rfl) (by (intro w hSw; go_simp)) (by assumption) ?_
    simp only [List.set_cons_zero, List.set_cons_succ]
    refine takeW 21 125 (.bool true) rfl rfl (by kernel_rfl) (by kernel_rfl) (by kernel_rfl) (fun _ _ _ h => h) (by kernel_rfl) (by (intro w hSw; go_simp)) (by assumption) ?_
    simp only [List.set_cons_zero, List.set_cons_succ]
    refine takeW 22 126 (.bool true) rfl rfl (by kernel_rfl) (by kernel_rfl) (by kernel_rfl) (fun _ _ _ h => h) (by kernel_rfl) (by (intro w hSw; go_simp)) (by assumption) ?_
    simp only [List.set_cons_zero, List.set_cons_succ]
    refine takeW 23 127 (.agg #[.int .i64 id, .slice (some ⟨bk, off, none⟩) L.length c]) rfl rfl (by kernel_rfl) (by kernel_rfl) (by kernel_rfl) (fun _ _ _ h => h) (by kernel_rfl) (by (intro Y hSw; obtain ⟨X0_, X1_⟩ := AB.below hSw AB.lt; go_simp)) (by assumption) ?_
    simp only [List.set_cons_zero, List.set_cons_succ]
    refine takeW 25 129 (.pointer (some ⟨wd1.heap.size, 1, none⟩)) rfl rfl (by kernel_rfl) (by kernel_rfl) (by kernel_rfl) (fun _ _ _ h => h) (by kernel_rfl) (by (intro w hSw; go_simp)) (by assumption) ?_
    simp only [List.set_cons_zero, List.set_cons_succ]
    refine takeW 26 130 (.slice (some ⟨bk, off, none⟩) L.length c) rfl rfl (by kernel_rfl) (by kernel_rfl) (by kernel_rfl) (fun _ _ _ h => h) (by kernel_rfl) (by (intro Y hSw; obtain ⟨X0_, X1_⟩ := AB.below hSw AB.lt; go_simp)) (by assumption) ?_
    simp only [List.set_cons_zero, List.set_cons_succ]
    refine takeW 27 131 (.int .i64 (k : Int)) rfl rfl (by kernel_rfl) (by kernel_rfl) (by kernel_rfl) (fun _ _ _ h => h) (by kernel_rfl) (by (intro w hSw; go_simp)) (by assumption) ?_
    simp only [List.set_cons_zero, List.set_cons_succ]
    refine takeW 28 132 (.pointer (some ⟨bk, off + k * 11, none⟩)) rfl rfl (by kernel_rfl) (by kernel_rfl) (by kernel_rfl) (fun _ _ _ h => h) (by kernel_rfl) (by (intro Y hSw; go_simp; try omega)) (by assumption) ?_
    simp only [List.set_cons_zero, List.set_cons_succ]
    refine takeW 29 133 (.pointer (some ⟨bk, off + k * 11 + 6, none⟩)) rfl rfl (by kernel_rfl) (by kernel_rfl) (by kernel_rfl) (fun _ _ _ h => h) (by kernel_rfl) (by (intro w hSw; go_simp)) (by assumption) ?_
    simp only [List.set_cons_zero, List.set_cons_succ]
    refine takeW 30 134 (.int .i64 g.h) rfl rfl (by kernel_rfl) (by kernel_rfl) (by kernel_rfl) (fun _ _ _ h => h) (by kernel_rfl) (by (intro Y hSw; obtain ⟨X0, X1, X2, X3, X4, X5, X6, X7, X8, X9, X10⟩ := hgc Y hSw; go_simp)) (by assumption) ?_
    simp only [List.set_cons_zero, List.set_cons_succ]
    have hwh : IntKind.i64.wrap (g.h + 1) = g.h + 1 := by rw [IntKind.wrap_i64]; omega
    refine takeW 31 135 (.int .i64 (g.h + 1)) rfl rfl (by kernel_rfl) (by kernel_rfl) (by kernel_rfl) (fun _ _ _ h => h) (by kernel_rfl) (by (intro w hSw; go_simp)) (by assumption) ?_
    simp only [List.set_cons_zero, List.set_cons_succ]
    refine wpAnyH_all (rs := [24]) (by kernel_rfl) (by simp) ?_
    intro i hi; obtain rfl : i = 24 := by simpa using hi
    refine wpOp_step rfl (fun K hK => ?_)
    rw [if_pos (by kernel_rfl)]
    go_simp
    go_at_call 21
    refine (hopsI id (some ⟨bk, off, none⟩) c L u1 (OB.later hb1).view.2 (by omega)).mono ?_
    rintro e u2 ⟨rfl, kq⟩
    have hb2 : Below wd15.heap.size wd15 u2 := hb1.trans (kq.mono hb1.size)
    clear kq
    rw [hhk.out]
    refine hK _ _ ⟨hb2, ?_⟩
    clear hK K hi
    refine takeW 32 136 (.bool true) rfl rfl (by kernel_rfl) (by kernel_rfl) (by kernel_rfl) (fun _ _ _ h => h) (by kernel_rfl) (by (intro w hSw; go_simp)) (by assumption) ?_
    simp only [List.set_cons_zero, List.set_cons_succ]
    refine takeW 33 137 (.bool true) rfl rfl (by kernel_rfl) (by kernel_rfl) (by kernel_rfl) (fun _ _ _ h => h) (by kernel_rfl) (by (intro w hSw; go_simp)) (by assumption) ?_
    simp only [List.set_cons_zero, List.set_cons_succ]
    refine takeW 34 2 (.bool true) rfl rfl (by kernel_rfl) (by kernel_rfl) (by kernel_rfl) (fun _ _ _ h => h) (by kernel_rfl) (by (intro w hSw; go_simp)) (by assumption) ?_
    simp only [List.set_cons_zero, List.set_cons_succ]
    refine wpAnyH_done (by kernel_rfl) ?_ _
    have BZ := BW.trans (hb2.mono BW.size)
    go_wp2
    go_ret
    exact ⟨rfl, BZ⟩


set_option maxRecDepth 100000 in
theorem lifted (os : Os) (started : os.Started) (H : Type) (enc : TypeId × Value → H) :
    ReturnsInHanded {} Try.checked os 3 .any (Rows.fnRootPortsSpec.pre6 enc Try.prog Try.f3 Rows.fnRootPortsRow.domain false) (Rows.fnRootPortsSpec.post enc Try.prog Try.f3 false true false false) := by
  refine returnsInHanded_of_change (C := Try.checked) own started (by kernel_rfl) Try.func3
    (ChangeSpec.witness6 (enc := enc) (C := Try.checked) false ⟨#[], #[.slice none 0 0], []⟩ 8 (by kernel_rfl) (by kernel_rfl) (by kernel_rfl) (by kernel_rfl)) ?_
  intro W base args ds gs before hval0 hW hcnd _
  have hval : ∀ (j : Nat) t v, Try.f3.params[j]? = some t → args[j]? = some v → Value.okWide Try.prog W .any base t v := hval0
  have hW' := hW
  obtain ⟨p, q, hA0, hV, rfl, hfz, hnd⟩ := hW
  have hA : DataW.TrodAll enc Try.prog W 0 (fun _ => true) true Try.f3.params.toList args.toList ds p := hA0
  rw [Try.params3] at hA hval
  obtain ⟨v0, vs0, d0, ds0, p0, q0, hargs, rfl, rfl, h0, r0⟩ := trodAll_cons hA
  obtain ⟨rfl, rfl, rfl⟩ := trodAll_nil r0
  obtain rfl : args = #[v0] := by cases args; simp_all
  obtain ⟨rfl, rfl⟩ := trodVars_none hV
  obtain ⟨ad0, len0, cap0, f0, rfl, I0⟩ := codeIn_open (hval 0 22 v0 rfl rfl) h0
  have lt0 : ∀ x ∈ p0, x.block < W.heap.size := by obtain ⟨m, hm⟩ := h0; exact DataW.trod_lt m _ _ _ hm
  clear hA0 hval0
  refine (walk ad0 len0 cap0 f0 W I0).mono fun e W' ⟨he, bel⟩ => ?_
  subst he
  exact ⟨_, rfl, _, _, _, [], _, [], hW', trodAll_mk1 (shut_bool Try.underlying4 _), (trodAll_cons_mk (Below.trod laidOut (by kernel_rfl) (of_decide_eq_true (by kernel_rfl)) h0 bel lt0) trodAll_mk0), rfl, bel.frame _, fun h => by cases h⟩

theorem over : Rows.fnRootPortsRow.holds Try.pinned (OpenSpec.ofChange Rows.fnRootPortsSpec) :=
  OpenClaim.holds_of_wide 3 Try.f3 rfl rfl rfl rfl rfl rfl rfl ⟨rfl, rfl, rfl, rfl, rfl⟩ rfl rfl rfl rfl rfl (by kernel_rfl) Try.func3 (by kernel_rfl)
    (of_decide_eq_true (by kernel_rfl)) (by unfold Func.isWrapper; first | (rw [if_pos (by decide +kernel)]; kernel_rfl) | (rw [if_neg (by decide +kernel)]; exact ⟨rfl, rfl⟩))
    (fun os started H enc _ => lifted os started H enc)

theorem proved : Rows.FnRootPortsSaid := over
end Go.Proofs.Ytbffdkjgadhdoaa.fnRootPorts
namespace Go.Proofs.Ytbffdkjgadhdoaa
theorem rootPorts_holds : Rows.FnRootPortsSaid := fnRootPorts.proved
#print axioms rootPorts_holds
end Go.Proofs.Ytbffdkjgadhdoaa
