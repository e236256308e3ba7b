/- For every slice of bytes the call of FnLearns returns true: at what is drawn of it both Pass answer alike, who was heard at a port is sent to by that port alone, and what is shut forgets (a slice of more than 1048576 bytes is answered true at once). No condition. -/
import Derived.Test.YtifndemkkaelaaaGreatRows
import Derived.Test.YtifndemkkaelaaaGreatZlPassS
import Derived.Test.YtifndemkkaelaaaGreatZlSent
import Derived.Test.YtifndemkkaelaaaGreatZl29
import Derived.Test.YtifndemkkaelaaaGreatZl1
import Derived.Test.YtifndemkkaelaaaGreatZlDrawP
import Derived.Test.YtifndemkkaelaaaGreatZlGateI
import Derived.Test.YtifndemkkaelaaaGreatZl41
import Derived.Test.YtifndemkkaelaaaGreatZlLearns0
import Derived.WalkSpells
import Derived.WalkLawsBesides
import Derived.WalkKit
import Derived.Below
import Derived.ChangeOld
import Derived.WalkSmall
import Derived.ProofKit
import Derived.OpenShut
import Derived.ShutString
import Derived.BigQuiet
namespace Go.Proofs.YtifndemkkaelaaaGreat.fnLearns
open Go.ChangeShapes Go.WideShapes Go.ChangeAt Go.RowKit
set_option linter.unusedVariables false
set_option maxRecDepth 100000

theorem own : ownKnob Tryz.prog.godebug = none := by kernel_rfl
theorem laidOut : laidOutB Tryz.prog = true := by kernel_rfl

set_option maxRecDepth 100000 in
set_option maxHeartbeats 64000000 in
theorem walk (ad0 : Option Addr) (len0 cap0 : Nat) (f0 : Nat → Int) (w : World) (I0 : CodeIn w ad0 len0 f0) :
    Calls Tryz.prog 4 #[.slice ad0 len0 cap0] w fun e w' => e = .returned (.bool true) ∧ Below w.heap.size w w' := by
  by_cases hbig : 1048576 < len0
  · have hbi : (1048576 : Int) < (len0 : Int) := by omega
    go_enter Tryz.func4, Tryz.ntmps4
    go_wp2_with fail
    go_at_call 6
    refine (bigYes ad0 len0 cap0 w hbi).mono ?_
    rintro e w1 ⟨rfl, h1⟩
    rw [h1]
    clear h1 w1
    go_wp2
    go_ret
    exact ⟨rfl, Below.refl _ _⟩
  have hl0 : len0 ≤ 1048576 := by omega
  have hC : Code0 w ad0 len0 f0 := ⟨I0.view, I0.lt, hl0, I0.bytes⟩
  clear hbig I0
  go_enter Tryz.func4, Tryz.ntmps4
  go_wp2_with fail
  go_at_call 6
  refine (bigNo ad0 len0 cap0 w hl0).mono ?_
  rintro e w1 ⟨rfl, h1⟩
  rw [h1]
  clear h1 w1
  have BW : Below w.heap.size w w := Below.refl _ _
  go_wp2_with fail
  go_at_call 7
  refine (drawP ad0 len0 cap0 f0 w hC).mono ?_
  rintro e x1 ⟨aO3_, O0, kO3_, aM3_, D0, kM3_, aT3_, T0, kT3_, p, a, b, c, aL, kL, L, rfl, V3, kx1, d1, d2, d3, hp, zO3, zT3, vL, bL, dL, zL⟩
  have VL := VwI.of vL
  clear vL
  have sx1 := kx1.size
  have BW := BW.trans (kx1.mono BW.size)
  clear kx1
  obtain ⟨x2, hx2⟩ : ∃ y, y = (x1.alloc (Obj.cells #[.slice aO3_ O0.length kO3_, .slice aM3_ D0.length kM3_, .slice aT3_ T0.length kT3_] 28)).alloc (Obj.cells #[.int .i64 a, .int .i64 b, .int .i64 c, .slice aL L.length kL] 30) := ⟨_, rfl⟩
  have kx2 : Below x1.heap.size x1 x2 := by rw [hx2]; exact ((Below.refl _ _).alloc (Nat.le_refl _) _).alloc (by simp) _
  have A3 : CdAt x2 x1.heap.size aO3_ O0.length kO3_ aM3_ D0.length kM3_ aT3_ T0.length kT3_ := by rw [hx2]; refine ⟨?_, ?_, ?_⟩ <;> simp [go_sem]
  have F5 : FrameAt x2 (x1.heap.size + 1) a b c aL L.length kL := by rw [hx2]; refine ⟨?_, ?_, ?_, ?_⟩ <;> simp [go_sem]
  have tx2 : x1.heap.size + 1 < x2.heap.size := F5.lt
  have sx2 := kx2.size
  have V3 := V3.below kx2 (by omega)
  have VL := VL.below kx2 (by omega)
  have BW := BW.trans (kx2.mono BW.size)
  clear kx2
  have hsz : O0.length + totD D0 + T0.length ≤ 1048576 := by omega
  have hlL : L.length ≤ 1048576 := by omega
  have hgl := pTab_size (p := p) (a := a) (b := b) (c := c) (L := L) hsz
  have hfew := pOuts_few O0 D0 T0 p a b c L
  obtain ⟨T1, hT1⟩ : ∃ x, Hid (pTab O0 D0 T0 p a b c L = x) := ⟨_, rfl⟩
  obtain ⟨XO, hXO⟩ : ∃ x, Hid (pOuts O0 D0 T0 p a b c L = x) := ⟨_, rfl⟩
  rw [hT1.out] at hgl
  rw [hXO.out] at hfew
  have A3' := A3
  obtain ⟨X1, X2, X3⟩ := A3'
  have F5' := F5
  obtain ⟨Y1, Y2, Y3, Y4⟩ := F5'
  rw [hx2] at X1 X2 X3 Y1 Y2 Y3 Y4
  go_wp2_with fail
  go_at_call 8
  rw [← hx2]
  clear hx2
  clear X1 X2 X3 Y1 Y2 Y3 Y4
  refine (passI sentI aO3_ kO3_ O0 aM3_ kM3_ D0 aT3_ kT3_ T0 p a b c aL kL L w.heap.size x1.heap.size x2 V3 (by omega) hsz hp VL.v hlL).mono ?_
  intro e x3 hq
  rw [hT1.out, hXO.out] at hq
  obtain ⟨aO6_, kO6_, aM6_, kM6_, aT6_, kT6_, aL4, kL4, Ns4, fp, mid, rfl, cW, m1, m2, hd4, ow, hf, kx3⟩ := hq
  have V6 : CdV x3 x2.heap.size x3.heap.size aO6_ O0 aM6_ D0 aT6_ T1 := cW.view.wide (Nat.le_refl _) m2
  have Q4 : ObI x3 x2.heap.size x3.heap.size aL4 Ns4 := ((⟨fp, ow, hf⟩ : ObJ x3 mid x3.heap.size aL4 Ns4).view).wide m1 (Nat.le_refl _)
  clear cW ow hf m1 m2
  replace hd4 : Hid _ := hd4
  have sm4 := outs_small hfew hd4.out
  have sx3 := kx3.size
  have V3 := V3.below kx3 (by omega)
  have VL := VL.below kx3 (by omega)
  have A3 := A3.below kx3 (by omega)
  have F5 := F5.below kx3 (by omega)
  have BW := BW.trans (kx3.mono BW.size)
  clear kx3
  obtain ⟨x4, hx4⟩ : ∃ y, y = x3.alloc (Obj.cells #[.slice aO6_ O0.length kO6_, .slice aM6_ D0.length kM6_, .slice aT6_ T1.length kT6_] 28) := ⟨_, rfl⟩
  have kx4 : Below x3.heap.size x3 x4 := by rw [hx4]; exact below_box x3 _
  have A6 : CdAt x4 x3.heap.size aO6_ O0.length kO6_ aM6_ D0.length kM6_ aT6_ T1.length kT6_ := by rw [hx4]; exact CdAt.box _ _ _ _ _ _ _ _ _ _ _
  have tx4 : x3.heap.size < x4.heap.size := A6.lt
  have sx4 := kx4.size
  have V3 := V3.below kx4 (by omega)
  have VL := VL.below kx4 (by omega)
  have A3 := A3.below kx4 (by omega)
  have F5 := F5.below kx4 (by omega)
  have V6 := V6.below kx4 (by omega)
  have Q4 := Q4.below kx4 (by omega)
  have BW := BW.trans (kx4.mono BW.size)
  clear kx4
  have A3' := A3
  obtain ⟨X1, X2, X3⟩ := A3'
  have F5' := F5
  obtain ⟨Y1, Y2, Y3, Y4⟩ := F5'
  rw [hx4] at X1 X2 X3 Y1 Y2 Y3 Y4
  go_wp2_with fail
  go_at_call 9
  rw [← hx4]
  clear hx4
  clear X1 X2 X3 Y1 Y2 Y3 Y4
  refine (passS aO3_ kO3_ O0 aM3_ kM3_ D0 aT3_ kT3_ T0 p a b c aL kL L w.heap.size x1.heap.size x4 V3 (by omega) hsz hp zO3 zT3 VL.v hlL zL).mono ?_
  intro e x5 hq
  rw [hT1.out, hXO.out] at hq
  obtain ⟨aO8_, kO8_, aM8_, kM8_, aT8_, kT8_, aL5, kL5, Ns5, rfl, V8, hd5, ov, oR, oN, kx5⟩ := hq
  have Q5 : ObI x5 x4.heap.size x5.heap.size aL5 Ns5 := ⟨ov, oR, oN⟩
  clear ov oR oN
  replace hd5 : Hid _ := hd5
  have hlen : Ns5.length = Ns4.length := by have h1 := congrArg List.length hd5.out; have h2 := congrArg List.length hd4.out; rw [List.length_map] at h1 h2; omega
  rw [hlen]
  have sx5 := kx5.size
  have V3 := V3.below kx5 (by omega)
  have VL := VL.below kx5 (by omega)
  have A3 := A3.below kx5 (by omega)
  have F5 := F5.below kx5 (by omega)
  have V6 := V6.below kx5 (by omega)
  have Q4 := Q4.below kx5 (by omega)
  have A6 := A6.below kx5 (by omega)
  have BW := BW.trans (kx5.mono BW.size)
  clear kx5
  obtain ⟨x6, hx6⟩ : ∃ y, y = x5.alloc (Obj.cells #[.slice aO8_ O0.length kO8_, .slice aM8_ D0.length kM8_, .slice aT8_ T1.length kT8_] 28) := ⟨_, rfl⟩
  have kx6 : Below x5.heap.size x5 x6 := by rw [hx6]; exact below_box x5 _
  have A8 : CdAt x6 x5.heap.size aO8_ O0.length kO8_ aM8_ D0.length kM8_ aT8_ T1.length kT8_ := by rw [hx6]; exact CdAt.box _ _ _ _ _ _ _ _ _ _ _
  have tx6 : x5.heap.size < x6.heap.size := A8.lt
  have sx6 := kx6.size
  have V3 := V3.below kx6 (by omega)
  have VL := VL.below kx6 (by omega)
  have A3 := A3.below kx6 (by omega)
  have F5 := F5.below kx6 (by omega)
  have V6 := V6.below kx6 (by omega)
  have Q4 := Q4.below kx6 (by omega)
  have A6 := A6.below kx6 (by omega)
  have V8 := V8.below kx6 (by omega)
  have Q5 := Q5.below kx6 (by omega)
  have BW := BW.trans (kx6.mono BW.size)
  clear kx6
  have A6' := A6
  obtain ⟨X1, X2, X3⟩ := A6'
  have A8' := A8
  obtain ⟨Y1, Y2, Y3⟩ := A8'
  rw [hx6] at X1 X2 X3 Y1 Y2 Y3
  go_wp2_with fail
  go_at_call 13
  rw [← hx6]
  clear hx6
  clear X1 X2 X3 Y1 Y2 Y3
  refine (sameC aO6_ kO6_ O0 aM6_ kM6_ D0 aT6_ kT6_ T1 aO8_ kO8_ aM8_ kM8_ aT8_ kT8_ x2.heap.size x3.heap.size x4.heap.size x5.heap.size x6 V6 V8 hgl).mono ?_
  rintro e x7 ⟨rfl, kx7⟩
  have sx7 := kx7.size
  have V3 := V3.below kx7 (by omega)
  have VL := VL.below kx7 (by omega)
  have A3 := A3.below kx7 (by omega)
  have F5 := F5.below kx7 (by omega)
  have V6 := V6.below kx7 (by omega)
  have Q4 := Q4.below kx7 (by omega)
  have A6 := A6.below kx7 (by omega)
  have V8 := V8.below kx7 (by omega)
  have Q5 := Q5.below kx7 (by omega)
  have A8 := A8.below kx7 (by omega)
  have BW := BW.trans (kx7.mono BW.size)
  clear kx7
  clear V8 A8 Q5 Q4
  have A3' := A3
  obtain ⟨X1, X2, X3⟩ := A3'
  go_wp2_with fail
  go_at_call 15
  clear X1 X2 X3
  obtain ⟨bk, hbk⟩ : ∃ b, Hid (cOk O0 D0 T0 = b) := ⟨_, rfl⟩
  refine (cardOkI aO3_ kO3_ O0 aM3_ kM3_ D0 aT3_ kT3_ T0 w.heap.size x1.heap.size x7 V3 (by omega) hsz).mono ?_
  rintro e x8 ⟨rfl, kx8⟩
  rw [hbk.out]
  have sx8 := kx8.size
  have V3 := V3.below kx8 (by omega)
  have VL := VL.below kx8 (by omega)
  have A3 := A3.below kx8 (by omega)
  have F5 := F5.below kx8 (by omega)
  have V6 := V6.below kx8 (by omega)
  have A6 := A6.below kx8 (by omega)
  have BW := BW.trans (kx8.mono BW.size)
  clear kx8
  cases bk
  · have hz := no_len hXO.out hd4.out (by unfold pGo; rw [hbk.out]; rfl)
    have hzi : (((Ns4.length : Nat) : Int) == 0) = true := by simp [hz]
    skip
    go_wp2
    go_ret
    exact ⟨rfl, BW⟩
  by_cases hq0 : 0 ≤ p
  rotate_left
  · have hz := no_len hXO.out hd4.out (by unfold pGo; rw [decide_eq_false (by omega : ¬ (0 ≤ p ∧ p < (O0.length : Int)))]; simp)
    have hzi : (((Ns4.length : Nat) : Int) == 0) = true := by simp [hz]
    have dq : decide (p < 0) = true := decide_eq_true (by omega)
    go_wp2
    go_ret
    exact ⟨rfl, BW⟩
  by_cases hq1 : p < (O0.length : Int)
  rotate_left
  · have hz := no_len hXO.out hd4.out (by unfold pGo; rw [decide_eq_false (by omega : ¬ (0 ≤ p ∧ p < (O0.length : Int)))]; simp)
    have hzi : (((Ns4.length : Nat) : Int) == 0) = true := by simp [hz]
    have dq : decide (p < 0) = false := decide_eq_false (by omega)
    have dq2 : decide ((O0.length : Int) ≤ p) = true := decide_eq_true (by omega)
    obtain ⟨X1, X2, X3⟩ := A3
    go_wp2
    go_ret
    exact ⟨rfl, BW⟩
  obtain ⟨i, hpi⟩ : ∃ n : Nat, p = (n : Int) := ⟨p.toNat, by omega⟩
  subst hpi
  have hi0 : i < O0.length := by omega
  obtain ⟨c3, o3, hO3, hcO⟩ := V3.vO (by omega)
  subst hO3
  have hci := hcO i hi0
  simp only [] at hci
  clear hcO
  have dq : decide ((i : Int) < 0) = false := decide_eq_false (by omega)
  have dq2 : decide ((O0.length : Int) ≤ (i : Int)) = false := decide_eq_false (by omega)
  have dq3 : decide (O0.length ≤ i) = false := decide_eq_false (by omega)
  have A3' := A3
  obtain ⟨X1, X2, X3⟩ := A3'
  obtain ⟨bo, hbo⟩ : ∃ b, Hid (O0.getD i false = b) := ⟨_, rfl⟩
  rw [hbo.out] at hci
  cases bo
  · have hz := no_len hXO.out hd4.out (by unfold pGo; rw [Int.toNat_natCast, hbo.out]; simp)
    have hzi : (((Ns4.length : Nat) : Int) == 0) = true := by simp [hz]
    skip
    go_wp2
    go_ret
    exact ⟨rfl, BW⟩
  have hgo : Hid (pGo O0 D0 T0 (i : Int) = true) := by unfold Hid pGo; rw [hbk.out, Int.toNat_natCast, hbo.out, decide_eq_true (by omega : 0 ≤ (i : Int) ∧ (i : Int) < (O0.length : Int))]; rfl
  obtain ⟨Ms, hD, vM, iM, jM⟩ := V3.vM
  have hlen0 : D0.length = Ms.length := by rw [← hD, List.length_map]
  have hDO : Ms.length = O0.length := by have hC := hbk.out; unfold cOk at hC; simp only [Bool.and_eq_true, decide_eq_true_eq] at hC; omega
  have hget : D0.getD i (0, []) = (Ms.getD i Mb.nil).d := by rw [← hD]; exact d_get Ms i
  have hts := tot_siz D0
  have hmk : (Ms.getD i Mb.nil).L.length ≤ maxLen := by have := siz_max D0 (by omega) i (by omega); rw [hget] at this; exact this
  obtain ⟨bM, offM, eb, hrow⟩ := vM.row (by omega)
  subst eb
  have hbM := iM ⟨bM, offM, none⟩ rfl (by omega)
  have hbM' : w.heap.size ≤ bM ∧ bM < x1.heap.size := hbM
  have hiM : i < Ms.length := by omega
  have hmY : ∀ Y, Below x8.heap.size x8 Y → MbAt Y bM (offM + i * 2) (Ms.getD i Mb.nil) := fun Y hY => (hrow i hiM).same (hY.block _ (by omega))
  have hnY : ∀ Y, Below x8.heap.size x8 Y → MbL Y (Ms.getD i Mb.nil) := fun Y hY => ViewI.below (vM.nest i hiM) hY (Nat.le_refl _)
  obtain ⟨m, hh⟩ : ∃ m, Ms.getD i Mb.nil = m := ⟨_, rfl⟩
  simp only [hh] at hmY hnY
  rw [hh] at hmk hget
  unfold MbAt at hmY
  unfold MbL at hnY
  have hrl := insR_len m.o (fun i => m.L.getD i 0) m.L.length a b c L
  obtain ⟨r, hr⟩ : ∃ r, Hid (insR m.o (fun i => m.L.getD i 0) m.L.length a b c L = r) := ⟨_, rfl⟩
  have hpI : Hid (pIn O0 D0 T0 (i : Int) a b c L = r) := by unfold Hid pIn; rw [hgo.out, if_pos rfl, Int.toNat_natCast, hget, ← hr.out]; rfl
  rw [hr.out] at hrl
  obtain ⟨ra, rb, rc, rM, rok⟩ := r
  simp only [] at hrl
  have hiD : i < D0.length := by omega
  clear hlen0 hDO hh hrow hbM hts hgo hget hiM vM iM jM hD
  go_wp2_with fail
  clear X1 X2 X3 hci dq dq2 dq3
  refine join_region (fun l l' W' => ∃ (NX : Nat) (adX : Option Addr) (capX : Nat) (us : List Value), us.length = 10 ∧ l' = l.take 10 ++ (.pointer (some ⟨NX, 0, none⟩) :: .bool rok :: (l.drop 12).take 68) ++ us ++ l.drop 90 ∧ FrameAt W' NX ra rb rc adX rM.length capX ∧ W'.ownsRow x8.heap.size 5 1 (.slice adX rM.length capX) rM.length (rM.map (Value.int .u8)) ∧ (∀ j, (Value.slice adX rM.length capX).ownBlock = some j → j ≠ NX) ∧ x8.heap.size ≤ NX ∧ Below x8.heap.size x8 W') ?_ ?_
  rotate_left
  · intro K2 hT
    refine wp_region_held (S := fun Y => Below x8.heap.size x8 Y) (by kernel_rfl) ?_
    change wpAnyH _ _ _ _ _ _ _ _ (World.drew _)
    have hb0 : Below x8.heap.size x8 x8.drew := (Below.refl _ _).drew
    obtain ⟨y0, hy0⟩ : ∃ z, z = x8.drew := ⟨_, rfl⟩
    rw [← hy0] at hb0 ⊢
    have z0 := hb0.size
    clear hy0
    refine takeW 0 81 (.pointer (some ⟨x1.heap.size, 1, none⟩)) rfl rfl (by kernel_rfl) (by kernel_rfl) (by kernel_rfl) (fun _ _ _ h => h) (by kernel_rfl) (by (intro w hSw; go_simp)) (by assumption) ?_
    simp only [List.set_cons_zero, List.set_cons_succ]
    refine takeW 1 82 (.slice (some ⟨bM, offM, none⟩) D0.length kM3_) rfl rfl (by kernel_rfl) (by kernel_rfl) (by kernel_rfl) (fun _ _ _ h => h) (by kernel_rfl) (by (intro Y hSw; obtain ⟨X1, X2, X3⟩ := A3.below hSw (by omega); go_simp)) (by assumption) ?_
    simp only [List.set_cons_zero, List.set_cons_succ]
    refine takeW 2 83 (.int .i64 (i : Int)) rfl rfl (by kernel_rfl) (by kernel_rfl) (by kernel_rfl) (fun _ _ _ h => h) (by kernel_rfl) (by (intro w hSw; go_simp)) (by assumption) ?_
    simp only [List.set_cons_zero, List.set_cons_succ]
    refine takeW 3 84 (.pointer (some ⟨bM, offM + i * 2, none⟩)) rfl rfl (by kernel_rfl) (by kernel_rfl) (by kernel_rfl) (fun _ _ _ h => h) (by kernel_rfl) (by (intro Y hSw; go_simp; try omega)) (by assumption) ?_
    simp only [List.set_cons_zero, List.set_cons_succ]
    refine takeW 4 85 (.agg #[.int .i64 m.o, .slice m.ad m.L.length m.cap]) rfl rfl (by kernel_rfl) (by kernel_rfl) (by kernel_rfl) (fun _ _ _ h => h) (by kernel_rfl) (by (intro Y hSw; obtain ⟨X1, X2⟩ := hmY Y hSw; go_simp)) (by assumption) ?_
    simp only [List.set_cons_zero, List.set_cons_succ]
    refine takeW 5 86 (.agg #[.int .i64 a, .int .i64 b, .int .i64 c, .slice aL L.length kL]) rfl rfl (by kernel_rfl) (by kernel_rfl) (by kernel_rfl) (fun _ _ _ h => h) (by kernel_rfl) (by (intro Y hSw; obtain ⟨X1, X2, X3, X4⟩ := F5.below hSw (by omega); go_simp)) (by assumption) ?_
    simp only [List.set_cons_zero, List.set_cons_succ]
    have hby0 := hb0
    refine wpAnyH_all (rs := [6, 10]) (by kernel_rfl) (by simp) ?_
    intro i hi; rcases (by simpa using hi : i = 6 ∨ i = 10) with rfl | rfl
    · refine wpOp_step rfl (fun K hK => ?_)
      rw [if_pos (by kernel_rfl)]
      go_simp
      go_at_call 19
      refine (insideI m.o m.ad m.L.length m.cap (fun i => m.L.getD i 0) a b c aL kL L y0 (hnY y0 hby0) hmk (VL.v.carry (fun x e hp => hby0.block _ (VL.v.lt x e hp))) hlL ).mono ?_
      rintro e y1 ⟨adX, capX, rfl, oX, ky1⟩
      rw [hr.out] at oX ⊢
      simp only [] at oX ⊢
      have hby1 : Below x8.heap.size x8 y1 := hby0.trans (ky1.mono hby0.size)
      have zy1 := ky1.size
      refine hK _ _ ⟨hby1, ?_⟩
      clear hK K hi
      refine takeW 7 80 (.tuple #[.agg #[.int .i64 ra, .int .i64 rb, .int .i64 rc, .slice adX rM.length capX], .bool rok]) rfl rfl (by kernel_rfl) (by kernel_rfl) (by kernel_rfl) (fun _ _ _ h => h) (by kernel_rfl) (by (intro w hSw; go_simp)) (by assumption) ?_
      simp only [List.set_cons_zero, List.set_cons_succ]
      refine takeW 8 88 (.agg #[.int .i64 ra, .int .i64 rb, .int .i64 rc, .slice adX rM.length capX]) rfl rfl (by kernel_rfl) (by kernel_rfl) (by kernel_rfl) (fun _ _ _ h => h) (by kernel_rfl) (by (intro w hSw; go_simp)) (by assumption) ?_
      simp only [List.set_cons_zero, List.set_cons_succ]
      refine takeW 9 89 (.bool rok) rfl rfl (by kernel_rfl) (by kernel_rfl) (by kernel_rfl) (fun _ _ _ h => h) (by kernel_rfl) (by (intro w hSw; go_simp)) (by assumption) ?_
      simp only [List.set_cons_zero, List.set_cons_succ]
      refine wpAnyH_all (rs := [10]) (by kernel_rfl) (by simp) ?_
      intro i hi; obtain rfl : i = 10 := by simpa using hi
      refine wpOp_step rfl (fun K hK => ?_)
      rw [if_pos (by kernel_rfl)]
      go_simp
      obtain ⟨NX, hNX⟩ : ∃ n, n = y1.heap.size := ⟨_, rfl⟩
      obtain ⟨y2, hy2⟩ : ∃ z, z = y1.alloc (Obj.cells #[.int .i64 0, .int .i64 0, .int .i64 0, .slice none 0 0] 30) := ⟨_, rfl⟩
      have ky2 : Below y1.heap.size y1 y2 := by rw [hy2]; exact below_box _ _
      have CX : FrameAt y2 NX 0 0 0 none 0 0 := by rw [hy2, hNX]; refine ⟨?_, ?_, ?_, ?_⟩ <;> simp [go_sem]
      have FX : ∀ i, y2.frozen? ⟨NX, i, none⟩ = false := by intro i; rw [hy2, hNX]; simp [go_sem]
      have tX := CX.lt
      have hNX' : y1.heap.size ≤ NX := by omega
      rw [← hNX, ← hy2]
      have hby2 : Below x8.heap.size x8 y2 := hby1.trans (ky2.mono hby1.size)
      have zy2 := ky2.size
      clear hy2 hNX
      have nX : ∀ j, (Value.slice adX rM.length capX).ownBlock = some j → j ≠ NX := fun j q => by have := (own_lt oX j q).2; omega
      have oX := own_below2 oX ky2 (Nat.le_refl _)
      refine hK _ _ ⟨hby2, ?_⟩
      clear hK K hi
      have c0 := CX
      obtain ⟨c0, c1, c2, c3⟩ := c0
      have f0 := FX 0
      have f1 := FX 1
      have f2 := FX 2
      have f3 := FX 3
      obtain ⟨yF, hyF⟩ : ∃ z, z = (((y2.setCell ⟨NX, 0, none⟩ (.int .i64 ra)).setCell ⟨NX, 1, none⟩ (.int .i64 rb)).setCell ⟨NX, 2, none⟩ (.int .i64 rc)).setCell ⟨NX, 3, none⟩ (.slice adX rM.length capX) := ⟨_, rfl⟩
      have hF : ∀ j, j ≠ NX → yF.heap[j]? = y2.heap[j]? := fun j hj => by rw [hyF, Below.heap_setCell _ _ _ _ hj, Below.heap_setCell _ _ _ _ hj, Below.heap_setCell _ _ _ _ hj, Below.heap_setCell _ _ _ _ hj]
      have GX : FrameAt yF NX ra rb rc adX rM.length capX := by rw [hyF]; exact frame_put CX rfl
      have BF : Below x8.heap.size x8 yF := by rw [hyF]; exact (((hby2.setCell (by show x8.heap.size ≤ NX; omega) _).setCell (by show x8.heap.size ≤ NX; omega) _).setCell (by show x8.heap.size ≤ NX; omega) _).setCell (by show x8.heap.size ≤ NX; omega) _
      have oF : yF.ownsRow x8.heap.size 5 1 (.slice adX rM.length capX) rM.length (rM.map (Value.int .u8)) := own_base (own_same oX (fun j q => hF j (nX j q))) (by omega)
      refine wpAnyH_all (rs := [11]) (by kernel_rfl) (by simp) ?_
      intro i hi; obtain rfl : i = 11 := by simpa using hi
      refine wpOp_step rfl (fun K hK => ?_)
      rw [if_pos (by kernel_rfl)]
      go_simp
      rw [← hyF]
      refine hK _ _ ⟨BF, ?_⟩
      clear hK K hi
      refine takeW 12 11 (.bool rok) rfl rfl (by kernel_rfl) (by kernel_rfl) (by kernel_rfl) (fun _ _ _ h => h) (by kernel_rfl) (by (intro w hSw; go_simp)) (by assumption) ?_
      simp only [List.set_cons_zero, List.set_cons_succ]
      refine wpAnyH_done (by kernel_rfl) ?_ _
      exact hT.out _ _ ⟨NX, adX, capX, [_, _, _, _, _, _, _, _, _, _], rfl, rfl, GX, oF, nX, by omega, BF⟩
    · refine wpOp_step rfl (fun K hK => ?_)
      rw [if_pos (by kernel_rfl)]
      go_simp
      obtain ⟨NX, hNX⟩ : ∃ n, n = y0.heap.size := ⟨_, rfl⟩
      obtain ⟨y1, hy1⟩ : ∃ z, z = y0.alloc (Obj.cells #[.int .i64 0, .int .i64 0, .int .i64 0, .slice none 0 0] 30) := ⟨_, rfl⟩
      have ky1 : Below y0.heap.size y0 y1 := by rw [hy1]; exact below_box _ _
      have CX : FrameAt y1 NX 0 0 0 none 0 0 := by rw [hy1, hNX]; refine ⟨?_, ?_, ?_, ?_⟩ <;> simp [go_sem]
      have FX : ∀ i, y1.frozen? ⟨NX, i, none⟩ = false := by intro i; rw [hy1, hNX]; simp [go_sem]
      have tX := CX.lt
      have hNX' : y0.heap.size ≤ NX := by omega
      rw [← hNX, ← hy1]
      have hby1 : Below x8.heap.size x8 y1 := hby0.trans (ky1.mono hby0.size)
      have zy1 := ky1.size
      clear hy1 hNX
      refine hK _ _ ⟨hby1, ?_⟩
      clear hK K hi
      refine wpAnyH_all (rs := [6]) (by kernel_rfl) (by simp) ?_
      intro i hi; obtain rfl : i = 6 := by simpa using hi
      refine wpOp_step rfl (fun K hK => ?_)
      rw [if_pos (by kernel_rfl)]
      go_simp
      go_at_call 19
      refine (insideI m.o m.ad m.L.length m.cap (fun i => m.L.getD i 0) a b c aL kL L y1 (hnY y1 hby1) hmk (VL.v.carry (fun x e hp => hby1.block _ (VL.v.lt x e hp))) hlL ).mono ?_
      rintro e y2 ⟨adX, capX, rfl, oX, ky2⟩
      rw [hr.out] at oX ⊢
      simp only [] at oX ⊢
      have hby2 : Below x8.heap.size x8 y2 := hby1.trans (ky2.mono hby1.size)
      have zy2 := ky2.size
      have nX : ∀ j, (Value.slice adX rM.length capX).ownBlock = some j → j ≠ NX := fun j q => by have := (own_lt oX j q).1; omega
      have CX := CX.below ky2 (by omega)
      have FX := fz_below FX ky2 (by omega)
      refine hK _ _ ⟨hby2, ?_⟩
      clear hK K hi
      refine takeW 7 80 (.tuple #[.agg #[.int .i64 ra, .int .i64 rb, .int .i64 rc, .slice adX rM.length capX], .bool rok]) rfl rfl (by kernel_rfl) (by kernel_rfl) (by kernel_rfl) (fun _ _ _ h => h) (by kernel_rfl) (by (intro w hSw; go_simp)) (by assumption) ?_
      simp only [List.set_cons_zero, List.set_cons_succ]
      refine takeW 8 88 (.agg #[.int .i64 ra, .int .i64 rb, .int .i64 rc, .slice adX rM.length capX]) rfl rfl (by kernel_rfl) (by kernel_rfl) (by kernel_rfl) (fun _ _ _ h => h) (by kernel_rfl) (by (intro w hSw; go_simp)) (by assumption) ?_
      simp only [List.set_cons_zero, List.set_cons_succ]
      refine takeW 9 89 (.bool rok) rfl rfl (by kernel_rfl) (by kernel_rfl) (by kernel_rfl) (fun _ _ _ h => h) (by kernel_rfl) (by (intro w hSw; go_simp)) (by assumption) ?_
      simp only [List.set_cons_zero, List.set_cons_succ]
      have c0 := CX
      obtain ⟨c0, c1, c2, c3⟩ := c0
      have f0 := FX 0
      have f1 := FX 1
      have f2 := FX 2
      have f3 := FX 3
      obtain ⟨yF, hyF⟩ : ∃ z, z = (((y2.setCell ⟨NX, 0, none⟩ (.int .i64 ra)).setCell ⟨NX, 1, none⟩ (.int .i64 rb)).setCell ⟨NX, 2, none⟩ (.int .i64 rc)).setCell ⟨NX, 3, none⟩ (.slice adX rM.length capX) := ⟨_, rfl⟩
      have hF : ∀ j, j ≠ NX → yF.heap[j]? = y2.heap[j]? := fun j hj => by rw [hyF, Below.heap_setCell _ _ _ _ hj, Below.heap_setCell _ _ _ _ hj, Below.heap_setCell _ _ _ _ hj, Below.heap_setCell _ _ _ _ hj]
      have GX : FrameAt yF NX ra rb rc adX rM.length capX := by rw [hyF]; exact frame_put CX rfl
      have BF : Below x8.heap.size x8 yF := by rw [hyF]; exact (((hby2.setCell (by show x8.heap.size ≤ NX; omega) _).setCell (by show x8.heap.size ≤ NX; omega) _).setCell (by show x8.heap.size ≤ NX; omega) _).setCell (by show x8.heap.size ≤ NX; omega) _
      have oF : yF.ownsRow x8.heap.size 5 1 (.slice adX rM.length capX) rM.length (rM.map (Value.int .u8)) := own_base (own_same oX (fun j q => hF j (nX j q))) (by omega)
      refine wpAnyH_all (rs := [11]) (by kernel_rfl) (by simp) ?_
      intro i hi; obtain rfl : i = 11 := by simpa using hi
      refine wpOp_step rfl (fun K hK => ?_)
      rw [if_pos (by kernel_rfl)]
      go_simp
      rw [← hyF]
      refine hK _ _ ⟨BF, ?_⟩
      clear hK K hi
      refine takeW 12 11 (.bool rok) rfl rfl (by kernel_rfl) (by kernel_rfl) (by kernel_rfl) (fun _ _ _ h => h) (by kernel_rfl) (by (intro w hSw; go_simp)) (by assumption) ?_
      simp only [List.set_cons_zero, List.set_cons_succ]
      refine wpAnyH_done (by kernel_rfl) ?_ _
      exact hT.out _ _ ⟨NX, adX, capX, [_, _, _, _, _, _, _, _, _, _], rfl, rfl, GX, oF, nX, by omega, BF⟩
  rintro l' x9 ⟨NX, adX, capX, us, hul, rfl, GX, oX, nX, hNX, kx9⟩
  obtain ⟨u80, us, rfl⟩ : ∃ a b, us = a :: b := List.exists_cons_of_length_eq_add_one hul
  replace hul := Nat.succ.inj hul
  obtain ⟨u81, us, rfl⟩ : ∃ a b, us = a :: b := List.exists_cons_of_length_eq_add_one hul
  replace hul := Nat.succ.inj hul
  obtain ⟨u82, us, rfl⟩ : ∃ a b, us = a :: b := List.exists_cons_of_length_eq_add_one hul
  replace hul := Nat.succ.inj hul
  obtain ⟨u83, us, rfl⟩ : ∃ a b, us = a :: b := List.exists_cons_of_length_eq_add_one hul
  replace hul := Nat.succ.inj hul
  obtain ⟨u84, us, rfl⟩ : ∃ a b, us = a :: b := List.exists_cons_of_length_eq_add_one hul
  replace hul := Nat.succ.inj hul
  obtain ⟨u85, us, rfl⟩ : ∃ a b, us = a :: b := List.exists_cons_of_length_eq_add_one hul
  replace hul := Nat.succ.inj hul
  obtain ⟨u86, us, rfl⟩ : ∃ a b, us = a :: b := List.exists_cons_of_length_eq_add_one hul
  replace hul := Nat.succ.inj hul
  obtain ⟨u87, us, rfl⟩ : ∃ a b, us = a :: b := List.exists_cons_of_length_eq_add_one hul
  replace hul := Nat.succ.inj hul
  obtain ⟨u88, us, rfl⟩ : ∃ a b, us = a :: b := List.exists_cons_of_length_eq_add_one hul
  replace hul := Nat.succ.inj hul
  obtain ⟨u89, us, rfl⟩ : ∃ a b, us = a :: b := List.exists_cons_of_length_eq_add_one hul
  replace hul := Nat.succ.inj hul
  obtain rfl : us = [] := List.eq_nil_of_length_eq_zero hul
  clear hul
  simp only [List.take, List.drop, List.cons_append, List.nil_append]
  clear oX nX hmY hnY
  have hNX2 := GX.lt
  have sx9 := kx9.size
  have V3 := V3.below kx9 (by omega)
  have VL := VL.below kx9 (by omega)
  have A3 := A3.below kx9 (by omega)
  have F5 := F5.below kx9 (by omega)
  have V6 := V6.below kx9 (by omega)
  have A6 := A6.below kx9 (by omega)
  have BW := BW.trans (kx9.mono BW.size)
  clear kx9
  cases rok
  · have hTe : T1 = T0 := by rw [← hT1.out]; unfold pTab; rw [hpI.out]; rfl
    clear hT1
    subst hTe
    have A6' := A6
    obtain ⟨X1, X2, X3⟩ := A6'
    have A3' := A3
    obtain ⟨Y1, Y2, Y3⟩ := A3'
    go_wp2_with fail
    go_at_call 13
    clear X1 X2 X3 Y1 Y2 Y3
    refine (sameC _ _ _ _ _ _ _ _ _ _ _ _ _ _ _ x2.heap.size x3.heap.size w.heap.size x1.heap.size x9 V6 V3 (by omega)).mono ?_
    rintro e x10 ⟨rfl, kx10⟩
    have sx10 := kx10.size
    have V3 := V3.below kx10 (by omega)
    have A3 := A3.below kx10 (by omega)
    have V6 := V6.below kx10 (by omega)
    have A6 := A6.below kx10 (by omega)
    have GX := GX.below kx10 (by omega)
    have BW := BW.trans (kx10.mono BW.size)
    clear kx10
    go_wp2
    go_ret
    exact ⟨rfl, BW⟩
  obtain ⟨fb1, fb2, fc1, fc2⟩ := ins_fits hr.out
  have hTe : T1 = hearR T0 ⟨rb, rc, (i : Int), 20⟩ := by rw [← hT1.out]; unfold pTab; rw [hpI.out]; rfl
  have hO4 := cOk_small hbk.out
  have hok1 : cOk O0 D0 T1 = true := by rw [← hT1.out]; exact cOk_tab hbk.out
  have hlw : whereR T1 rb rc = ((i : Int), true) ∨ T0.length = 12 := by rw [hTe]; exact hear_where (x := ⟨rb, rc, (i : Int), 20⟩) (tab_tok hbk.out) (by unfold Hd.fits; simp only [decide_eq_true_eq]; omega)
  clear hTe hr hpI
  replace hok1 : Hid _ := hok1
  have A6' := A6
  obtain ⟨X1, X2, X3⟩ := A6'
  have GX' := GX
  obtain ⟨Y1, Y2, Y3, Y4⟩ := GX'
  go_wp2_with fail
  go_at_call 20
  clear X1 X2 X3 Y1 Y2 Y3 Y4
  refine (whereI aT6_ kT6_ T1 rb rc x9 V6.vT (by unfold maxLen; omega) (fun x e hp => by have := V6.iT x e hp; show x.block < _; omega)).mono ?_
  rintro e x10 ⟨rfl, kx10⟩
  obtain ⟨wh, hwh⟩ : ∃ r, Hid (whereR T1 rb rc = r) := ⟨_, rfl⟩
  rw [hwh.out]
  rw [hwh.out] at hlw
  obtain ⟨at1, kn⟩ := wh
  simp only [Prod.mk.injEq] at hlw ⊢
  have sx10 := kx10.size
  have V3 := V3.below kx10 (by omega)
  have A3 := A3.below kx10 (by omega)
  have V6 := V6.below kx10 (by omega)
  have A6 := A6.below kx10 (by omega)
  have GX := GX.below kx10 (by omega)
  have BW := BW.trans (kx10.mono BW.size)
  clear kx10
  cases kn
  · have h12 : T0.length = 12 := by rcases hlw with ⟨_, q⟩ | q; cases q; exact q
    have d12 : (((T0.length : Nat) : Int) == 12) = true := by simp [h12]
    obtain ⟨X1, X2, X3⟩ := A3
    go_wp2
    go_ret
    exact ⟨rfl, BW⟩
  by_cases hat : at1 = (i : Int)
  rotate_left
  · have h12 : T0.length = 12 := by rcases hlw with ⟨q, _⟩ | q; exact absurd q hat; exact q
    have d12 : (((T0.length : Nat) : Int) == 12) = true := by simp [h12]
    have had : decide (at1 = (i : Int)) = false := decide_eq_false hat
    have hlt0 : decide ((0 : Int) < (O0.length : Int)) = true := decide_eq_true (by omega)
    have A3' := A3
    obtain ⟨X1, X2, X3⟩ := A3'
    have A6' := A6
    obtain ⟨Y1, Y2, Y3⟩ := A6'
    go_wp2
    refine wp_loop_rounds 1 ?_; rw [rounds_succ]
    clear X1 X2 X3 Y1 Y2 Y3
    have hpw : (Lit.int .i64 (i : Int)).wf = true := hp
    obtain ⟨O9, hO9⟩ : ∃ x, Hid (gO O0 D0 T1 (i : Int) false = x) := ⟨_, rfl⟩
    have hgt := gT_shut hok1.out hi0 hbo.out
    have hg2 := gT_len O0 D0 T1 (i : Int) false
    obtain ⟨T9, hT9⟩ : ∃ x, Hid (gT O0 D0 T1 (i : Int) false = x) := ⟨_, rfl⟩
    rw [hT9.out] at hgt hg2
    replace hgt : Hid _ := hgt
    have A6' := A6
    obtain ⟨X1, X2, X3⟩ := A6'
    go_wp2_with fail
    go_at_call 11
    clear X1 X2 X3
    refine (gateI aO6_ kO6_ O0 aM6_ kM6_ D0 aT6_ kT6_ T1 (i : Int) false x2.heap.size x3.heap.size x10 V6 (by omega) hgl hpw).mono ?_
    intro e x11 hq
    rw [hO9.out, hT9.out] at hq
    obtain ⟨aO19_, kO19_, aM19_, kM19_, aT19_, kT19_, rfl, W19, kx11⟩ := hq
    have V19 := W19.view
    clear W19
    have sx11 := kx11.size
    have V3 := V3.below kx11 (by omega)
    have A3 := A3.below kx11 (by omega)
    have V6 := V6.below kx11 (by omega)
    have A6 := A6.below kx11 (by omega)
    have GX := GX.below kx11 (by omega)
    have BW := BW.trans (kx11.mono BW.size)
    clear kx11
    obtain ⟨x12, hx12⟩ : ∃ y, y = x11.alloc (Obj.cells #[.slice aO19_ O9.length kO19_, .slice aM19_ D0.length kM19_, .slice aT19_ T9.length kT19_] 28) := ⟨_, rfl⟩
    have kx12 : Below x11.heap.size x11 x12 := by rw [hx12]; exact below_box x11 _
    have A19 : CdAt x12 x11.heap.size aO19_ O9.length kO19_ aM19_ D0.length kM19_ aT19_ T9.length kT19_ := by rw [hx12]; exact CdAt.box _ _ _ _ _ _ _ _ _ _ _
    have tx12 : x11.heap.size < x12.heap.size := A19.lt
    have sx12 := kx12.size
    have V3 := V3.below kx12 (by omega)
    have A3 := A3.below kx12 (by omega)
    have V6 := V6.below kx12 (by omega)
    have A6 := A6.below kx12 (by omega)
    have GX := GX.below kx12 (by omega)
    have V19 := V19.below kx12 (by omega)
    have BW := BW.trans (kx12.mono BW.size)
    clear kx12
    have A19' := A19
    obtain ⟨X1, X2, X3⟩ := A19'
    have GX' := GX
    obtain ⟨Y1, Y2, Y3, Y4⟩ := GX'
    rw [hx12] at X1 X2 X3 Y1 Y2 Y3 Y4
    go_wp2_with fail
    go_at_call 20
    rw [← hx12]
    clear hx12
    clear X1 X2 X3 Y1 Y2 Y3 Y4
    refine (whereI aT19_ kT19_ T9 rb rc x12 V19.vT (by unfold maxLen; omega) (fun x e hp => by have := V19.iT x e hp; show x.block < _; omega)).mono ?_
    rintro e x13 ⟨rfl, kx13⟩
    obtain ⟨ws, hws⟩ : ∃ r, Hid (whereR T9 rb rc = r) := ⟨_, rfl⟩
    rw [hws.out]
    have sx13 := kx13.size
    have V3 := V3.below kx13 (by omega)
    have A3 := A3.below kx13 (by omega)
    have V6 := V6.below kx13 (by omega)
    have A6 := A6.below kx13 (by omega)
    have GX := GX.below kx13 (by omega)
    have V19 := V19.below kx13 (by omega)
    have A19 := A19.below kx13 (by omega)
    have BW := BW.trans (kx13.mono BW.size)
    clear kx13
    obtain ⟨u1, u2⟩ := ws
    simp only []
    go_wp2
    go_ret
    exact ⟨rfl, BW⟩
  subst hat
  have hw1 : Hid (whereR T1 rb rc = ((i : Int), true)) := hwh
  have tok1 := tab_tok hok1.out
  clear hlw hwh
  go_wp2
  go_loopw [14] (fun v wr => ∃ k : Nat, k ≤ O0.length ∧ v = .int .i64 k ∧ Below x10.heap.size x10 wr) (fun v _ => O0.length - (intOf v).toNat)
  case atStart => exact ⟨0, Nat.zero_le _, rfl, Below.refl _ _⟩
  case round =>
    obtain ⟨k, hk, rfl, hb⟩ := hrel
    generalize hgy : wr = xr at *
    clear hgy
    have hbX := hb
    have BW0 := BW
    have sxr := hb.size
    have V3 := V3.below hb (by omega)
    have A3 := A3.below hb (by omega)
    have V6 := V6.below hb (by omega)
    have A6 := A6.below hb (by omega)
    have GX := GX.below hb (by omega)
    have BW := BW.trans (hb.mono BW.size)
    clear hb
    by_cases hlt : k < O0.length
    · have BX2 : Below xr.heap.size xr xr := Below.refl _ _
      have dk : decide ((k : Int) < (O0.length : Int)) = true := decide_eq_true (by omega)
      have kw : (Lit.int .i64 (k : Int)).wf = true := wf_in (by omega) (by omega)
      have A6' := A6
      obtain ⟨U1, U2, U3⟩ := A6'
      have GX' := GX
      obtain ⟨W1, W2, W3, W4⟩ := GX'
      obtain ⟨x101, hx101⟩ : ∃ y, y = xr.alloc (Obj.cells #[.int .i64 rb, .int .i64 9, .int .i64 rc, .slice none 0 0] 30) := ⟨_, rfl⟩
      have kx101 : Below xr.heap.size xr x101 := by rw [hx101]; exact below_box xr _
      have F15 : FrameAt x101 xr.heap.size rb 9 rc none 0 0 := by rw [hx101]; exact frameAt_box xr _ _ _ _ _ _ _
      have tx101 : xr.heap.size < x101.heap.size := F15.lt
      have sx101 := kx101.size
      have V3 := V3.below kx101 (by omega)
      have A3 := A3.below kx101 (by omega)
      have V6 := V6.below kx101 (by omega)
      have A6 := A6.below kx101 (by omega)
      have GX := GX.below kx101 (by omega)
      have BW := BW.trans (kx101.mono BW.size)
      have BX2 := BX2.trans (kx101.mono BX2.size)
      clear kx101
      have A6' := A6
      obtain ⟨X1, X2, X3⟩ := A6'
      have F15' := F15
      obtain ⟨Y1, Y2, Y3, Y4⟩ := F15'
      rw [hx101] at X1 X2 X3 Y1 Y2 Y3 Y4
      go_wp2_with fail
      go_at_call 8
      rw [← hx101]
      clear hx101
      clear X1 X2 X3 Y1 Y2 Y3 Y4
      clear U1 U2 U3 W1 W2 W3 W4
      have hf6 := pOuts_few O0 D0 T1 (k : Int) rb 9 rc []
      refine (passI sentI aO6_ kO6_ O0 aM6_ kM6_ D0 aT6_ kT6_ T1 (k : Int) rb 9 rc none 0 [] x2.heap.size x3.heap.size x101 V6 (by omega) hgl kw (fun h => absurd h (by simp)) (by simp)).mono ?_
      intro e x102 hq
      obtain ⟨T2, hT2⟩ : ∃ x, Hid (pTab O0 D0 T1 (k : Int) rb 9 rc [] = x) := ⟨_, rfl⟩
      rw [hT2.out] at hq
      obtain ⟨aO16_, kO16_, aM16_, kM16_, aT16_, kT16_, aL6, kL6, Ns6, fp, mid, rfl, cW, m1, m2, hd6, ow, hf, kx102⟩ := hq
      have Q6 : ObI x102 x101.heap.size x102.heap.size aL6 Ns6 := ((⟨fp, ow, hf⟩ : ObJ x102 mid x102.heap.size aL6 Ns6).view).wide m1 (Nat.le_refl _)
      clear cW ow hf m1 m2
      have sm6 := (outs_small hf6 hd6).1
      have bo6 := back_only hw1.out (by omega) (by omega) hd6
      clear hd6 hf6 hT2
      have sx102 := kx102.size
      have V3 := V3.below kx102 (by omega)
      have A3 := A3.below kx102 (by omega)
      have V6 := V6.below kx102 (by omega)
      have A6 := A6.below kx102 (by omega)
      have GX := GX.below kx102 (by omega)
      have F15 := F15.below kx102 (by omega)
      have BW := BW.trans (kx102.mono BW.size)
      have BX2 := BX2.trans (kx102.mono BX2.size)
      clear kx102
      obtain ⟨x103, hx103⟩ : ∃ y, y = x102.alloc (Obj.cells #[.slice aO16_ O0.length kO16_, .slice aM16_ D0.length kM16_, .slice aT16_ T2.length kT16_] 28) := ⟨_, rfl⟩
      have kx103 : Below x102.heap.size x102 x103 := by rw [hx103]; exact below_box x102 _
      have A16 : CdAt x103 x102.heap.size aO16_ O0.length kO16_ aM16_ D0.length kM16_ aT16_ T2.length kT16_ := by rw [hx103]; exact CdAt.box _ _ _ _ _ _ _ _ _ _ _
      have tx103 : x102.heap.size < x103.heap.size := A16.lt
      have sx103 := kx103.size
      have V3 := V3.below kx103 (by omega)
      have A3 := A3.below kx103 (by omega)
      have V6 := V6.below kx103 (by omega)
      have A6 := A6.below kx103 (by omega)
      have GX := GX.below kx103 (by omega)
      have F15 := F15.below kx103 (by omega)
      have Q6 := Q6.below kx103 (by omega)
      have BW := BW.trans (kx103.mono BW.size)
      have BX2 := BX2.trans (kx103.mono BX2.size)
      clear kx103
      go_wp2
      rw [← hx103]
      clear hx103
      skip
      go_loopw [18] (fun v wr => ∃ q : Nat, q ≤ Ns6.length ∧ v = .int .i64 q ∧ Below x103.heap.size x103 wr) (fun v _ => Ns6.length - (intOf v).toNat)
      case atStart => exact ⟨0, Nat.zero_le _, rfl, Below.refl _ _⟩
      case round =>
        obtain ⟨q, hq, rfl, hbq⟩ := hrel
        have sq := hbq.size
        skip
        by_cases hlq : q < Ns6.length
        · obtain ⟨c6, o6, rfl, hc0⟩ := Q6.v.row (by omega)
          have i6 := Q6.r ⟨c6, o6, none⟩ rfl (by omega)
          simp only [] at i6
          have X1 := ((hc0 q hlq).same (hbq.block c6 (by omega))).1
          rw [bo6 q hlq] at X1
          have dl : decide ((q : Int) < (Ns6.length : Int)) = true := decide_eq_true (by omega)
          go_wp2
          go_roundw
          case rel => exact ⟨q + 1, by omega, by go_num, hbq⟩
          case measure => simp [intOf]; omega
        · obtain rfl : q = Ns6.length := by omega
          go_wp2
          go_roundw
          case rel => show ∃ k' : Nat, k' ≤ O0.length ∧ _ = Value.int .i64 (k' : Int) ∧ Below x10.heap.size x10 wr; exact ⟨k + 1, by omega, by go_num, hbX.trans ((BX2.trans (hbq.mono BX2.size)).mono hbX.size)⟩
          case measure => simp [intOf]; omega
    · obtain rfl : k = O0.length := by omega
      have A6' := A6
      obtain ⟨U1, U2, U3⟩ := A6'
      have hpw : (Lit.int .i64 (i : Int)).wf = true := hp
      obtain ⟨O9, hO9⟩ : ∃ x, Hid (gO O0 D0 T1 (i : Int) false = x) := ⟨_, rfl⟩
      have hgt := gT_shut hok1.out hi0 hbo.out
      have hg2 := gT_len O0 D0 T1 (i : Int) false
      obtain ⟨T9, hT9⟩ : ∃ x, Hid (gT O0 D0 T1 (i : Int) false = x) := ⟨_, rfl⟩
      rw [hT9.out] at hgt hg2
      replace hgt : Hid _ := hgt
      have A6' := A6
      obtain ⟨X1, X2, X3⟩ := A6'
      go_wp2_with fail
      go_at_call 11
      clear X1 X2 X3
      refine (gateI aO6_ kO6_ O0 aM6_ kM6_ D0 aT6_ kT6_ T1 (i : Int) false x2.heap.size x3.heap.size xr V6 (by omega) hgl hpw).mono ?_
      intro e x11 hq
      rw [hO9.out, hT9.out] at hq
      obtain ⟨aO19_, kO19_, aM19_, kM19_, aT19_, kT19_, rfl, W19, kx11⟩ := hq
      have V19 := W19.view
      clear W19
      have sx11 := kx11.size
      have V3 := V3.below kx11 (by omega)
      have A3 := A3.below kx11 (by omega)
      have V6 := V6.below kx11 (by omega)
      have A6 := A6.below kx11 (by omega)
      have GX := GX.below kx11 (by omega)
      have BW := BW.trans (kx11.mono BW.size)
      clear kx11
      obtain ⟨x12, hx12⟩ : ∃ y, y = x11.alloc (Obj.cells #[.slice aO19_ O9.length kO19_, .slice aM19_ D0.length kM19_, .slice aT19_ T9.length kT19_] 28) := ⟨_, rfl⟩
      have kx12 : Below x11.heap.size x11 x12 := by rw [hx12]; exact below_box x11 _
      have A19 : CdAt x12 x11.heap.size aO19_ O9.length kO19_ aM19_ D0.length kM19_ aT19_ T9.length kT19_ := by rw [hx12]; exact CdAt.box _ _ _ _ _ _ _ _ _ _ _
      have tx12 : x11.heap.size < x12.heap.size := A19.lt
      have sx12 := kx12.size
      have V3 := V3.below kx12 (by omega)
      have A3 := A3.below kx12 (by omega)
      have V6 := V6.below kx12 (by omega)
      have A6 := A6.below kx12 (by omega)
      have GX := GX.below kx12 (by omega)
      have V19 := V19.below kx12 (by omega)
      have BW := BW.trans (kx12.mono BW.size)
      clear kx12
      have A19' := A19
      obtain ⟨X1, X2, X3⟩ := A19'
      have GX' := GX
      obtain ⟨Y1, Y2, Y3, Y4⟩ := GX'
      rw [hx12] at X1 X2 X3 Y1 Y2 Y3 Y4
      go_wp2_with fail
      go_at_call 20
      rw [← hx12]
      clear hx12
      clear X1 X2 X3 Y1 Y2 Y3 Y4
      refine (whereI aT19_ kT19_ T9 rb rc x12 V19.vT (by unfold maxLen; omega) (fun x e hp => by have := V19.iT x e hp; show x.block < _; omega)).mono ?_
      rintro e x13 ⟨rfl, kx13⟩
      obtain ⟨ws, hws⟩ : ∃ r, Hid (whereR T9 rb rc = r) := ⟨_, rfl⟩
      rw [hws.out]
      have sx13 := kx13.size
      have V3 := V3.below kx13 (by omega)
      have A3 := A3.below kx13 (by omega)
      have V6 := V6.below kx13 (by omega)
      have A6 := A6.below kx13 (by omega)
      have GX := GX.below kx13 (by omega)
      have V19 := V19.below kx13 (by omega)
      have A19 := A19.below kx13 (by omega)
      have BW := BW.trans (kx13.mono BW.size)
      clear kx13
      have hst := forgot_where tok1 hw1.out
      rw [← hgt.out, hws.out] at hst
      obtain ⟨u1, u2⟩ := ws
      simp only [] at hst
      subst hst
      simp only []
      go_wp2
      go_ret
      exact ⟨rfl, BW⟩

set_option maxRecDepth 100000 in
theorem lifted (os : Os) (started : os.Started) (H : Type) (enc : TypeId × Value → H) :
    ReturnsInHanded {} Tryz.checked os 4 .any (Rows.fnLearnsSpec.pre6 enc Tryz.prog Tryz.f4 Rows.fnLearnsRow.domain false) (Rows.fnLearnsSpec.post enc Tryz.prog Tryz.f4 false true false false) := by
  refine returnsInHanded_of_change (C := Tryz.checked) own started (by kernel_rfl) Tryz.func4
    (ChangeSpec.witness6 (enc := enc) (C := Tryz.checked) false ⟨#[], #[.slice none 0 0], []⟩ 8 (by kernel_rfl) (by kernel_rfl) (by kernel_rfl) (by kernel_rfl)) ?_
  intro W base args ds gs before hval0 hW hcnd _
  have hval : ∀ (j : Nat) t v, Tryz.f4.params[j]? = some t → args[j]? = some v → Value.okWide Tryz.prog W .any base t v := hval0
  have hW' := hW
  obtain ⟨p, q, hA0, hV, rfl, hfz, hnd⟩ := hW
  have hA : DataW.TrodAll enc Tryz.prog W 0 (fun _ => true) true Tryz.f4.params.toList args.toList ds p := hA0
  rw [Tryz.params4] at hA hval
  obtain ⟨v0, vs0, d0, ds0, p0, q0, hargs, rfl, rfl, h0, r0⟩ := trodAll_cons hA
  obtain ⟨rfl, rfl, rfl⟩ := trodAll_nil r0
  obtain rfl : args = #[v0] := by cases args; simp_all
  obtain ⟨rfl, rfl⟩ := trodVars_none hV
  obtain ⟨ad0, len0, cap0, f0, rfl, I0⟩ := codeIn_open (hval 0 22 v0 rfl rfl) h0
  have lt0 : ∀ x ∈ p0, x.block < W.heap.size := by obtain ⟨m, hm⟩ := h0; exact DataW.trod_lt m _ _ _ hm
  clear hA0 hval0
  refine (walk ad0 len0 cap0 f0 W I0).mono fun e W' ⟨he, bel⟩ => ?_
  subst he
  exact ⟨_, rfl, _, _, _, [], _, [], hW', trodAll_mk1 (shut_bool Tryz.underlying4 _), (trodAll_cons_mk (Below.trod laidOut (by kernel_rfl) (of_decide_eq_true (by kernel_rfl)) h0 bel lt0) trodAll_mk0), rfl, bel.frame _, fun h => by cases h⟩

theorem over : Rows.fnLearnsRow.holds Tryz.pinned (OpenSpec.ofChange Rows.fnLearnsSpec) :=
  OpenClaim.holds_of_wide 4 Tryz.f4 rfl rfl rfl rfl rfl rfl rfl ⟨rfl, rfl, rfl, rfl, rfl⟩ rfl rfl rfl rfl rfl (by kernel_rfl) Tryz.func4 (by kernel_rfl)
    (of_decide_eq_true (by kernel_rfl)) (by unfold Func.isWrapper; first | (rw [if_pos (by decide +kernel)]; kernel_rfl) | (rw [if_neg (by decide +kernel)]; exact ⟨rfl, rfl⟩))
    (fun os started H enc _ => lifted os started H enc)

theorem proved : Rows.FnLearnsSaid := over
end Go.Proofs.YtifndemkkaelaaaGreat.fnLearns
namespace Go.Proofs.YtifndemkkaelaaaGreat
theorem learns_holds : Rows.FnLearnsSaid := fnLearns.proved
#print axioms learns_holds
end Go.Proofs.YtifndemkkaelaaaGreat
