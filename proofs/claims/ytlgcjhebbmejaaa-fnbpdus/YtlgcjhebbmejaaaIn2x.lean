/- impl.InOk, walked. -/
import Derived.Test.YtlgcjhebbmejaaaRows
import Derived.WalkKit
import Derived.ProofKit
import Derived.OpenShut
import Derived.ShutString
import Derived.ChangeOld
import Derived.Below
import Derived.Deep.QuietTactic
import Derived.BigQuiet
import Derived.WalkSmall
import Derived.Laws.OwnMore
import Derived.WalkSpells
import Derived.WalkLawsBesides
import Derived.Deep.Cut
import Derived.Test.YtlgcjhebbmejaaaIn1x
import Derived.Test.YtlgcjhebbmejaaaTakes
namespace Go.Proofs.Ytlgcjhebbmejaaa
open Go.ChangeShapes Go.WideShapes Go.ChangeAt Go.RowKit
open Go.ChangeMaps (open_string shut_string)
set_option linter.unusedVariables false
set_option maxRecDepth 100000

set_option maxHeartbeats 4000000 in
theorem inOkI (x : Ik) (w : World) : Calls Try.prog 25 #[.agg #[.int .i64 x.k, .int .i64 x.q, .int .i64 x.r, .int .i64 x.c, .int .i64 x.b, .int .i64 x.p, .int .i64 x.h, .bool x.up]] w fun e w' => e = .returned (.bool (inOk x)) ∧ Below w.heap.size w w' := by
  obtain ⟨k, q, r, c, b, p, h, up⟩ := x
  dsimp only
  obtain ⟨R, hR⟩ : ∃ R, R = inOk ⟨k, q, r, c, b, p, h, up⟩ := ⟨_, rfl⟩
  rw [← hR]
  by_cases h1 : k = 1
  · subst h1
    have hR1 : Hid (R = (decide (0 ≤ q ∧ q ≤ 3) && (vOk r c b p && (decide (0 ≤ h ∧ h ≤ 8) && !up)))) := hR
    clear hR
    have hm1 : ∀ w_ : World, (method 208 86 (.agg #[.int .i64 q, .int .i64 r, .int .i64 c, .int .i64 b, .int .i64 p, .int .i64 h]) "loop.example/g00470/impl.fits").run Try.prog w_ = .ok (81, .agg #[.int .i64 q, .int .i64 r, .int .i64 c, .int .i64 b, .int .i64 p, .int .i64 h]) w_ := fun _ => by kernel_rfl
    have hm2 : ∀ w_ : World, (method 208 86 (.agg #[.int .i64 q, .int .i64 r, .int .i64 c, .int .i64 b, .int .i64 p, .int .i64 h]) "loop.example/g00470/impl.record").run Try.prog w_ = .ok (82, .agg #[.int .i64 q, .int .i64 r, .int .i64 c, .int .i64 b, .int .i64 p, .int .i64 h]) w_ := fun _ => by kernel_rfl
    cases hF : (decide (0 ≤ q ∧ q ≤ 3) && (vOk r c b p && decide (0 ≤ h ∧ h ≤ 8))) with
    | false =>
      have hN : Hid (R = false) := by unfold Hid; rw [hR1.out, show (decide (0 ≤ q ∧ q ≤ 3) && (vOk r c b p && (decide (0 ≤ h ∧ h ≤ 8) && !up))) = ((decide (0 ≤ q ∧ q ≤ 3) && (vOk r c b p && decide (0 ≤ h ∧ h ≤ 8))) && !up) by simp [Bool.and_assoc], hF]; rfl
      replace hF : Hid _ := hF
      clear hR1
      obtain ⟨y, hy⟩ : ∃ y, y = w.alloc (Obj.cells #[.int .i64 1, .int .i64 q, .int .i64 r, .int .i64 c, .int .i64 b, .int .i64 p, .int .i64 h, .bool up] 36) := ⟨_, rfl⟩
      have B0 : Below w.heap.size w y := by rw [hy]; exact below_new _
      have A0 : InAt y w.heap.size ⟨1, q, r, c, b, p, h, up⟩ := by rw [hy]; exact InAt.new w _ ⟨1, q, r, c, b, p, h, up⟩
      have S0 := A0.lt
      go_enter Try.func25, Try.ntmps25
      go_wp2_with fail
      go_at_call 52
      rw [← hy]
      clear hy
      refine (arrI ⟨1, q, r, c, b, p, h, up⟩ y).mono ?_
      rintro e y1 ⟨rfl, k1⟩
      have B1 := B0.trans (k1.mono B0.size)
      have A1 := A0.below k1 S0
      have S1 := A1.lt
      clear A0 k1 B0 S0
      rw [show arrV ⟨1, q, r, c, b, p, h, up⟩ = .iface 86 (.agg #[.int .i64 q, .int .i64 r, .int .i64 c, .int .i64 b, .int .i64 p, .int .i64 h]) from rfl]
      go_upto_region 2 with fail
      refine wp_region_held (S := fun Y => Below y1.heap.size y1 Y) (by kernel_rfl) ?_
      change wpAnyH _ _ _ _ _ _ _ _ (World.drew _)
      have hb0 : Below y1.heap.size y1 y1.drew := (Below.refl _ _).drew
      obtain ⟨u0, hy0⟩ : ∃ y_, y_ = y1.drew := ⟨_, rfl⟩
      rw [← hy0] at hb0 ⊢
      clear hy0
      refine takeW 0 6 (.iface 86 (.agg #[.int .i64 q, .int .i64 r, .int .i64 c, .int .i64 b, .int .i64 p, .int .i64 h])) rfl rfl (by kernel_rfl) (by kernel_rfl) (by kernel_rfl) (fun _ _ _ h => h) (by kernel_rfl) (by (intro w hSw; go_simp)) (by assumption) ?_
      simp only [List.set_cons_zero, List.set_cons_succ]
      refine takeW 1 7 (.bool true) rfl rfl (by kernel_rfl) (by kernel_rfl) (by kernel_rfl) (fun _ _ _ h => h) (by kernel_rfl) (by (intro w hSw; go_simp)) (by assumption) ?_
      simp only [List.set_cons_zero, List.set_cons_succ]
      refine takeW 2 8 (.bool true) rfl rfl (by kernel_rfl) (by kernel_rfl) (by kernel_rfl) (fun _ _ _ h => h) (by kernel_rfl) (by (intro w hSw; go_simp)) (by assumption) ?_
      simp only [List.set_cons_zero, List.set_cons_succ]
      refine takeW 3 9 (.iface 86 (.agg #[.int .i64 q, .int .i64 r, .int .i64 c, .int .i64 b, .int .i64 p, .int .i64 h])) rfl rfl (by kernel_rfl) (by kernel_rfl) (by kernel_rfl) (fun _ _ _ h => h) (by kernel_rfl) (by (intro w hSw; go_simp)) (by assumption) ?_
      simp only [List.set_cons_zero, List.set_cons_succ]
      refine wpAnyH_all (rs := [4]) (by kernel_rfl) (by simp) ?_
      intro i hi; obtain rfl : i = 4 := by simpa using hi
      refine wpOp_step rfl (fun K hK => ?_)
      rw [if_pos (by kernel_rfl)]
      go_simp
      go_at_call 81
      refine (ccFits q r c b p h u0).mono ?_
      rintro e u1 ⟨rfl, kq⟩
      have hb1 : Below y1.heap.size y1 u1 := hb0.trans (kq.mono hb0.size)
      clear kq
      rw [hF.out]
      refine hK _ _ ⟨hb1, ?_⟩
      clear hK K hi
      refine takeW 5 11 (.bool false) rfl rfl (by kernel_rfl) (by kernel_rfl) (by kernel_rfl) (fun _ _ _ h => h) (by kernel_rfl) (by (intro w hSw; go_simp)) (by assumption) ?_
      simp only [List.set_cons_zero, List.set_cons_succ]
      refine takeW 6 12 (.bool false) rfl rfl (by kernel_rfl) (by kernel_rfl) (by kernel_rfl) (fun _ _ _ h => h) (by kernel_rfl) (by (intro w hSw; go_simp)) (by assumption) ?_
      simp only [List.set_cons_zero, List.set_cons_succ]
      refine takeS 7 13 rfl rfl (by kernel_rfl) (by kernel_rfl) (by kernel_rfl) (fun _ _ _ h => h) (by kernel_rfl) (by assumption) ?_
      simp only [List.set_cons_zero, List.set_cons_succ]
      refine takeS 8 14 rfl rfl (by kernel_rfl) (by kernel_rfl) (by kernel_rfl) (fun _ _ _ h => h) (by kernel_rfl) (by assumption) ?_
      simp only [List.set_cons_zero, List.set_cons_succ]
      refine takeS 9 15 rfl rfl (by kernel_rfl) (by kernel_rfl) (by kernel_rfl) (fun _ _ _ h => h) (by kernel_rfl) (by assumption) ?_
      simp only [List.set_cons_zero, List.set_cons_succ]
      refine takeS 10 16 rfl rfl (by kernel_rfl) (by kernel_rfl) (by kernel_rfl) (fun _ _ _ h => h) (by kernel_rfl) (by assumption) ?_
      simp only [List.set_cons_zero, List.set_cons_succ]
      refine takeW 11 17 (.bool false) rfl rfl (by kernel_rfl) (by kernel_rfl) (by kernel_rfl) (fun _ _ _ h => h) (by kernel_rfl) (by (intro w hSw; go_simp)) (by assumption) ?_
      simp only [List.set_cons_zero, List.set_cons_succ]
      refine takeW 12 2 (.bool false) rfl rfl (by kernel_rfl) (by kernel_rfl) (by kernel_rfl) (fun _ _ _ h => h) (by kernel_rfl) (by (intro w hSw; go_simp)) (by assumption) ?_
      simp only [List.set_cons_zero, List.set_cons_succ]
      refine wpAnyH_done (by kernel_rfl) ?_ _
      go_wp2
      go_ret
      exact ⟨by rw [hN.out]; rfl, B1.trans (hb1.mono B1.size)⟩
    | true =>
      have hN : Hid (R = !up) := by unfold Hid; rw [hR1.out, show (decide (0 ≤ q ∧ q ≤ 3) && (vOk r c b p && (decide (0 ≤ h ∧ h ≤ 8) && !up))) = ((decide (0 ≤ q ∧ q ≤ 3) && (vOk r c b p && decide (0 ≤ h ∧ h ≤ 8))) && !up) by simp [Bool.and_assoc], hF]; rfl
      replace hF : Hid _ := hF
      clear hR1
      cases up
      · obtain ⟨y, hy⟩ : ∃ y, y = w.alloc (Obj.cells #[.int .i64 1, .int .i64 q, .int .i64 r, .int .i64 c, .int .i64 b, .int .i64 p, .int .i64 h, .bool false] 36) := ⟨_, rfl⟩
        have B0 : Below w.heap.size w y := by rw [hy]; exact below_new _
        have A0 : InAt y w.heap.size ⟨1, q, r, c, b, p, h, false⟩ := by rw [hy]; exact InAt.new w _ ⟨1, q, r, c, b, p, h, false⟩
        have S0 := A0.lt
        go_enter Try.func25, Try.ntmps25
        go_wp2_with fail
        go_at_call 52
        rw [← hy]
        clear hy
        refine (arrI ⟨1, q, r, c, b, p, h, false⟩ y).mono ?_
        rintro e y1 ⟨rfl, k1⟩
        have B1 := B0.trans (k1.mono B0.size)
        have A1 := A0.below k1 S0
        have S1 := A1.lt
        clear A0 k1 B0 S0
        rw [show arrV ⟨1, q, r, c, b, p, h, false⟩ = .iface 86 (.agg #[.int .i64 q, .int .i64 r, .int .i64 c, .int .i64 b, .int .i64 p, .int .i64 h]) from rfl]
        go_upto_region 2 with fail
        refine wp_region_held (S := fun Y => Below y1.heap.size y1 Y) (by kernel_rfl) ?_
        change wpAnyH _ _ _ _ _ _ _ _ (World.drew _)
        have hb0 : Below y1.heap.size y1 y1.drew := (Below.refl _ _).drew
        obtain ⟨u0, hy0⟩ : ∃ y_, y_ = y1.drew := ⟨_, rfl⟩
        rw [← hy0] at hb0 ⊢
        clear hy0
        refine takeW 0 6 (.iface 86 (.agg #[.int .i64 q, .int .i64 r, .int .i64 c, .int .i64 b, .int .i64 p, .int .i64 h])) rfl rfl (by kernel_rfl) (by kernel_rfl) (by kernel_rfl) (fun _ _ _ h => h) (by kernel_rfl) (by (intro w hSw; go_simp)) (by assumption) ?_
        simp only [List.set_cons_zero, List.set_cons_succ]
        refine takeW 1 7 (.bool true) rfl rfl (by kernel_rfl) (by kernel_rfl) (by kernel_rfl) (fun _ _ _ h => h) (by kernel_rfl) (by (intro w hSw; go_simp)) (by assumption) ?_
        simp only [List.set_cons_zero, List.set_cons_succ]
        refine takeW 2 8 (.bool true) rfl rfl (by kernel_rfl) (by kernel_rfl) (by kernel_rfl) (fun _ _ _ h => h) (by kernel_rfl) (by (intro w hSw; go_simp)) (by assumption) ?_
        simp only [List.set_cons_zero, List.set_cons_succ]
        refine takeW 3 9 (.iface 86 (.agg #[.int .i64 q, .int .i64 r, .int .i64 c, .int .i64 b, .int .i64 p, .int .i64 h])) rfl rfl (by kernel_rfl) (by kernel_rfl) (by kernel_rfl) (fun _ _ _ h => h) (by kernel_rfl) (by (intro w hSw; go_simp)) (by assumption) ?_
        simp only [List.set_cons_zero, List.set_cons_succ]
        refine wpAnyH_all (rs := [4]) (by kernel_rfl) (by simp) ?_
        intro i hi; obtain rfl : i = 4 := by simpa using hi
        refine wpOp_step rfl (fun K hK => ?_)
        rw [if_pos (by kernel_rfl)]
        go_simp
        go_at_call 81
        refine (ccFits q r c b p h u0).mono ?_
        rintro e u1 ⟨rfl, kq⟩
        have hb1 : Below y1.heap.size y1 u1 := hb0.trans (kq.mono hb0.size)
        clear kq
        rw [hF.out]
        refine hK _ _ ⟨hb1, ?_⟩
        clear hK K hi
        refine takeW 5 11 (.bool true) rfl rfl (by kernel_rfl) (by kernel_rfl) (by kernel_rfl) (fun _ _ _ h => h) (by kernel_rfl) (by (intro w hSw; go_simp)) (by assumption) ?_
        simp only [List.set_cons_zero, List.set_cons_succ]
        refine takeW 6 12 (.bool true) rfl rfl (by kernel_rfl) (by kernel_rfl) (by kernel_rfl) (fun _ _ _ h => h) (by kernel_rfl) (by (intro w hSw; go_simp)) (by assumption) ?_
        simp only [List.set_cons_zero, List.set_cons_succ]
        refine takeW 7 13 (.iface 86 (.agg #[.int .i64 q, .int .i64 r, .int .i64 c, .int .i64 b, .int .i64 p, .int .i64 h])) rfl rfl (by kernel_rfl) (by kernel_rfl) (by kernel_rfl) (fun _ _ _ h => h) (by kernel_rfl) (by (intro w hSw; go_simp)) (by assumption) ?_
        simp only [List.set_cons_zero, List.set_cons_succ]
        refine takeW 9 15 (.agg #[.int .i64 1, .int .i64 q, .int .i64 r, .int .i64 c, .int .i64 b, .int .i64 p, .int .i64 h, .bool false]) rfl rfl (by kernel_rfl) (by kernel_rfl) (by kernel_rfl) (fun _ _ _ h => h) (by kernel_rfl) (by (intro Y hSw; obtain ⟨X0, X1, X2, X3, X4, X5, X6, X7⟩ := A1.below hSw (by omega); go_simp)) (by assumption) ?_
        simp only [List.set_cons_zero, List.set_cons_succ]
        refine wpAnyH_all (rs := [8]) (by kernel_rfl) (by simp) ?_
        intro i hi; obtain rfl : i = 8 := by simpa using hi
        refine wpOp_step rfl (fun K hK => ?_)
        rw [if_pos (by kernel_rfl)]
        go_simp
        go_at_call 82
        refine (ccRec q r c b p h u1).mono ?_
        rintro e u2 ⟨rfl, kq⟩
        have hb2 : Below y1.heap.size y1 u2 := hb1.trans (kq.mono hb1.size)
        clear kq
        refine hK _ _ ⟨hb2, ?_⟩
        clear hK K hi
        refine takeW 10 16 (.bool true) rfl rfl (by kernel_rfl) (by kernel_rfl) (by kernel_rfl) (fun _ _ _ h => h) (by kernel_rfl) (by (intro Y hSw; go_simp; all_goals ((repeat' split) <;> first | (simp_all; done) | grind))) (by assumption) ?_
        simp only [List.set_cons_zero, List.set_cons_succ]
        refine takeW 11 17 (.bool true) rfl rfl (by kernel_rfl) (by kernel_rfl) (by kernel_rfl) (fun _ _ _ h => h) (by kernel_rfl) (by (intro w hSw; go_simp)) (by assumption) ?_
        simp only [List.set_cons_zero, List.set_cons_succ]
        refine takeW 12 2 (.bool true) rfl rfl (by kernel_rfl) (by kernel_rfl) (by kernel_rfl) (fun _ _ _ h => h) (by kernel_rfl) (by (intro w hSw; go_simp)) (by assumption) ?_
        simp only [List.set_cons_zero, List.set_cons_succ]
        refine wpAnyH_done (by kernel_rfl) ?_ _
        go_wp2
        go_ret
        exact ⟨by rw [hN.out]; rfl, B1.trans (hb2.mono B1.size)⟩
      · obtain ⟨y, hy⟩ : ∃ y, y = w.alloc (Obj.cells #[.int .i64 1, .int .i64 q, .int .i64 r, .int .i64 c, .int .i64 b, .int .i64 p, .int .i64 h, .bool true] 36) := ⟨_, rfl⟩
        have B0 : Below w.heap.size w y := by rw [hy]; exact below_new _
        have A0 : InAt y w.heap.size ⟨1, q, r, c, b, p, h, true⟩ := by rw [hy]; exact InAt.new w _ ⟨1, q, r, c, b, p, h, true⟩
        have S0 := A0.lt
        go_enter Try.func25, Try.ntmps25
        go_wp2_with fail
        go_at_call 52
        rw [← hy]
        clear hy
        refine (arrI ⟨1, q, r, c, b, p, h, true⟩ y).mono ?_
        rintro e y1 ⟨rfl, k1⟩
        have B1 := B0.trans (k1.mono B0.size)
        have A1 := A0.below k1 S0
        have S1 := A1.lt
        clear A0 k1 B0 S0
        rw [show arrV ⟨1, q, r, c, b, p, h, true⟩ = .iface 86 (.agg #[.int .i64 q, .int .i64 r, .int .i64 c, .int .i64 b, .int .i64 p, .int .i64 h]) from rfl]
        go_upto_region 2 with fail
        refine wp_region_held (S := fun Y => Below y1.heap.size y1 Y) (by kernel_rfl) ?_
        change wpAnyH _ _ _ _ _ _ _ _ (World.drew _)
        have hb0 : Below y1.heap.size y1 y1.drew := (Below.refl _ _).drew
        obtain ⟨u0, hy0⟩ : ∃ y_, y_ = y1.drew := ⟨_, rfl⟩
        rw [← hy0] at hb0 ⊢
        clear hy0
        refine takeW 0 6 (.iface 86 (.agg #[.int .i64 q, .int .i64 r, .int .i64 c, .int .i64 b, .int .i64 p, .int .i64 h])) rfl rfl (by kernel_rfl) (by kernel_rfl) (by kernel_rfl) (fun _ _ _ h => h) (by kernel_rfl) (by (intro w hSw; go_simp)) (by assumption) ?_
        simp only [List.set_cons_zero, List.set_cons_succ]
        refine takeW 1 7 (.bool true) rfl rfl (by kernel_rfl) (by kernel_rfl) (by kernel_rfl) (fun _ _ _ h => h) (by kernel_rfl) (by (intro w hSw; go_simp)) (by assumption) ?_
        simp only [List.set_cons_zero, List.set_cons_succ]
        refine takeW 2 8 (.bool true) rfl rfl (by kernel_rfl) (by kernel_rfl) (by kernel_rfl) (fun _ _ _ h => h) (by kernel_rfl) (by (intro w hSw; go_simp)) (by assumption) ?_
        simp only [List.set_cons_zero, List.set_cons_succ]
        refine takeW 3 9 (.iface 86 (.agg #[.int .i64 q, .int .i64 r, .int .i64 c, .int .i64 b, .int .i64 p, .int .i64 h])) rfl rfl (by kernel_rfl) (by kernel_rfl) (by kernel_rfl) (fun _ _ _ h => h) (by kernel_rfl) (by (intro w hSw; go_simp)) (by assumption) ?_
        simp only [List.set_cons_zero, List.set_cons_succ]
        refine wpAnyH_all (rs := [4]) (by kernel_rfl) (by simp) ?_
        intro i hi; obtain rfl : i = 4 := by simpa using hi
        refine wpOp_step rfl (fun K hK => ?_)
        rw [if_pos (by kernel_rfl)]
        go_simp
        go_at_call 81
        refine (ccFits q r c b p h u0).mono ?_
        rintro e u1 ⟨rfl, kq⟩
        have hb1 : Below y1.heap.size y1 u1 := hb0.trans (kq.mono hb0.size)
        clear kq
        rw [hF.out]
        refine hK _ _ ⟨hb1, ?_⟩
        clear hK K hi
        refine takeW 5 11 (.bool true) rfl rfl (by kernel_rfl) (by kernel_rfl) (by kernel_rfl) (fun _ _ _ h => h) (by kernel_rfl) (by (intro w hSw; go_simp)) (by assumption) ?_
        simp only [List.set_cons_zero, List.set_cons_succ]
        refine takeW 6 12 (.bool true) rfl rfl (by kernel_rfl) (by kernel_rfl) (by kernel_rfl) (fun _ _ _ h => h) (by kernel_rfl) (by (intro w hSw; go_simp)) (by assumption) ?_
        simp only [List.set_cons_zero, List.set_cons_succ]
        refine takeW 7 13 (.iface 86 (.agg #[.int .i64 q, .int .i64 r, .int .i64 c, .int .i64 b, .int .i64 p, .int .i64 h])) rfl rfl (by kernel_rfl) (by kernel_rfl) (by kernel_rfl) (fun _ _ _ h => h) (by kernel_rfl) (by (intro w hSw; go_simp)) (by assumption) ?_
        simp only [List.set_cons_zero, List.set_cons_succ]
        refine takeW 9 15 (.agg #[.int .i64 1, .int .i64 q, .int .i64 r, .int .i64 c, .int .i64 b, .int .i64 p, .int .i64 h, .bool true]) rfl rfl (by kernel_rfl) (by kernel_rfl) (by kernel_rfl) (fun _ _ _ h => h) (by kernel_rfl) (by (intro Y hSw; obtain ⟨X0, X1, X2, X3, X4, X5, X6, X7⟩ := A1.below hSw (by omega); go_simp)) (by assumption) ?_
        simp only [List.set_cons_zero, List.set_cons_succ]
        refine wpAnyH_all (rs := [8]) (by kernel_rfl) (by simp) ?_
        intro i hi; obtain rfl : i = 8 := by simpa using hi
        refine wpOp_step rfl (fun K hK => ?_)
        rw [if_pos (by kernel_rfl)]
        go_simp
        go_at_call 82
        refine (ccRec q r c b p h u1).mono ?_
        rintro e u2 ⟨rfl, kq⟩
        have hb2 : Below y1.heap.size y1 u2 := hb1.trans (kq.mono hb1.size)
        clear kq
        refine hK _ _ ⟨hb2, ?_⟩
        clear hK K hi
        refine takeW 10 16 (.bool false) rfl rfl (by kernel_rfl) (by kernel_rfl) (by kernel_rfl) (fun _ _ _ h => h) (by kernel_rfl) (by (intro Y hSw; go_simp; all_goals ((repeat' split) <;> first | (simp_all; done) | grind))) (by assumption) ?_
        simp only [List.set_cons_zero, List.set_cons_succ]
        refine takeW 11 17 (.bool false) rfl rfl (by kernel_rfl) (by kernel_rfl) (by kernel_rfl) (fun _ _ _ h => h) (by kernel_rfl) (by (intro w hSw; go_simp)) (by assumption) ?_
        simp only [List.set_cons_zero, List.set_cons_succ]
        refine takeW 12 2 (.bool false) rfl rfl (by kernel_rfl) (by kernel_rfl) (by kernel_rfl) (fun _ _ _ h => h) (by kernel_rfl) (by (intro w hSw; go_simp)) (by assumption) ?_
        simp only [List.set_cons_zero, List.set_cons_succ]
        refine wpAnyH_done (by kernel_rfl) ?_ _
        go_wp2
        go_ret
        exact ⟨by rw [hN.out]; rfl, B1.trans (hb2.mono B1.size)⟩
  by_cases h2 : k = 2
  · subst h2
    have hN : Hid (R = decide (q = 0 ∧ r = 0 ∧ c = 0 ∧ b = 0 ∧ p = 0 ∧ h = 0 ∧ up = false)) := hR
    clear hR h1
    have hm1 : ∀ w_ : World, (method 208 88 (.agg #[]) "loop.example/g00470/impl.fits").run Try.prog w_ = .ok (84, .agg #[]) w_ := fun _ => by kernel_rfl
    have hm2 : ∀ w_ : World, (method 208 88 (.agg #[]) "loop.example/g00470/impl.record").run Try.prog w_ = .ok (85, .agg #[]) w_ := fun _ => by kernel_rfl
    obtain ⟨y, hy⟩ : ∃ y, y = w.alloc (Obj.cells #[.int .i64 2, .int .i64 q, .int .i64 r, .int .i64 c, .int .i64 b, .int .i64 p, .int .i64 h, .bool up] 36) := ⟨_, rfl⟩
    have B0 : Below w.heap.size w y := by rw [hy]; exact below_new _
    have A0 : InAt y w.heap.size ⟨2, q, r, c, b, p, h, up⟩ := by rw [hy]; exact InAt.new w _ ⟨2, q, r, c, b, p, h, up⟩
    have S0 := A0.lt
    go_enter Try.func25, Try.ntmps25
    go_wp2_with fail
    go_at_call 52
    rw [← hy]
    clear hy
    refine (arrI ⟨2, q, r, c, b, p, h, up⟩ y).mono ?_
    rintro e y1 ⟨rfl, k1⟩
    have B1 := B0.trans (k1.mono B0.size)
    have A1 := A0.below k1 S0
    have S1 := A1.lt
    clear A0 k1 B0 S0
    rw [show arrV ⟨2, q, r, c, b, p, h, up⟩ = .iface 88 (.agg #[]) from rfl]
    go_upto_region 2 with fail
    refine wp_region_held (S := fun Y => Below y1.heap.size y1 Y) (by kernel_rfl) ?_
    change wpAnyH _ _ _ _ _ _ _ _ (World.drew _)
    have hb0 : Below y1.heap.size y1 y1.drew := (Below.refl _ _).drew
    obtain ⟨u0, hy0⟩ : ∃ y_, y_ = y1.drew := ⟨_, rfl⟩
    rw [← hy0] at hb0 ⊢
    clear hy0
    refine takeW 0 6 (.iface 88 (.agg #[])) rfl rfl (by kernel_rfl) (by kernel_rfl) (by kernel_rfl) (fun _ _ _ h => h) (by kernel_rfl) (by (intro w hSw; go_simp)) (by assumption) ?_
    simp only [List.set_cons_zero, List.set_cons_succ]
    refine takeW 1 7 (.bool true) rfl rfl (by kernel_rfl) (by kernel_rfl) (by kernel_rfl) (fun _ _ _ h => h) (by kernel_rfl) (by (intro w hSw; go_simp)) (by assumption) ?_
    simp only [List.set_cons_zero, List.set_cons_succ]
    refine takeW 2 8 (.bool true) rfl rfl (by kernel_rfl) (by kernel_rfl) (by kernel_rfl) (fun _ _ _ h => h) (by kernel_rfl) (by (intro w hSw; go_simp)) (by assumption) ?_
    simp only [List.set_cons_zero, List.set_cons_succ]
    refine takeW 3 9 (.iface 88 (.agg #[])) rfl rfl (by kernel_rfl) (by kernel_rfl) (by kernel_rfl) (fun _ _ _ h => h) (by kernel_rfl) (by (intro w hSw; go_simp)) (by assumption) ?_
    simp only [List.set_cons_zero, List.set_cons_succ]
    refine wpAnyH_all (rs := [4]) (by kernel_rfl) (by simp) ?_
    intro i hi; obtain rfl : i = 4 := by simpa using hi
    refine wpOp_step rfl (fun K hK => ?_)
    rw [if_pos (by kernel_rfl)]
    go_simp
    go_at_call 84
    refine (tcFits u0).mono ?_
    rintro e u1 ⟨rfl, kq⟩
    have hb1 : Below y1.heap.size y1 u1 := hb0.trans (kq.mono hb0.size)
    clear kq
    refine hK _ _ ⟨hb1, ?_⟩
    clear hK K hi
    refine takeW 5 11 (.bool true) rfl rfl (by kernel_rfl) (by kernel_rfl) (by kernel_rfl) (fun _ _ _ h => h) (by kernel_rfl) (by (intro w hSw; go_simp)) (by assumption) ?_
    simp only [List.set_cons_zero, List.set_cons_succ]
    refine takeW 6 12 (.bool true) rfl rfl (by kernel_rfl) (by kernel_rfl) (by kernel_rfl) (fun _ _ _ h => h) (by kernel_rfl) (by (intro w hSw; go_simp)) (by assumption) ?_
    simp only [List.set_cons_zero, List.set_cons_succ]
    refine takeW 7 13 (.iface 88 (.agg #[])) rfl rfl (by kernel_rfl) (by kernel_rfl) (by kernel_rfl) (fun _ _ _ h => h) (by kernel_rfl) (by (intro w hSw; go_simp)) (by assumption) ?_
    simp only [List.set_cons_zero, List.set_cons_succ]
    refine takeW 9 15 (.agg #[.int .i64 2, .int .i64 q, .int .i64 r, .int .i64 c, .int .i64 b, .int .i64 p, .int .i64 h, .bool up]) rfl rfl (by kernel_rfl) (by kernel_rfl) (by kernel_rfl) (fun _ _ _ h => h) (by kernel_rfl) (by (intro Y hSw; obtain ⟨X0, X1, X2, X3, X4, X5, X6, X7⟩ := A1.below hSw (by omega); go_simp)) (by assumption) ?_
    simp only [List.set_cons_zero, List.set_cons_succ]
    refine wpAnyH_all (rs := [8]) (by kernel_rfl) (by simp) ?_
    intro i hi; obtain rfl : i = 8 := by simpa using hi
    refine wpOp_step rfl (fun K hK => ?_)
    rw [if_pos (by kernel_rfl)]
    go_simp
    go_at_call 85
    refine (tcRec u1).mono ?_
    rintro e u2 ⟨rfl, kq⟩
    have hb2 : Below y1.heap.size y1 u2 := hb1.trans (kq.mono hb1.size)
    clear kq
    refine hK _ _ ⟨hb2, ?_⟩
    clear hK K hi
    refine takeW 10 16 (.bool (decide (q = 0 ∧ r = 0 ∧ c = 0 ∧ b = 0 ∧ p = 0 ∧ h = 0 ∧ up = false))) rfl rfl (by kernel_rfl) (by kernel_rfl) (by kernel_rfl) (fun _ _ _ h => h) (by kernel_rfl) (by (intro Y hSw; go_simp; all_goals ((repeat' split) <;> first | (simp_all; done) | grind))) (by assumption) ?_
    simp only [List.set_cons_zero, List.set_cons_succ]
    refine takeW 11 17 (.bool (decide (q = 0 ∧ r = 0 ∧ c = 0 ∧ b = 0 ∧ p = 0 ∧ h = 0 ∧ up = false))) rfl rfl (by kernel_rfl) (by kernel_rfl) (by kernel_rfl) (fun _ _ _ h => h) (by kernel_rfl) (by (intro w hSw; go_simp)) (by assumption) ?_
    simp only [List.set_cons_zero, List.set_cons_succ]
    refine takeW 12 2 (.bool (decide (q = 0 ∧ r = 0 ∧ c = 0 ∧ b = 0 ∧ p = 0 ∧ h = 0 ∧ up = false))) rfl rfl (by kernel_rfl) (by kernel_rfl) (by kernel_rfl) (fun _ _ _ h => h) (by kernel_rfl) (by (intro w hSw; go_simp)) (by assumption) ?_
    simp only [List.set_cons_zero, List.set_cons_succ]
    refine wpAnyH_done (by kernel_rfl) ?_ _
    go_wp2
    go_ret
    exact ⟨by rw [hN.out]; rfl, B1.trans (hb2.mono B1.size)⟩
  by_cases h3 : k = 3
  · subst h3
    have hR1 : Hid (R = (decide (0 ≤ q ∧ q ≤ 3) && (decide (r = 0 ∧ c = 0 ∧ b = 0 ∧ p = 0) && (h == 0)))) := hR
    clear hR h1 h2
    have hm1 : ∀ w_ : World, (method 208 90 (.agg #[.int .i64 q, .bool up]) "loop.example/g00470/impl.fits").run Try.prog w_ = .ok (86, .agg #[.int .i64 q, .bool up]) w_ := fun _ => by kernel_rfl
    have hm2 : ∀ w_ : World, (method 208 90 (.agg #[.int .i64 q, .bool up]) "loop.example/g00470/impl.record").run Try.prog w_ = .ok (87, .agg #[.int .i64 q, .bool up]) w_ := fun _ => by kernel_rfl
    cases hF : decide (0 ≤ q ∧ q ≤ 3) with
    | false =>
      have hN : Hid (R = false) := by unfold Hid; rw [hR1.out, hF]; rfl
      replace hF : Hid _ := hF
      clear hR1
      obtain ⟨y, hy⟩ : ∃ y, y = w.alloc (Obj.cells #[.int .i64 3, .int .i64 q, .int .i64 r, .int .i64 c, .int .i64 b, .int .i64 p, .int .i64 h, .bool up] 36) := ⟨_, rfl⟩
      have B0 : Below w.heap.size w y := by rw [hy]; exact below_new _
      have A0 : InAt y w.heap.size ⟨3, q, r, c, b, p, h, up⟩ := by rw [hy]; exact InAt.new w _ ⟨3, q, r, c, b, p, h, up⟩
      have S0 := A0.lt
      go_enter Try.func25, Try.ntmps25
      go_wp2_with fail
      go_at_call 52
      rw [← hy]
      clear hy
      refine (arrI ⟨3, q, r, c, b, p, h, up⟩ y).mono ?_
      rintro e y1 ⟨rfl, k1⟩
      have B1 := B0.trans (k1.mono B0.size)
      have A1 := A0.below k1 S0
      have S1 := A1.lt
      clear A0 k1 B0 S0
      rw [show arrV ⟨3, q, r, c, b, p, h, up⟩ = .iface 90 (.agg #[.int .i64 q, .bool up]) from rfl]
      go_upto_region 2 with fail
      refine wp_region_held (S := fun Y => Below y1.heap.size y1 Y) (by kernel_rfl) ?_
      change wpAnyH _ _ _ _ _ _ _ _ (World.drew _)
      have hb0 : Below y1.heap.size y1 y1.drew := (Below.refl _ _).drew
      obtain ⟨u0, hy0⟩ : ∃ y_, y_ = y1.drew := ⟨_, rfl⟩
      rw [← hy0] at hb0 ⊢
      clear hy0
      refine takeW 0 6 (.iface 90 (.agg #[.int .i64 q, .bool up])) rfl rfl (by kernel_rfl) (by kernel_rfl) (by kernel_rfl) (fun _ _ _ h => h) (by kernel_rfl) (by (intro w hSw; go_simp)) (by assumption) ?_
      simp only [List.set_cons_zero, List.set_cons_succ]
      refine takeW 1 7 (.bool true) rfl rfl (by kernel_rfl) (by kernel_rfl) (by kernel_rfl) (fun _ _ _ h => h) (by kernel_rfl) (by (intro w hSw; go_simp)) (by assumption) ?_
      simp only [List.set_cons_zero, List.set_cons_succ]
      refine takeW 2 8 (.bool true) rfl rfl (by kernel_rfl) (by kernel_rfl) (by kernel_rfl) (fun _ _ _ h => h) (by kernel_rfl) (by (intro w hSw; go_simp)) (by assumption) ?_
      simp only [List.set_cons_zero, List.set_cons_succ]
      refine takeW 3 9 (.iface 90 (.agg #[.int .i64 q, .bool up])) rfl rfl (by kernel_rfl) (by kernel_rfl) (by kernel_rfl) (fun _ _ _ h => h) (by kernel_rfl) (by (intro w hSw; go_simp)) (by assumption) ?_
      simp only [List.set_cons_zero, List.set_cons_succ]
      refine wpAnyH_all (rs := [4]) (by kernel_rfl) (by simp) ?_
      intro i hi; obtain rfl : i = 4 := by simpa using hi
      refine wpOp_step rfl (fun K hK => ?_)
      rw [if_pos (by kernel_rfl)]
      go_simp
      go_at_call 86
      refine (lcFits q up u0).mono ?_
      rintro e u1 ⟨rfl, kq⟩
      have hb1 : Below y1.heap.size y1 u1 := hb0.trans (kq.mono hb0.size)
      clear kq
      rw [hF.out]
      refine hK _ _ ⟨hb1, ?_⟩
      clear hK K hi
      refine takeW 5 11 (.bool false) rfl rfl (by kernel_rfl) (by kernel_rfl) (by kernel_rfl) (fun _ _ _ h => h) (by kernel_rfl) (by (intro w hSw; go_simp)) (by assumption) ?_
      simp only [List.set_cons_zero, List.set_cons_succ]
      refine takeW 6 12 (.bool false) rfl rfl (by kernel_rfl) (by kernel_rfl) (by kernel_rfl) (fun _ _ _ h => h) (by kernel_rfl) (by (intro w hSw; go_simp)) (by assumption) ?_
      simp only [List.set_cons_zero, List.set_cons_succ]
      refine takeS 7 13 rfl rfl (by kernel_rfl) (by kernel_rfl) (by kernel_rfl) (fun _ _ _ h => h) (by kernel_rfl) (by assumption) ?_
      simp only [List.set_cons_zero, List.set_cons_succ]
      refine takeS 8 14 rfl rfl (by kernel_rfl) (by kernel_rfl) (by kernel_rfl) (fun _ _ _ h => h) (by kernel_rfl) (by assumption) ?_
      simp only [List.set_cons_zero, List.set_cons_succ]
      refine takeS 9 15 rfl rfl (by kernel_rfl) (by kernel_rfl) (by kernel_rfl) (fun _ _ _ h => h) (by kernel_rfl) (by assumption) ?_
      simp only [List.set_cons_zero, List.set_cons_succ]
      refine takeS 10 16 rfl rfl (by kernel_rfl) (by kernel_rfl) (by kernel_rfl) (fun _ _ _ h => h) (by kernel_rfl) (by assumption) ?_
      simp only [List.set_cons_zero, List.set_cons_succ]
      refine takeW 11 17 (.bool false) rfl rfl (by kernel_rfl) (by kernel_rfl) (by kernel_rfl) (fun _ _ _ h => h) (by kernel_rfl) (by (intro w hSw; go_simp)) (by assumption) ?_
      simp only [List.set_cons_zero, List.set_cons_succ]
      refine takeW 12 2 (.bool false) rfl rfl (by kernel_rfl) (by kernel_rfl) (by kernel_rfl) (fun _ _ _ h => h) (by kernel_rfl) (by (intro w hSw; go_simp)) (by assumption) ?_
      simp only [List.set_cons_zero, List.set_cons_succ]
      refine wpAnyH_done (by kernel_rfl) ?_ _
      go_wp2
      go_ret
      exact ⟨by rw [hN.out]; rfl, B1.trans (hb1.mono B1.size)⟩
    | true =>
      have hN : Hid (R = decide (r = 0 ∧ c = 0 ∧ b = 0 ∧ p = 0 ∧ h = 0)) := by
        unfold Hid; rw [hR1.out, hF, Bool.true_and]
        by_cases e : h = 0
        · subst e; simp
        · simp [e]
      replace hF : Hid _ := hF
      clear hR1
      obtain ⟨y, hy⟩ : ∃ y, y = w.alloc (Obj.cells #[.int .i64 3, .int .i64 q, .int .i64 r, .int .i64 c, .int .i64 b, .int .i64 p, .int .i64 h, .bool up] 36) := ⟨_, rfl⟩
      have B0 : Below w.heap.size w y := by rw [hy]; exact below_new _
      have A0 : InAt y w.heap.size ⟨3, q, r, c, b, p, h, up⟩ := by rw [hy]; exact InAt.new w _ ⟨3, q, r, c, b, p, h, up⟩
      have S0 := A0.lt
      go_enter Try.func25, Try.ntmps25
      go_wp2_with fail
      go_at_call 52
      rw [← hy]
      clear hy
      refine (arrI ⟨3, q, r, c, b, p, h, up⟩ y).mono ?_
      rintro e y1 ⟨rfl, k1⟩
      have B1 := B0.trans (k1.mono B0.size)
      have A1 := A0.below k1 S0
      have S1 := A1.lt
      clear A0 k1 B0 S0
      rw [show arrV ⟨3, q, r, c, b, p, h, up⟩ = .iface 90 (.agg #[.int .i64 q, .bool up]) from rfl]
      go_upto_region 2 with fail
      refine wp_region_held (S := fun Y => Below y1.heap.size y1 Y) (by kernel_rfl) ?_
      change wpAnyH _ _ _ _ _ _ _ _ (World.drew _)
      have hb0 : Below y1.heap.size y1 y1.drew := (Below.refl _ _).drew
      obtain ⟨u0, hy0⟩ : ∃ y_, y_ = y1.drew := ⟨_, rfl⟩
      rw [← hy0] at hb0 ⊢
      clear hy0
      refine takeW 0 6 (.iface 90 (.agg #[.int .i64 q, .bool up])) rfl rfl (by kernel_rfl) (by kernel_rfl) (by kernel_rfl) (fun _ _ _ h => h) (by kernel_rfl) (by (intro w hSw; go_simp)) (by assumption) ?_
      simp only [List.set_cons_zero, List.set_cons_succ]
      refine takeW 1 7 (.bool true) rfl rfl (by kernel_rfl) (by kernel_rfl) (by kernel_rfl) (fun _ _ _ h => h) (by kernel_rfl) (by (intro w hSw; go_simp)) (by assumption) ?_
      simp only [List.set_cons_zero, List.set_cons_succ]
      refine takeW 2 8 (.bool true) rfl rfl (by kernel_rfl) (by kernel_rfl) (by kernel_rfl) (fun _ _ _ h => h) (by kernel_rfl) (by (intro w hSw; go_simp)) (by assumption) ?_
      simp only [List.set_cons_zero, List.set_cons_succ]
      refine takeW 3 9 (.iface 90 (.agg #[.int .i64 q, .bool up])) rfl rfl (by kernel_rfl) (by kernel_rfl) (by kernel_rfl) (fun _ _ _ h => h) (by kernel_rfl) (by (intro w hSw; go_simp)) (by assumption) ?_
      simp only [List.set_cons_zero, List.set_cons_succ]
      refine wpAnyH_all (rs := [4]) (by kernel_rfl) (by simp) ?_
      intro i hi; obtain rfl : i = 4 := by simpa using hi
      refine wpOp_step rfl (fun K hK => ?_)
      rw [if_pos (by kernel_rfl)]
      go_simp
      go_at_call 86
      refine (lcFits q up u0).mono ?_
      rintro e u1 ⟨rfl, kq⟩
      have hb1 : Below y1.heap.size y1 u1 := hb0.trans (kq.mono hb0.size)
      clear kq
      rw [hF.out]
      refine hK _ _ ⟨hb1, ?_⟩
      clear hK K hi
      refine takeW 5 11 (.bool true) rfl rfl (by kernel_rfl) (by kernel_rfl) (by kernel_rfl) (fun _ _ _ h => h) (by kernel_rfl) (by (intro w hSw; go_simp)) (by assumption) ?_
      simp only [List.set_cons_zero, List.set_cons_succ]
      refine takeW 6 12 (.bool true) rfl rfl (by kernel_rfl) (by kernel_rfl) (by kernel_rfl) (fun _ _ _ h => h) (by kernel_rfl) (by (intro w hSw; go_simp)) (by assumption) ?_
      simp only [List.set_cons_zero, List.set_cons_succ]
      refine takeW 7 13 (.iface 90 (.agg #[.int .i64 q, .bool up])) rfl rfl (by kernel_rfl) (by kernel_rfl) (by kernel_rfl) (fun _ _ _ h => h) (by kernel_rfl) (by (intro w hSw; go_simp)) (by assumption) ?_
      simp only [List.set_cons_zero, List.set_cons_succ]
      refine takeW 9 15 (.agg #[.int .i64 3, .int .i64 q, .int .i64 r, .int .i64 c, .int .i64 b, .int .i64 p, .int .i64 h, .bool up]) rfl rfl (by kernel_rfl) (by kernel_rfl) (by kernel_rfl) (fun _ _ _ h => h) (by kernel_rfl) (by (intro Y hSw; obtain ⟨X0, X1, X2, X3, X4, X5, X6, X7⟩ := A1.below hSw (by omega); go_simp)) (by assumption) ?_
      simp only [List.set_cons_zero, List.set_cons_succ]
      refine wpAnyH_all (rs := [8]) (by kernel_rfl) (by simp) ?_
      intro i hi; obtain rfl : i = 8 := by simpa using hi
      refine wpOp_step rfl (fun K hK => ?_)
      rw [if_pos (by kernel_rfl)]
      go_simp
      go_at_call 87
      refine (lcRec q up u1).mono ?_
      rintro e u2 ⟨rfl, kq⟩
      have hb2 : Below y1.heap.size y1 u2 := hb1.trans (kq.mono hb1.size)
      clear kq
      refine hK _ _ ⟨hb2, ?_⟩
      clear hK K hi
      refine takeW 10 16 (.bool (decide (r = 0 ∧ c = 0 ∧ b = 0 ∧ p = 0 ∧ h = 0))) rfl rfl (by kernel_rfl) (by kernel_rfl) (by kernel_rfl) (fun _ _ _ h => h) (by kernel_rfl) (by (intro Y hSw; go_simp; all_goals ((repeat' split) <;> first | (simp_all; done) | grind))) (by assumption) ?_
      simp only [List.set_cons_zero, List.set_cons_succ]
      refine takeW 11 17 (.bool (decide (r = 0 ∧ c = 0 ∧ b = 0 ∧ p = 0 ∧ h = 0))) rfl rfl (by kernel_rfl) (by kernel_rfl) (by kernel_rfl) (fun _ _ _ h => h) (by kernel_rfl) (by (intro w hSw; go_simp)) (by assumption) ?_
      simp only [List.set_cons_zero, List.set_cons_succ]
      refine takeW 12 2 (.bool (decide (r = 0 ∧ c = 0 ∧ b = 0 ∧ p = 0 ∧ h = 0))) rfl rfl (by kernel_rfl) (by kernel_rfl) (by kernel_rfl) (fun _ _ _ h => h) (by kernel_rfl) (by (intro w hSw; go_simp)) (by assumption) ?_
      simp only [List.set_cons_zero, List.set_cons_succ]
      refine wpAnyH_done (by kernel_rfl) ?_ _
      go_wp2
      go_ret
      exact ⟨by rw [hN.out]; rfl, B1.trans (hb2.mono B1.size)⟩
  have hN : Hid (R = false) := by unfold Hid; rw [hR]; unfold inOk; rw [if_neg h1, if_neg h3, if_neg h2]
  have hv : Hid (arrV ⟨k, q, r, c, b, p, h, up⟩ = .nilIface) := by unfold Hid arrV; rw [if_neg h1, if_neg h2, if_neg h3]
  clear hR h1 h2 h3
  obtain ⟨y, hy⟩ : ∃ y, y = w.alloc (Obj.cells #[.int .i64 k, .int .i64 q, .int .i64 r, .int .i64 c, .int .i64 b, .int .i64 p, .int .i64 h, .bool up] 36) := ⟨_, rfl⟩
  have B0 : Below w.heap.size w y := by rw [hy]; exact below_new _
  have A0 : InAt y w.heap.size ⟨k, q, r, c, b, p, h, up⟩ := by rw [hy]; exact InAt.new w _ ⟨k, q, r, c, b, p, h, up⟩
  have S0 := A0.lt
  go_enter Try.func25, Try.ntmps25
  go_wp2_with fail
  go_at_call 52
  rw [← hy]
  clear hy
  refine (arrI ⟨k, q, r, c, b, p, h, up⟩ y).mono ?_
  rintro e y1 ⟨rfl, k1⟩
  have B1 := B0.trans (k1.mono B0.size)
  have A1 := A0.below k1 S0
  have S1 := A1.lt
  clear A0 k1 B0 S0
  rw [hv.out]
  go_upto_region 2 with fail
  refine wp_region_held (S := fun Y => Below y1.heap.size y1 Y) (by kernel_rfl) ?_
  change wpAnyH _ _ _ _ _ _ _ _ (World.drew _)
  have hb0 : Below y1.heap.size y1 y1.drew := (Below.refl _ _).drew
  obtain ⟨u0, hy0⟩ : ∃ y_, y_ = y1.drew := ⟨_, rfl⟩
  rw [← hy0] at hb0 ⊢
  clear hy0
  refine takeW 0 6 .nilIface rfl rfl (by kernel_rfl) (by kernel_rfl) (by kernel_rfl) (fun _ _ _ h => h) (by kernel_rfl) (by (intro w hSw; go_simp)) (by assumption) ?_
  simp only [List.set_cons_zero, List.set_cons_succ]
  refine takeW 1 7 (.bool false) rfl rfl (by kernel_rfl) (by kernel_rfl) (by kernel_rfl) (fun _ _ _ h => h) (by kernel_rfl) (by (intro w hSw; go_simp)) (by assumption) ?_
  simp only [List.set_cons_zero, List.set_cons_succ]
  refine takeW 2 8 (.bool false) rfl rfl (by kernel_rfl) (by kernel_rfl) (by kernel_rfl) (fun _ _ _ h => h) (by kernel_rfl) (by (intro w hSw; go_simp)) (by assumption) ?_
  simp only [List.set_cons_zero, List.set_cons_succ]
  refine takeS 3 9 rfl rfl (by kernel_rfl) (by kernel_rfl) (by kernel_rfl) (fun _ _ _ h => h) (by kernel_rfl) (by assumption) ?_
  simp only [List.set_cons_zero, List.set_cons_succ]
  refine takeS 4 10 rfl rfl (by kernel_rfl) (by kernel_rfl) (by kernel_rfl) (fun _ _ _ h => h) (by kernel_rfl) (by assumption) ?_
  simp only [List.set_cons_zero, List.set_cons_succ]
  refine takeW 5 11 (.bool false) rfl rfl (by kernel_rfl) (by kernel_rfl) (by kernel_rfl) (fun _ _ _ h => h) (by kernel_rfl) (by (intro w hSw; go_simp)) (by assumption) ?_
  simp only [List.set_cons_zero, List.set_cons_succ]
  refine takeW 6 12 (.bool false) rfl rfl (by kernel_rfl) (by kernel_rfl) (by kernel_rfl) (fun _ _ _ h => h) (by kernel_rfl) (by (intro w hSw; go_simp)) (by assumption) ?_
  simp only [List.set_cons_zero, List.set_cons_succ]
  refine takeS 7 13 rfl rfl (by kernel_rfl) (by kernel_rfl) (by kernel_rfl) (fun _ _ _ h => h) (by kernel_rfl) (by assumption) ?_
  simp only [List.set_cons_zero, List.set_cons_succ]
  refine takeS 8 14 rfl rfl (by kernel_rfl) (by kernel_rfl) (by kernel_rfl) (fun _ _ _ h => h) (by kernel_rfl) (by assumption) ?_
  simp only [List.set_cons_zero, List.set_cons_succ]
  refine takeS 9 15 rfl rfl (by kernel_rfl) (by kernel_rfl) (by kernel_rfl) (fun _ _ _ h => h) (by kernel_rfl) (by assumption) ?_
  simp only [List.set_cons_zero, List.set_cons_succ]
  refine takeS 10 16 rfl rfl (by kernel_rfl) (by kernel_rfl) (by kernel_rfl) (fun _ _ _ h => h) (by kernel_rfl) (by assumption) ?_
  simp only [List.set_cons_zero, List.set_cons_succ]
  refine takeW 11 17 (.bool false) rfl rfl (by kernel_rfl) (by kernel_rfl) (by kernel_rfl) (fun _ _ _ h => h) (by kernel_rfl) (by (intro w hSw; go_simp)) (by assumption) ?_
  simp only [List.set_cons_zero, List.set_cons_succ]
  refine takeW 12 2 (.bool false) rfl rfl (by kernel_rfl) (by kernel_rfl) (by kernel_rfl) (fun _ _ _ h => h) (by kernel_rfl) (by (intro w hSw; go_simp)) (by assumption) ?_
  simp only [List.set_cons_zero, List.set_cons_succ]
  refine wpAnyH_done (by kernel_rfl) ?_ _
  go_wp2
  go_ret
  exact ⟨by rw [hN.out]; rfl, B1.trans (hb0.mono B1.size)⟩

end Go.Proofs.Ytlgcjhebbmejaaa
