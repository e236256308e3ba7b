/- impl.RegOk, impl.Minds, impl.mayPair, walked. -/
import Derived.Test.YtplejmkbdonkpaaRows
import Derived.WalkKit
import Derived.ProofKit
import Derived.OpenShut
import Derived.ShutString
import Derived.ChangeOld
import Derived.Below
import Derived.Deep.QuietTactic
import Derived.BigQuiet
import Derived.WalkSmall
import Derived.Laws.OwnMore
import Derived.WalkSpells
import Derived.WalkLawsBesides
import Derived.Deep.Cut
import Derived.Conc.MuLone
import Derived.Test.YtplejmkbdonkpaaRr3
import Derived.Test.YtplejmkbdonkpaaMg5
namespace Go.Proofs.Ytplejmkbdonkpaa
open Go.ChangeShapes Go.WideShapes Go.ChangeAt Go.RowKit
open Go.ChangeMaps (open_string shut_string)
set_option linter.unusedVariables false
set_option maxRecDepth 100000

set_option maxHeartbeats 2000000 in
theorem regOkI (r : Rg) (w : World) : Calls Try.prog 21 #[.agg #[.int .i64 r.ep, .int .i64 r.ow, .int .i64 r.pa]] w fun e w' => e = .returned (.bool (rgOk r)) ∧ Below w.heap.size w w' := by
  obtain ⟨R, hR⟩ : ∃ R, R = rgOk r := ⟨_, rfl⟩
  rw [← hR]
  replace hR : Hid _ := hR
  obtain ⟨y, hy⟩ : ∃ y, y = w.alloc (Obj.cells #[.int .i64 r.ep, .int .i64 r.ow, .int .i64 r.pa] 44) := ⟨_, rfl⟩
  have B0 : Below w.heap.size w y := by rw [hy]; exact below_new _
  have A : RgAt y w.heap.size r := by rw [hy]; exact RgAt.new w _ r
  go_enter Try.func21, Try.ntmps21
  go_upto_region 1 with fail
  rw [← hy]
  clear hy
  obtain ⟨a0, a1, a2⟩ := A
  by_cases e1 : 1 ≤ r.ep
  · have d1 : decide (1 ≤ r.ep) = true := decide_eq_true e1
    by_cases e2 : r.ep ≤ 100000
    · have d2 : decide (r.ep ≤ 100000) = true := decide_eq_true e2
      by_cases e3 : r.ow = 0
      · have d3 : decide (r.ow = 0) = true := decide_eq_true e3
        have b3 : (r.ow == 0) = true := by simpa using e3
        have hN : Hid (R = numB r.pa) := by unfold Hid; rw [hR.out]; unfold rgOk; rw [decide_eq_true (⟨e1, e2⟩ : 1 ≤ r.ep ∧ r.ep ≤ 100000), decide_eq_true (show 0 ≤ r.ow ∧ r.ow ≤ 1 by omega)]; rfl
        replace e1 : Hid _ := e1
        replace e2 : Hid _ := e2
        replace e3 : Hid _ := e3
        go_wp2_with fail
        go_at_call 47
        refine (numFitsI r.pa y).mono ?_
        rintro e w' ⟨rfl, rfl⟩
        go_wp2
        go_ret
        exact ⟨by rw [hN.out]; rfl, B0⟩
      · have d3 : decide (r.ow = 0) = false := decide_eq_false e3
        have b3 : (r.ow == 0) = false := by simpa using e3
        by_cases e4 : r.ow = 1
        · have d4 : decide (r.ow = 1) = true := decide_eq_true e4
          have b4 : (r.ow == 1) = true := by simpa using e4
          have hN : Hid (R = numB r.pa) := by unfold Hid; rw [hR.out]; unfold rgOk; rw [decide_eq_true (⟨e1, e2⟩ : 1 ≤ r.ep ∧ r.ep ≤ 100000), decide_eq_true (show 0 ≤ r.ow ∧ r.ow ≤ 1 by omega)]; rfl
          replace e1 : Hid _ := e1
          replace e2 : Hid _ := e2
          replace e3 : Hid _ := e3
          replace e4 : Hid _ := e4
          go_wp2_with fail
          go_at_call 47
          refine (numFitsI r.pa y).mono ?_
          rintro e w' ⟨rfl, rfl⟩
          go_wp2
          go_ret
          exact ⟨by rw [hN.out]; rfl, B0⟩
        · have d4 : decide (r.ow = 1) = false := decide_eq_false e4
          have b4 : (r.ow == 1) = false := by simpa using e4
          have hN : Hid (R = false) := by unfold Hid; rw [hR.out]; unfold rgOk; rw [decide_eq_true (⟨e1, e2⟩ : 1 ≤ r.ep ∧ r.ep ≤ 100000), decide_eq_false (show ¬ (0 ≤ r.ow ∧ r.ow ≤ 1) by omega)]; rfl
          replace e1 : Hid _ := e1
          replace e2 : Hid _ := e2
          replace e3 : Hid _ := e3
          replace e4 : Hid _ := e4
          go_wp2
          go_ret
          exact ⟨by rw [hN.out]; rfl, B0⟩
    · have d2 : decide (r.ep ≤ 100000) = false := decide_eq_false e2
      have hN : Hid (R = false) := by unfold Hid; rw [hR.out]; unfold rgOk; rw [decide_eq_false (show ¬ (1 ≤ r.ep ∧ r.ep ≤ 100000) by omega)]; rfl
      replace e1 : Hid _ := e1
      replace e2 : Hid _ := e2
      go_wp2
      go_ret
      exact ⟨by rw [hN.out]; rfl, B0⟩
  · have d1 : decide (1 ≤ r.ep) = false := decide_eq_false e1
    have hN : Hid (R = false) := by unfold Hid; rw [hR.out]; unfold rgOk; rw [decide_eq_false (show ¬ (1 ≤ r.ep ∧ r.ep ≤ 100000) by omega)]; rfl
    replace e1 : Hid _ := e1
    go_wp2
    go_ret
    exact ⟨by rw [hN.out]; rfl, B0⟩
set_option maxHeartbeats 4000000 in
theorem mindsI (r : Rg) (s : Int) (m : Mi) (ad : Option Addr) (cap : Nat) (w : World) (hv : FView ikEnc w ad m.lg) (hl : m.lg.length ≤ 1048577) :
    Calls Try.prog 25 #[.agg #[.int .i64 r.ep, .int .i64 r.ow, .int .i64 r.pa], .int .i64 s, .agg #[.bool m.up, .int .i64 m.li, .int .i64 m.ep, .slice ad m.lg.length cap, .int .i64 m.sd, .int .i64 m.ac, .int .i64 m.al]] w fun e w' => e = .returned (.bool (mindsB r s m)) ∧ Below w.heap.size w w' := by
  have hB := hv.lt ikEnc_len (by omega)
  obtain ⟨R, hR⟩ : ∃ R, R = mindsB r s m := ⟨_, rfl⟩
  rw [← hR]
  replace hR : Hid _ := hR
  obtain ⟨y, hy⟩ : ∃ y, y = (w.alloc (Obj.cells #[.int .i64 r.ep, .int .i64 r.ow, .int .i64 r.pa] 44)).alloc (Obj.cells #[.bool m.up, .int .i64 m.li, .int .i64 m.ep, .slice ad m.lg.length cap, .int .i64 m.sd, .int .i64 m.ac, .int .i64 m.al] 26) := ⟨_, rfl⟩
  have B0 : Below w.heap.size w y := by rw [hy]; exact ((Below.refl _ _).alloc (Nat.le_refl _) _).alloc (by simp) _
  have A : RgAt y w.heap.size r := by rw [hy]; constructor <;> simp [go_sem]
  have M : MiAt y (w.heap.size + 1) m (.slice ad m.lg.length cap) := by rw [hy]; constructor <;> simp [go_sem]
  have S0 := M.lt
  have hv1 := hv.below B0 hB
  clear hv hB
  go_enter Try.func25, Try.ntmps25
  go_upto_region 1 with fail
  rw [← hy]
  clear hy
  refine wp_region_held (S := fun Y => Below y.heap.size y Y) (by kernel_rfl) ?_
  change wpAnyH _ _ _ _ _ _ _ _ (World.drew _)
  have hb0 : Below y.heap.size y y.drew := (Below.refl _ _).drew
  obtain ⟨u0, hy0⟩ : ∃ y_, y_ = y.drew := ⟨_, rfl⟩
  rw [← hy0] at hb0 ⊢
  clear hy0
  refine takeW 0 7 (.agg #[.int .i64 r.ep, .int .i64 r.ow, .int .i64 r.pa]) rfl rfl (by kernel_rfl) (by kernel_rfl) (by kernel_rfl) (fun _ _ _ h => h) (by kernel_rfl) (by (intro Y hSw; obtain ⟨X0, X1, X2⟩ := A.below hSw A.lt; go_simp)) (by assumption) ?_
  simp only [List.set_cons_zero, List.set_cons_succ]
  refine wpAnyH_all (rs := [1]) (by kernel_rfl) (by simp) ?_
  intro i hi; obtain rfl : i = 1 := by simpa using hi
  refine wpOp_step rfl (fun Kz hKz => ?_)
  rw [if_pos (by kernel_rfl)]
  go_simp
  go_at_call 21
  refine (regOkI r u0).mono ?_
  rintro e u1 ⟨rfl, kq⟩
  have hb1 : Below y.heap.size y u1 := hb0.trans (kq.mono hb0.size)
  clear kq
  refine hKz _ _ ⟨hb1, ?_⟩
  clear hKz Kz hi
  cases h1 : (rgOk r)
  · replace h1 : Hid _ := h1
    refine takeW 2 9 (.bool false) rfl rfl (by kernel_rfl) (by kernel_rfl) (by kernel_rfl) (fun _ _ _ h => h) (by kernel_rfl) (by (intro w hSw; go_simp)) (by assumption) ?_
    simp only [List.set_cons_zero, List.set_cons_succ]
    refine takeS 3 10 rfl rfl (by kernel_rfl) (by kernel_rfl) (by kernel_rfl) (fun _ _ _ h => h) (by kernel_rfl) (by assumption) ?_
    simp only [List.set_cons_zero, List.set_cons_succ]
    refine takeS 4 11 rfl rfl (by kernel_rfl) (by kernel_rfl) (by kernel_rfl) (fun _ _ _ h => h) (by kernel_rfl) (by assumption) ?_
    simp only [List.set_cons_zero, List.set_cons_succ]
    refine takeW 5 12 (.bool false) rfl rfl (by kernel_rfl) (by kernel_rfl) (by kernel_rfl) (fun _ _ _ h => h) (by kernel_rfl) (by (intro w hSw; go_simp)) (by assumption) ?_
    simp only [List.set_cons_zero, List.set_cons_succ]
    refine takeW 6 13 (.bool false) rfl rfl (by kernel_rfl) (by kernel_rfl) (by kernel_rfl) (fun _ _ _ h => h) (by kernel_rfl) (by (intro w hSw; go_simp)) (by assumption) ?_
    simp only [List.set_cons_zero, List.set_cons_succ]
    refine takeS 7 14 rfl rfl (by kernel_rfl) (by kernel_rfl) (by kernel_rfl) (fun _ _ _ h => h) (by kernel_rfl) (by assumption) ?_
    simp only [List.set_cons_zero, List.set_cons_succ]
    refine takeS 8 15 rfl rfl (by kernel_rfl) (by kernel_rfl) (by kernel_rfl) (fun _ _ _ h => h) (by kernel_rfl) (by assumption) ?_
    simp only [List.set_cons_zero, List.set_cons_succ]
    refine takeW 9 16 (.bool false) rfl rfl (by kernel_rfl) (by kernel_rfl) (by kernel_rfl) (fun _ _ _ h => h) (by kernel_rfl) (by (intro w hSw; go_simp)) (by assumption) ?_
    simp only [List.set_cons_zero, List.set_cons_succ]
    refine takeW 10 17 (.bool false) rfl rfl (by kernel_rfl) (by kernel_rfl) (by kernel_rfl) (fun _ _ _ h => h) (by kernel_rfl) (by (intro w hSw; go_simp)) (by assumption) ?_
    simp only [List.set_cons_zero, List.set_cons_succ]
    refine takeS 11 18 rfl rfl (by kernel_rfl) (by kernel_rfl) (by kernel_rfl) (fun _ _ _ h => h) (by kernel_rfl) (by assumption) ?_
    simp only [List.set_cons_zero, List.set_cons_succ]
    refine takeS 13 20 rfl rfl (by kernel_rfl) (by kernel_rfl) (by kernel_rfl) (fun _ _ _ h => h) (by kernel_rfl) (by assumption) ?_
    simp only [List.set_cons_zero, List.set_cons_succ]
    refine takeS 14 21 rfl rfl (by kernel_rfl) (by kernel_rfl) (by kernel_rfl) (fun _ _ _ h => h) (by kernel_rfl) (by assumption) ?_
    simp only [List.set_cons_zero, List.set_cons_succ]
    refine takeS 15 22 rfl rfl (by kernel_rfl) (by kernel_rfl) (by kernel_rfl) (fun _ _ _ h => h) (by kernel_rfl) (by assumption) ?_
    simp only [List.set_cons_zero, List.set_cons_succ]
    refine takeS 12 19 rfl rfl (by kernel_rfl) (by kernel_rfl) (by kernel_rfl) (fun _ _ _ h => h) (by kernel_rfl) (by assumption) ?_
    simp only [List.set_cons_zero, List.set_cons_succ]
    refine takeS 16 23 rfl rfl (by kernel_rfl) (by kernel_rfl) (by kernel_rfl) (fun _ _ _ h => h) (by kernel_rfl) (by assumption) ?_
    simp only [List.set_cons_zero, List.set_cons_succ]
    refine takeW 17 24 (.bool false) rfl rfl (by kernel_rfl) (by kernel_rfl) (by kernel_rfl) (fun _ _ _ h => h) (by kernel_rfl) (by (intro w hSw; go_simp)) (by assumption) ?_
    simp only [List.set_cons_zero, List.set_cons_succ]
    refine takeW 18 6 (.bool false) rfl rfl (by kernel_rfl) (by kernel_rfl) (by kernel_rfl) (fun _ _ _ h => h) (by kernel_rfl) (by (intro w hSw; go_simp)) (by assumption) ?_
    simp only [List.set_cons_zero, List.set_cons_succ]
    refine wpAnyH_done (by kernel_rfl) ?_ _
    have hN : Hid (R = false) := by unfold Hid; rw [hR.out]; unfold mindsB; rw [h1.out]; rfl
    go_wp2
    go_ret
    exact ⟨by rw [hN.out]; rfl, B0.trans (hb1.mono B0.size)⟩
  · replace h1 : Hid _ := h1
    refine takeW 2 9 (.bool true) rfl rfl (by kernel_rfl) (by kernel_rfl) (by kernel_rfl) (fun _ _ _ h => h) (by kernel_rfl) (by (intro w hSw; go_simp)) (by assumption) ?_
    simp only [List.set_cons_zero, List.set_cons_succ]
    refine takeW 3 10 (.agg #[.bool m.up, .int .i64 m.li, .int .i64 m.ep, .slice ad m.lg.length cap, .int .i64 m.sd, .int .i64 m.ac, .int .i64 m.al]) rfl rfl (by kernel_rfl) (by kernel_rfl) (by kernel_rfl) (fun _ _ _ h => h) (by kernel_rfl) (by (intro Y hSw; obtain ⟨X0, X1, X2, X3, X4, X5, X6⟩ := M.below hSw M.lt; go_simp)) (by assumption) ?_
    simp only [List.set_cons_zero, List.set_cons_succ]
    refine wpAnyH_all (rs := [4]) (by kernel_rfl) (by simp) ?_
    intro i hi; obtain rfl : i = 4 := by simpa using hi
    refine wpOp_step rfl (fun Kz hKz => ?_)
    rw [if_pos (by kernel_rfl)]
    go_simp
    go_at_call 17
    refine (miOkI m ad cap u1 (hv1.below hb1 (hv1.lt ikEnc_len (by omega))) hl).mono ?_
    rintro e u2 ⟨rfl, kq⟩
    have hb2 : Below y.heap.size y u2 := hb1.trans (kq.mono hb1.size)
    clear kq
    refine hKz _ _ ⟨hb2, ?_⟩
    clear hKz Kz hi
    cases h2 : (miOk m)
    · replace h2 : Hid _ := h2
      refine takeW 5 12 (.bool false) rfl rfl (by kernel_rfl) (by kernel_rfl) (by kernel_rfl) (fun _ _ _ h => h) (by kernel_rfl) (by (intro w hSw; go_simp)) (by assumption) ?_
      simp only [List.set_cons_zero, List.set_cons_succ]
      refine takeW 6 13 (.bool false) rfl rfl (by kernel_rfl) (by kernel_rfl) (by kernel_rfl) (fun _ _ _ h => h) (by kernel_rfl) (by (intro w hSw; go_simp)) (by assumption) ?_
      simp only [List.set_cons_zero, List.set_cons_succ]
      refine takeS 7 14 rfl rfl (by kernel_rfl) (by kernel_rfl) (by kernel_rfl) (fun _ _ _ h => h) (by kernel_rfl) (by assumption) ?_
      simp only [List.set_cons_zero, List.set_cons_succ]
      refine takeS 8 15 rfl rfl (by kernel_rfl) (by kernel_rfl) (by kernel_rfl) (fun _ _ _ h => h) (by kernel_rfl) (by assumption) ?_
      simp only [List.set_cons_zero, List.set_cons_succ]
      refine takeW 9 16 (.bool false) rfl rfl (by kernel_rfl) (by kernel_rfl) (by kernel_rfl) (fun _ _ _ h => h) (by kernel_rfl) (by (intro w hSw; go_simp)) (by assumption) ?_
      simp only [List.set_cons_zero, List.set_cons_succ]
      refine takeW 10 17 (.bool false) rfl rfl (by kernel_rfl) (by kernel_rfl) (by kernel_rfl) (fun _ _ _ h => h) (by kernel_rfl) (by (intro w hSw; go_simp)) (by assumption) ?_
      simp only [List.set_cons_zero, List.set_cons_succ]
      refine takeS 11 18 rfl rfl (by kernel_rfl) (by kernel_rfl) (by kernel_rfl) (fun _ _ _ h => h) (by kernel_rfl) (by assumption) ?_
      simp only [List.set_cons_zero, List.set_cons_succ]
      refine takeS 13 20 rfl rfl (by kernel_rfl) (by kernel_rfl) (by kernel_rfl) (fun _ _ _ h => h) (by kernel_rfl) (by assumption) ?_
      simp only [List.set_cons_zero, List.set_cons_succ]
      refine takeS 14 21 rfl rfl (by kernel_rfl) (by kernel_rfl) (by kernel_rfl) (fun _ _ _ h => h) (by kernel_rfl) (by assumption) ?_
      simp only [List.set_cons_zero, List.set_cons_succ]
      refine takeS 15 22 rfl rfl (by kernel_rfl) (by kernel_rfl) (by kernel_rfl) (fun _ _ _ h => h) (by kernel_rfl) (by assumption) ?_
      simp only [List.set_cons_zero, List.set_cons_succ]
      refine takeS 12 19 rfl rfl (by kernel_rfl) (by kernel_rfl) (by kernel_rfl) (fun _ _ _ h => h) (by kernel_rfl) (by assumption) ?_
      simp only [List.set_cons_zero, List.set_cons_succ]
      refine takeS 16 23 rfl rfl (by kernel_rfl) (by kernel_rfl) (by kernel_rfl) (fun _ _ _ h => h) (by kernel_rfl) (by assumption) ?_
      simp only [List.set_cons_zero, List.set_cons_succ]
      refine takeW 17 24 (.bool false) rfl rfl (by kernel_rfl) (by kernel_rfl) (by kernel_rfl) (fun _ _ _ h => h) (by kernel_rfl) (by (intro w hSw; go_simp)) (by assumption) ?_
      simp only [List.set_cons_zero, List.set_cons_succ]
      refine takeW 18 6 (.bool false) rfl rfl (by kernel_rfl) (by kernel_rfl) (by kernel_rfl) (fun _ _ _ h => h) (by kernel_rfl) (by (intro w hSw; go_simp)) (by assumption) ?_
      simp only [List.set_cons_zero, List.set_cons_succ]
      refine wpAnyH_done (by kernel_rfl) ?_ _
      have hN : Hid (R = false) := by unfold Hid; rw [hR.out]; unfold mindsB; rw [h1.out, h2.out]; rfl
      go_wp2
      go_ret
      exact ⟨by rw [hN.out]; rfl, B0.trans (hb2.mono B0.size)⟩
    · replace h2 : Hid _ := h2
      refine takeW 5 12 (.bool true) rfl rfl (by kernel_rfl) (by kernel_rfl) (by kernel_rfl) (fun _ _ _ h => h) (by kernel_rfl) (by (intro w hSw; go_simp)) (by assumption) ?_
      simp only [List.set_cons_zero, List.set_cons_succ]
      refine takeW 6 13 (.bool true) rfl rfl (by kernel_rfl) (by kernel_rfl) (by kernel_rfl) (fun _ _ _ h => h) (by kernel_rfl) (by (intro w hSw; go_simp)) (by assumption) ?_
      simp only [List.set_cons_zero, List.set_cons_succ]
      refine takeW 7 14 (.pointer (some ⟨w.heap.size + 1, 0, none⟩)) rfl rfl (by kernel_rfl) (by kernel_rfl) (by kernel_rfl) (fun _ _ _ h => h) (by kernel_rfl) (by (intro w hSw; go_simp)) (by assumption) ?_
      simp only [List.set_cons_zero, List.set_cons_succ]
      refine takeW 8 15 (.bool (m.up)) rfl rfl (by kernel_rfl) (by kernel_rfl) (by kernel_rfl) (fun _ _ _ h => h) (by kernel_rfl) (by (intro Y hSw; obtain ⟨X0, X1, X2, X3, X4, X5, X6⟩ := M.below hSw M.lt; go_simp)) (by assumption) ?_
      simp only [List.set_cons_zero, List.set_cons_succ]
      cases h3 : (m.up)
      · replace h3 : Hid _ := h3
        refine takeW 9 16 (.bool false) rfl rfl (by kernel_rfl) (by kernel_rfl) (by kernel_rfl) (fun _ _ _ h => h) (by kernel_rfl) (by (intro w hSw; go_simp)) (by assumption) ?_
        simp only [List.set_cons_zero, List.set_cons_succ]
        refine takeW 10 17 (.bool false) rfl rfl (by kernel_rfl) (by kernel_rfl) (by kernel_rfl) (fun _ _ _ h => h) (by kernel_rfl) (by (intro w hSw; go_simp)) (by assumption) ?_
        simp only [List.set_cons_zero, List.set_cons_succ]
        refine takeS 11 18 rfl rfl (by kernel_rfl) (by kernel_rfl) (by kernel_rfl) (fun _ _ _ h => h) (by kernel_rfl) (by assumption) ?_
        simp only [List.set_cons_zero, List.set_cons_succ]
        refine takeS 13 20 rfl rfl (by kernel_rfl) (by kernel_rfl) (by kernel_rfl) (fun _ _ _ h => h) (by kernel_rfl) (by assumption) ?_
        simp only [List.set_cons_zero, List.set_cons_succ]
        refine takeS 14 21 rfl rfl (by kernel_rfl) (by kernel_rfl) (by kernel_rfl) (fun _ _ _ h => h) (by kernel_rfl) (by assumption) ?_
        simp only [List.set_cons_zero, List.set_cons_succ]
        refine takeS 15 22 rfl rfl (by kernel_rfl) (by kernel_rfl) (by kernel_rfl) (fun _ _ _ h => h) (by kernel_rfl) (by assumption) ?_
        simp only [List.set_cons_zero, List.set_cons_succ]
        refine takeS 12 19 rfl rfl (by kernel_rfl) (by kernel_rfl) (by kernel_rfl) (fun _ _ _ h => h) (by kernel_rfl) (by assumption) ?_
        simp only [List.set_cons_zero, List.set_cons_succ]
        refine takeS 16 23 rfl rfl (by kernel_rfl) (by kernel_rfl) (by kernel_rfl) (fun _ _ _ h => h) (by kernel_rfl) (by assumption) ?_
        simp only [List.set_cons_zero, List.set_cons_succ]
        refine takeW 17 24 (.bool false) rfl rfl (by kernel_rfl) (by kernel_rfl) (by kernel_rfl) (fun _ _ _ h => h) (by kernel_rfl) (by (intro w hSw; go_simp)) (by assumption) ?_
        simp only [List.set_cons_zero, List.set_cons_succ]
        refine takeW 18 6 (.bool false) rfl rfl (by kernel_rfl) (by kernel_rfl) (by kernel_rfl) (fun _ _ _ h => h) (by kernel_rfl) (by (intro w hSw; go_simp)) (by assumption) ?_
        simp only [List.set_cons_zero, List.set_cons_succ]
        refine wpAnyH_done (by kernel_rfl) ?_ _
        have hN : Hid (R = false) := by unfold Hid; rw [hR.out]; unfold mindsB; rw [h1.out, h2.out, h3.out]; rfl
        go_wp2
        go_ret
        exact ⟨by rw [hN.out]; rfl, B0.trans (hb2.mono B0.size)⟩
      · replace h3 : Hid _ := h3
        refine takeW 9 16 (.bool true) rfl rfl (by kernel_rfl) (by kernel_rfl) (by kernel_rfl) (fun _ _ _ h => h) (by kernel_rfl) (by (intro w hSw; go_simp)) (by assumption) ?_
        simp only [List.set_cons_zero, List.set_cons_succ]
        refine takeW 10 17 (.bool true) rfl rfl (by kernel_rfl) (by kernel_rfl) (by kernel_rfl) (fun _ _ _ h => h) (by kernel_rfl) (by (intro w hSw; go_simp)) (by assumption) ?_
        simp only [List.set_cons_zero, List.set_cons_succ]
        refine takeW 11 18 (.agg #[.int .i64 r.ep, .int .i64 r.ow, .int .i64 r.pa]) rfl rfl (by kernel_rfl) (by kernel_rfl) (by kernel_rfl) (fun _ _ _ h => h) (by kernel_rfl) (by (intro Y hSw; obtain ⟨X0, X1, X2⟩ := A.below hSw A.lt; go_simp)) (by assumption) ?_
        simp only [List.set_cons_zero, List.set_cons_succ]
        refine takeW 13 20 (.int .i64 s) rfl rfl (by kernel_rfl) (by kernel_rfl) (by kernel_rfl) (fun _ _ _ h => h) (by kernel_rfl) (by (intro w hSw; go_simp)) (by assumption) ?_
        simp only [List.set_cons_zero, List.set_cons_succ]
        refine takeW 14 21 (.pointer (some ⟨w.heap.size + 1, 2, none⟩)) rfl rfl (by kernel_rfl) (by kernel_rfl) (by kernel_rfl) (fun _ _ _ h => h) (by kernel_rfl) (by (intro w hSw; go_simp)) (by assumption) ?_
        simp only [List.set_cons_zero, List.set_cons_succ]
        refine takeW 15 22 (.int .i64 m.ep) rfl rfl (by kernel_rfl) (by kernel_rfl) (by kernel_rfl) (fun _ _ _ h => h) (by kernel_rfl) (by (intro Y hSw; obtain ⟨X0, X1, X2, X3, X4, X5, X6⟩ := M.below hSw M.lt; go_simp)) (by assumption) ?_
        simp only [List.set_cons_zero, List.set_cons_succ]
        refine wpAnyH_all (rs := [12]) (by kernel_rfl) (by simp) ?_
        intro i hi; obtain rfl : i = 12 := by simpa using hi
        refine wpOp_step rfl (fun Kz hKz => ?_)
        rw [if_pos (by kernel_rfl)]
        go_simp
        go_at_call 50
        refine (regOfI r u2).mono ?_
        rintro e u3 ⟨qg, rfl, G, lg, kq⟩
        have hb3 : Below y.heap.size y u3 := hb2.trans (kq.mono hb2.size)
        have lg2 : y.heap.size ≤ qg := by have := hb2.size; omega
        clear kq lg
        refine hKz _ _ ⟨hb3, ?_⟩
        clear hKz Kz hi
        refine wpAnyH_all (rs := [16]) (by kernel_rfl) (by simp) ?_
        intro i hi; obtain rfl : i = 16 := by simpa using hi
        refine wpOp_step rfl (fun Kz hKz => ?_)
        rw [if_pos (by kernel_rfl)]
        go_simp
        go_at_call 51
        refine (isOfI r s m.ep qg u3 G).mono ?_
        rintro e u4 ⟨rfl, G', tq⟩
        have hb4 : Below y.heap.size y u4 := hb3.trans (tq.below hb3.size lg2 (fun g e => by cases e))
        clear tq G'
        refine hKz _ _ ⟨hb4, ?_⟩
        clear hKz Kz hi
        refine takeW 17 24 (.bool (decide (r.ow = s) && decide (r.ep = m.ep))) rfl rfl (by kernel_rfl) (by kernel_rfl) (by kernel_rfl) (fun _ _ _ h => h) (by kernel_rfl) (by (intro w hSw; go_simp)) (by assumption) ?_
        simp only [List.set_cons_zero, List.set_cons_succ]
        refine takeW 18 6 (.bool (decide (r.ow = s) && decide (r.ep = m.ep))) rfl rfl (by kernel_rfl) (by kernel_rfl) (by kernel_rfl) (fun _ _ _ h => h) (by kernel_rfl) (by (intro w hSw; go_simp)) (by assumption) ?_
        simp only [List.set_cons_zero, List.set_cons_succ]
        refine wpAnyH_done (by kernel_rfl) ?_ _
        have hN : Hid (R = (decide (r.ow = s) && decide (r.ep = m.ep))) := by unfold Hid; rw [hR.out]; unfold mindsB; rw [h1.out, h2.out, h3.out]; simp [eq_comm]
        go_wp2
        go_ret
        exact ⟨by rw [hN.out]; rfl, B0.trans (hb4.mono B0.size)⟩
/-- What mayPair answers. -/
def mayB (m : Mi) (p : Int) : Bool := decide (p = 0) || (decide (p = m.al) && decide (m.ac = (m.lg.length : Int)))
theorem pairsB_is (r : Rg) (s : Int) (m : Mi) (p : Int) : pairsB r s m p = (mindsB r s m && mayB m p) := rfl
set_option maxHeartbeats 2000000 in
theorem mayPairI (m : Mi) (p : Int) (ad : Option Addr) (cap : Nat) (w : World) :
    Calls Try.prog 59 #[.agg #[.bool m.up, .int .i64 m.li, .int .i64 m.ep, .slice ad m.lg.length cap, .int .i64 m.sd, .int .i64 m.ac, .int .i64 m.al], .int .i64 p] w fun e w' => e = .returned (.bool (mayB m p)) ∧ Below w.heap.size w w' := by
  obtain ⟨R, hR⟩ : ∃ R, R = mayB m p := ⟨_, rfl⟩
  rw [← hR]
  replace hR : Hid _ := hR
  obtain ⟨y, hy⟩ : ∃ y, y = w.alloc (Obj.cells #[.bool m.up, .int .i64 m.li, .int .i64 m.ep, .slice ad m.lg.length cap, .int .i64 m.sd, .int .i64 m.ac, .int .i64 m.al] 26) := ⟨_, rfl⟩
  have B0 : Below w.heap.size w y := by rw [hy]; exact below_new _
  have M : MiAt y w.heap.size m (.slice ad m.lg.length cap) := by rw [hy]; exact MiAt.new w _ _ _
  go_enter Try.func59, Try.ntmps59
  go_upto_region 1 with fail
  rw [← hy]
  clear hy
  obtain ⟨a0, a1, a2, a3, a4, a5, a6⟩ := M
  by_cases e1 : p = 0
  · have d1 : decide (p = 0) = true := decide_eq_true e1
    have b1 : (p == 0) = true := by simpa using e1
    have hN : Hid (R = true) := by unfold Hid; rw [hR.out]; unfold mayB; rw [decide_eq_true e1]; rfl
    replace e1 : Hid _ := e1
    go_wp2
    go_ret
    exact ⟨by rw [hN.out]; rfl, B0⟩
  · have d1 : decide (p = 0) = false := decide_eq_false e1
    have b1 : (p == 0) = false := by simpa using e1
    by_cases e2 : p = m.al
    · have d2 : decide (p = m.al) = true := decide_eq_true e2
      have b2 : (p == m.al) = true := by simpa using e2
      by_cases e3 : m.ac = (m.lg.length : Int)
      · have d3 : decide (m.ac = (m.lg.length : Int)) = true := decide_eq_true e3
        have b3 : (m.ac == (m.lg.length : Int)) = true := by simpa using e3
        have hN : Hid (R = true) := by unfold Hid; rw [hR.out]; unfold mayB; rw [decide_eq_true e2, decide_eq_true e3]; simp
        replace e1 : Hid _ := e1
        replace e2 : Hid _ := e2
        replace e3 : Hid _ := e3
        go_wp2
        go_ret
        exact ⟨by rw [hN.out]; rfl, B0⟩
      · have d3 : decide (m.ac = (m.lg.length : Int)) = false := decide_eq_false e3
        have b3 : (m.ac == (m.lg.length : Int)) = false := by simpa using e3
        have hN : Hid (R = false) := by unfold Hid; rw [hR.out]; unfold mayB; rw [decide_eq_false e1, decide_eq_true e2, decide_eq_false e3]; rfl
        replace e1 : Hid _ := e1
        replace e2 : Hid _ := e2
        replace e3 : Hid _ := e3
        go_wp2
        go_ret
        exact ⟨by rw [hN.out]; rfl, B0⟩
    · have d2 : decide (p = m.al) = false := decide_eq_false e2
      have b2 : (p == m.al) = false := by simpa using e2
      have hN : Hid (R = false) := by unfold Hid; rw [hR.out]; unfold mayB; rw [decide_eq_false e1, decide_eq_false e2]; rfl
      replace e1 : Hid _ := e1
      replace e2 : Hid _ := e2
      go_wp2
      go_ret
      exact ⟨by rw [hN.out]; rfl, B0⟩

end Go.Proofs.Ytplejmkbdonkpaa
