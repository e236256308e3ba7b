/- spec.l1Max, spec.RegOk, spec.Minds, walked. -/
import Derived.Test.YtplejmkbdonkpaaRows
import Derived.WalkKit
import Derived.ProofKit
import Derived.OpenShut
import Derived.ShutString
import Derived.ChangeOld
import Derived.Below
import Derived.Deep.QuietTactic
import Derived.BigQuiet
import Derived.WalkSmall
import Derived.Laws.OwnMore
import Derived.WalkSpells
import Derived.WalkLawsBesides
import Derived.Deep.Cut
import Derived.Test.YtplejmkbdonkpaaRg1
import Derived.Test.YtplejmkbdonkpaaMg6
import Derived.Test.YtplejmkbdonkpaaPort3
namespace Go.Proofs.Ytplejmkbdonkpaa
open Go.ChangeShapes Go.WideShapes Go.ChangeAt Go.RowKit
open Go.ChangeMaps (open_string shut_string)
set_option linter.unusedVariables false
set_option maxRecDepth 100000

theorem maxS (a b : Int) (w : World) : Calls Try.prog 117 #[.int .i64 a, .int .i64 b] w fun e w' => e = .returned (.int .i64 (if b < a then a else b)) ∧ w' = w := by
  by_cases h : b < a
  · rw [if_pos h]
    have d : decide (b < a) = true := decide_eq_true h
    go_enter Try.func117, Try.ntmps117
    go_wp2
    go_ret
    exact ⟨rfl, rfl⟩
  · rw [if_neg h]
    have d : decide (b < a) = false := decide_eq_false h
    go_enter Try.func117, Try.ntmps117
    go_wp2
    go_ret
    exact ⟨rfl, rfl⟩
set_option maxHeartbeats 2000000 in
theorem regOkS (r : Rg) (w : World) : Calls Try.prog 19 #[.agg #[.int .i64 r.ep, .int .i64 r.ow, .int .i64 r.pa]] w fun e w' => e = .returned (.bool (rgOk r)) ∧ Below w.heap.size w w' := by
  obtain ⟨R, hR⟩ : ∃ R, R = rgOk r := ⟨_, rfl⟩
  rw [← hR]
  replace hR : Hid _ := hR
  obtain ⟨y, hy⟩ : ∃ y, y = w.alloc (Obj.cells #[.int .i64 r.ep, .int .i64 r.ow, .int .i64 r.pa] 44) := ⟨_, rfl⟩
  have B0 : Below w.heap.size w y := by rw [hy]; exact below_new _
  have A : RgAt y w.heap.size r := by rw [hy]; exact RgAt.new w _ r
  go_enter Try.func19, Try.ntmps19
  go_upto_region 1 with fail
  rw [← hy]
  clear hy
  have cc := A
  obtain ⟨x0, x1, x2⟩ := cc
  go_wp2_with fail
  go_at_call 45
  refine (inB r.ep 1 100000 y).mono ?_
  rintro e v0 ⟨rfl, hw_⟩
  have A := (by rw [hw_]; exact A : RgAt v0 w.heap.size r)
  have B0 := (by rw [hw_]; exact B0 : Below w.heap.size w v0)
  clear hw_
  clear x0 x1 x2
  cases h1 : decide (1 ≤ r.ep ∧ r.ep ≤ 100000)
  · have hN : Hid (R = false) := by unfold Hid; rw [hR.out]; unfold rgOk; rw [h1]; rfl
    clear h1
    go_wp2
    go_ret
    exact ⟨by rw [hN.out]; rfl, B0⟩
  · replace h1 : Hid _ := h1
    have cc := A
    obtain ⟨x0, x1, x2⟩ := cc
    go_wp2_with fail
    go_at_call 45
    refine (inB r.ow 0 1 v0).mono ?_
    rintro e v1 ⟨rfl, hw_⟩
    have A := (by rw [hw_]; exact A : RgAt v1 w.heap.size r)
    have B0 := (by rw [hw_]; exact B0 : Below w.heap.size w v1)
    clear hw_
    clear x0 x1 x2
    cases h2 : decide (0 ≤ r.ow ∧ r.ow ≤ 1)
    · have hN : Hid (R = false) := by unfold Hid; rw [hR.out]; unfold rgOk; rw [h1.out, h2]; rfl
      clear h2
      go_wp2
      go_ret
      exact ⟨by rw [hN.out]; rfl, B0⟩
    · replace h2 : Hid _ := h2
      have cc := A
      obtain ⟨x0, x1, x2⟩ := cc
      go_wp2_with fail
      go_at_call 45
      refine (inB r.pa 0 100000 v1).mono ?_
      rintro e v2 ⟨rfl, hw_⟩
      have A := (by rw [hw_]; exact A : RgAt v2 w.heap.size r)
      have B0 := (by rw [hw_]; exact B0 : Below w.heap.size w v2)
      clear hw_
      clear x0 x1 x2
      rw [show decide (0 ≤ r.pa ∧ r.pa ≤ 100000) = numB r.pa from rfl]
      have hN : Hid (R = numB r.pa) := by unfold Hid; rw [hR.out]; unfold rgOk; rw [h1.out, h2.out]; rfl
      rw [← hN.out]
      go_wp2
      go_ret
      exact ⟨rfl, B0⟩
set_option maxHeartbeats 2000000 in
theorem mindsS (r : Rg) (s : Int) (m : Mi) (ad : Option Addr) (cap : Nat) (w : World) (hv : FView ikEnc w ad m.lg) (hl : m.lg.length ≤ 1048577) :
    Calls Try.prog 23 #[.agg #[.int .i64 r.ep, .int .i64 r.ow, .int .i64 r.pa], .int .i64 s, .agg #[.bool m.up, .int .i64 m.li, .int .i64 m.ep, .slice ad m.lg.length cap, .int .i64 m.sd, .int .i64 m.ac, .int .i64 m.al]] w fun e w' => e = .returned (.bool (mindsB r s m)) ∧ Below w.heap.size w w' := by
  have hB := hv.lt ikEnc_len (by omega)
  obtain ⟨R, hR⟩ : ∃ R, R = mindsB r s m := ⟨_, rfl⟩
  rw [← hR]
  replace hR : Hid _ := hR
  obtain ⟨y, hy⟩ : ∃ y, y = (w.alloc (Obj.cells #[.int .i64 r.ep, .int .i64 r.ow, .int .i64 r.pa] 44)).alloc (Obj.cells #[.bool m.up, .int .i64 m.li, .int .i64 m.ep, .slice ad m.lg.length cap, .int .i64 m.sd, .int .i64 m.ac, .int .i64 m.al] 26) := ⟨_, rfl⟩
  have B0 : Below w.heap.size w y := by rw [hy]; exact ((Below.refl _ _).alloc (Nat.le_refl _) _).alloc (by simp) _
  have A : RgAt y w.heap.size r := by rw [hy]; constructor <;> simp [go_sem]
  have M : MiAt y (w.heap.size + 1) m (.slice ad m.lg.length cap) := by rw [hy]; constructor <;> simp [go_sem]
  have hv1 := hv.below B0 hB
  clear hv hB
  go_enter Try.func23, Try.ntmps23
  have cc := A
  obtain ⟨x0, x1, x2⟩ := cc
  go_wp2_with fail
  go_at_call 19
  rw [← hy]
  clear hy x0 x1 x2
  refine (regOkS r y).mono ?_
  rintro e v1 ⟨rfl, k1⟩
  have A := A.below k1 A.lt
  have M := M.below k1 M.lt
  have hv1 := hv1.below k1 (hv1.lt ikEnc_len (by omega))
  have B1 := B0.trans (k1.mono B0.size)
  clear k1 B0
  cases h1 : rgOk r
  · have hN : Hid (R = false) := by unfold Hid; rw [hR.out]; unfold mindsB; rw [h1]; rfl
    clear h1
    go_wp2
    go_ret
    exact ⟨by rw [hN.out]; rfl, B1⟩
  · replace h1 : Hid _ := h1
    have cc := M
    obtain ⟨x0, x1, x2, x3, x4, x5, x6⟩ := cc
    go_wp2_with fail
    go_at_call 18
    clear x0 x1 x2 x3 x4 x5 x6
    refine (miOkS m ad cap v1 hv1 hl).mono ?_
    rintro e v2 ⟨rfl, k2⟩
    have A := A.below k2 A.lt
    have M := M.below k2 M.lt
    have B2 := B1.trans (k2.mono B1.size)
    clear k2 B1 hv1
    cases h2 : miOk m
    · have hN : Hid (R = false) := by unfold Hid; rw [hR.out]; unfold mindsB; rw [h1.out, h2]; rfl
      clear h2
      go_wp2
      go_ret
      exact ⟨by rw [hN.out]; rfl, B2⟩
    · replace h2 : Hid _ := h2
      obtain ⟨x0, x1, x2, x3, x4, x5, x6⟩ := M
      obtain ⟨z0, z1, z2⟩ := A
      cases h3 : m.up
      · rw [h3] at x0
        have hN : Hid (R = false) := by unfold Hid; rw [hR.out]; unfold mindsB; rw [h1.out, h2.out, h3]; rfl
        go_wp2
        go_ret
        exact ⟨by rw [hN.out]; rfl, B2⟩
      · rw [h3] at x0
        by_cases h4 : s = r.ow
        · have d4 : (s == r.ow) = true := by simpa using h4
          have hN : Hid (R = (m.ep == r.ep)) := by unfold Hid; rw [hR.out]; unfold mindsB; rw [h1.out, h2.out, h3, decide_eq_true h4]; by_cases h5 : m.ep = r.ep <;> simp [h5]
          replace h4 : Hid _ := h4
          go_wp2
          go_ret
          exact ⟨by rw [hN.out]; rfl, B2⟩
        · have d4 : (s == r.ow) = false := by rw [beq_eq_false_iff_ne]; exact h4
          have hN : Hid (R = false) := by unfold Hid; rw [hR.out]; unfold mindsB; rw [h1.out, h2.out, h3, decide_eq_false h4]; rfl
          clear h4
          go_wp2
          go_ret
          exact ⟨by rw [hN.out]; rfl, B2⟩

end Go.Proofs.Ytplejmkbdonkpaa
