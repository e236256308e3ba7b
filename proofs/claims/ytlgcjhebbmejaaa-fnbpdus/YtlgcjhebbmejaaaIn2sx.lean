/- spec.InOk, walked. -/
import Derived.Test.YtlgcjhebbmejaaaRows
import Derived.WalkKit
import Derived.ProofKit
import Derived.OpenShut
import Derived.ShutString
import Derived.ChangeOld
import Derived.Below
import Derived.Deep.QuietTactic
import Derived.BigQuiet
import Derived.WalkSmall
import Derived.Laws.OwnMore
import Derived.WalkSpells
import Derived.WalkLawsBesides
import Derived.Deep.Cut
import Derived.Test.YtlgcjhebbmejaaaIn1x
namespace Go.Proofs.Ytlgcjhebbmejaaa
open Go.ChangeShapes Go.WideShapes Go.ChangeAt Go.RowKit
open Go.ChangeMaps (open_string shut_string)
set_option linter.unusedVariables false
set_option maxRecDepth 100000

set_option maxHeartbeats 4000000 in
theorem inOkS (x : Ik) (w : World) : Calls Try.prog 42 #[.agg #[.int .i64 x.k, .int .i64 x.q, .int .i64 x.r, .int .i64 x.c, .int .i64 x.b, .int .i64 x.p, .int .i64 x.h, .bool x.up]] w fun e w' => e = .returned (.bool (inOk x)) ∧ Below w.heap.size w w' := by
  obtain ⟨k, q, r, c, b, p, h, up⟩ := x
  dsimp only
  obtain ⟨R, hR⟩ : ∃ R, R = inOk ⟨k, q, r, c, b, p, h, up⟩ := ⟨_, rfl⟩
  rw [← hR]
  by_cases h1 : k = 1
  · subst h1
    have hR1 : Hid (R = (decide (0 ≤ q ∧ q ≤ 3) && (vOk r c b p && (decide (0 ≤ h ∧ h ≤ 8) && !up)))) := hR
    clear hR
    have B0 := below_new (w := w) (Obj.cells #[.int .i64 1, .int .i64 q, .int .i64 r, .int .i64 c, .int .i64 b, .int .i64 p, .int .i64 h, .bool up] 36)
    obtain ⟨y, hy⟩ : ∃ y, y = w.alloc (Obj.cells #[.int .i64 1, .int .i64 q, .int .i64 r, .int .i64 c, .int .i64 b, .int .i64 p, .int .i64 h, .bool up] 36) := ⟨_, rfl⟩
    rw [← hy] at B0
    have A0 : InAt y w.heap.size ⟨1, q, r, c, b, p, h, up⟩ := by rw [hy]; exact InAt.new w _ ⟨1, q, r, c, b, p, h, up⟩
    have S0 := A0.lt
    go_enter Try.func42, Try.ntmps42
    go_wp2_with fail
    go_at_call 46
    rw [← hy]
    clear hy
    refine (inB q 0 3 y).mono ?_
    rintro e y1 ⟨rfl, rfl⟩
    obtain ⟨a0, a1, a2, a3, a4, a5, a6, a7⟩ := A0
    have A0 : InAt y1 w.heap.size ⟨1, q, r, c, b, p, h, up⟩ := ⟨a0, a1, a2, a3, a4, a5, a6, a7⟩
    cases hF : decide (0 ≤ q ∧ q ≤ 3) with
    | false =>
      have hN : Hid (R = false) := by unfold Hid; rw [hR1.out, hF]; rfl
      clear hR1 hF
      go_wp2
      go_ret
      exact ⟨by rw [hN.out]; rfl, B0⟩
    | true =>
      have hR2 : Hid (R = (vOk r c b p && (decide (0 ≤ h ∧ h ≤ 8) && !up))) := by unfold Hid; rw [hR1.out, hF]; rfl
      clear hR1 hF
      go_wp2_with fail
      go_at_call 47
      refine (vOkS r c b p y1).mono ?_
      rintro e y2 ⟨rfl, k2⟩
      have B2 := B0.trans (k2.mono B0.size)
      have A2 := A0.below k2 S0
      clear a0 a1 a2 a3 a4 a5 a6 a7 A0 k2
      obtain ⟨a0, a1, a2, a3, a4, a5, a6, a7⟩ := A2
      cases hF : vOk r c b p with
      | false =>
        have hN : Hid (R = false) := by unfold Hid; rw [hR2.out, hF]; rfl
        clear hR2 hF
        go_wp2
        go_ret
        exact ⟨by rw [hN.out]; rfl, B2⟩
      | true =>
        have hR3 : Hid (R = (decide (0 ≤ h ∧ h ≤ 8) && !up)) := by unfold Hid; rw [hR2.out, hF]; rfl
        clear hR2 hF
        go_wp2_with fail
        go_at_call 46
        refine (inB h 0 8 y2).mono ?_
        rintro e y3 ⟨rfl, rfl⟩
        cases hF : decide (0 ≤ h ∧ h ≤ 8) with
        | false =>
          have hN : Hid (R = false) := by unfold Hid; rw [hR3.out, hF]; rfl
          clear hR3 hF
          go_wp2
          go_ret
          exact ⟨by rw [hN.out]; rfl, B2⟩
        | true =>
          have hN : Hid (R = !up) := by unfold Hid; rw [hR3.out, hF]; rfl
          clear hR3 hF
          go_wp2
          go_ret
          exact ⟨by rw [hN.out]; rfl, B2⟩
  have d1 : (k == 1) = false := by simpa using h1
  by_cases h3 : k = 3
  · subst h3
    have hR1 : Hid (R = (decide (0 ≤ q ∧ q ≤ 3) && (decide (r = 0 ∧ c = 0 ∧ b = 0 ∧ p = 0) && (h == 0)))) := hR
    clear hR h1 d1
    have B0 := below_new (w := w) (Obj.cells #[.int .i64 3, .int .i64 q, .int .i64 r, .int .i64 c, .int .i64 b, .int .i64 p, .int .i64 h, .bool up] 36)
    obtain ⟨y, hy⟩ : ∃ y, y = w.alloc (Obj.cells #[.int .i64 3, .int .i64 q, .int .i64 r, .int .i64 c, .int .i64 b, .int .i64 p, .int .i64 h, .bool up] 36) := ⟨_, rfl⟩
    rw [← hy] at B0
    have A0 : InAt y w.heap.size ⟨3, q, r, c, b, p, h, up⟩ := by rw [hy]; exact InAt.new w _ ⟨3, q, r, c, b, p, h, up⟩
    have S0 := A0.lt
    go_enter Try.func42, Try.ntmps42
    go_wp2_with fail
    go_at_call 46
    rw [← hy]
    clear hy
    refine (inB q 0 3 y).mono ?_
    rintro e y1 ⟨rfl, rfl⟩
    obtain ⟨a0, a1, a2, a3, a4, a5, a6, a7⟩ := A0
    cases hF : decide (0 ≤ q ∧ q ≤ 3) with
    | false =>
      have hN : Hid (R = false) := by unfold Hid; rw [hR1.out, hF]; rfl
      clear hR1 hF
      go_wp2
      go_ret
      exact ⟨by rw [hN.out]; rfl, B0⟩
    | true =>
      have hR2 : Hid (R = (decide (r = 0 ∧ c = 0 ∧ b = 0 ∧ p = 0) && (h == 0))) := by unfold Hid; rw [hR1.out, hF]; rfl
      clear hR1 hF
      have eV : ∀ w_ : World, (binOp .eql 25 (.agg #[.int .i64 r, .int .i64 c, .int .i64 b, .int .i64 p]) (.agg #[.int .i64 0, .int .i64 0, .int .i64 0, .int .i64 0])).run Try.prog w_ = .ok (.bool (decide (r = 0 ∧ c = 0 ∧ b = 0 ∧ p = 0))) w_ := fun w_ => by
        have := eqV r c b p 0 0 0 0 w_
        go_simp
      cases hF : decide (r = 0 ∧ c = 0 ∧ b = 0 ∧ p = 0) with
      | false =>
        have hN : Hid (R = false) := by unfold Hid; rw [hR2.out, hF]; rfl
        rw [hF] at eV
        clear hR2 hF
        go_wp2
        go_ret
        exact ⟨by rw [hN.out]; rfl, B0⟩
      | true =>
        have hN : Hid (R = (h == 0)) := by unfold Hid; rw [hR2.out, hF]; rfl
        rw [hF] at eV
        clear hR2 hF
        go_wp2
        go_ret
        exact ⟨by rw [hN.out]; rfl, B0⟩
  have d3 : (k == 3) = false := by simpa using h3
  by_cases h2 : k = 2
  · subst h2
    have hN : Hid (R = decide (q = 0 ∧ r = 0 ∧ c = 0 ∧ b = 0 ∧ p = 0 ∧ h = 0 ∧ up = false)) := hR
    clear hR h1 d1 h3 d3
    have eI : ∀ w_ : World, (binOp .eql 36 (.agg #[.int .i64 2, .int .i64 q, .int .i64 r, .int .i64 c, .int .i64 b, .int .i64 p, .int .i64 h, .bool up]) (.agg #[.int .i64 2, .int .i64 0, .int .i64 0, .int .i64 0, .int .i64 0, .int .i64 0, .int .i64 0, .bool false])).run Try.prog w_ = .ok (.bool R) w_ := fun w_ => by
      rw [hN.out]
      go_simp
      all_goals ((repeat' split) <;> first | (simp_all; done) | grind)
    clear hN
    have B0 := below_new (w := w) (Obj.cells #[.int .i64 2, .int .i64 q, .int .i64 r, .int .i64 c, .int .i64 b, .int .i64 p, .int .i64 h, .bool up] 36)
    obtain ⟨y, hy⟩ : ∃ y, y = w.alloc (Obj.cells #[.int .i64 2, .int .i64 q, .int .i64 r, .int .i64 c, .int .i64 b, .int .i64 p, .int .i64 h, .bool up] 36) := ⟨_, rfl⟩
    rw [← hy] at B0
    have A0 : InAt y w.heap.size ⟨2, q, r, c, b, p, h, up⟩ := by rw [hy]; exact InAt.new w _ ⟨2, q, r, c, b, p, h, up⟩
    have S0 := A0.lt
    go_enter Try.func42, Try.ntmps42
    go_upto_region 7 with fail
    rw [← hy]
    clear hy
    obtain ⟨a0, a1, a2, a3, a4, a5, a6, a7⟩ := A0
    go_wp2
    go_ret
    exact ⟨rfl, B0⟩
  have d2 : (k == 2) = false := by simpa using h2
  have hN : Hid (R = false) := by unfold Hid; rw [hR]; unfold inOk; rw [if_neg h1, if_neg h3, if_neg h2]
  clear hR h1 h2 h3
  have B0 := below_new (w := w) (Obj.cells #[.int .i64 k, .int .i64 q, .int .i64 r, .int .i64 c, .int .i64 b, .int .i64 p, .int .i64 h, .bool up] 36)
  obtain ⟨y, hy⟩ : ∃ y, y = w.alloc (Obj.cells #[.int .i64 k, .int .i64 q, .int .i64 r, .int .i64 c, .int .i64 b, .int .i64 p, .int .i64 h, .bool up] 36) := ⟨_, rfl⟩
  rw [← hy] at B0
  have A0 : InAt y w.heap.size ⟨k, q, r, c, b, p, h, up⟩ := by rw [hy]; exact InAt.new w _ ⟨k, q, r, c, b, p, h, up⟩
  have S0 := A0.lt
  go_enter Try.func42, Try.ntmps42
  go_wp2
  go_ret
  rw [← hy]
  exact ⟨by rw [hN.out]; rfl, B0⟩

end Go.Proofs.Ytlgcjhebbmejaaa
