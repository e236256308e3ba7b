/- spec.ClaimIn, walked. -/
import Derived.Test.YtlgcjhebbmejaaaRows
import Derived.WalkKit
import Derived.ProofKit
import Derived.OpenShut
import Derived.ShutString
import Derived.ChangeOld
import Derived.Below
import Derived.Deep.QuietTactic
import Derived.BigQuiet
import Derived.WalkSmall
import Derived.Laws.OwnMore
import Derived.WalkSpells
import Derived.WalkLawsBesides
import Derived.Deep.Cut
import Derived.Test.YtlgcjhebbmejaaaBp1
import Derived.Test.YtlgcjhebbmejaaaIn2sx
namespace Go.Proofs.Ytlgcjhebbmejaaa
open Go.ChangeShapes Go.WideShapes Go.ChangeAt Go.RowKit
open Go.ChangeMaps (open_string shut_string)
set_option linter.unusedVariables false
set_option maxRecDepth 100000

/-- What a claim on the wire is to the bridge that it comes to. -/
def inOf (x : Bp) (n : Int) : Ik := ⟨1, n, x.r, x.c, x.b, x.p, x.h, false⟩
def clB (x : Bp) (n : Int) : Bool := bpOk x && inOk (inOf x n)
def clV (x : Bp) (n : Int) : Ik := if clB x n = true then inOf x n else ⟨0, 0, 0, 0, 0, 0, 0, false⟩
set_option maxHeartbeats 4000000 in
theorem claimS (x : Bp) (n : Int) (w : World) : Calls Try.prog 19 #[.agg #[.bool x.ch, .bool x.ak, .bool x.ag, .bool x.le, .bool x.op, .int .i64 x.ro, .int .i64 x.r, .int .i64 x.c, .int .i64 x.b, .int .i64 x.p, .int .i64 x.h], .int .i64 n] w fun e w' => e = .returned (.tuple #[.agg #[.int .i64 (clV x n).k, .int .i64 (clV x n).q, .int .i64 (clV x n).r, .int .i64 (clV x n).c, .int .i64 (clV x n).b, .int .i64 (clV x n).p, .int .i64 (clV x n).h, .bool (clV x n).up], .bool (clB x n)]) ∧ Below w.heap.size w w' := by
  obtain ⟨R, hR⟩ : ∃ R, R = clV x n := ⟨_, rfl⟩
  obtain ⟨B, hB0⟩ : ∃ B, B = clB x n := ⟨_, rfl⟩
  rw [← hR, ← hB0]
  obtain ⟨y, hy⟩ : ∃ y, y = ((w.alloc (Obj.cells #[.bool x.ch, .bool x.ak, .bool x.ag, .bool x.le, .bool x.op, .int .i64 x.ro, .int .i64 x.r, .int .i64 x.c, .int .i64 x.b, .int .i64 x.p, .int .i64 x.h] 27)).alloc (Obj.cells #[.int .i64 0, .int .i64 0, .int .i64 0, .int .i64 0, .int .i64 0, .int .i64 0, .int .i64 0, .bool false] 36)).alloc (Obj.cells #[.int .i64 1, .int .i64 n, .int .i64 x.r, .int .i64 x.c, .int .i64 x.b, .int .i64 x.p, .int .i64 x.h, .bool false] 36) := ⟨_, rfl⟩
  have b0 : Below w.heap.size w y := by rw [hy]; exact (((Below.refl _ _).alloc (Nat.le_refl _) _).alloc (by simp) _).alloc (by simp; omega) _
  have P0 : BpAt y w.heap.size x := by rw [hy]; constructor <;> simp [go_sem]
  have Q0 : InAt y (w.heap.size + 1) ⟨0, 0, 0, 0, 0, 0, 0, false⟩ := by rw [hy]; constructor <;> simp [go_sem]
  have R0 : InAt y (w.heap.size + 1 + 1) ⟨1, n, x.r, x.c, x.b, x.p, x.h, false⟩ := by rw [hy]; constructor <;> simp [go_sem]
  have QF : ∀ i, y.frozen? ⟨w.heap.size + 1, i, none⟩ = false := fun i => by rw [hy]; simp [go_sem]
  have S0 := R0.lt
  go_enter Try.func19, Try.ntmps19
  go_wp2_with fail
  go_at_call 22
  rw [← hy]
  clear hy
  refine (bpOkS x y).mono ?_
  rintro e y1 ⟨rfl, k1⟩
  have b1 := b0.trans (k1.mono b0.size)
  have R1 := R0.below k1 (by omega)
  have Q1 := Q0.below k1 (by omega)
  have QF1 : ∀ i, y1.frozen? ⟨w.heap.size + 1, i, none⟩ = false := fun i => (World.frozen?_of_block (a := ⟨w.heap.size + 1, i, none⟩) (k1.block (w.heap.size + 1) (by omega))).trans (QF i)
  have S1 := R1.lt
  clear P0 Q0 R0 QF k1 b0 S0
  cases hF : bpOk x with
  | false =>
    have hB : Hid (B = false) := by unfold Hid; rw [hB0, clB, hF]; rfl
    have hV : Hid (R = ⟨0, 0, 0, 0, 0, 0, 0, false⟩) := by unfold Hid; rw [hR, clV, clB, hF]; rfl
    clear hF hB0 hR R1 S1
    obtain ⟨q0, q1, q2, q3, q4, q5, q6, q7⟩ := Q1
    have qf := QF1
    have f0 := QF1 0
    have f1 := QF1 1
    have f2 := QF1 2
    have f3 := QF1 3
    have f4 := QF1 4
    have f5 := QF1 5
    have f6 := QF1 6
    have f7 := QF1 7
    clear qf QF1
    go_wp2
    refine bodyPost_ret (v := .tuple #[.agg #[.int .i64 0, .int .i64 0, .int .i64 0, .int .i64 0, .int .i64 0, .int .i64 0, .int .i64 0, .bool false], .bool false]) (by simp [results, Try.results19, go_sem, *]) rfl ⟨?_, ?_⟩
    exact by rw [hB.out, hV.out]
    repeat' (first | with_reducible assumption | refine Below.setCell ?_ (by show _ ≤ w.heap.size + 1; omega) _)
  | true =>
    have cc := R1
    obtain ⟨m0, m1, m2, m3, m4, m5, m6, m7⟩ := cc
    go_wp2_with fail
    go_at_call 42
    clear m0 m1 m2 m3 m4 m5 m6 m7
    refine (inOkS ⟨1, n, x.r, x.c, x.b, x.p, x.h, false⟩ y1).mono ?_
    rintro e y2 ⟨rfl, k2⟩
    have b2 := b1.trans (k2.mono b1.size)
    have R2 := R1.below k2 (by omega)
    have Q2 := Q1.below k2 (by omega)
    have QF2 : ∀ i, y2.frozen? ⟨w.heap.size + 1, i, none⟩ = false := fun i => (World.frozen?_of_block (a := ⟨w.heap.size + 1, i, none⟩) (k2.block (w.heap.size + 1) (by omega))).trans (QF1 i)
    clear R1 Q1 QF1 k2 b1
    have f0 := QF2 0
    have f1 := QF2 1
    have f2 := QF2 2
    have f3 := QF2 3
    have f4 := QF2 4
    have f5 := QF2 5
    have f6 := QF2 6
    have f7 := QF2 7
    clear QF2
    cases hG : inOk ⟨1, n, x.r, x.c, x.b, x.p, x.h, false⟩ with
    | false =>
      have hB : Hid (B = false) := by unfold Hid; rw [hB0, clB, hF, inOf, hG]; rfl
      have hV : Hid (R = ⟨0, 0, 0, 0, 0, 0, 0, false⟩) := by unfold Hid; rw [hR, clV, clB, hF, inOf, hG]; rfl
      clear hF hG hB0 hR R2
      obtain ⟨q0, q1, q2, q3, q4, q5, q6, q7⟩ := Q2
      go_wp2
      refine bodyPost_ret (v := .tuple #[.agg #[.int .i64 0, .int .i64 0, .int .i64 0, .int .i64 0, .int .i64 0, .int .i64 0, .int .i64 0, .bool false], .bool false]) (by simp [results, Try.results19, go_sem, *]) rfl ⟨?_, ?_⟩
      exact by rw [hB.out, hV.out]
      repeat' (first | with_reducible assumption | refine Below.setCell ?_ (by show _ ≤ w.heap.size + 1; omega) _)
    | true =>
      have hB : Hid (B = true) := by unfold Hid; rw [hB0, clB, hF, inOf, hG]; rfl
      have hV : Hid (R = ⟨1, n, x.r, x.c, x.b, x.p, x.h, false⟩) := by unfold Hid; rw [hR, clV, clB, hF, inOf, hG]; rfl
      clear hF hG hB0 hR
      obtain ⟨r0, r1, r2, r3, r4, r5, r6, r7⟩ := R2
      obtain ⟨q0, q1, q2, q3, q4, q5, q6, q7⟩ := Q2
      go_wp2
      refine bodyPost_ret (v := .tuple #[.agg #[.int .i64 1, .int .i64 n, .int .i64 x.r, .int .i64 x.c, .int .i64 x.b, .int .i64 x.p, .int .i64 x.h, .bool false], .bool true]) (by simp [results, Try.results19, go_sem, *]) rfl ⟨?_, ?_⟩
      exact by rw [hB.out, hV.out]
      repeat' (first | with_reducible assumption | refine Below.setCell ?_ (by show _ ≤ w.heap.size + 1; omega) _)

end Go.Proofs.Ytlgcjhebbmejaaa
