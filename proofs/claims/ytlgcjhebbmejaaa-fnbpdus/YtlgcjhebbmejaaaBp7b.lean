/- impl.BpduOf, walked. -/
import Derived.Test.YtlgcjhebbmejaaaRows
import Derived.WalkKit
import Derived.ProofKit
import Derived.OpenShut
import Derived.ShutString
import Derived.ChangeOld
import Derived.Below
import Derived.Deep.QuietTactic
import Derived.BigQuiet
import Derived.WalkSmall
import Derived.Laws.OwnMore
import Derived.WalkSpells
import Derived.WalkLawsBesides
import Derived.Deep.Cut
import Derived.Test.YtlgcjhebbmejaaaBp7
namespace Go.Proofs.Ytlgcjhebbmejaaa
open Go.ChangeShapes Go.WideShapes Go.ChangeAt Go.RowKit
open Go.ChangeMaps (open_string shut_string)
set_option linter.unusedVariables false
set_option maxRecDepth 100000

theorem bytesEq36 (ad ad' : Option Addr) (cap cap' : Nat) (A B : List Int) (w : World) (hv : View w ad A.length (fun i => A.getD i 0)) (hv' : View w ad' B.length (fun i => B.getD i 0)) (hA : ∀ x ∈ A, 0 ≤ x ∧ x ≤ 255) (hB : ∀ x ∈ B, 0 ≤ x ∧ x ≤ 255) (hl : B.length = 36) :
    Calls Try.prog 41 #[.slice ad A.length cap, .slice ad' 36 cap'] w fun e w' => e = .returned (.bool (decide (A = B))) ∧ w' = w := by
  have h := bytesEq ad ad' cap cap' A B w hv hv' hA hB
  rw [hl] at h
  exact h
/-- What BpduOf hands back. -/
def outV (x : Bp × Bool) : Value := .tuple #[.agg #[.bool x.1.ch, .bool x.1.ak, .bool x.1.ag, .bool x.1.le, .bool x.1.op, .int .i64 x.1.ro, .int .i64 x.1.r, .int .i64 x.1.c, .int .i64 x.1.b, .int .i64 x.1.p, .int .i64 x.1.h], .bool x.2]
set_option maxHeartbeats 8000000 in
theorem bpduOfI (ad : Option Addr) (cap : Nat) (L : List Int) (w : World) (hv : View w ad L.length (fun i => L.getD i 0)) (hlt : ∀ x, ad = some x → 0 < L.length → x.block < w.heap.size) (hcap : L.length ≤ cap) (hm : L.length ≤ 1048576) (hb : ∀ x ∈ L, 0 ≤ x ∧ x ≤ 255) :
    Calls Try.prog 13 #[.slice ad L.length cap] w fun e w' => e = .returned (outV (outI L)) ∧ Below w.heap.size w w' := by
  obtain ⟨y, hy⟩ : ∃ y, y = w.alloc (Obj.cells #[.bool false, .bool false, .bool false, .bool false, .bool false, .int .i64 0, .int .i64 0, .int .i64 0, .int .i64 0, .int .i64 0, .int .i64 0] 27) := ⟨_, rfl⟩
  have B0 : Below w.heap.size w y := by rw [hy]; exact below_new _
  have R0 : BpW y w.heap.size bpNil := by rw [hy]; refine ⟨?_, fun i => by simp [go_sem]⟩; constructor <;> simp [go_sem, bpNil]
  have S0 := R0.lt
  by_cases hl : L.length = 36
  rotate_left
  · have hne : ¬ (L.length : Int) = 36 := by omega
    have e : Hid (outI L = (bpNil, false)) := outI_len hl
    obtain ⟨⟨r0, r1, r2, r3, r4, r5, r6, r7, r8, r9, r10⟩, hfr⟩ := R0
    obtain ⟨g0, g1, g2, g3, g4, g5, g6, g7, g8, g9, g10⟩ : y.frozen? ⟨w.heap.size, 0, none⟩ = false ∧ y.frozen? ⟨w.heap.size, 1, none⟩ = false ∧ y.frozen? ⟨w.heap.size, 2, none⟩ = false ∧ y.frozen? ⟨w.heap.size, 3, none⟩ = false ∧ y.frozen? ⟨w.heap.size, 4, none⟩ = false ∧ y.frozen? ⟨w.heap.size, 5, none⟩ = false ∧ y.frozen? ⟨w.heap.size, 6, none⟩ = false ∧ y.frozen? ⟨w.heap.size, 7, none⟩ = false ∧ y.frozen? ⟨w.heap.size, 8, none⟩ = false ∧ y.frozen? ⟨w.heap.size, 9, none⟩ = false ∧ y.frozen? ⟨w.heap.size, 10, none⟩ = false := ⟨hfr 0, hfr 1, hfr 2, hfr 3, hfr 4, hfr 5, hfr 6, hfr 7, hfr 8, hfr 9, hfr 10⟩
    clear hfr hv
    go_enter Try.func13, Try.ntmps13
    go_wp2_with fail
    refine bodyPost_ret (v := .tuple #[.agg #[.bool false, .bool false, .bool false, .bool false, .bool false, .int .i64 0, .int .i64 0, .int .i64 0, .int .i64 0, .int .i64 0, .int .i64 0], .bool false]) (by simp [results, Try.results13, go_sem, *]) rfl ⟨by rw [e.out]; rfl, below_new _⟩
  obtain ⟨b, off, rfl, _⟩ := hv (by omega)
  have hlb : b < w.heap.size := hlt _ rfl (by omega)
  rw [hl] at hcap
  rw [hl]
  obtain ⟨X, hX⟩ : ∃ X, X = rdI L := ⟨_, rfl⟩
  have V0 : View y (some ⟨b, off, none⟩) L.length (fun i => L.getD i 0) := hv.carry (fun x h _ => by cases h; exact B0.block _ hlb)
  have hrd := bpReadI b off cap L y V0 hl hcap hb (by have := B0.size; omega)
  rw [← hX] at hrd
  have e1 : byB X = L → outI L = (X, true) := fun h => by rw [hX] at h ⊢; exact outI_yes hl h
  have e2 : byB X ≠ L → outI L = (bpNil, false) := fun h => by rw [hX] at h; exact outI_no h
  replace e1 : Hid _ := e1
  replace e2 : Hid _ := e2
  clear hX V0
  go_enter Try.func13, Try.ntmps13
  go_wp2_with fail
  go_at_call 40
  rw [← hy]
  clear hy
  refine hrd.mono ?_
  rintro e y1 ⟨rfl, k1⟩
  clear hrd
  have B1 := B0.trans (k1.mono B0.size)
  have R1 := R0.below k1 S0
  have S1 := R1.lt
  clear R0 k1 B0
  obtain ⟨y2, hy2⟩ : ∃ y, y = y1.alloc (Obj.cells #[.bool X.ch, .bool X.ak, .bool X.ag, .bool X.le, .bool X.op, .int .i64 X.ro, .int .i64 X.r, .int .i64 X.c, .int .i64 X.b, .int .i64 X.p, .int .i64 X.h] 27) := ⟨_, rfl⟩
  have k2 : Below y1.heap.size y1 y2 := by rw [hy2]; exact below_new _
  have X2 : BpAt y2 y1.heap.size X := by rw [hy2]; exact BpAt.new y1 _ X
  have B2 := B1.trans (k2.mono B1.size)
  have R2 := R1.below k2 S1
  have x2 := X2.lt
  clear R1 k2
  have q2 := X2
  obtain ⟨q0, q1, q2, q3, q4, q5, q6, q7, q8, q9, q10⟩ := q2
  rw [hy2] at q0 q1 q2 q3 q4 q5 q6 q7 q8 q9 q10
  go_wp2_with fail
  go_at_call 11
  rw [← hy2]
  clear hy2 q0 q1 q2 q3 q4 q5 q6 q7 q8 q9 q10
  refine (byI X y2).mono ?_
  rintro e y3 ⟨aD, cD, rfl, OD, k3⟩
  have B3 := B2.trans (k3.mono B2.size)
  have R3 := R2.below k3 (by omega)
  have X3 := X2.below k3 x2
  have V3 : View y3 (some ⟨b, off, none⟩) L.length (fun i => L.getD i 0) := hv.carry (fun x h _ => by cases h; exact B3.block _ hlb)
  clear k3 R2 X2 B2
  go_wp2_with fail
  go_at_call 41
  refine (bytesEq36 aD (some ⟨b, off, none⟩) cD cap (byB X) L y3 (bV OD.view.2) V3 (byB_bd X) hb hl).mono ?_
  rintro e y4 ⟨rfl, hw_⟩
  have hw_ := hw_.symm
  subst hw_
  clear OD V3 hv hb
  obtain ⟨⟨r0, r1, r2, r3, r4, r5, r6, r7, r8, r9, r10⟩, hfr⟩ := R3
  obtain ⟨g0, g1, g2, g3, g4, g5, g6, g7, g8, g9, g10⟩ : y3.frozen? ⟨w.heap.size, 0, none⟩ = false ∧ y3.frozen? ⟨w.heap.size, 1, none⟩ = false ∧ y3.frozen? ⟨w.heap.size, 2, none⟩ = false ∧ y3.frozen? ⟨w.heap.size, 3, none⟩ = false ∧ y3.frozen? ⟨w.heap.size, 4, none⟩ = false ∧ y3.frozen? ⟨w.heap.size, 5, none⟩ = false ∧ y3.frozen? ⟨w.heap.size, 6, none⟩ = false ∧ y3.frozen? ⟨w.heap.size, 7, none⟩ = false ∧ y3.frozen? ⟨w.heap.size, 8, none⟩ = false ∧ y3.frozen? ⟨w.heap.size, 9, none⟩ = false ∧ y3.frozen? ⟨w.heap.size, 10, none⟩ = false := ⟨hfr 0, hfr 1, hfr 2, hfr 3, hfr 4, hfr 5, hfr 6, hfr 7, hfr 8, hfr 9, hfr 10⟩
  obtain ⟨z0, z1, z2, z3, z4, z5, z6, z7, z8, z9, z10⟩ := X3
  clear hfr
  by_cases hd : byB X = L
  · have e3 : Hid (outI L = (X, true)) := e1.out hd
    rw [decide_eq_true hd]
    clear e1 e2 hd
    go_wp2
    refine bodyPost_ret (v := .tuple #[.agg #[.bool X.ch, .bool X.ak, .bool X.ag, .bool X.le, .bool X.op, .int .i64 X.ro, .int .i64 X.r, .int .i64 X.c, .int .i64 X.b, .int .i64 X.p, .int .i64 X.h], .bool true]) (by simp [results, Try.results13, go_sem, *]) rfl ⟨by rw [e3.out]; rfl, ?_⟩
    repeat' (first | with_reducible exact B3 | refine Below.setCell ?_ (by show w.heap.size ≤ w.heap.size; exact Nat.le_refl _) _)
  · have e3 : Hid (outI L = (bpNil, false)) := e2.out hd
    rw [decide_eq_false hd]
    clear e1 e2 hd
    go_wp2
    refine bodyPost_ret (v := .tuple #[.agg #[.bool false, .bool false, .bool false, .bool false, .bool false, .int .i64 0, .int .i64 0, .int .i64 0, .int .i64 0, .int .i64 0, .int .i64 0], .bool false]) (by simp [results, Try.results13, go_sem, *]) rfl ⟨by rw [e3.out]; rfl, ?_⟩
    repeat' (first | with_reducible exact B3 | refine Below.setCell ?_ (by show w.heap.size ≤ w.heap.size; exact Nat.le_refl _) _)

end Go.Proofs.Ytlgcjhebbmejaaa
