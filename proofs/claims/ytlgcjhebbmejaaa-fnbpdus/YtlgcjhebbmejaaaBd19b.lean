/- Bpdus that are drawn: what the law asks. -/
import Derived.Test.YtlgcjhebbmejaaaRows
import Derived.WalkKit
import Derived.ProofKit
import Derived.OpenShut
import Derived.ShutString
import Derived.ChangeOld
import Derived.Below
import Derived.Deep.QuietTactic
import Derived.BigQuiet
import Derived.WalkSmall
import Derived.Laws.OwnMore
import Derived.WalkSpells
import Derived.WalkLawsBesides
import Derived.Deep.Cut
import Derived.Deep.RegionHeld
import Derived.Test.YtlgcjhebbmejaaaBd19
namespace Go.Proofs.Ytlgcjhebbmejaaa
open Go.ChangeShapes Go.WideShapes Go.ChangeAt Go.RowKit
open Go.ChangeMaps (open_string shut_string)
set_option linter.unusedVariables false
set_option maxRecDepth 100000

def putBp (w : World) (q : Nat) (x : Bp) : World := ((((((((((w.setCell ⟨q, 0, none⟩ (.bool x.ch)).setCell ⟨q, 1, none⟩ (.bool x.ak)).setCell ⟨q, 2, none⟩ (.bool x.ag)).setCell ⟨q, 3, none⟩ (.bool x.le)).setCell ⟨q, 4, none⟩ (.bool x.op)).setCell ⟨q, 5, none⟩ (.int .i64 x.ro)).setCell ⟨q, 6, none⟩ (.int .i64 x.r)).setCell ⟨q, 7, none⟩ (.int .i64 x.c)).setCell ⟨q, 8, none⟩ (.int .i64 x.b)).setCell ⟨q, 9, none⟩ (.int .i64 x.p)).setCell ⟨q, 10, none⟩ (.int .i64 x.h)
theorem BpW.all {w : World} {q : Nat} {y : Bp} (h : BpW w q y) (x : Bp) : BpW (putBp w q x) q x := (((((((((((h.set0 x.ch).set1 x.ak).set2 x.ag).set3 x.le).set4 x.op).set5 x.ro).set6 x.r).set7 x.c).set8 x.b).set9 x.p).set10 x.h)
theorem putBp_below {n : Nat} {a w : World} {q : Nat} (x : Bp) (h : Below n a w) (hq : n ≤ q) : Below n a (putBp w q x) := (((((((((((h.setCell hq _).setCell hq _).setCell hq _).setCell hq _).setCell hq _).setCell hq _).setCell hq _).setCell hq _).setCell hq _).setCell hq _).setCell hq _)
theorem putBp_other {w : World} {q k : Nat} (x : Bp) (h : k ≠ q) : (putBp w q x).heap[k]? = w.heap[k]? := by unfold putBp; rw [Below.heap_setCell _ _ _ _ h, Below.heap_setCell _ _ _ _ h, Below.heap_setCell _ _ _ _ h, Below.heap_setCell _ _ _ _ h, Below.heap_setCell _ _ _ _ h, Below.heap_setCell _ _ _ _ h, Below.heap_setCell _ _ _ _ h, Below.heap_setCell _ _ _ _ h, Below.heap_setCell _ _ _ _ h, Below.heap_setCell _ _ _ _ h, Below.heap_setCell _ _ _ _ h]
set_option linter.unusedSimpArgs false in
set_option maxHeartbeats 4000000 in
theorem drawBytes (ad : Option Addr) (len cap : Nat) (f : Nat → Int) (w : World) (hc : Code0 w ad len f) :
    Calls Try.prog 10 #[.slice ad len cap] w fun e w' => ∃ x : Bp, e = .returned (.agg #[.bool x.ch, .bool x.ak, .bool x.ag, .bool x.le, .bool x.op, .int .i64 x.ro, .int .i64 x.r, .int .i64 x.c, .int .i64 x.b, .int .i64 x.p, .int .i64 x.h]) ∧ Below w.heap.size w w' := by
  obtain ⟨y, hy⟩ : ∃ y, y = w.alloc (Obj.cells #[.bool false, .bool false, .bool false, .bool false, .bool false, .int .i64 0, .int .i64 0, .int .i64 0, .int .i64 0, .int .i64 0, .int .i64 0] 27) := ⟨_, rfl⟩
  have B0 : Below w.heap.size w y := by rw [hy]; exact below_new _
  have R0 : BpW y w.heap.size bpNil := by rw [hy]; exact BpW.new w _ bpNil
  have hc0 := hc.later B0 (Nat.le_refl _)
  have S0 := R0.lt
  go_enter Try.func10, Try.ntmps10
  go_wp2_with fail
  go_at_call 34
  rw [← hy]
  clear hy
  refine (drawNew ad len cap f y hc0.view hc0.lt hc0.small hc0.bytes).mono ?_
  rintro e y1 ⟨rfl, s1, k1, z1⟩
  have B1 := B0.trans (k1.mono B0.size)
  have R1 := R0.below k1 S0
  go_wp2_with fail
  go_at_call 33
  refine (drawBp y1 s1 (by omega)).mono ?_
  rintro e y2 ⟨x, rfl, s2, g2⟩
  have R2 := R1.grown g2 (by omega)
  have B2 : Below w.heap.size w y2 := below_cb B1 g2 (by have := B0.size; omega) B1.size
  obtain ⟨⟨b0, b1, b2, b3, b4, b5, b6, b7, b8, b9, b10⟩, bf⟩ := R2
  have f0 := bf 0
  have f1 := bf 1
  have f2 := bf 2
  have f3 := bf 3
  have f4 := bf 4
  have f5 := bf 5
  have f6 := bf 6
  have f7 := bf 7
  have f8 := bf 8
  have f9 := bf 9
  have f10 := bf 10
  clear bf R1 R0 s1 s2 g2 k1
  go_wp2
  refine bodyPost_ret (v := .agg #[.bool x.ch, .bool x.ak, .bool x.ag, .bool x.le, .bool x.op, .int .i64 x.ro, .int .i64 x.r, .int .i64 x.c, .int .i64 x.b, .int .i64 x.p, .int .i64 x.h]) (by simp [results, Try.results10, go_sem, *]) rfl ⟨x, rfl, ?_⟩
  repeat' (first | with_reducible exact B2 | refine Below.setCell ?_ (by show w.heap.size ≤ w.heap.size; exact Nat.le_refl _) _)
set_option linter.unusedSimpArgs false in
set_option maxHeartbeats 4000000 in
theorem drawOk (ad : Option Addr) (len cap : Nat) (f : Nat → Int) (w : World) (hc : Code0 w ad len f) :
    Calls Try.prog 15 #[.slice ad len cap] w fun e w' => ∃ x : Bp, e = .returned (.agg #[.bool x.ch, .bool x.ak, .bool x.ag, .bool x.le, .bool x.op, .int .i64 x.ro, .int .i64 x.r, .int .i64 x.c, .int .i64 x.b, .int .i64 x.p, .int .i64 x.h]) ∧ Below w.heap.size w w' := by
  obtain ⟨y, hy⟩ : ∃ y, y = w.alloc (Obj.cells #[.bool false, .bool false, .bool false, .bool false, .bool false, .int .i64 0, .int .i64 0, .int .i64 0, .int .i64 0, .int .i64 0, .int .i64 0] 27) := ⟨_, rfl⟩
  have B0 : Below w.heap.size w y := by rw [hy]; exact below_new _
  have R0 : BpW y w.heap.size bpNil := by rw [hy]; exact BpW.new w _ bpNil
  have hc0 := hc.later B0 (Nat.le_refl _)
  have S0 := R0.lt
  go_enter Try.func15, Try.ntmps15
  go_wp2_with fail
  go_at_call 34
  rw [← hy]
  clear hy
  refine (drawNew ad len cap f y hc0.view hc0.lt hc0.small hc0.bytes).mono ?_
  rintro e y1 ⟨rfl, s1, k1, z1⟩
  have B1 := B0.trans (k1.mono B0.size)
  have R1 := R0.below k1 S0
  go_wp2_with fail
  go_at_call 33
  refine (drawBp y1 s1 (by omega)).mono ?_
  rintro e y2 ⟨x, rfl, s2, g2⟩
  have R2 := R1.grown g2 (by omega)
  have B2 : Below w.heap.size w y2 := below_cb B1 g2 (by have := B0.size; omega) B1.size
  obtain ⟨⟨b0, b1, b2, b3, b4, b5, b6, b7, b8, b9, b10⟩, bf⟩ := R2
  have f0 := bf 0
  have f1 := bf 1
  have f2 := bf 2
  have f3 := bf 3
  have f4 := bf 4
  have f5 := bf 5
  have f6 := bf 6
  have f7 := bf 7
  have f8 := bf 8
  have f9 := bf 9
  have f10 := bf 10
  clear bf R1 R0 s1 s2 g2 k1
  go_wp2
  refine bodyPost_ret (v := .agg #[.bool x.ch, .bool x.ak, .bool x.ag, .bool x.le, .bool x.op, .int .i64 x.ro, .int .i64 x.r, .int .i64 x.c, .int .i64 x.b, .int .i64 x.p, .int .i64 x.h]) (by simp [results, Try.results15, go_sem, *]) rfl ⟨x, rfl, ?_⟩
  repeat' (first | with_reducible exact B2 | refine Below.setCell ?_ (by show w.heap.size ≤ w.heap.size; exact Nat.le_refl _) _)
set_option linter.unusedSimpArgs false in
set_option maxHeartbeats 4000000 in
theorem drawFl (ad : Option Addr) (len cap : Nat) (f : Nat → Int) (w : World) (hc : Code0 w ad len f) :
    Calls Try.prog 16 #[.slice ad len cap] w fun e w' => ∃ x : Bp, e = .returned (.agg #[.bool x.ch, .bool x.ak, .bool x.ag, .bool x.le, .bool x.op, .int .i64 x.ro, .int .i64 x.r, .int .i64 x.c, .int .i64 x.b, .int .i64 x.p, .int .i64 x.h]) ∧ Below w.heap.size w w' := by
  obtain ⟨y, hy⟩ : ∃ y, y = w.alloc (Obj.cells #[.bool false, .bool false, .bool false, .bool false, .bool false, .int .i64 0, .int .i64 0, .int .i64 0, .int .i64 0, .int .i64 0, .int .i64 0] 27) := ⟨_, rfl⟩
  have B0 : Below w.heap.size w y := by rw [hy]; exact below_new _
  have R0 : BpW y w.heap.size bpNil := by rw [hy]; exact BpW.new w _ bpNil
  have hc0 := hc.later B0 (Nat.le_refl _)
  have S0 := R0.lt
  go_enter Try.func16, Try.ntmps16
  go_wp2_with fail
  go_at_call 34
  rw [← hy]
  clear hy
  refine (drawNew ad len cap f y hc0.view hc0.lt hc0.small hc0.bytes).mono ?_
  rintro e y1 ⟨rfl, s1, k1, z1⟩
  have B1 := B0.trans (k1.mono B0.size)
  have R1 := R0.below k1 S0
  go_wp2_with fail
  go_at_call 33
  refine (drawBp y1 s1 (by omega)).mono ?_
  rintro e y2 ⟨x, rfl, s2, g2⟩
  have R2 := R1.grown g2 (by omega)
  have B2 : Below w.heap.size w y2 := below_cb B1 g2 (by have := B0.size; omega) B1.size
  obtain ⟨⟨b0, b1, b2, b3, b4, b5, b6, b7, b8, b9, b10⟩, bf⟩ := R2
  have f0 := bf 0
  have f1 := bf 1
  have f2 := bf 2
  have f3 := bf 3
  have f4 := bf 4
  have f5 := bf 5
  have f6 := bf 6
  have f7 := bf 7
  have f8 := bf 8
  have f9 := bf 9
  have f10 := bf 10
  clear bf R1 R0 s1 s2 g2 k1
  go_wp2
  refine bodyPost_ret (v := .agg #[.bool x.ch, .bool x.ak, .bool x.ag, .bool x.le, .bool x.op, .int .i64 x.ro, .int .i64 x.r, .int .i64 x.c, .int .i64 x.b, .int .i64 x.p, .int .i64 x.h]) (by simp [results, Try.results16, go_sem, *]) rfl ⟨x, rfl, ?_⟩
  repeat' (first | with_reducible exact B2 | refine Below.setCell ?_ (by show w.heap.size ≤ w.heap.size; exact Nat.le_refl _) _)
set_option linter.unusedSimpArgs false in
set_option maxHeartbeats 4000000 in
theorem drawCl (ad : Option Addr) (len cap : Nat) (f : Nat → Int) (w : World) (hc : Code0 w ad len f) :
    Calls Try.prog 17 #[.slice ad len cap] w fun e w' => ∃ (x : Bp) (p : Int), e = .returned (.tuple #[.agg #[.bool x.ch, .bool x.ak, .bool x.ag, .bool x.le, .bool x.op, .int .i64 x.ro, .int .i64 x.r, .int .i64 x.c, .int .i64 x.b, .int .i64 x.p, .int .i64 x.h], .int .i64 p]) ∧ Below w.heap.size w w' := by
  obtain ⟨y, hy⟩ : ∃ y, y = w.alloc (Obj.cells #[.bool false, .bool false, .bool false, .bool false, .bool false, .int .i64 0, .int .i64 0, .int .i64 0, .int .i64 0, .int .i64 0, .int .i64 0] 27) := ⟨_, rfl⟩
  have B0 : Below w.heap.size w y := by rw [hy]; exact below_new _
  have R0 : BpW y w.heap.size bpNil := by rw [hy]; exact BpW.new w _ bpNil
  have hc0 := hc.later B0 (Nat.le_refl _)
  have S0 := R0.lt
  go_enter Try.func17, Try.ntmps17
  go_wp2_with fail
  go_at_call 34
  rw [← hy]
  clear hy
  refine (drawNew ad len cap f y hc0.view hc0.lt hc0.small hc0.bytes).mono ?_
  rintro e y1 ⟨rfl, s1, k1, z1⟩
  have B1 := B0.trans (k1.mono B0.size)
  have R1 := R0.below k1 S0
  go_wp2_with fail
  go_at_call 33
  refine (drawBp y1 s1 (by omega)).mono ?_
  rintro e y2 ⟨x, rfl, s2, g2⟩
  have R2 := R1.grown g2 (by omega)
  have B2 : Below w.heap.size w y2 := below_cb B1 g2 (by have := B0.size; omega) B1.size
  have sz2 := g2.size
  clear R1 R0 s1 g2 k1
  obtain ⟨y3, hy3⟩ : ∃ z, z = y2.alloc (Obj.cells #[.bool x.ch, .bool x.ak, .bool x.ag, .bool x.le, .bool x.op, .int .i64 x.ro, .int .i64 x.r, .int .i64 x.c, .int .i64 x.b, .int .i64 x.p, .int .i64 x.h] 27) := ⟨_, rfl⟩
  have k3 : Below y2.heap.size y2 y3 := by rw [hy3]; exact below_new _
  have X3 : BpW y3 y2.heap.size x := by rw [hy3]; exact BpW.new y2 27 x
  have lx := X3.lt
  have R3 := R2.below k3 R2.lt
  have B3 := B2.trans (k3.mono B2.size)
  have s3 := s2.later k3
  clear R2 s2 k3 B2
  have hcb : y.heap.size < y2.heap.size := by omega
  go_upto_region 3 with fail
  rw [← hy3]
  clear hy3
  refine wp_region_held (S := fun Y => BpW Y y2.heap.size x ∧ Below w.heap.size w Y) (by kernel_rfl) ?_
  change wpAnyH _ _ _ _ _ _ _ _ (World.drew _)
  have kd : Below y3.heap.size y3 y3.drew := (Below.refl _ _).drew
  have s4 := s3.later kd
  have X4 := X3.below kd lx
  have R4 := R3.below kd R3.lt
  have B4 : Below w.heap.size w y3.drew := B3.drew
  obtain ⟨u0, hu0⟩ : ∃ u, u = y3.drew := ⟨_, rfl⟩
  rw [← hu0] at s4 X4 R4 B4 ⊢
  clear hu0 kd s3 X3 R3 B3
  have hS0 : BpW u0 y2.heap.size x ∧ Below w.heap.size w u0 := ⟨X4, B4⟩
  refine takeW 0 10 (.agg #[.bool x.ch, .bool x.ak, .bool x.ag, .bool x.le, .bool x.op, .int .i64 x.ro, .int .i64 x.r, .int .i64 x.c, .int .i64 x.b, .int .i64 x.p, .int .i64 x.h]) rfl rfl (by kernel_rfl) (by kernel_rfl) (by kernel_rfl) (fun _ _ _ h => h) (by kernel_rfl) (by (intro Y hSw; obtain ⟨⟨⟨q0, q1, q2, q3, q4, q5, q6, q7, q8, q9, q10⟩, _⟩, _⟩ := hSw; go_simp)) (by assumption) ?_
  simp only [List.set_cons_zero, List.set_cons_succ]
  refine takeW 1 11 (.pointer (some ⟨y.heap.size, 0, none⟩)) rfl rfl (by kernel_rfl) (by kernel_rfl) (by kernel_rfl) (fun _ _ _ h => h) (by kernel_rfl) (by (intro w hSw; go_simp)) (by assumption) ?_
  simp only [List.set_cons_zero, List.set_cons_succ]
  refine wpAnyH_all (rs := [2]) (by kernel_rfl) (by simp) ?_
  intro i hi; obtain rfl : i = 2 := by simpa using hi
  refine wpOp_step rfl (fun Kz hKz => ?_)
  rw [if_pos (by kernel_rfl)]
  go_simp
  go_at_call 38
  refine (drawBelow s4 6 (by decide) (by decide)).mono ?_
  rintro e u1 ⟨p, rfl, p0, p1, s5, g5⟩
  have X5 := X4.grown g5 (by omega)
  have R5 := R4.grown g5 (by omega)
  have B5 : Below w.heap.size w u1 := below_cb B4 g5 (by omega) B4.size
  have hS5 : BpW u1 y2.heap.size x ∧ Below w.heap.size w u1 := ⟨X5, B5⟩
  refine hKz _ _ ⟨hS5, ?_⟩
  clear hKz Kz hi
  refine takeW 3 13 (.int .i64 (p - 1)) rfl rfl (by kernel_rfl) (by kernel_rfl) (by kernel_rfl) (fun _ _ _ h => h) (by kernel_rfl) (by (intro w hSw; go_simp; rw [IntKind.wrap_i64]; omega)) (by assumption) ?_
  simp only [List.set_cons_zero, List.set_cons_succ]
  refine wpAnyH_all (rs := [4]) (by kernel_rfl) (by simp) ?_
  intro i hi; obtain rfl : i = 4 := by simpa using hi
  obtain ⟨⟨b0, b1, b2, b3, b4, b5, b6, b7, b8, b9, b10⟩, bf⟩ := R5
  have f0 := bf 0
  have f1 := bf 1
  have f2 := bf 2
  have f3 := bf 3
  have f4 := bf 4
  have f5 := bf 5
  have f6 := bf 6
  have f7 := bf 7
  have f8 := bf 8
  have f9 := bf 9
  have f10 := bf 10
  refine wpOp_step rfl (fun Kz hKz => ?_)
  rw [if_pos (by kernel_rfl)]
  go_simp
  obtain ⟨u2, hu⟩ : ∃ u, u = putBp u1 w.heap.size x := ⟨_, rfl⟩
  have X6 : BpW u2 y2.heap.size x := by rw [hu]; exact X5.keep (putBp_other x (by omega))
  have B6 : Below w.heap.size w u2 := by rw [hu]; exact putBp_below x B5 (Nat.le_refl _)
  have Z6 : BpW u2 w.heap.size x := by rw [hu]; exact BpW.all ⟨⟨b0, b1, b2, b3, b4, b5, b6, b7, b8, b9, b10⟩, bf⟩ x
  unfold putBp at hu
  rw [← hu]
  replace hu : Hid _ := hu
  have hS6 : BpW u2 y2.heap.size x ∧ Below w.heap.size w u2 := ⟨X6, B6⟩
  refine hKz _ _ ⟨hS6, ?_⟩
  clear hKz Kz hi b0 b1 b2 b3 b4 b5 b6 b7 b8 b9 b10 f0 f1 f2 f3 f4 f5 f6 f7 f8 f9 f10
  refine takeW 5 3 (.int .i64 (p - 1)) rfl rfl (by kernel_rfl) (by kernel_rfl) (by kernel_rfl) (fun _ _ _ h => h) (by kernel_rfl) (by (intro w hSw; go_simp)) (by assumption) ?_
  simp only [List.set_cons_zero, List.set_cons_succ]
  refine wpAnyH_done (by kernel_rfl) ?_ _
  obtain ⟨⟨b0, b1, b2, b3, b4, b5, b6, b7, b8, b9, b10⟩, _⟩ := Z6
  go_wp2
  exact bodyPost_ret (v := .tuple #[.agg #[.bool x.ch, .bool x.ak, .bool x.ag, .bool x.le, .bool x.op, .int .i64 x.ro, .int .i64 x.r, .int .i64 x.c, .int .i64 x.b, .int .i64 x.p, .int .i64 x.h], .int .i64 (p - 1)]) (by simp [results, Try.results17, go_sem, *]) rfl ⟨x, p - 1, rfl, B6⟩

end Go.Proofs.Ytlgcjhebbmejaaa
