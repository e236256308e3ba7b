/- Both PortOk, walked. -/
import Derived.Test.YtjholgpjicliaaaDoorRows
import Derived.WalkKit
import Derived.ProofKit
import Derived.OpenShut
import Derived.ShutString
import Derived.ChangeOld
import Derived.Below
import Derived.Deep.QuietTactic
import Derived.BigQuiet
import Derived.WalkSmall
import Derived.Laws.OwnMore
import Derived.WalkSpells
import Derived.WalkLawsBesides
import Derived.Laws.StructEq
import Derived.ChangeKeysEq
import Derived.Test.YtjholgpjicliaaaDoorPort1
namespace Go.Proofs.YtjholgpjicliaaaDoor
open Go.ChangeShapes Go.WideShapes Go.ChangeAt Go.RowKit
open Go.ChangeMaps (open_string shut_string)
set_option linter.unusedVariables false
set_option maxRecDepth 100000

/-- Two ports are alike. -/
def ptEq (x y : Pt) : Bool := decide (x.up = y.up ∧ x.has = y.has ∧ x.r = y.r ∧ x.c = y.c ∧ x.b = y.b ∧ x.p = y.p ∧ x.h = y.h ∧ x.l = y.l ∧ x.ro = y.ro ∧ x.wa = y.wa ∧ x.op = y.op)
theorem ptEq_refl (x : Pt) : ptEq x x = true := by simp [ptEq]
theorem eqV9 (r c b p r2 c2 b2 p2 : Int) (w : World) : (Op.equalIn 9999 27 (.agg #[.int .i64 r, .int .i64 c, .int .i64 b, .int .i64 p]) (.agg #[.int .i64 r2, .int .i64 c2, .int .i64 b2, .int .i64 p2])).run Tryd.prog w = .ok (decide (r = r2 ∧ c = c2 ∧ b = b2 ∧ p = p2)) w := by
  rw [show (9999 : Nat) = 9998 + 1 from rfl, run_equalIn_struct w 9998 27 _ _ (by kernel_rfl) (by kernel_rfl)]
  obtain ⟨f0, f1, f2, f3, hL, ⟨x0, x1, x2⟩, ⟨y0, y1, y2⟩, ⟨z0, z1, z2⟩, u0, u1, u2⟩ := fieldsV
  have h3 : Tryd.prog.underlying 3 = some (.int .i64) := by kernel_rfl
  have hb : ∀ (x y : Int), (Op.equalIn 9998 3 (.int .i64 x) (.int .i64 y)).run Tryd.prog w = .ok (x == y) w := fun x y => run_equalIn_int w 9997 3 .i64 .i64 x y h3
  have hp : Tryd.prog.plainKey 3 = true := by kernel_rfl
  have p0 : ∀ (x0 x1 x2 x3 : Value), (part 3 #[x0, x1, x2, x3] 0).run Tryd.prog w = .ok x0 w := fun x0 x1 x2 x3 => run_part_plain w hp rfl
  have p1 : ∀ (x0 x1 x2 x3 : Value), (part 3 #[x0, x1, x2, x3] 1).run Tryd.prog w = .ok x1 w := fun x0 x1 x2 x3 => run_part_plain w hp rfl
  have q2 : ∀ (x0 x1 x2 x3 : Value), (part 3 #[x0, x1, x2, x3] 2).run Tryd.prog w = .ok x2 w := fun x0 x1 x2 x3 => run_part_plain w hp rfl
  have p3 : ∀ (x0 x1 x2 x3 : Value), (part 3 #[x0, x1, x2, x3] 3).run Tryd.prog w = .ok x3 w := fun x0 x1 x2 x3 => run_part_plain w hp rfl
  rw [hL]
  simp only [Op.eqFields, if_pos x0, if_pos y0, if_pos z0, if_pos u0, x1, x2, y1, y2, z1, z2, u1, u2, Sem.run_bind]
  rw [p0, Result.andThen_ok, p0, Result.andThen_ok, hb, Result.andThen_ok]
  by_cases e0 : r = r2
  rotate_left
  · simp [e0]
  simp only [e0, beq_self_eq_true, Bool.not_true, Bool.false_eq_true, if_false, Sem.run_bind, true_and]
  rw [p1, Result.andThen_ok, p1, Result.andThen_ok, hb, Result.andThen_ok]
  by_cases e1 : c = c2
  rotate_left
  · simp [e1]
  simp only [e1, beq_self_eq_true, Bool.not_true, Bool.false_eq_true, if_false, Sem.run_bind, true_and]
  rw [q2, Result.andThen_ok, q2, Result.andThen_ok, hb, Result.andThen_ok]
  by_cases e2 : b = b2
  rotate_left
  · simp [e2]
  simp only [e2, beq_self_eq_true, Bool.not_true, Bool.false_eq_true, if_false, Sem.run_bind, true_and]
  rw [p3, Result.andThen_ok, p3, Result.andThen_ok, hb, Result.andThen_ok]
  by_cases e3 : p = p2
  · simp [e3]
  · simp [e3]
theorem fieldsP : ∃ f0 f1 f2 f3 f4 f5 f6 f7 : Field, (Tryd.prog.fieldsOf 43).toList = [f0, f1, f2, f3, f4, f5, f6, f7] ∧ (f0.name ≠ "_" ∧ f0.type = 4 ∧ f0.offset = 0) ∧ (f1.name ≠ "_" ∧ f1.type = 4 ∧ f1.offset = 1) ∧ (f2.name ≠ "_" ∧ f2.type = 27 ∧ f2.offset = 2) ∧ (f3.name ≠ "_" ∧ f3.type = 3 ∧ f3.offset = 6) ∧ (f4.name ≠ "_" ∧ f4.type = 3 ∧ f4.offset = 7) ∧ (f5.name ≠ "_" ∧ f5.type = 3 ∧ f5.offset = 8) ∧ (f6.name ≠ "_" ∧ f6.type = 3 ∧ f6.offset = 9) ∧ (f7.name ≠ "_" ∧ f7.type = 4 ∧ f7.offset = 10) := by
  have h : ((Tryd.prog.fieldsOf 43).toList.map fun f => (decide (f.name ≠ "_"), f.type, f.offset)) = [(true, 4, 0), (true, 4, 1), (true, 27, 2), (true, 3, 6), (true, 3, 7), (true, 3, 8), (true, 3, 9), (true, 4, 10)] := by kernel_rfl
  revert h
  generalize (Tryd.prog.fieldsOf 43).toList = L
  intro h
  rcases L with _ | ⟨f0, _ | ⟨f1, _ | ⟨f2, _ | ⟨f3, _ | ⟨f4, _ | ⟨f5, _ | ⟨f6, _ | ⟨f7, _ | ⟨f8, L⟩⟩⟩⟩⟩⟩⟩⟩⟩ <;> simp at h
  exact ⟨f0, f1, f2, f3, f4, f5, f6, f7, rfl, by simpa using h⟩
set_option maxHeartbeats 1000000 in
theorem eqPt (x y : Pt) (w : World) : (Op.equalIn 10000 43 (.agg #[.bool x.up, .bool x.has, .int .i64 x.r, .int .i64 x.c, .int .i64 x.b, .int .i64 x.p, .int .i64 x.h, .int .i64 x.l, .int .i64 x.ro, .int .i64 x.wa, .bool x.op]) (.agg #[.bool y.up, .bool y.has, .int .i64 y.r, .int .i64 y.c, .int .i64 y.b, .int .i64 y.p, .int .i64 y.h, .int .i64 y.l, .int .i64 y.ro, .int .i64 y.wa, .bool y.op])).run Tryd.prog w = .ok (ptEq x y) w := by
  rw [show (10000 : Nat) = 9999 + 1 from rfl, run_equalIn_struct w 9999 43 _ _ (by kernel_rfl) (by kernel_rfl)]
  obtain ⟨f0, f1, f2, f3, f4, f5, f6, f7, hL, ⟨n0, t0, o0⟩, ⟨n1, t1, o1⟩, ⟨n2, t2, o2⟩, ⟨n3, t3, o3⟩, ⟨n4, t4, o4⟩, ⟨n5, t5, o5⟩, ⟨n6, t6, o6⟩, ⟨n7, t7, o7⟩⟩ := fieldsP
  have h3 : Tryd.prog.underlying 3 = some (.int .i64) := by kernel_rfl
  have h4 : Tryd.prog.underlying 4 = some .bool := by kernel_rfl
  have hi : ∀ (x y : Int), (Op.equalIn 9999 3 (.int .i64 x) (.int .i64 y)).run Tryd.prog w = .ok (x == y) w := fun x y => run_equalIn_int w 9998 3 .i64 .i64 x y h3
  have hb : ∀ (x y : Bool), (Op.equalIn 9999 4 (.bool x) (.bool y)).run Tryd.prog w = .ok (x == y) w := fun x y => run_equalIn_bool w 9998 4 x y h4
  have k3 : Tryd.prog.plainKey 3 = true := by kernel_rfl
  have k4 : Tryd.prog.plainKey 4 = true := by kernel_rfl
  have p0 : ∀ (x0 x1 x2 x3 x4 x5 x6 x7 x8 x9 x10 : Value), (part 4 #[x0, x1, x2, x3, x4, x5, x6, x7, x8, x9, x10] 0).run Tryd.prog w = .ok x0 w := fun x0 x1 x2 x3 x4 x5 x6 x7 x8 x9 x10 => run_part_plain w k4 rfl
  have p1 : ∀ (x0 x1 x2 x3 x4 x5 x6 x7 x8 x9 x10 : Value), (part 4 #[x0, x1, x2, x3, x4, x5, x6, x7, x8, x9, x10] 1).run Tryd.prog w = .ok x1 w := fun x0 x1 x2 x3 x4 x5 x6 x7 x8 x9 x10 => run_part_plain w k4 rfl
  have p2 : ∀ (x0 x1 x2 x3 x4 x5 x6 x7 x8 x9 x10 : Value), (part 27 #[x0, x1, x2, x3, x4, x5, x6, x7, x8, x9, x10] 2).run Tryd.prog w = .ok (.agg #[x2, x3, x4, x5]) w := fun x0 x1 x2 x3 x4 x5 x6 x7 x8 x9 x10 => by kernel_rfl
  have p3 : ∀ (x0 x1 x2 x3 x4 x5 x6 x7 x8 x9 x10 : Value), (part 3 #[x0, x1, x2, x3, x4, x5, x6, x7, x8, x9, x10] 6).run Tryd.prog w = .ok x6 w := fun x0 x1 x2 x3 x4 x5 x6 x7 x8 x9 x10 => run_part_plain w k3 rfl
  have p4 : ∀ (x0 x1 x2 x3 x4 x5 x6 x7 x8 x9 x10 : Value), (part 3 #[x0, x1, x2, x3, x4, x5, x6, x7, x8, x9, x10] 7).run Tryd.prog w = .ok x7 w := fun x0 x1 x2 x3 x4 x5 x6 x7 x8 x9 x10 => run_part_plain w k3 rfl
  have p5 : ∀ (x0 x1 x2 x3 x4 x5 x6 x7 x8 x9 x10 : Value), (part 3 #[x0, x1, x2, x3, x4, x5, x6, x7, x8, x9, x10] 8).run Tryd.prog w = .ok x8 w := fun x0 x1 x2 x3 x4 x5 x6 x7 x8 x9 x10 => run_part_plain w k3 rfl
  have p6 : ∀ (x0 x1 x2 x3 x4 x5 x6 x7 x8 x9 x10 : Value), (part 3 #[x0, x1, x2, x3, x4, x5, x6, x7, x8, x9, x10] 9).run Tryd.prog w = .ok x9 w := fun x0 x1 x2 x3 x4 x5 x6 x7 x8 x9 x10 => run_part_plain w k3 rfl
  have p7 : ∀ (x0 x1 x2 x3 x4 x5 x6 x7 x8 x9 x10 : Value), (part 4 #[x0, x1, x2, x3, x4, x5, x6, x7, x8, x9, x10] 10).run Tryd.prog w = .ok x10 w := fun x0 x1 x2 x3 x4 x5 x6 x7 x8 x9 x10 => run_part_plain w k4 rfl
  rw [hL]
  simp only [Op.eqFields, if_pos n0, t0, o0, if_pos n1, t1, o1, if_pos n2, t2, o2, if_pos n3, t3, o3, if_pos n4, t4, o4, if_pos n5, t5, o5, if_pos n6, t6, o6, if_pos n7, t7, o7, Sem.run_bind]
  rw [p0, Result.andThen_ok, p0, Result.andThen_ok, hb, Result.andThen_ok]
  by_cases e0 : x.up = y.up
  rotate_left
  · have q : ptEq x y = false := by simp only [ptEq, decide_eq_false_iff_not]; exact fun q => e0 q.1
    rw [q, beq_eq_false_iff_ne.2 e0]
    simp
  rw [beq_iff_eq.2 e0]
  simp only [Bool.not_true, Bool.false_eq_true, if_false, Sem.run_bind]
  rw [p1, Result.andThen_ok, p1, Result.andThen_ok, hb, Result.andThen_ok]
  by_cases e1 : x.has = y.has
  rotate_left
  · have q : ptEq x y = false := by simp only [ptEq, decide_eq_false_iff_not]; exact fun q => e1 q.2.1
    rw [q, beq_eq_false_iff_ne.2 e1]
    simp
  rw [beq_iff_eq.2 e1]
  simp only [Bool.not_true, Bool.false_eq_true, if_false, Sem.run_bind]
  rw [p2, Result.andThen_ok, p2, Result.andThen_ok, eqV9, Result.andThen_ok]
  by_cases e2 : x.r = y.r ∧ x.c = y.c ∧ x.b = y.b ∧ x.p = y.p
  rotate_left
  · have q : ptEq x y = false := by simp only [ptEq, decide_eq_false_iff_not]; exact fun q => e2 ⟨q.2.2.1, q.2.2.2.1, q.2.2.2.2.1, q.2.2.2.2.2.1⟩
    rw [q, decide_eq_false e2]
    simp
  rw [decide_eq_true e2]
  simp only [Bool.not_true, Bool.false_eq_true, if_false, Sem.run_bind]
  rw [p3, Result.andThen_ok, p3, Result.andThen_ok, hi, Result.andThen_ok]
  by_cases e3 : x.h = y.h
  rotate_left
  · have q : ptEq x y = false := by simp only [ptEq, decide_eq_false_iff_not]; exact fun q => e3 q.2.2.2.2.2.2.1
    rw [q, beq_eq_false_iff_ne.2 e3]
    simp
  rw [beq_iff_eq.2 e3]
  simp only [Bool.not_true, Bool.false_eq_true, if_false, Sem.run_bind]
  rw [p4, Result.andThen_ok, p4, Result.andThen_ok, hi, Result.andThen_ok]
  by_cases e4 : x.l = y.l
  rotate_left
  · have q : ptEq x y = false := by simp only [ptEq, decide_eq_false_iff_not]; exact fun q => e4 q.2.2.2.2.2.2.2.1
    rw [q, beq_eq_false_iff_ne.2 e4]
    simp
  rw [beq_iff_eq.2 e4]
  simp only [Bool.not_true, Bool.false_eq_true, if_false, Sem.run_bind]
  rw [p5, Result.andThen_ok, p5, Result.andThen_ok, hi, Result.andThen_ok]
  by_cases e5 : x.ro = y.ro
  rotate_left
  · have q : ptEq x y = false := by simp only [ptEq, decide_eq_false_iff_not]; exact fun q => e5 q.2.2.2.2.2.2.2.2.1
    rw [q, beq_eq_false_iff_ne.2 e5]
    simp
  rw [beq_iff_eq.2 e5]
  simp only [Bool.not_true, Bool.false_eq_true, if_false, Sem.run_bind]
  rw [p6, Result.andThen_ok, p6, Result.andThen_ok, hi, Result.andThen_ok]
  by_cases e6 : x.wa = y.wa
  rotate_left
  · have q : ptEq x y = false := by simp only [ptEq, decide_eq_false_iff_not]; exact fun q => e6 q.2.2.2.2.2.2.2.2.2.1
    rw [q, beq_eq_false_iff_ne.2 e6]
    simp
  rw [beq_iff_eq.2 e6]
  simp only [Bool.not_true, Bool.false_eq_true, if_false, Sem.run_bind]
  rw [p7, Result.andThen_ok, p7, Result.andThen_ok, hb, Result.andThen_ok]
  by_cases e7 : x.op = y.op
  rotate_left
  · have q : ptEq x y = false := by simp only [ptEq, decide_eq_false_iff_not]; exact fun q => e7 q.2.2.2.2.2.2.2.2.2.2
    rw [q, beq_eq_false_iff_ne.2 e7]
    simp
  rw [beq_iff_eq.2 e7]
  simp only [Bool.not_true, Bool.false_eq_true, if_false]
  have q : ptEq x y = true := by simp only [ptEq, decide_eq_true_iff]; exact ⟨e0, e1, e2.1, e2.2.1, e2.2.2.1, e2.2.2.2, e3, e4, e5, e6, e7⟩
  rw [q]
  rfl
def raUp (ro : Int) : Bool := decide (1 ≤ ro ∧ ro ≤ 3)
def raIs (ro : Int) : Bool := decide (0 ≤ ro ∧ ro ≤ 3)
def raOp (ro wa : Int) : Bool := decide ((ro = 1 ∨ ro = 2) ∧ wa = 0)
end Go.Proofs.YtjholgpjicliaaaDoor
