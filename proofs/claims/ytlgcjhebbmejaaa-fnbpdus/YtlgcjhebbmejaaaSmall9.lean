/- Small contracts. -/
import Derived.Test.YtlgcjhebbmejaaaRows
import Derived.WalkKit
import Derived.ProofKit
import Derived.OpenShut
import Derived.ShutString
import Derived.ChangeOld
import Derived.Below
import Derived.Deep.QuietTactic
import Derived.BigQuiet
import Derived.WalkSmall
import Derived.Laws.OwnMore
import Derived.WalkSpells
import Derived.WalkLawsBesides
import Derived.Laws.StructEq
import Derived.ChangeKeysEq
import Derived.Test.YtlgcjhebbmejaaaVec1
import Derived.Test.YtlgcjhebbmejaaaBase
namespace Go.Proofs.Ytlgcjhebbmejaaa
open Go.ChangeShapes Go.WideShapes Go.ChangeAt Go.RowKit
open Go.ChangeMaps (open_string shut_string)
set_option linter.unusedVariables false
set_option maxRecDepth 100000

theorem below_new {w : World} (o : Obj) : Below w.heap.size w (w.alloc o) := (Below.refl _ _).alloc (Nat.le_refl _) _
theorem hopsFitI (h : Int) (w : World) : Calls Try.prog 45 #[.int .i64 h] w fun e w' => e = .returned (.bool (decide (0 ≤ h ∧ h ≤ 8))) ∧ w' = w := by
  by_cases h0 : 0 ≤ h
  · by_cases h1 : h ≤ 8
    · rw [decide_eq_true ⟨h0, h1⟩]
      go_enter Try.func45, Try.ntmps45
      go_wp2
      go_ret
      exact ⟨rfl, rfl⟩
    · have d1 : decide (h ≤ 8) = false := decide_eq_false h1
      rw [decide_eq_false (fun q => h1 q.2)]
      go_enter Try.func45, Try.ntmps45
      go_wp2
      go_ret
      exact ⟨rfl, rfl⟩
  · have d0 : decide (0 ≤ h) = false := decide_eq_false h0
    rw [decide_eq_false (fun q => h0 q.1)]
    go_enter Try.func45, Try.ntmps45
    go_wp2
    go_ret
    exact ⟨rfl, rfl⟩
theorem inB (x lo hi : Int) (w : World) : Calls Try.prog 46 #[.int .i64 x, .int .i64 lo, .int .i64 hi] w fun e w' => e = .returned (.bool (decide (lo ≤ x ∧ x ≤ hi))) ∧ w' = w := by
  by_cases h : lo ≤ x ∧ x ≤ hi
  · rw [decide_eq_true h]; exact inYes _ _ _ _ h
  · rw [decide_eq_false h]; exact inNo _ _ _ _ (by omega)
theorem fieldsV : ∃ f0 f1 f2 f3 : Field, (Try.prog.fieldsOf 25).toList = [f0, f1, f2, f3] ∧ (f0.name ≠ "_" ∧ f0.type = 3 ∧ f0.offset = 0) ∧ (f1.name ≠ "_" ∧ f1.type = 3 ∧ f1.offset = 1) ∧ (f2.name ≠ "_" ∧ f2.type = 3 ∧ f2.offset = 2) ∧ (f3.name ≠ "_" ∧ f3.type = 3 ∧ f3.offset = 3) := by
  have h : ((Try.prog.fieldsOf 25).toList.map fun f => (decide (f.name ≠ "_"), f.type, f.offset)) = [(true, 3, 0), (true, 3, 1), (true, 3, 2), (true, 3, 3)] := by kernel_rfl
  revert h
  generalize (Try.prog.fieldsOf 25).toList = L
  intro h
  rcases L with _ | ⟨f0, _ | ⟨f1, _ | ⟨f2, _ | ⟨f3, _ | ⟨f4, L⟩⟩⟩⟩⟩ <;> simp at h
  obtain ⟨⟨a0, a1, a2⟩, ⟨b0, b1, b2⟩, ⟨c0, c1, c2⟩, d0, d1, d2⟩ := h
  exact ⟨f0, f1, f2, f3, rfl, ⟨a0, a1, a2⟩, ⟨b0, b1, b2⟩, ⟨c0, c1, c2⟩, d0, d1, d2⟩
theorem eqV (r c b p r2 c2 b2 p2 : Int) (w : World) : (Op.equalIn 10000 25 (.agg #[.int .i64 r, .int .i64 c, .int .i64 b, .int .i64 p]) (.agg #[.int .i64 r2, .int .i64 c2, .int .i64 b2, .int .i64 p2])).run Try.prog w = .ok (decide (r = r2 ∧ c = c2 ∧ b = b2 ∧ p = p2)) w := by
  rw [show (10000 : Nat) = 9999 + 1 from rfl, run_equalIn_struct w 9999 25 _ _ (by kernel_rfl) (by kernel_rfl)]
  obtain ⟨f0, f1, f2, f3, hL, ⟨x0, x1, x2⟩, ⟨y0, y1, y2⟩, ⟨z0, z1, z2⟩, u0, u1, u2⟩ := fieldsV
  have h3 : Try.prog.underlying 3 = some (.int .i64) := by kernel_rfl
  have hb : ∀ (x y : Int), (Op.equalIn 9999 3 (.int .i64 x) (.int .i64 y)).run Try.prog w = .ok (x == y) w := fun x y => run_equalIn_int w 9998 3 .i64 .i64 x y h3
  have hp : Try.prog.plainKey 3 = true := by kernel_rfl
  have p0 : ∀ (x0 x1 x2 x3 : Value), (part 3 #[x0, x1, x2, x3] 0).run Try.prog w = .ok x0 w := fun x0 x1 x2 x3 => run_part_plain w hp rfl
  have p1 : ∀ (x0 x1 x2 x3 : Value), (part 3 #[x0, x1, x2, x3] 1).run Try.prog w = .ok x1 w := fun x0 x1 x2 x3 => run_part_plain w hp rfl
  have q2 : ∀ (x0 x1 x2 x3 : Value), (part 3 #[x0, x1, x2, x3] 2).run Try.prog w = .ok x2 w := fun x0 x1 x2 x3 => run_part_plain w hp rfl
  have p3 : ∀ (x0 x1 x2 x3 : Value), (part 3 #[x0, x1, x2, x3] 3).run Try.prog w = .ok x3 w := fun x0 x1 x2 x3 => run_part_plain w hp rfl
  rw [hL]
  simp only [Op.eqFields, if_pos x0, if_pos y0, if_pos z0, if_pos u0, x1, x2, y1, y2, z1, z2, u1, u2, Sem.run_bind]
  rw [p0, Result.andThen_ok, p0, Result.andThen_ok, hb, Result.andThen_ok]
  by_cases e0 : r = r2
  rotate_left
  · simp [e0]
  simp only [e0, beq_self_eq_true, Bool.not_true, Bool.false_eq_true, if_false, Sem.run_bind, true_and]
  rw [p1, Result.andThen_ok, p1, Result.andThen_ok, hb, Result.andThen_ok]
  by_cases e1 : c = c2
  rotate_left
  · simp [e1]
  simp only [e1, beq_self_eq_true, Bool.not_true, Bool.false_eq_true, if_false, Sem.run_bind, true_and]
  rw [q2, Result.andThen_ok, q2, Result.andThen_ok, hb, Result.andThen_ok]
  by_cases e2 : b = b2
  rotate_left
  · simp [e2]
  simp only [e2, beq_self_eq_true, Bool.not_true, Bool.false_eq_true, if_false, Sem.run_bind, true_and]
  rw [p3, Result.andThen_ok, p3, Result.andThen_ok, hb, Result.andThen_ok]
  by_cases e3 : p = p2
  · simp [e3]
  · simp [e3]
theorem eqVs (r c b p : Int) (w : World) :
    Calls Try.prog 54 #[.agg #[.int .i64 r, .int .i64 c, .int .i64 b, .int .i64 p], .agg #[.int .i64 r, .int .i64 c, .int .i64 b, .int .i64 p]] w fun e w' => e = .returned (.bool true) ∧ Below w.heap.size w w' := by
  go_enter Try.func54, Try.ntmps54
  go_wp2
  go_ret
  exact ⟨rfl, ((Below.refl _ _).alloc (Nat.le_refl _) _).alloc (by simp) _⟩
theorem pset_same {w : World} {q i : Nat} {u v : Value} (h : w.cell? ⟨q, i, none⟩ = some u) : (w.setCell ⟨q, i, none⟩ v).cell? ⟨q, i, none⟩ = some v := cell_set_same ⟨_, h⟩
theorem pset_else {w : World} {q i j : Nat} {v : Value} (h : i ≠ j) : (w.setCell ⟨q, i, none⟩ v).cell? ⟨q, j, none⟩ = w.cell? ⟨q, j, none⟩ := cell_set_ne (Ne.symm h)

end Go.Proofs.Ytlgcjhebbmejaaa
