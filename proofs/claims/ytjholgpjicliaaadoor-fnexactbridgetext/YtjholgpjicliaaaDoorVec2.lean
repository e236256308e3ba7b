/- Both Better, walked. -/
import Derived.Test.YtjholgpjicliaaaDoorRows
import Derived.WalkKit
import Derived.ProofKit
import Derived.OpenShut
import Derived.ShutString
import Derived.ChangeOld
import Derived.Below
import Derived.Deep.QuietTactic
import Derived.BigQuiet
import Derived.WalkSmall
import Derived.Laws.OwnMore
import Derived.WalkSpells
import Derived.WalkLawsBesides
import Derived.Laws.StructEq
import Derived.ChangeKeysEq
import Derived.Test.YtjholgpjicliaaaDoorVec1
namespace Go.Proofs.YtjholgpjicliaaaDoor
open Go.ChangeShapes Go.WideShapes Go.ChangeAt Go.RowKit
open Go.ChangeMaps (open_string shut_string)
set_option linter.unusedVariables false
set_option maxRecDepth 100000

def vLt (r c b p r2 c2 b2 p2 : Int) : Bool := if r ≠ r2 then decide (r < r2) else if c ≠ c2 then decide (c < c2) else if b ≠ b2 then decide (b < b2) else decide (p < p2)

def prt (r c b p : Int) (k : Nat) : Int := if k = 0 then r else if k = 1 then c else if k = 2 then b else p

set_option maxHeartbeats 2000000 in
theorem partI (r c b p : Int) (k : Nat) (w : World) (hk : k < 4) :
    Calls Tryd.prog 44 #[.agg #[.int .i64 r, .int .i64 c, .int .i64 b, .int .i64 p], .int .i64 k] w fun e w' => e = .returned (.int .i64 (prt r c b p k)) ∧ Below w.heap.size w w' := by
  obtain rfl | rfl | rfl | rfl : k = 0 ∨ k = 1 ∨ k = 2 ∨ k = 3 := by omega
  · go_enter Tryd.func44, Tryd.ntmps44
    go_wp2
    go_ret
    exact ⟨rfl, (Below.refl _ _).alloc (Nat.le_refl _) _⟩
  · go_enter Tryd.func44, Tryd.ntmps44
    go_wp2
    go_ret
    exact ⟨rfl, (Below.refl _ _).alloc (Nat.le_refl _) _⟩
  · go_enter Tryd.func44, Tryd.ntmps44
    go_wp2
    go_ret
    exact ⟨rfl, (Below.refl _ _).alloc (Nat.le_refl _) _⟩
  · go_enter Tryd.func44, Tryd.ntmps44
    go_wp2
    go_ret
    exact ⟨rfl, (Below.refl _ _).alloc (Nat.le_refl _) _⟩

/-- No part of the first is greater where the first difference lies. -/
def nWo (r c b p r2 c2 b2 p2 : Int) : Bool := if r = r2 ∧ c = c2 ∧ b = b2 ∧ p = p2 then true else vLt r c b p r2 c2 b2 p2

theorem prt_all {r c b p r2 c2 b2 p2 : Int} (h : ∀ j, j < 4 → prt r c b p j = prt r2 c2 b2 p2 j) : nWo r c b p r2 c2 b2 p2 = true := by
  have h0 := h 0 (by omega)
  have h1 := h 1 (by omega)
  have h2 := h 2 (by omega)
  have h3 := h 3 (by omega)
  simp [prt] at h0 h1 h2 h3
  simp [nWo, h0, h1, h2, h3]

theorem prt_at {r c b p r2 c2 b2 p2 : Int} {k : Nat} (hk : k < 4) (h : ∀ j, j < k → prt r c b p j = prt r2 c2 b2 p2 j) (hn : prt r c b p k ≠ prt r2 c2 b2 p2 k) : nWo r c b p r2 c2 b2 p2 = decide (prt r c b p k < prt r2 c2 b2 p2 k) := by
  obtain rfl | rfl | rfl | rfl : k = 0 ∨ k = 1 ∨ k = 2 ∨ k = 3 := by omega
  · simp [prt] at hn; simp [nWo, vLt, prt, hn]
  · have h0 := h 0 (by omega)
    simp [prt] at hn h0; simp [nWo, vLt, prt, hn, h0]
  · have h0 := h 0 (by omega)
    have h1 := h 1 (by omega)
    simp [prt] at hn h0 h1; simp [nWo, vLt, prt, hn, h0, h1]
  · have h0 := h 0 (by omega)
    have h1 := h 1 (by omega)
    have h2 := h 2 (by omega)
    simp [prt] at hn h0 h1 h2; simp [nWo, vLt, prt, hn, h0, h1, h2]

theorem fieldsV : ∃ f0 f1 f2 f3 : Field, (Tryd.prog.fieldsOf 27).toList = [f0, f1, f2, f3] ∧ (f0.name ≠ "_" ∧ f0.type = 3 ∧ f0.offset = 0) ∧ (f1.name ≠ "_" ∧ f1.type = 3 ∧ f1.offset = 1) ∧ (f2.name ≠ "_" ∧ f2.type = 3 ∧ f2.offset = 2) ∧ (f3.name ≠ "_" ∧ f3.type = 3 ∧ f3.offset = 3) := by
  have h : ((Tryd.prog.fieldsOf 27).toList.map fun f => (decide (f.name ≠ "_"), f.type, f.offset)) = [(true, 3, 0), (true, 3, 1), (true, 3, 2), (true, 3, 3)] := by kernel_rfl
  revert h
  generalize (Tryd.prog.fieldsOf 27).toList = L
  intro h
  rcases L with _ | ⟨f0, _ | ⟨f1, _ | ⟨f2, _ | ⟨f3, _ | ⟨f4, L⟩⟩⟩⟩⟩ <;> simp at h
  obtain ⟨⟨a0, a1, a2⟩, ⟨b0, b1, b2⟩, ⟨c0, c1, c2⟩, d0, d1, d2⟩ := h
  exact ⟨f0, f1, f2, f3, rfl, ⟨a0, a1, a2⟩, ⟨b0, b1, b2⟩, ⟨c0, c1, c2⟩, d0, d1, d2⟩

theorem eqV (r c b p r2 c2 b2 p2 : Int) (w : World) : (Op.equalIn 10000 27 (.agg #[.int .i64 r, .int .i64 c, .int .i64 b, .int .i64 p]) (.agg #[.int .i64 r2, .int .i64 c2, .int .i64 b2, .int .i64 p2])).run Tryd.prog w = .ok (decide (r = r2 ∧ c = c2 ∧ b = b2 ∧ p = p2)) w := by
  rw [show (10000 : Nat) = 9999 + 1 from rfl, run_equalIn_struct w 9999 27 _ _ (by kernel_rfl) (by kernel_rfl)]
  obtain ⟨f0, f1, f2, f3, hL, ⟨x0, x1, x2⟩, ⟨y0, y1, y2⟩, ⟨z0, z1, z2⟩, u0, u1, u2⟩ := fieldsV
  have h3 : Tryd.prog.underlying 3 = some (.int .i64) := by kernel_rfl
  have hb : ∀ (x y : Int), (Op.equalIn 9999 3 (.int .i64 x) (.int .i64 y)).run Tryd.prog w = .ok (x == y) w := fun x y => run_equalIn_int w 9998 3 .i64 .i64 x y h3
  have hp : Tryd.prog.plainKey 3 = true := by kernel_rfl
  have p0 : ∀ (x0 x1 x2 x3 : Value), (part 3 #[x0, x1, x2, x3] 0).run Tryd.prog w = .ok x0 w := fun x0 x1 x2 x3 => run_part_plain w hp rfl
  have p1 : ∀ (x0 x1 x2 x3 : Value), (part 3 #[x0, x1, x2, x3] 1).run Tryd.prog w = .ok x1 w := fun x0 x1 x2 x3 => run_part_plain w hp rfl
  have q2 : ∀ (x0 x1 x2 x3 : Value), (part 3 #[x0, x1, x2, x3] 2).run Tryd.prog w = .ok x2 w := fun x0 x1 x2 x3 => run_part_plain w hp rfl
  have p3 : ∀ (x0 x1 x2 x3 : Value), (part 3 #[x0, x1, x2, x3] 3).run Tryd.prog w = .ok x3 w := fun x0 x1 x2 x3 => run_part_plain w hp rfl
  rw [hL]
  simp only [Op.eqFields, if_pos x0, if_pos y0, if_pos z0, if_pos u0, x1, x2, y1, y2, z1, z2, u1, u2, Sem.run_bind]
  rw [p0, Result.andThen_ok, p0, Result.andThen_ok, hb, Result.andThen_ok]
  by_cases e0 : r = r2
  rotate_left
  · simp [e0]
  simp only [e0, beq_self_eq_true, Bool.not_true, Bool.false_eq_true, if_false, Sem.run_bind, true_and]
  rw [p1, Result.andThen_ok, p1, Result.andThen_ok, hb, Result.andThen_ok]
  by_cases e1 : c = c2
  rotate_left
  · simp [e1]
  simp only [e1, beq_self_eq_true, Bool.not_true, Bool.false_eq_true, if_false, Sem.run_bind, true_and]
  rw [q2, Result.andThen_ok, q2, Result.andThen_ok, hb, Result.andThen_ok]
  by_cases e2 : b = b2
  rotate_left
  · simp [e2]
  simp only [e2, beq_self_eq_true, Bool.not_true, Bool.false_eq_true, if_false, Sem.run_bind, true_and]
  rw [p3, Result.andThen_ok, p3, Result.andThen_ok, hb, Result.andThen_ok]
  by_cases e3 : p = p2
  · simp [e3]
  · simp [e3]

end Go.Proofs.YtjholgpjicliaaaDoor
