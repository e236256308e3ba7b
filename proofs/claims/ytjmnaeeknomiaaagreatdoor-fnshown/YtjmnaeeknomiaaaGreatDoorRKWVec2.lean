import Derived.Laws.StructEq
import Derived.ChangeKeysEq
import Derived.Test.YtjmnaeeknomiaaaGreatDoorRKWVec1
namespace Go.Proofs.YtjmnaeeknomiaaaGreatDoor
open Go.ChangeShapes Go.WideShapes Go.ChangeAt Go.RowKit
open Go.ChangeMaps (open_string shut_string)
set_option linter.unusedVariables false
set_option maxRecDepth 100000
set_option maxHeartbeats 32000000
set_option linter.unusedSimpArgs false
open Go.Proofs.Tryz
def DF (r c b p r2 c2 b2 p2 : Int) : Bool := if r ≠ r2 then decide (r < r2) else if c ≠ c2 then decide (c < c2) else if b ≠ b2 then decide (b < b2) else decide (p < p2)
theorem Fr (r c b p r2 c2 b2 p2 : Int) (w : World) :
  Calls prog 128 #[.agg #[ji r, ji c, ji b, ji p], .agg #[ji r2, ji c2, ji b2, ji p2]] w fun e w' => e = .returned (.bool (DF r c b p r2 c2 b2 p2)) ∧ Bw w w' := by
 by_cases hr : r = r2
 rotate_left
 ·
  have er : (r == r2) = false := by simp [hr]
  have fr : (r != r2) = true := by simp [hr]
  have e : DF r c b p r2 c2 b2 p2 = decide (r < r2) := by simp [DF, hr]
  rw [e];clear e;go_enter func128, ntmps128
  go_wp2
  go_ret
  exact ⟨rfl, ((Below.refl _ _).alloc (Nat.le_refl _) _).alloc (by simp) _⟩
 subst hr;by_cases hc : c = c2
 rotate_left
 ·
  have ec : (c == c2) = false := by simp [hc]
  have fc : (c != c2) = true := by simp [hc]
  have e : DF r c b p r c2 b2 p2 = decide (c < c2) := by simp [DF, hc]
  rw [e];clear e;go_enter func128, ntmps128
  go_wp2
  go_ret
  exact ⟨rfl, ((Below.refl _ _).alloc (Nat.le_refl _) _).alloc (by simp) _⟩
 subst hc;by_cases hb : b = b2
 rotate_left
 ·
  have eb : (b == b2) = false := by simp [hb]
  have fb : (b != b2) = true := by simp [hb]
  have e : DF r c b p r c b2 p2 = decide (b < b2) := by simp [DF, hb]
  rw [e];clear e;go_enter func128, ntmps128
  go_wp2
  go_ret
  exact ⟨rfl, ((Below.refl _ _).alloc (Nat.le_refl _) _).alloc (by simp) _⟩
 subst hb;have e : DF r c b p r c b p2 = decide (p < p2) := by simp [DF]
 rw [e];clear e;go_enter func128, ntmps128
 go_wp2
 go_ret
 exact ⟨rfl, ((Below.refl _ _).alloc (Nat.le_refl _) _).alloc (by simp) _⟩
theorem KY : ∃ f0 f1 f2 f3 : Field, (prog.fieldsOf 25).toList = [f0, f1, f2, f3] ∧ (f0.name ≠ "_" ∧ f0.type = 3 ∧ f0.offset = 0) ∧ (f1.name ≠ "_" ∧ f1.type = 3 ∧ f1.offset = 1) ∧ (f2.name ≠ "_" ∧ f2.type = 3 ∧ f2.offset = 2) ∧ (f3.name ≠ "_" ∧ f3.type = 3 ∧ f3.offset = 3) := by
 have h : ((prog.fieldsOf 25).toList.map fun f => (decide (f.name ≠ "_"), f.type, f.offset)) = [(true, 3, 0), (true, 3, 1), (true, 3, 2), (true, 3, 3)] := by kernel_rfl
 revert h;generalize (prog.fieldsOf 25).toList = L
 intro h;rcases L with _ | ⟨f0, _ | ⟨f1, _ | ⟨f2, _ | ⟨f3, _ | ⟨f4, L⟩⟩⟩⟩⟩ <;> simp at h
 obtain ⟨⟨a0, a1, a2⟩, ⟨b0, b1, b2⟩, ⟨c0, c1, c2⟩, d0, d1, d2⟩ := h;exact ⟨f0, f1, f2, f3, rfl, ⟨a0, a1, a2⟩, ⟨b0, b1, b2⟩, ⟨c0, c1, c2⟩, d0, d1, d2⟩
theorem GS (r c b p r2 c2 b2 p2 : Int) (w : World) : (Op.equalIn 10000 25 (.agg #[ji r, ji c, ji b, ji p]) (.agg #[ji r2, ji c2, ji b2, ji p2])).run prog w = .ok (decide (r = r2 ∧ c = c2 ∧ b = b2 ∧ p = p2)) w := by
 rw [show (10000 : Nat) = 9999 + 1 from rfl, run_equalIn_struct w 9999 25 _ _ (by kernel_rfl) (by kernel_rfl)];obtain ⟨f0, f1, f2, f3, hL, ⟨x0, x1, x2⟩, ⟨y0, y1, y2⟩, ⟨z0, z1, z2⟩, u0, u1, u2⟩ := KY;have h3 : prog.underlying 3 = some (.int .i64) := by kernel_rfl
 have hb : ∀ (x y : Int), (Op.equalIn 9999 3 (ji x) (ji y)).run prog w = .ok (x == y) w := fun x y => run_equalIn_int w 9998 3 .i64 .i64 x y h3
 have hp : prog.plainKey 3 = true := by kernel_rfl
 have p0 : ∀ (x0 x1 x2 x3 : Value), (part 3 #[x0, x1, x2, x3] 0).run prog w = .ok x0 w := fun x0 x1 x2 x3 => run_part_plain w hp rfl
 have p1 : ∀ (x0 x1 x2 x3 : Value), (part 3 #[x0, x1, x2, x3] 1).run prog w = .ok x1 w := fun x0 x1 x2 x3 => run_part_plain w hp rfl
 have q2 : ∀ (x0 x1 x2 x3 : Value), (part 3 #[x0, x1, x2, x3] 2).run prog w = .ok x2 w := fun x0 x1 x2 x3 => run_part_plain w hp rfl
 have p3 : ∀ (x0 x1 x2 x3 : Value), (part 3 #[x0, x1, x2, x3] 3).run prog w = .ok x3 w := fun x0 x1 x2 x3 => run_part_plain w hp rfl
 rw [hL];simp only [Op.eqFields, if_pos x0, if_pos y0, if_pos z0, if_pos u0, x1, x2, y1, y2, z1, z2, u1, u2, Sem.run_bind];rw [p0, Result.andThen_ok, p0, Result.andThen_ok, hb, Result.andThen_ok];by_cases e0 : r = r2
 rotate_left
 ·
  simp [e0]
 simp only [e0, beq_self_eq_true, Bool.not_true, Bool.false_eq_true, if_false, Sem.run_bind, true_and];rw [p1, Result.andThen_ok, p1, Result.andThen_ok, hb, Result.andThen_ok];by_cases e1 : c = c2
 rotate_left
 ·
  simp [e1]
 simp only [e1, beq_self_eq_true, Bool.not_true, Bool.false_eq_true, if_false, Sem.run_bind, true_and];rw [q2, Result.andThen_ok, q2, Result.andThen_ok, hb, Result.andThen_ok];by_cases e2 : b = b2
 rotate_left
 ·
  simp [e2]
 simp only [e2, beq_self_eq_true, Bool.not_true, Bool.false_eq_true, if_false, Sem.run_bind, true_and];rw [p3, Result.andThen_ok, p3, Result.andThen_ok, hb, Result.andThen_ok];by_cases e3 : p = p2
 ·
  simp [e3]
 simp [e3]
end Go.Proofs.YtjmnaeeknomiaaaGreatDoor
