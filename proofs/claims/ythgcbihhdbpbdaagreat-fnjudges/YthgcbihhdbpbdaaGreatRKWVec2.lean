import Derived.Laws.StructEq
import Derived.ChangeKeysEq
import Derived.Test.YthgcbihhdbpbdaaGreatRKWVec1
namespace Go.Proofs.YthgcbihhdbpbdaaGreat
open Go.ChangeShapes Go.WideShapes Go.ChangeAt Go.RowKit
open Go.ChangeMaps (open_string shut_string)
set_option linter.unusedVariables false
set_option maxRecDepth 100000
set_option maxHeartbeats 32000000
set_option linter.unusedSimpArgs false
open Go.Proofs.Tryz
def CD (r c b p r2 c2 b2 p2 : Int) : Bool := if r ≠ r2 then decide (r < r2) else if c ≠ c2 then decide (c < c2) else if b ≠ b2 then decide (b < b2) else decide (p < p2)
theorem FT (r c b p r2 c2 b2 p2 : Int) (w : World) :
  Calls prog 150 #[.agg #[ji r, ji c, ji b, ji p], .agg #[ji r2, ji c2, ji b2, ji p2]] w fun e w' => e = .returned (.bool (CD r c b p r2 c2 b2 p2)) ∧ Bw w w' := by
 by_cases hr : r = r2
 rotate_left
 ·
  have er : (r == r2) = false := by simp [hr]
  have fr : (r != r2) = true := by simp [hr]
  have e : CD r c b p r2 c2 b2 p2 = decide (r < r2) := by simp [CD, hr]
  rw [e];clear e;go_enter func150, ntmps150
  go_wp2
  go_ret
  exact ⟨rfl, ((Below.refl _ _).alloc (Nat.le_refl _) _).alloc (by simp) _⟩
 subst hr;by_cases hc : c = c2
 rotate_left
 ·
  have ec : (c == c2) = false := by simp [hc]
  have fc : (c != c2) = true := by simp [hc]
  have e : CD r c b p r c2 b2 p2 = decide (c < c2) := by simp [CD, hc]
  rw [e];clear e;go_enter func150, ntmps150
  go_wp2
  go_ret
  exact ⟨rfl, ((Below.refl _ _).alloc (Nat.le_refl _) _).alloc (by simp) _⟩
 subst hc;by_cases hb : b = b2
 rotate_left
 ·
  have eb : (b == b2) = false := by simp [hb]
  have fb : (b != b2) = true := by simp [hb]
  have e : CD r c b p r c b2 p2 = decide (b < b2) := by simp [CD, hb]
  rw [e];clear e;go_enter func150, ntmps150
  go_wp2
  go_ret
  exact ⟨rfl, ((Below.refl _ _).alloc (Nat.le_refl _) _).alloc (by simp) _⟩
 subst hb;have e : CD r c b p r c b p2 = decide (p < p2) := by simp [CD]
 rw [e];clear e;go_enter func150, ntmps150
 go_wp2
 go_ret
 exact ⟨rfl, ((Below.refl _ _).alloc (Nat.le_refl _) _).alloc (by simp) _⟩
def CG (r c b p : Int) (k : Nat) : Int := if k = 0 then r else if k = 1 then c else if k = 2 then b else p
theorem Fz (r c b p : Int) (k : Nat) (w : World) (hk : k < 4) :
  Calls prog 207 #[.agg #[ji r, ji c, ji b, ji p], ji k] w fun e w' => e = .returned (ji (CG r c b p k)) ∧ Bw w w' := by
 obtain rfl | rfl | rfl | rfl : k = 0 ∨ k = 1 ∨ k = 2 ∨ k = 3 := by omega
 rotate_left;rotate_left;rotate_left;rotate_left;all_goals
  go_enter func207, ntmps207
  go_wp2
  go_ret
  exact ⟨rfl, (Below.refl _ _).alloc (Nat.le_refl _) _⟩
def EN (r c b p r2 c2 b2 p2 : Int) : Bool := if r = r2 ∧ c = c2 ∧ b = b2 ∧ p = p2 then true else CD r c b p r2 c2 b2 p2
theorem Jc {r c b p r2 c2 b2 p2 : Int} (h : ∀ j, j < 4 → CG r c b p j = CG r2 c2 b2 p2 j) : EN r c b p r2 c2 b2 p2 = true := by
 have h0 := h 0 (by omega);have h1 := h 1 (by omega);have h2 := h 2 (by omega);have h3 := h 3 (by omega);simp [CG] at h0 h1 h2 h3
 simp [EN, h0, h1, h2, h3]
theorem J9 {r c b p r2 c2 b2 p2 : Int} {k : Nat} (hk : k < 4) (h : ∀ j, j < k → CG r c b p j = CG r2 c2 b2 p2 j) (hn : CG r c b p k ≠ CG r2 c2 b2 p2 k) : EN r c b p r2 c2 b2 p2 = decide (CG r c b p k < CG r2 c2 b2 p2 k) := by
 obtain rfl | rfl | rfl | rfl : k = 0 ∨ k = 1 ∨ k = 2 ∨ k = 3 := by omega
 ·
  simp [CG] at hn; simp [EN, CD, CG, hn]
 ·
  have h0 := h 0 (by omega);simp [CG] at hn h0; simp [EN, CD, CG, hn, h0]
 ·
  have h0 := h 0 (by omega);have h1 := h 1 (by omega);simp [CG] at hn h0 h1; simp [EN, CD, CG, hn, h0, h1]
 have h0 := h 0 (by omega);have h1 := h 1 (by omega);have h2 := h 2 (by omega);simp [CG] at hn h0 h1 h2; simp [EN, CD, CG, hn, h0, h1, h2]
theorem Iz (r c b p r2 c2 b2 p2 : Int) (w : World) :
  Calls prog 206 #[.func (.func 207) #[.agg #[ji r, ji c, ji b, ji p]] #[], .func (.func 207) #[.agg #[ji r2, ji c2, ji b2, ji p2]] #[]] w fun e w' => e = .returned (.bool (EN r c b p r2 c2 b2 p2)) ∧ Bw w w' := by
 go_enter func206, ntmps206
 go_wp2
 go_loopw [6] (fun i wr => ∃ k : Nat, k ≤ 4 ∧ i = .int .i64 (k : Int) ∧ (∀ j, j < k → CG r c b p j = CG r2 c2 b2 p2 j) ∧ Below w.heap.size w wr) (fun i _ => 4 - (intOf i).toNat)
 case atStart => exact ⟨0, by omega, rfl, fun j h => absurd h (by omega), Below.refl _ _⟩
 case round =>
  obtain ⟨k, hk, rfl, hj, hB⟩ := hrel;by_cases hlt : k < 4
  ·
   have hlt' : (k : Int) < 4 := by omega
   go_wp2_with fail
   go_at_call 207
   refine (Fz r c b p k _ hlt).mono ?_;rintro e w1 ⟨rfl, k1⟩;have B1 := AA hB k1;go_wp2_with fail
   go_at_call 207
   refine (Fz r2 c2 b2 p2 k _ hlt).mono ?_;rintro e w2 ⟨rfl, k2⟩;have B2 := AA B1 k2;by_cases hn : CG r c b p k = CG r2 c2 b2 p2 k
   ·
    have hb1 : (CG r c b p k == CG r2 c2 b2 p2 k) = true := by simp [hn]
    have hj' : ∀ j, j < k + 1 → CG r c b p j = CG r2 c2 b2 p2 j := fun j h => by
     by_cases e : j = k
     ·
      subst e; exact hn
     exact hj j (by omega)
    clear hn hj;go_wp2
    go_roundw
    case rel => exact ⟨k + 1, by omega, by simp, hj', B2⟩
    case measure => simp [intOf]; omega
   have hb1 : (CG r c b p k == CG r2 c2 b2 p2 k) = false := by simp [hn]
   have hb2 : (CG r c b p k != CG r2 c2 b2 p2 k) = true := by simp [hn]
   have hR : Hid _ := J9 hlt hj hn;clear hn hj;go_wp2_with fail
   go_at_call 207
   refine (Fz r c b p k _ hlt).mono ?_;rintro e w3 ⟨rfl, k3⟩;have B3 := AA B2 k3;go_wp2_with fail
   go_at_call 207
   refine (Fz r2 c2 b2 p2 k _ hlt).mono ?_;rintro e w4 ⟨rfl, k4⟩;have B4 := AA B3 k4;go_wp2
   go_ret
   exact ⟨by rw [hR.out]; rfl, B4⟩
  obtain rfl : k = 4 := by omega
  have hR : Hid _ := Jc hj;clear hj;go_wp2
  go_ret
  exact ⟨by rw [hR.out]; rfl, hB⟩
theorem Jl : ∃ f0 f1 f2 f3 : Field, (prog.fieldsOf 62).toList = [f0, f1, f2, f3] ∧ (f0.name ≠ "_" ∧ f0.type = 3 ∧ f0.offset = 0) ∧ (f1.name ≠ "_" ∧ f1.type = 3 ∧ f1.offset = 1) ∧ (f2.name ≠ "_" ∧ f2.type = 3 ∧ f2.offset = 2) ∧ (f3.name ≠ "_" ∧ f3.type = 3 ∧ f3.offset = 3) := by
 have h : ((prog.fieldsOf 62).toList.map fun f => (decide (f.name ≠ "_"), f.type, f.offset)) = [(true, 3, 0), (true, 3, 1), (true, 3, 2), (true, 3, 3)] := by kernel_rfl
 revert h;generalize (prog.fieldsOf 62).toList = L
 intro h;rcases L with _ | ⟨f0, _ | ⟨f1, _ | ⟨f2, _ | ⟨f3, _ | ⟨f4, L⟩⟩⟩⟩⟩ <;> simp at h
 obtain ⟨⟨a0, a1, a2⟩, ⟨b0, b1, b2⟩, ⟨c0, c1, c2⟩, d0, d1, d2⟩ := h;exact ⟨f0, f1, f2, f3, rfl, ⟨a0, a1, a2⟩, ⟨b0, b1, b2⟩, ⟨c0, c1, c2⟩, d0, d1, d2⟩
theorem Fd (r c b p r2 c2 b2 p2 : Int) (w : World) : (Op.equalIn 10000 62 (.agg #[ji r, ji c, ji b, ji p]) (.agg #[ji r2, ji c2, ji b2, ji p2])).run prog w = .ok (decide (r = r2 ∧ c = c2 ∧ b = b2 ∧ p = p2)) w := by
 rw [show (10000 : Nat) = 9999 + 1 from rfl, run_equalIn_struct w 9999 62 _ _ (by kernel_rfl) (by kernel_rfl)];obtain ⟨f0, f1, f2, f3, hL, ⟨x0, x1, x2⟩, ⟨y0, y1, y2⟩, ⟨z0, z1, z2⟩, u0, u1, u2⟩ := Jl;have h3 : prog.underlying 3 = some (.int .i64) := by kernel_rfl
 have hb : ∀ (x y : Int), (Op.equalIn 9999 3 (ji x) (ji y)).run prog w = .ok (x == y) w := fun x y => run_equalIn_int w 9998 3 .i64 .i64 x y h3
 have hp : prog.plainKey 3 = true := by kernel_rfl
 have p0 : ∀ (x0 x1 x2 x3 : Value), (part 3 #[x0, x1, x2, x3] 0).run prog w = .ok x0 w := fun x0 x1 x2 x3 => run_part_plain w hp rfl
 have p1 : ∀ (x0 x1 x2 x3 : Value), (part 3 #[x0, x1, x2, x3] 1).run prog w = .ok x1 w := fun x0 x1 x2 x3 => run_part_plain w hp rfl
 have q2 : ∀ (x0 x1 x2 x3 : Value), (part 3 #[x0, x1, x2, x3] 2).run prog w = .ok x2 w := fun x0 x1 x2 x3 => run_part_plain w hp rfl
 have p3 : ∀ (x0 x1 x2 x3 : Value), (part 3 #[x0, x1, x2, x3] 3).run prog w = .ok x3 w := fun x0 x1 x2 x3 => run_part_plain w hp rfl
 rw [hL];simp only [Op.eqFields, if_pos x0, if_pos y0, if_pos z0, if_pos u0, x1, x2, y1, y2, z1, z2, u1, u2, Sem.run_bind];rw [p0, Result.andThen_ok, p0, Result.andThen_ok, hb, Result.andThen_ok];by_cases e0 : r = r2
 rotate_left
 ·
  simp [e0]
 simp only [e0, beq_self_eq_true, Bool.not_true, Bool.false_eq_true, if_false, Sem.run_bind, true_and];rw [p1, Result.andThen_ok, p1, Result.andThen_ok, hb, Result.andThen_ok];by_cases e1 : c = c2
 rotate_left
 ·
  simp [e1]
 simp only [e1, beq_self_eq_true, Bool.not_true, Bool.false_eq_true, if_false, Sem.run_bind, true_and];rw [q2, Result.andThen_ok, q2, Result.andThen_ok, hb, Result.andThen_ok];by_cases e2 : b = b2
 rotate_left
 ·
  simp [e2]
 simp only [e2, beq_self_eq_true, Bool.not_true, Bool.false_eq_true, if_false, Sem.run_bind, true_and];rw [p3, Result.andThen_ok, p3, Result.andThen_ok, hb, Result.andThen_ok];by_cases e3 : p = p2
 ·
  simp [e3]
 simp [e3]
theorem FU (r c b p r2 c2 b2 p2 : Int) (w : World) :
  Calls prog 203 #[.agg #[ji r, ji c, ji b, ji p], .agg #[ji r2, ji c2, ji b2, ji p2]] w fun e w' => e = .returned (.bool (CD r c b p r2 c2 b2 p2)) ∧ Bw w w' := by
 have hmf : ∀ (fn : Fn) (first cap : Array Value) (w : World), (Instr.makeFunc fn first cap).run prog w = .ok (.func fn first cap) w := fun _ _ _ _ => rfl
 have heq := Fd r c b p r2 c2 b2 p2;by_cases hs : r = r2 ∧ c = c2 ∧ b = b2 ∧ p = p2
 ·
  rw [decide_eq_true hs] at heq;have e : CD r c b p r2 c2 b2 p2 = false := by obtain ⟨rfl, rfl, rfl, rfl⟩ := hs; simp [CD]
  rw [e];clear e hs;go_enter func203, ntmps203
  go_wp2
  go_ret
  exact ⟨rfl, ((Below.refl _ _).alloc (Nat.le_refl _) _).alloc (by simp) _⟩
 have e : CD r c b p r2 c2 b2 p2 = EN r c b p r2 c2 b2 p2 := by unfold EN; rw [if_neg hs]
 rw [decide_eq_false hs] at heq;rw [e];clear e hs;go_enter func203, ntmps203
 go_wp2_with fail
 go_at_call 206
 refine (Iz r c b p r2 c2 b2 p2 _).mono ?_;rintro e w1 ⟨rfl, k1⟩;go_wp2
 go_ret
 exact ⟨rfl, (((Below.refl _ _).alloc (Nat.le_refl _) _).alloc (by simp) _).trans (k1.mono (by simp; omega))⟩
end Go.Proofs.YthgcbihhdbpbdaaGreat
