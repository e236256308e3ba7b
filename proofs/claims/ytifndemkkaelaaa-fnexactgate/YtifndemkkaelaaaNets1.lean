/- Marks of nets: with, has. -/
import Derived.Test.YtifndemkkaelaaaRows
import Derived.WalkKit
import Derived.ProofKit
import Derived.OpenShut
import Derived.ShutString
import Derived.ChangeOld
import Derived.Below
import Derived.Deep.QuietTactic
import Derived.BigQuiet
import Derived.WalkSmall
import Derived.Laws.OwnMore
import Derived.WalkSpells
import Derived.WalkLawsBesides
import Derived.ChangeKeysEq
import Derived.Test.YtifndemkkaelaaaTakes
namespace Go.Proofs.Ytifndemkkaelaaa
open Go.ChangeShapes Go.WideShapes Go.ChangeAt Go.RowKit
open Go.ChangeMaps (open_string shut_string)
set_option linter.unusedVariables false

/-- One mark behind 'with'. -/
def put (k : Int) (v : Bool) (i : Int) (b : Bool) : Bool := if k = i then v else b
theorem put_ne {k i : Int} (v b : Bool) (h : k ≠ i) : put k v i b = b := if_neg h
theorem put_eq (k : Int) (v b : Bool) : put k v k b = v := if_pos rfl

set_option maxHeartbeats 1000000 in
theorem withN (b1 b2 b3 b4 : Bool) (k : Int) (v : Bool) (w : World) :
    Calls Try.prog 112 #[.agg #[.bool b1, .bool b2, .bool b3, .bool b4], .int .i64 k, .bool v] w fun e w' => e = .returned (.agg #[.bool (put k v 1 b1), .bool (put k v 2 b2), .bool (put k v 3 b3), .bool (put k v 4 b4)]) ∧ Below w.heap.size w w' := by
  by_cases h1 : k = 1
  · subst h1
    go_enter Try.func112, Try.ntmps112
    go_wp2
    refine bodyPost_ret (v := .agg #[.bool v, .bool b2, .bool b3, .bool b4]) (by simp [results, Try.results112, go_sem, *]) rfl ⟨by simp [put], ?_⟩
    exact ((Below.refl _ _).alloc (Nat.le_refl _) _).alloc (by simp) _
  by_cases h2 : k = 2
  · subst h2
    go_enter Try.func112, Try.ntmps112
    go_wp2
    refine bodyPost_ret (v := .agg #[.bool b1, .bool v, .bool b3, .bool b4]) (by simp [results, Try.results112, go_sem, *]) rfl ⟨by simp [put], ?_⟩
    exact ((Below.refl _ _).alloc (Nat.le_refl _) _).alloc (by simp) _
  by_cases h3 : k = 3
  · subst h3
    go_enter Try.func112, Try.ntmps112
    go_wp2
    refine bodyPost_ret (v := .agg #[.bool b1, .bool b2, .bool v, .bool b4]) (by simp [results, Try.results112, go_sem, *]) rfl ⟨by simp [put], ?_⟩
    exact ((Below.refl _ _).alloc (Nat.le_refl _) _).alloc (by simp) _
  by_cases h4 : k = 4
  · subst h4
    go_enter Try.func112, Try.ntmps112
    go_wp2
    refine bodyPost_ret (v := .agg #[.bool b1, .bool b2, .bool b3, .bool v]) (by simp [results, Try.results112, go_sem, *]) rfl ⟨by simp [put], ?_⟩
    exact ((Below.refl _ _).alloc (Nat.le_refl _) _).alloc (by simp) _
  rw [put_ne _ _ h1, put_ne _ _ h2, put_ne _ _ h3, put_ne _ _ h4]
  by_cases hl : 1 ≤ k
  · have d1 : decide (1 ≤ k) = true := decide_eq_true hl
    have d2 : decide (k ≤ 4) = false := decide_eq_false (by omega)
    clear h1 h2 h3 h4
    go_enter Try.func112, Try.ntmps112
    go_wp2
    refine bodyPost_ret (v := .agg #[.bool b1, .bool b2, .bool b3, .bool b4]) (by simp [results, Try.results112, go_sem, *]) rfl ⟨rfl, ?_⟩
    exact ((Below.refl _ _).alloc (Nat.le_refl _) _).alloc (by simp) _
  · have d1 : decide (1 ≤ k) = false := decide_eq_false hl
    clear h1 h2 h3 h4
    go_enter Try.func112, Try.ntmps112
    go_wp2
    refine bodyPost_ret (v := .agg #[.bool b1, .bool b2, .bool b3, .bool b4]) (by simp [results, Try.results112, go_sem, *]) rfl ⟨rfl, ?_⟩
    exact ((Below.refl _ _).alloc (Nat.le_refl _) _).alloc (by simp) _

/-- Whether a net is marked. -/
def hasB (k : Int) (b1 b2 b3 b4 : Bool) : Bool := if k = 1 then b1 else if k = 2 then b2 else if k = 3 then b3 else if k = 4 then b4 else false
theorem Try.info4' : ∃ i, Try.prog.info? 4 = some i := by
  have h : (Try.prog.info? 4).isSome = true := by kernel_rfl
  exact Option.isSome_iff_exists.1 h
theorem eqNets (w : World) (a1 a2 a3 a4 b1 b2 b3 b4 : Bool) : (Op.equalIn 10000 106 (.agg #[.bool a1, .bool a2, .bool a3, .bool a4]) (.agg #[.bool b1, .bool b2, .bool b3, .bool b4])).run Try.prog w = .ok (a1 == b1 && (a2 == b2 && (a3 == b3 && a4 == b4))) w := by
  obtain ⟨i, hi⟩ := Try.info4'
  have hc : Try.prog.cellsOf 4 = 1 := by kernel_rfl
  have hu : Try.prog.underlying 106 = some (.array 4 4) := by kernel_rfl
  rw [run_equalIn_array w 9999 _ _ hu hi, hc]
  have h4 : Try.prog.underlying 4 = some .bool := by kernel_rfl
  have hb0 : ∀ (d : Nat) (a b : Bool), (Op.equalIn (d + 1) 4 (.bool a) (.bool b)).run Try.prog w = .ok (a == b) w := fun d a b => by
    simp only [Op.equalIn, Sem.run_bind, run_underlying h4, Result.andThen_ok, Sem.run_pure]
  have hb : ∀ (a b : Bool), (Op.equalIn 9999 4 (.bool a) (.bool b)).run Try.prog w = .ok (a == b) w := hb0 9998
  have hp : Try.prog.plainKey 4 = true := by kernel_rfl
  have p0 : ∀ (x0 x1 x2 x3 : Value), (part 4 #[x0, x1, x2, x3] 0).run Try.prog w = .ok x0 w := fun x0 x1 x2 x3 => run_part_plain w hp rfl
  have p1 : ∀ (x0 x1 x2 x3 : Value), (part 4 #[x0, x1, x2, x3] 1).run Try.prog w = .ok x1 w := fun x0 x1 x2 x3 => run_part_plain w hp rfl
  have p2 : ∀ (x0 x1 x2 x3 : Value), (part 4 #[x0, x1, x2, x3] 2).run Try.prog w = .ok x2 w := fun x0 x1 x2 x3 => run_part_plain w hp rfl
  have p3 : ∀ (x0 x1 x2 x3 : Value), (part 4 #[x0, x1, x2, x3] 3).run Try.prog w = .ok x3 w := fun x0 x1 x2 x3 => run_part_plain w hp rfl
  simp only [show List.range 4 = [0, 1, 2, 3] from rfl, Op.eqItems, Sem.run_bind, Nat.mul_one]
  rw [p0, Result.andThen_ok, p0, Result.andThen_ok, hb, Result.andThen_ok]
  cases a1 == b1
  · simp
  simp only [Bool.not_true, Bool.false_eq_true, if_false, Sem.run_bind, Bool.true_and]
  rw [p1, Result.andThen_ok, p1, Result.andThen_ok, hb, Result.andThen_ok]
  cases a2 == b2
  · simp
  simp only [Bool.not_true, Bool.false_eq_true, if_false, Sem.run_bind, Bool.true_and]
  rw [p2, Result.andThen_ok, p2, Result.andThen_ok, hb, Result.andThen_ok]
  cases a3 == b3
  · simp
  simp only [Bool.not_true, Bool.false_eq_true, if_false, Sem.run_bind, Bool.true_and]
  rw [p3, Result.andThen_ok, p3, Result.andThen_ok, hb, Result.andThen_ok]
  cases a4 == b4 <;> simp
/-- The marks that lie at block p. -/
def NetAt (w : World) (p : Nat) (b1 b2 b3 b4 : Bool) : Prop :=
  w.cell? ⟨p, 0, none⟩ = some (.bool b1) ∧ w.cell? ⟨p, 1, none⟩ = some (.bool b2) ∧ w.cell? ⟨p, 2, none⟩ = some (.bool b3) ∧ w.cell? ⟨p, 3, none⟩ = some (.bool b4)
theorem NetAt.same {w w' : World} {p : Nat} {b1 b2 b3 b4 : Bool} (h : NetAt w p b1 b2 b3 b4) (e : w'.heap[p]? = w.heap[p]?) : NetAt w' p b1 b2 b3 b4 :=
  ⟨(World.cell?_of_block (a := ⟨p, 0, none⟩) e).trans h.1, (World.cell?_of_block (a := ⟨p, 1, none⟩) e).trans h.2.1, (World.cell?_of_block (a := ⟨p, 2, none⟩) e).trans h.2.2.1, (World.cell?_of_block (a := ⟨p, 3, none⟩) e).trans h.2.2.2⟩
def SN (w : World) (b1 b2 b3 b4 : Bool) (Y : World) : Prop := NetAt Y w.heap.size b1 b2 b3 b4 ∧ Below w.heap.size w Y ∧ w.heap.size < Y.heap.size
theorem SN.later {w : World} {b1 b2 b3 b4 : Bool} {Y Y' : World} (h : SN w b1 b2 b3 b4 Y) (k : Below Y.heap.size Y Y') : SN w b1 b2 b3 b4 Y' :=
  ⟨h.1.same (k.block _ h.2.2), h.2.1.trans (k.mono (by have := h.2.2; omega)), by have := h.2.2; have := k.size; omega⟩
theorem has_eq (k : Int) (b1 b2 b3 b4 : Bool) : (!(put k false 1 b1 == b1 && (put k false 2 b2 == b2 && (put k false 3 b3 == b3 && put k false 4 b4 == b4)))) = hasB k b1 b2 b3 b4 := by
  unfold put hasB
  by_cases h1 : k = 1
  · subst h1; simp
  by_cases h2 : k = 2
  · subst h2; simp
  by_cases h3 : k = 3
  · subst h3; simp
  by_cases h4 : k = 4
  · subst h4; simp
  simp [h1, h2, h3, h4]
set_option maxHeartbeats 1000000 in
theorem hasN (b1 b2 b3 b4 : Bool) (k : Int) (w : World) :
    Calls Try.prog 103 #[.agg #[.bool b1, .bool b2, .bool b3, .bool b4], .int .i64 k] w fun e w' => e = .returned (.bool (hasB k b1 b2 b3 b4)) ∧ Below w.heap.size w w' := by
  go_enter Try.func103, Try.ntmps103
  go_wp2_with fail
  obtain ⟨w0, hw0⟩ : ∃ w0, w0 = w.alloc (Obj.cells #[.bool b1, .bool b2, .bool b3, .bool b4] 106) := ⟨_, rfl⟩
  have hs0 : SN w b1 b2 b3 b4 w0 := by
    rw [hw0]
    refine ⟨?_, (Below.refl _ _).alloc (Nat.le_refl _) _, by simp⟩
    refine ⟨?_, ?_, ?_, ?_⟩ <;> simp [go_sem]
  rw [← hw0]
  clear hw0
  refine wp_region_held (S := SN w b1 b2 b3 b4) (by kernel_rfl) ?_
  change wpAnyH _ _ _ _ _ _ _ _ (World.drew _)
  have hS0 : SN w b1 b2 b3 b4 w0.drew := ⟨hs0.1, hs0.2.1.drew, hs0.2.2⟩
  refine takeW 0 5 (.agg #[.bool b1, .bool b2, .bool b3, .bool b4]) rfl rfl (by kernel_rfl) (by kernel_rfl) (by kernel_rfl) (fun _ _ _ h => h) (by kernel_rfl) (by (intro Y hSw; obtain ⟨⟨C1, C2, C3, C4⟩, _⟩ := hSw; go_simp)) (by assumption) ?_
  simp only [List.set_cons_zero, List.set_cons_succ]
  refine takeW 1 6 (.int .i64 k) rfl rfl (by kernel_rfl) (by kernel_rfl) (by kernel_rfl) (fun _ _ _ h => h) (by kernel_rfl) (by (intro w hSw; go_simp)) (by assumption) ?_
  simp only [List.set_cons_zero, List.set_cons_succ]
  refine takeW 3 8 (.agg #[.bool b1, .bool b2, .bool b3, .bool b4]) rfl rfl (by kernel_rfl) (by kernel_rfl) (by kernel_rfl) (fun _ _ _ h => h) (by kernel_rfl) (by (intro Y hSw; obtain ⟨⟨C1, C2, C3, C4⟩, _⟩ := hSw; go_simp)) (by assumption) ?_
  simp only [List.set_cons_zero, List.set_cons_succ]
  refine wpAnyH_all (rs := [2]) (by kernel_rfl) (by simp) ?_
  intro i hi; obtain rfl : i = 2 := by simpa using hi
  refine wpOp_step rfl (fun K hK => ?_)
  rw [if_pos (by kernel_rfl)]
  go_simp
  go_at_call 112
  refine (withN b1 b2 b3 b4 k false _).mono ?_
  rintro e y1 ⟨rfl, k1⟩
  have hS1 := hS0.later k1
  refine hK _ _ ⟨hS1, ?_⟩
  clear hK K hi
  refine takeW 4 9 (.bool (hasB k b1 b2 b3 b4)) rfl rfl (by kernel_rfl) (by kernel_rfl) (by kernel_rfl) (fun _ _ _ h => h) (by kernel_rfl) (by (intro Y hSw; go_simp; rw [eqNets]; simp only [Result.andThen_ok, has_eq])) (by assumption) ?_
  simp only [List.set_cons_zero, List.set_cons_succ]
  refine takeW 5 4 (.bool (hasB k b1 b2 b3 b4)) rfl rfl (by kernel_rfl) (by kernel_rfl) (by kernel_rfl) (fun _ _ _ h => h) (by kernel_rfl) (by (intro w hSw; go_simp)) (by assumption) ?_
  simp only [List.set_cons_zero, List.set_cons_succ]
  refine wpAnyH_done (by kernel_rfl) ?_ _
  go_wp2
  go_ret
  exact ⟨rfl, hS1.2.1⟩

end Go.Proofs.Ytifndemkkaelaaa
