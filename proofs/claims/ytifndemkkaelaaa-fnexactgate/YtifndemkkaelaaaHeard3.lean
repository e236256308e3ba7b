/- impl.compareHeard, walked. -/
import Derived.Test.YtifndemkkaelaaaRows
import Derived.WalkKit
import Derived.ProofKit
import Derived.OpenShut
import Derived.ShutString
import Derived.ChangeOld
import Derived.Below
import Derived.Deep.QuietTactic
import Derived.BigQuiet
import Derived.WalkSmall
import Derived.Laws.OwnMore
import Derived.WalkSpells
import Derived.Test.YtifndemkkaelaaaHeard2
import Derived.Test.YtifndemkkaelaaaTakes
namespace Go.Proofs.Ytifndemkkaelaaa
open Go.ChangeShapes Go.WideShapes Go.ChangeAt Go.RowKit
open Go.ChangeMaps (open_string shut_string)
set_option linter.unusedVariables false

def Hd.cmp (x y : Hd) : Int := or2 (cmp3 x.v y.v) (cmp3 x.a y.a)
def S0 (x y : Hd) (w Y : World) : Prop := HAt Y w.heap.size 0 x ∧ HAt Y (w.heap.size + 1) 0 y ∧ Below w.heap.size w Y ∧ w.heap.size + 1 < Y.heap.size
theorem S0.drew {x y : Hd} {w Y : World} (h : S0 x y w Y) : S0 x y w Y.drew := ⟨h.1, h.2.1, h.2.2.1.drew, h.2.2.2⟩
theorem S0.alloc {x y : Hd} {w Y : World} (h : S0 x y w Y) (o : Obj) : S0 x y w (Y.alloc o) :=
  ⟨h.1.of_block ((below_box Y o).block _ (by have := h.2.2.2; omega)), h.2.1.of_block ((below_box Y o).block _ h.2.2.2), h.2.2.1.trans ((below_box Y o).mono (by have := h.2.2.2; omega)), by have := h.2.2.2; simp; omega⟩
set_option maxHeartbeats 1000000 in
theorem cmpH (x y : Hd) (w : World) :
    Calls Try.prog 89 #[.agg #[.int .i64 x.a, .int .i64 x.v, .int .i64 x.p, .int .i64 x.l], .agg #[.int .i64 y.a, .int .i64 y.v, .int .i64 y.p, .int .i64 y.l]] w fun e w' => e = .returned (.int .i64 (x.cmp y)) ∧ Below w.heap.size w w' := by
  go_enter Try.func89, Try.ntmps89
  go_wp2_with fail
  obtain ⟨w0, hw0⟩ : ∃ w0, w0 = (w.alloc (Obj.cells #[.int .i64 x.a, .int .i64 x.v, .int .i64 x.p, .int .i64 x.l] 60)).alloc (Obj.cells #[.int .i64 y.a, .int .i64 y.v, .int .i64 y.p, .int .i64 y.l] 60) := ⟨_, rfl⟩
  have hs0 : S0 x y w w0 := by
    rw [hw0]
    refine ⟨?_, ?_, ?_, ?_⟩
    · refine ⟨?_, ?_, ?_, ?_⟩ <;> simp [go_sem]
    · refine ⟨?_, ?_, ?_, ?_⟩ <;> simp [go_sem]
    · exact ((Below.refl _ _).alloc (Nat.le_refl _) _).alloc (by simp) _
    · simp
  rw [← hw0]
  clear hw0
  refine wp_region_held (S := S0 x y w) (by kernel_rfl) ?_
  change wpAnyH _ _ _ _ _ _ _ _ (World.drew _)
  have hS0 : S0 x y w w0.drew := hs0.drew
  refine takeW 0 5 (.pointer (some ⟨w.heap.size, 1, none⟩)) rfl rfl (by kernel_rfl) (by kernel_rfl) (by kernel_rfl) (fun _ _ _ h => h) (by kernel_rfl) (by (intro w hSw; go_simp)) (by assumption) ?_
  simp only [List.set_cons_zero, List.set_cons_succ]
  refine takeW 1 6 (.int .i64 x.v) rfl rfl (by kernel_rfl) (by kernel_rfl) (by kernel_rfl) (fun _ _ _ h => h) (by kernel_rfl) (by (intro Y hSw; obtain ⟨⟨X1, X2, X3, X4⟩, ⟨Y1, Y2, Y3, Y4⟩, _⟩ := hSw; simp only [Nat.zero_add] at X1 X2 X3 X4 Y1 Y2 Y3 Y4; go_simp)) (by assumption) ?_
  simp only [List.set_cons_zero, List.set_cons_succ]
  refine takeW 2 7 (.pointer (some ⟨w.heap.size + 1, 1, none⟩)) rfl rfl (by kernel_rfl) (by kernel_rfl) (by kernel_rfl) (fun _ _ _ h => h) (by kernel_rfl) (by (intro w hSw; go_simp)) (by assumption) ?_
  simp only [List.set_cons_zero, List.set_cons_succ]
  refine takeW 3 8 (.int .i64 y.v) rfl rfl (by kernel_rfl) (by kernel_rfl) (by kernel_rfl) (fun _ _ _ h => h) (by kernel_rfl) (by (intro Y hSw; obtain ⟨⟨X1, X2, X3, X4⟩, ⟨Y1, Y2, Y3, Y4⟩, _⟩ := hSw; simp only [Nat.zero_add] at X1 X2 X3 X4 Y1 Y2 Y3 Y4; go_simp)) (by assumption) ?_
  simp only [List.set_cons_zero, List.set_cons_succ]
  refine takeW 5 10 (.pointer (some ⟨w.heap.size, 0, none⟩)) rfl rfl (by kernel_rfl) (by kernel_rfl) (by kernel_rfl) (fun _ _ _ h => h) (by kernel_rfl) (by (intro w hSw; go_simp)) (by assumption) ?_
  simp only [List.set_cons_zero, List.set_cons_succ]
  refine takeW 6 11 (.int .i64 x.a) rfl rfl (by kernel_rfl) (by kernel_rfl) (by kernel_rfl) (fun _ _ _ h => h) (by kernel_rfl) (by (intro Y hSw; obtain ⟨⟨X1, X2, X3, X4⟩, ⟨Y1, Y2, Y3, Y4⟩, _⟩ := hSw; simp only [Nat.zero_add] at X1 X2 X3 X4 Y1 Y2 Y3 Y4; go_simp)) (by assumption) ?_
  simp only [List.set_cons_zero, List.set_cons_succ]
  refine takeW 7 12 (.pointer (some ⟨w.heap.size + 1, 0, none⟩)) rfl rfl (by kernel_rfl) (by kernel_rfl) (by kernel_rfl) (fun _ _ _ h => h) (by kernel_rfl) (by (intro w hSw; go_simp)) (by assumption) ?_
  simp only [List.set_cons_zero, List.set_cons_succ]
  refine takeW 8 13 (.int .i64 y.a) rfl rfl (by kernel_rfl) (by kernel_rfl) (by kernel_rfl) (fun _ _ _ h => h) (by kernel_rfl) (by (intro Y hSw; obtain ⟨⟨X1, X2, X3, X4⟩, ⟨Y1, Y2, Y3, Y4⟩, _⟩ := hSw; simp only [Nat.zero_add] at X1 X2 X3 X4 Y1 Y2 Y3 Y4; go_simp)) (by assumption) ?_
  simp only [List.set_cons_zero, List.set_cons_succ]
  refine wpAnyH_all (rs := [4]) (by kernel_rfl) (by simp) ?_
  intro i hi; obtain rfl : i = 4 := by simpa using hi
  refine wpOp_step rfl (fun K hK => ?_)
  rw [if_pos (by kernel_rfl)]
  go_simp
  go_at_call 105
  refine (cmpI x.v y.v _).mono ?_
  rintro e y1 ⟨rfl, hy1⟩
  subst hy1
  refine hK _ _ ⟨hS0, ?_⟩
  clear hK K hi
  refine wpAnyH_all (rs := [9]) (by kernel_rfl) (by simp) ?_
  intro i hi; obtain rfl : i = 9 := by simpa using hi
  refine wpOp_step rfl (fun K hK => ?_)
  rw [if_pos (by kernel_rfl)]
  go_simp
  go_at_call 105
  refine (cmpI x.a y.a _).mono ?_
  rintro e y1 ⟨rfl, hy1⟩
  subst hy1
  refine hK _ _ ⟨hS0, ?_⟩
  clear hK K hi
  refine wpAnyH_all (rs := [10]) (by kernel_rfl) (by simp) ?_
  intro i hi; obtain rfl : i = 10 := by simpa using hi
  refine wpOp_step rfl (fun K hK => ?_)
  rw [if_pos (by kernel_rfl)]
  go_simp
  have hS1 : S0 x y w (w0.drew.alloc (Obj.cells #[.int .i64 (cmp3 x.v y.v), .int .i64 (cmp3 x.a y.a)] 3)) := hS0.alloc _
  refine hK _ _ ⟨hS1, ?_⟩
  clear hK K hi
  refine wpAnyH_all (rs := [11]) (by kernel_rfl) (by simp) ?_
  intro i hi; obtain rfl : i = 11 := by simpa using hi
  refine wpOp_step rfl (fun K hK => ?_)
  rw [if_pos (by kernel_rfl)]
  go_simp
  go_at_call 104
  refine (orI _ (cmp3 x.v y.v) (cmp3 x.a y.a) _ ?q0 ?q1).mono ?_
  case q0 => simp [go_sem]
  case q1 => simp [go_sem]
  rintro e y1 ⟨rfl, hy1⟩
  subst hy1
  refine hK _ _ ⟨hS1, ?_⟩
  clear hK K hi
  refine takeW 12 4 (.int .i64 (or2 (cmp3 x.v y.v) (cmp3 x.a y.a))) rfl rfl (by kernel_rfl) (by kernel_rfl) (by kernel_rfl) (fun _ _ _ h => h) (by kernel_rfl) (by (intro w hSw; go_simp)) (by assumption) ?_
  simp only [List.set_cons_zero, List.set_cons_succ]
  refine wpAnyH_done (by kernel_rfl) ?_ _
  go_wp2
  go_ret
  exact ⟨rfl, hS1.2.2.1⟩
theorem cmp_bef (x y : Hd) : (0 ≤ x.cmp y) ↔ x.bef y = false := by
  unfold Hd.cmp or2 Hd.bef cmp3
  simp only [decide_eq_false_iff_not]
  (repeat' split) <;> omega

end Go.Proofs.Ytifndemkkaelaaa
