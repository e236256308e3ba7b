/- impl.CardOk, walked. -/
import Derived.Test.YtifndemkkaelaaaGreatRows
import Derived.WalkKit
import Derived.ProofKit
import Derived.OpenShut
import Derived.ShutString
import Derived.ChangeOld
import Derived.Below
import Derived.Deep.QuietTactic
import Derived.BigQuiet
import Derived.WalkSmall
import Derived.Laws.OwnMore
import Derived.WalkSpells
import Derived.WalkLawsBesides
import Derived.Test.YtifndemkkaelaaaGreatZl13
import Derived.Test.YtifndemkkaelaaaGreatZl7
import Derived.Test.YtifndemkkaelaaaGreatZl6
import Derived.Test.YtifndemkkaelaaaGreatZl1
namespace Go.Proofs.YtifndemkkaelaaaGreat
open Go.ChangeShapes Go.WideShapes Go.ChangeAt Go.RowKit
open Go.ChangeMaps (open_string shut_string)
set_option linter.unusedVariables false
set_option maxRecDepth 100000

set_option maxHeartbeats 4000000 in
theorem cardFits (adO : Option Addr) (cO : Nat) (O : List Bool) (adM : Option Addr) (cM : Nat) (D : DL) (adT : Option Addr) (cT : Nat) (T : List Hd) (lo hi P : Nat) (w : World) (A : CdAt w P adO O.length cO adM D.length cM adT T.length cT) (I : CdV w lo hi adO O adM D adT T) (ht : hi ≤ w.heap.size) (hl : O.length + totD D + T.length ≤ 1048576) :
    Calls Tryz.prog 40 #[.pointer (some ⟨P, 0, none⟩)] w fun e w' => e = .returned (.bool (cOk O D T)) ∧ Below w.heap.size w w' := by
  obtain ⟨Ms, hD, vM, iM, jM⟩ := I.vM
  have hlen : D.length = Ms.length := by rw [← hD, List.length_map]
  have hts := tot_siz D
  have hmx : ∀ i, i < Ms.length → (Ms.getD i Mb.nil).L.length ≤ maxLen := fun i hi => by
    have := siz_max D (by omega) i (by omega)
    rw [← hD, d_get] at this
    exact this
  have iT : HIs adT T (· < w.heap.size) := fun a e p => by have := I.iT a e p; show a.block < _; omega
  have lT : T.length ≤ maxLen := by unfold maxLen; omega
  have vT := I.vT
  have hm2 : Ms.length ≤ 1048576 := by omega
  rw [hlen] at A
  have P0 := A.lt
  clear hts jM iM I
  by_cases h1 : 1 ≤ O.length
  rotate_left
  · have d1 : decide (1 ≤ (O.length : Int)) = false := decide_eq_false (by omega)
    have hC : Hid (cOk O D T = false) := by
      unfold Hid cOk
      rw [decide_eq_false h1]; rfl
    rw [hC.out]
    clear hC
    go_enter Tryz.func40, Tryz.ntmps40
    go_wp2_with fail
    refine wp_region_held (S := fun Y => Below w.heap.size w Y) (by kernel_rfl) ?_
    change wpAnyH _ _ _ _ _ _ _ _ (World.drew _)
    have hb0 : Below w.heap.size w w.drew := (Below.refl _ _).drew
    refine takeW 0 3 (.pointer (some ⟨P, 0, none⟩)) rfl rfl (by kernel_rfl) (by kernel_rfl) (by kernel_rfl) (fun _ _ _ h => h) (by kernel_rfl) (by (intro w hSw; go_simp)) (by assumption) ?_
    simp only [List.set_cons_zero, List.set_cons_succ]
    refine takeW 1 4 (.pointer (some ⟨P, 0, none⟩)) rfl rfl (by kernel_rfl) (by kernel_rfl) (by kernel_rfl) (fun _ _ _ h => h) (by kernel_rfl) (by (intro w hSw; go_simp)) (by assumption) ?_
    simp only [List.set_cons_zero, List.set_cons_succ]
    refine takeW 2 5 (.pointer (some ⟨P, 0, none⟩)) rfl rfl (by kernel_rfl) (by kernel_rfl) (by kernel_rfl) (fun _ _ _ h => h) (by kernel_rfl) (by (intro w hSw; go_simp)) (by assumption) ?_
    simp only [List.set_cons_zero, List.set_cons_succ]
    refine takeW 3 6 (.slice adO O.length cO) rfl rfl (by kernel_rfl) (by kernel_rfl) (by kernel_rfl) (fun _ _ _ h => h) (by kernel_rfl) (by (intro Y hSw; obtain ⟨X1, X2, X3⟩ := A.below hSw P0; go_simp)) (by assumption) ?_
    simp only [List.set_cons_zero, List.set_cons_succ]
    refine takeW 4 7 (.int .i64 (O.length : Int)) rfl rfl (by kernel_rfl) (by kernel_rfl) (by kernel_rfl) (fun _ _ _ h => h) (by kernel_rfl) (by (intro Y hSw; go_simp)) (by assumption) ?_
    simp only [List.set_cons_zero, List.set_cons_succ]
    refine takeW 5 8 (.bool false) rfl rfl (by kernel_rfl) (by kernel_rfl) (by kernel_rfl) (fun _ _ _ h => h) (by kernel_rfl) (by (intro Y hSw; go_simp; try omega)) (by assumption) ?_
    simp only [List.set_cons_zero, List.set_cons_succ]
    refine takeW 6 9 (.bool false) rfl rfl (by kernel_rfl) (by kernel_rfl) (by kernel_rfl) (fun _ _ _ h => h) (by kernel_rfl) (by (intro w hSw; go_simp)) (by assumption) ?_
    simp only [List.set_cons_zero, List.set_cons_succ]
    refine takeS 7 10 rfl rfl (by kernel_rfl) (by kernel_rfl) (by kernel_rfl) (fun _ _ _ h => h) (by kernel_rfl) (by assumption) ?_
    simp only [List.set_cons_zero, List.set_cons_succ]
    refine takeS 8 11 rfl rfl (by kernel_rfl) (by kernel_rfl) (by kernel_rfl) (fun _ _ _ h => h) (by kernel_rfl) (by assumption) ?_
    simp only [List.set_cons_zero, List.set_cons_succ]
    refine takeS 9 12 rfl rfl (by kernel_rfl) (by kernel_rfl) (by kernel_rfl) (fun _ _ _ h => h) (by kernel_rfl) (by assumption) ?_
    simp only [List.set_cons_zero, List.set_cons_succ]
    refine takeS 10 13 rfl rfl (by kernel_rfl) (by kernel_rfl) (by kernel_rfl) (fun _ _ _ h => h) (by kernel_rfl) (by assumption) ?_
    simp only [List.set_cons_zero, List.set_cons_succ]
    refine takeS 11 14 rfl rfl (by kernel_rfl) (by kernel_rfl) (by kernel_rfl) (fun _ _ _ h => h) (by kernel_rfl) (by assumption) ?_
    simp only [List.set_cons_zero, List.set_cons_succ]
    refine takeS 12 15 rfl rfl (by kernel_rfl) (by kernel_rfl) (by kernel_rfl) (fun _ _ _ h => h) (by kernel_rfl) (by assumption) ?_
    simp only [List.set_cons_zero, List.set_cons_succ]
    refine takeW 13 16 (.bool false) rfl rfl (by kernel_rfl) (by kernel_rfl) (by kernel_rfl) (fun _ _ _ h => h) (by kernel_rfl) (by (intro w hSw; go_simp)) (by assumption) ?_
    simp only [List.set_cons_zero, List.set_cons_succ]
    refine takeW 14 17 (.bool false) rfl rfl (by kernel_rfl) (by kernel_rfl) (by kernel_rfl) (fun _ _ _ h => h) (by kernel_rfl) (by (intro w hSw; go_simp)) (by assumption) ?_
    simp only [List.set_cons_zero, List.set_cons_succ]
    refine takeS 15 18 rfl rfl (by kernel_rfl) (by kernel_rfl) (by kernel_rfl) (fun _ _ _ h => h) (by kernel_rfl) (by assumption) ?_
    simp only [List.set_cons_zero, List.set_cons_succ]
    refine takeS 16 19 rfl rfl (by kernel_rfl) (by kernel_rfl) (by kernel_rfl) (fun _ _ _ h => h) (by kernel_rfl) (by assumption) ?_
    simp only [List.set_cons_zero, List.set_cons_succ]
    refine takeS 17 20 rfl rfl (by kernel_rfl) (by kernel_rfl) (by kernel_rfl) (fun _ _ _ h => h) (by kernel_rfl) (by assumption) ?_
    simp only [List.set_cons_zero, List.set_cons_succ]
    refine takeS 18 21 rfl rfl (by kernel_rfl) (by kernel_rfl) (by kernel_rfl) (fun _ _ _ h => h) (by kernel_rfl) (by assumption) ?_
    simp only [List.set_cons_zero, List.set_cons_succ]
    refine takeS 19 22 rfl rfl (by kernel_rfl) (by kernel_rfl) (by kernel_rfl) (fun _ _ _ h => h) (by kernel_rfl) (by assumption) ?_
    simp only [List.set_cons_zero, List.set_cons_succ]
    refine takeS 20 23 rfl rfl (by kernel_rfl) (by kernel_rfl) (by kernel_rfl) (fun _ _ _ h => h) (by kernel_rfl) (by assumption) ?_
    simp only [List.set_cons_zero, List.set_cons_succ]
    refine takeS 21 24 rfl rfl (by kernel_rfl) (by kernel_rfl) (by kernel_rfl) (fun _ _ _ h => h) (by kernel_rfl) (by assumption) ?_
    simp only [List.set_cons_zero, List.set_cons_succ]
    refine takeS 22 25 rfl rfl (by kernel_rfl) (by kernel_rfl) (by kernel_rfl) (fun _ _ _ h => h) (by kernel_rfl) (by assumption) ?_
    simp only [List.set_cons_zero, List.set_cons_succ]
    refine takeS 23 26 rfl rfl (by kernel_rfl) (by kernel_rfl) (by kernel_rfl) (fun _ _ _ h => h) (by kernel_rfl) (by assumption) ?_
    simp only [List.set_cons_zero, List.set_cons_succ]
    refine takeS 24 27 rfl rfl (by kernel_rfl) (by kernel_rfl) (by kernel_rfl) (fun _ _ _ h => h) (by kernel_rfl) (by assumption) ?_
    simp only [List.set_cons_zero, List.set_cons_succ]
    refine takeS 25 28 rfl rfl (by kernel_rfl) (by kernel_rfl) (by kernel_rfl) (fun _ _ _ h => h) (by kernel_rfl) (by assumption) ?_
    simp only [List.set_cons_zero, List.set_cons_succ]
    refine takeW 26 29 (.bool false) rfl rfl (by kernel_rfl) (by kernel_rfl) (by kernel_rfl) (fun _ _ _ h => h) (by kernel_rfl) (by (intro w hSw; go_simp)) (by assumption) ?_
    simp only [List.set_cons_zero, List.set_cons_succ]
    refine takeW 27 30 (.bool false) rfl rfl (by kernel_rfl) (by kernel_rfl) (by kernel_rfl) (fun _ _ _ h => h) (by kernel_rfl) (by (intro w hSw; go_simp)) (by assumption) ?_
    simp only [List.set_cons_zero, List.set_cons_succ]
    refine takeS 28 31 rfl rfl (by kernel_rfl) (by kernel_rfl) (by kernel_rfl) (fun _ _ _ h => h) (by kernel_rfl) (by assumption) ?_
    simp only [List.set_cons_zero, List.set_cons_succ]
    refine takeS 29 32 rfl rfl (by kernel_rfl) (by kernel_rfl) (by kernel_rfl) (fun _ _ _ h => h) (by kernel_rfl) (by assumption) ?_
    simp only [List.set_cons_zero, List.set_cons_succ]
    refine takeS 30 33 rfl rfl (by kernel_rfl) (by kernel_rfl) (by kernel_rfl) (fun _ _ _ h => h) (by kernel_rfl) (by assumption) ?_
    simp only [List.set_cons_zero, List.set_cons_succ]
    refine takeS 31 34 rfl rfl (by kernel_rfl) (by kernel_rfl) (by kernel_rfl) (fun _ _ _ h => h) (by kernel_rfl) (by assumption) ?_
    simp only [List.set_cons_zero, List.set_cons_succ]
    refine takeS 32 35 rfl rfl (by kernel_rfl) (by kernel_rfl) (by kernel_rfl) (fun _ _ _ h => h) (by kernel_rfl) (by assumption) ?_
    simp only [List.set_cons_zero, List.set_cons_succ]
    refine takeS 33 36 rfl rfl (by kernel_rfl) (by kernel_rfl) (by kernel_rfl) (fun _ _ _ h => h) (by kernel_rfl) (by assumption) ?_
    simp only [List.set_cons_zero, List.set_cons_succ]
    refine takeW 34 37 (.bool false) rfl rfl (by kernel_rfl) (by kernel_rfl) (by kernel_rfl) (fun _ _ _ h => h) (by kernel_rfl) (by (intro w hSw; go_simp)) (by assumption) ?_
    simp only [List.set_cons_zero, List.set_cons_succ]
    refine takeW 35 38 (.bool false) rfl rfl (by kernel_rfl) (by kernel_rfl) (by kernel_rfl) (fun _ _ _ h => h) (by kernel_rfl) (by (intro w hSw; go_simp)) (by assumption) ?_
    simp only [List.set_cons_zero, List.set_cons_succ]
    refine takeS 36 39 rfl rfl (by kernel_rfl) (by kernel_rfl) (by kernel_rfl) (fun _ _ _ h => h) (by kernel_rfl) (by assumption) ?_
    simp only [List.set_cons_zero, List.set_cons_succ]
    refine takeS 37 40 rfl rfl (by kernel_rfl) (by kernel_rfl) (by kernel_rfl) (fun _ _ _ h => h) (by kernel_rfl) (by assumption) ?_
    simp only [List.set_cons_zero, List.set_cons_succ]
    refine takeS 38 41 rfl rfl (by kernel_rfl) (by kernel_rfl) (by kernel_rfl) (fun _ _ _ h => h) (by kernel_rfl) (by assumption) ?_
    simp only [List.set_cons_zero, List.set_cons_succ]
    refine takeS 39 42 rfl rfl (by kernel_rfl) (by kernel_rfl) (by kernel_rfl) (fun _ _ _ h => h) (by kernel_rfl) (by assumption) ?_
    simp only [List.set_cons_zero, List.set_cons_succ]
    refine takeS 40 43 rfl rfl (by kernel_rfl) (by kernel_rfl) (by kernel_rfl) (fun _ _ _ h => h) (by kernel_rfl) (by assumption) ?_
    simp only [List.set_cons_zero, List.set_cons_succ]
    refine takeW 41 44 (.bool false) rfl rfl (by kernel_rfl) (by kernel_rfl) (by kernel_rfl) (fun _ _ _ h => h) (by kernel_rfl) (by (intro w hSw; go_simp)) (by assumption) ?_
    simp only [List.set_cons_zero, List.set_cons_succ]
    refine takeW 42 2 (.bool false) rfl rfl (by kernel_rfl) (by kernel_rfl) (by kernel_rfl) (fun _ _ _ h => h) (by kernel_rfl) (by (intro w hSw; go_simp)) (by assumption) ?_
    simp only [List.set_cons_zero, List.set_cons_succ]
    refine wpAnyH_done (by kernel_rfl) ?_ _
    go_wp2
    go_ret
    exact ⟨rfl, hb0⟩
  have d1 : decide (1 ≤ (O.length : Int)) = true := decide_eq_true (by omega)
  by_cases h2 : O.length ≤ 4
  rotate_left
  · have d2 : decide ((O.length : Int) ≤ 4) = false := decide_eq_false (by omega)
    have hC : Hid (cOk O D T = false) := by
      unfold Hid cOk
      rw [decide_eq_false h2]; simp
    rw [hC.out]
    clear hC
    go_enter Tryz.func40, Tryz.ntmps40
    go_wp2_with fail
    refine wp_region_held (S := fun Y => Below w.heap.size w Y) (by kernel_rfl) ?_
    change wpAnyH _ _ _ _ _ _ _ _ (World.drew _)
    have hb0 : Below w.heap.size w w.drew := (Below.refl _ _).drew
    refine takeW 0 3 (.pointer (some ⟨P, 0, none⟩)) rfl rfl (by kernel_rfl) (by kernel_rfl) (by kernel_rfl) (fun _ _ _ h => h) (by kernel_rfl) (by (intro w hSw; go_simp)) (by assumption) ?_
    simp only [List.set_cons_zero, List.set_cons_succ]
    refine takeW 1 4 (.pointer (some ⟨P, 0, none⟩)) rfl rfl (by kernel_rfl) (by kernel_rfl) (by kernel_rfl) (fun _ _ _ h => h) (by kernel_rfl) (by (intro w hSw; go_simp)) (by assumption) ?_
    simp only [List.set_cons_zero, List.set_cons_succ]
    refine takeW 2 5 (.pointer (some ⟨P, 0, none⟩)) rfl rfl (by kernel_rfl) (by kernel_rfl) (by kernel_rfl) (fun _ _ _ h => h) (by kernel_rfl) (by (intro w hSw; go_simp)) (by assumption) ?_
    simp only [List.set_cons_zero, List.set_cons_succ]
    refine takeW 3 6 (.slice adO O.length cO) rfl rfl (by kernel_rfl) (by kernel_rfl) (by kernel_rfl) (fun _ _ _ h => h) (by kernel_rfl) (by (intro Y hSw; obtain ⟨X1, X2, X3⟩ := A.below hSw P0; go_simp)) (by assumption) ?_
    simp only [List.set_cons_zero, List.set_cons_succ]
    refine takeW 4 7 (.int .i64 (O.length : Int)) rfl rfl (by kernel_rfl) (by kernel_rfl) (by kernel_rfl) (fun _ _ _ h => h) (by kernel_rfl) (by (intro Y hSw; go_simp)) (by assumption) ?_
    simp only [List.set_cons_zero, List.set_cons_succ]
    refine takeW 5 8 (.bool true) rfl rfl (by kernel_rfl) (by kernel_rfl) (by kernel_rfl) (fun _ _ _ h => h) (by kernel_rfl) (by (intro Y hSw; go_simp; try omega)) (by assumption) ?_
    simp only [List.set_cons_zero, List.set_cons_succ]
    refine takeW 6 9 (.bool true) rfl rfl (by kernel_rfl) (by kernel_rfl) (by kernel_rfl) (fun _ _ _ h => h) (by kernel_rfl) (by (intro w hSw; go_simp)) (by assumption) ?_
    simp only [List.set_cons_zero, List.set_cons_succ]
    refine takeW 7 10 (.pointer (some ⟨P, 0, none⟩)) rfl rfl (by kernel_rfl) (by kernel_rfl) (by kernel_rfl) (fun _ _ _ h => h) (by kernel_rfl) (by (intro w hSw; go_simp)) (by assumption) ?_
    simp only [List.set_cons_zero, List.set_cons_succ]
    refine takeW 8 11 (.pointer (some ⟨P, 0, none⟩)) rfl rfl (by kernel_rfl) (by kernel_rfl) (by kernel_rfl) (fun _ _ _ h => h) (by kernel_rfl) (by (intro w hSw; go_simp)) (by assumption) ?_
    simp only [List.set_cons_zero, List.set_cons_succ]
    refine takeW 9 12 (.pointer (some ⟨P, 0, none⟩)) rfl rfl (by kernel_rfl) (by kernel_rfl) (by kernel_rfl) (fun _ _ _ h => h) (by kernel_rfl) (by (intro w hSw; go_simp)) (by assumption) ?_
    simp only [List.set_cons_zero, List.set_cons_succ]
    refine takeW 10 13 (.slice adO O.length cO) rfl rfl (by kernel_rfl) (by kernel_rfl) (by kernel_rfl) (fun _ _ _ h => h) (by kernel_rfl) (by (intro Y hSw; obtain ⟨X1, X2, X3⟩ := A.below hSw P0; go_simp)) (by assumption) ?_
    simp only [List.set_cons_zero, List.set_cons_succ]
    refine takeW 11 14 (.int .i64 (O.length : Int)) rfl rfl (by kernel_rfl) (by kernel_rfl) (by kernel_rfl) (fun _ _ _ h => h) (by kernel_rfl) (by (intro Y hSw; go_simp)) (by assumption) ?_
    simp only [List.set_cons_zero, List.set_cons_succ]
    refine takeW 12 15 (.bool false) rfl rfl (by kernel_rfl) (by kernel_rfl) (by kernel_rfl) (fun _ _ _ h => h) (by kernel_rfl) (by (intro Y hSw; go_simp; try omega)) (by assumption) ?_
    simp only [List.set_cons_zero, List.set_cons_succ]
    refine takeW 13 16 (.bool false) rfl rfl (by kernel_rfl) (by kernel_rfl) (by kernel_rfl) (fun _ _ _ h => h) (by kernel_rfl) (by (intro w hSw; go_simp)) (by assumption) ?_
    simp only [List.set_cons_zero, List.set_cons_succ]
    refine takeW 14 17 (.bool false) rfl rfl (by kernel_rfl) (by kernel_rfl) (by kernel_rfl) (fun _ _ _ h => h) (by kernel_rfl) (by (intro w hSw; go_simp)) (by assumption) ?_
    simp only [List.set_cons_zero, List.set_cons_succ]
    refine takeS 15 18 rfl rfl (by kernel_rfl) (by kernel_rfl) (by kernel_rfl) (fun _ _ _ h => h) (by kernel_rfl) (by assumption) ?_
    simp only [List.set_cons_zero, List.set_cons_succ]
    refine takeS 16 19 rfl rfl (by kernel_rfl) (by kernel_rfl) (by kernel_rfl) (fun _ _ _ h => h) (by kernel_rfl) (by assumption) ?_
    simp only [List.set_cons_zero, List.set_cons_succ]
    refine takeS 17 20 rfl rfl (by kernel_rfl) (by kernel_rfl) (by kernel_rfl) (fun _ _ _ h => h) (by kernel_rfl) (by assumption) ?_
    simp only [List.set_cons_zero, List.set_cons_succ]
    refine takeS 18 21 rfl rfl (by kernel_rfl) (by kernel_rfl) (by kernel_rfl) (fun _ _ _ h => h) (by kernel_rfl) (by assumption) ?_
    simp only [List.set_cons_zero, List.set_cons_succ]
    refine takeS 19 22 rfl rfl (by kernel_rfl) (by kernel_rfl) (by kernel_rfl) (fun _ _ _ h => h) (by kernel_rfl) (by assumption) ?_
    simp only [List.set_cons_zero, List.set_cons_succ]
    refine takeS 20 23 rfl rfl (by kernel_rfl) (by kernel_rfl) (by kernel_rfl) (fun _ _ _ h => h) (by kernel_rfl) (by assumption) ?_
    simp only [List.set_cons_zero, List.set_cons_succ]
    refine takeS 21 24 rfl rfl (by kernel_rfl) (by kernel_rfl) (by kernel_rfl) (fun _ _ _ h => h) (by kernel_rfl) (by assumption) ?_
    simp only [List.set_cons_zero, List.set_cons_succ]
    refine takeS 22 25 rfl rfl (by kernel_rfl) (by kernel_rfl) (by kernel_rfl) (fun _ _ _ h => h) (by kernel_rfl) (by assumption) ?_
    simp only [List.set_cons_zero, List.set_cons_succ]
    refine takeS 23 26 rfl rfl (by kernel_rfl) (by kernel_rfl) (by kernel_rfl) (fun _ _ _ h => h) (by kernel_rfl) (by assumption) ?_
    simp only [List.set_cons_zero, List.set_cons_succ]
    refine takeS 24 27 rfl rfl (by kernel_rfl) (by kernel_rfl) (by kernel_rfl) (fun _ _ _ h => h) (by kernel_rfl) (by assumption) ?_
    simp only [List.set_cons_zero, List.set_cons_succ]
    refine takeS 25 28 rfl rfl (by kernel_rfl) (by kernel_rfl) (by kernel_rfl) (fun _ _ _ h => h) (by kernel_rfl) (by assumption) ?_
    simp only [List.set_cons_zero, List.set_cons_succ]
    refine takeW 26 29 (.bool false) rfl rfl (by kernel_rfl) (by kernel_rfl) (by kernel_rfl) (fun _ _ _ h => h) (by kernel_rfl) (by (intro w hSw; go_simp)) (by assumption) ?_
    simp only [List.set_cons_zero, List.set_cons_succ]
    refine takeW 27 30 (.bool false) rfl rfl (by kernel_rfl) (by kernel_rfl) (by kernel_rfl) (fun _ _ _ h => h) (by kernel_rfl) (by (intro w hSw; go_simp)) (by assumption) ?_
    simp only [List.set_cons_zero, List.set_cons_succ]
    refine takeS 28 31 rfl rfl (by kernel_rfl) (by kernel_rfl) (by kernel_rfl) (fun _ _ _ h => h) (by kernel_rfl) (by assumption) ?_
    simp only [List.set_cons_zero, List.set_cons_succ]
    refine takeS 29 32 rfl rfl (by kernel_rfl) (by kernel_rfl) (by kernel_rfl) (fun _ _ _ h => h) (by kernel_rfl) (by assumption) ?_
    simp only [List.set_cons_zero, List.set_cons_succ]
    refine takeS 30 33 rfl rfl (by kernel_rfl) (by kernel_rfl) (by kernel_rfl) (fun _ _ _ h => h) (by kernel_rfl) (by assumption) ?_
    simp only [List.set_cons_zero, List.set_cons_succ]
    refine takeS 31 34 rfl rfl (by kernel_rfl) (by kernel_rfl) (by kernel_rfl) (fun _ _ _ h => h) (by kernel_rfl) (by assumption) ?_
    simp only [List.set_cons_zero, List.set_cons_succ]
    refine takeS 32 35 rfl rfl (by kernel_rfl) (by kernel_rfl) (by kernel_rfl) (fun _ _ _ h => h) (by kernel_rfl) (by assumption) ?_
    simp only [List.set_cons_zero, List.set_cons_succ]
    refine takeS 33 36 rfl rfl (by kernel_rfl) (by kernel_rfl) (by kernel_rfl) (fun _ _ _ h => h) (by kernel_rfl) (by assumption) ?_
    simp only [List.set_cons_zero, List.set_cons_succ]
    refine takeW 34 37 (.bool false) rfl rfl (by kernel_rfl) (by kernel_rfl) (by kernel_rfl) (fun _ _ _ h => h) (by kernel_rfl) (by (intro w hSw; go_simp)) (by assumption) ?_
    simp only [List.set_cons_zero, List.set_cons_succ]
    refine takeW 35 38 (.bool false) rfl rfl (by kernel_rfl) (by kernel_rfl) (by kernel_rfl) (fun _ _ _ h => h) (by kernel_rfl) (by (intro w hSw; go_simp)) (by assumption) ?_
    simp only [List.set_cons_zero, List.set_cons_succ]
    refine takeS 36 39 rfl rfl (by kernel_rfl) (by kernel_rfl) (by kernel_rfl) (fun _ _ _ h => h) (by kernel_rfl) (by assumption) ?_
    simp only [List.set_cons_zero, List.set_cons_succ]
    refine takeS 37 40 rfl rfl (by kernel_rfl) (by kernel_rfl) (by kernel_rfl) (fun _ _ _ h => h) (by kernel_rfl) (by assumption) ?_
    simp only [List.set_cons_zero, List.set_cons_succ]
    refine takeS 38 41 rfl rfl (by kernel_rfl) (by kernel_rfl) (by kernel_rfl) (fun _ _ _ h => h) (by kernel_rfl) (by assumption) ?_
    simp only [List.set_cons_zero, List.set_cons_succ]
    refine takeS 39 42 rfl rfl (by kernel_rfl) (by kernel_rfl) (by kernel_rfl) (fun _ _ _ h => h) (by kernel_rfl) (by assumption) ?_
    simp only [List.set_cons_zero, List.set_cons_succ]
    refine takeS 40 43 rfl rfl (by kernel_rfl) (by kernel_rfl) (by kernel_rfl) (fun _ _ _ h => h) (by kernel_rfl) (by assumption) ?_
    simp only [List.set_cons_zero, List.set_cons_succ]
    refine takeW 41 44 (.bool false) rfl rfl (by kernel_rfl) (by kernel_rfl) (by kernel_rfl) (fun _ _ _ h => h) (by kernel_rfl) (by (intro w hSw; go_simp)) (by assumption) ?_
    simp only [List.set_cons_zero, List.set_cons_succ]
    refine takeW 42 2 (.bool false) rfl rfl (by kernel_rfl) (by kernel_rfl) (by kernel_rfl) (fun _ _ _ h => h) (by kernel_rfl) (by (intro w hSw; go_simp)) (by assumption) ?_
    simp only [List.set_cons_zero, List.set_cons_succ]
    refine wpAnyH_done (by kernel_rfl) ?_ _
    go_wp2
    go_ret
    exact ⟨rfl, hb0⟩
  have d2 : decide ((O.length : Int) ≤ 4) = true := decide_eq_true (by omega)
  by_cases h3 : Ms.length = O.length
  rotate_left
  · have d3 : ((Ms.length : Int) == (O.length : Int)) = false := by simp; omega
    have hC : Hid (cOk O D T = false) := by
      unfold Hid cOk
      rw [decide_eq_false (p := D.length = O.length) (by omega)]; simp
    rw [hC.out]
    clear hC
    go_enter Tryz.func40, Tryz.ntmps40
    go_wp2_with fail
    refine wp_region_held (S := fun Y => Below w.heap.size w Y) (by kernel_rfl) ?_
    change wpAnyH _ _ _ _ _ _ _ _ (World.drew _)
    have hb0 : Below w.heap.size w w.drew := (Below.refl _ _).drew
    refine takeW 0 3 (.pointer (some ⟨P, 0, none⟩)) rfl rfl (by kernel_rfl) (by kernel_rfl) (by kernel_rfl) (fun _ _ _ h => h) (by kernel_rfl) (by (intro w hSw; go_simp)) (by assumption) ?_
    simp only [List.set_cons_zero, List.set_cons_succ]
    refine takeW 1 4 (.pointer (some ⟨P, 0, none⟩)) rfl rfl (by kernel_rfl) (by kernel_rfl) (by kernel_rfl) (fun _ _ _ h => h) (by kernel_rfl) (by (intro w hSw; go_simp)) (by assumption) ?_
    simp only [List.set_cons_zero, List.set_cons_succ]
    refine takeW 2 5 (.pointer (some ⟨P, 0, none⟩)) rfl rfl (by kernel_rfl) (by kernel_rfl) (by kernel_rfl) (fun _ _ _ h => h) (by kernel_rfl) (by (intro w hSw; go_simp)) (by assumption) ?_
    simp only [List.set_cons_zero, List.set_cons_succ]
    refine takeW 3 6 (.slice adO O.length cO) rfl rfl (by kernel_rfl) (by kernel_rfl) (by kernel_rfl) (fun _ _ _ h => h) (by kernel_rfl) (by (intro Y hSw; obtain ⟨X1, X2, X3⟩ := A.below hSw P0; go_simp)) (by assumption) ?_
    simp only [List.set_cons_zero, List.set_cons_succ]
    refine takeW 4 7 (.int .i64 (O.length : Int)) rfl rfl (by kernel_rfl) (by kernel_rfl) (by kernel_rfl) (fun _ _ _ h => h) (by kernel_rfl) (by (intro Y hSw; go_simp)) (by assumption) ?_
    simp only [List.set_cons_zero, List.set_cons_succ]
    refine takeW 5 8 (.bool true) rfl rfl (by kernel_rfl) (by kernel_rfl) (by kernel_rfl) (fun _ _ _ h => h) (by kernel_rfl) (by (intro Y hSw; go_simp; try omega)) (by assumption) ?_
    simp only [List.set_cons_zero, List.set_cons_succ]
    refine takeW 6 9 (.bool true) rfl rfl (by kernel_rfl) (by kernel_rfl) (by kernel_rfl) (fun _ _ _ h => h) (by kernel_rfl) (by (intro w hSw; go_simp)) (by assumption) ?_
    simp only [List.set_cons_zero, List.set_cons_succ]
    refine takeW 7 10 (.pointer (some ⟨P, 0, none⟩)) rfl rfl (by kernel_rfl) (by kernel_rfl) (by kernel_rfl) (fun _ _ _ h => h) (by kernel_rfl) (by (intro w hSw; go_simp)) (by assumption) ?_
    simp only [List.set_cons_zero, List.set_cons_succ]
    refine takeW 8 11 (.pointer (some ⟨P, 0, none⟩)) rfl rfl (by kernel_rfl) (by kernel_rfl) (by kernel_rfl) (fun _ _ _ h => h) (by kernel_rfl) (by (intro w hSw; go_simp)) (by assumption) ?_
    simp only [List.set_cons_zero, List.set_cons_succ]
    refine takeW 9 12 (.pointer (some ⟨P, 0, none⟩)) rfl rfl (by kernel_rfl) (by kernel_rfl) (by kernel_rfl) (fun _ _ _ h => h) (by kernel_rfl) (by (intro w hSw; go_simp)) (by assumption) ?_
    simp only [List.set_cons_zero, List.set_cons_succ]
    refine takeW 10 13 (.slice adO O.length cO) rfl rfl (by kernel_rfl) (by kernel_rfl) (by kernel_rfl) (fun _ _ _ h => h) (by kernel_rfl) (by (intro Y hSw; obtain ⟨X1, X2, X3⟩ := A.below hSw P0; go_simp)) (by assumption) ?_
    simp only [List.set_cons_zero, List.set_cons_succ]
    refine takeW 11 14 (.int .i64 (O.length : Int)) rfl rfl (by kernel_rfl) (by kernel_rfl) (by kernel_rfl) (fun _ _ _ h => h) (by kernel_rfl) (by (intro Y hSw; go_simp)) (by assumption) ?_
    simp only [List.set_cons_zero, List.set_cons_succ]
    refine takeW 12 15 (.bool true) rfl rfl (by kernel_rfl) (by kernel_rfl) (by kernel_rfl) (fun _ _ _ h => h) (by kernel_rfl) (by (intro Y hSw; go_simp; try omega)) (by assumption) ?_
    simp only [List.set_cons_zero, List.set_cons_succ]
    refine takeW 13 16 (.bool true) rfl rfl (by kernel_rfl) (by kernel_rfl) (by kernel_rfl) (fun _ _ _ h => h) (by kernel_rfl) (by (intro w hSw; go_simp)) (by assumption) ?_
    simp only [List.set_cons_zero, List.set_cons_succ]
    refine takeW 14 17 (.bool true) rfl rfl (by kernel_rfl) (by kernel_rfl) (by kernel_rfl) (fun _ _ _ h => h) (by kernel_rfl) (by (intro w hSw; go_simp)) (by assumption) ?_
    simp only [List.set_cons_zero, List.set_cons_succ]
    refine takeW 15 18 (.pointer (some ⟨P, 0, none⟩)) rfl rfl (by kernel_rfl) (by kernel_rfl) (by kernel_rfl) (fun _ _ _ h => h) (by kernel_rfl) (by (intro w hSw; go_simp)) (by assumption) ?_
    simp only [List.set_cons_zero, List.set_cons_succ]
    refine takeW 16 19 (.pointer (some ⟨P, 0, none⟩)) rfl rfl (by kernel_rfl) (by kernel_rfl) (by kernel_rfl) (fun _ _ _ h => h) (by kernel_rfl) (by (intro w hSw; go_simp)) (by assumption) ?_
    simp only [List.set_cons_zero, List.set_cons_succ]
    refine takeW 17 20 (.pointer (some ⟨P, 1, none⟩)) rfl rfl (by kernel_rfl) (by kernel_rfl) (by kernel_rfl) (fun _ _ _ h => h) (by kernel_rfl) (by (intro w hSw; go_simp)) (by assumption) ?_
    simp only [List.set_cons_zero, List.set_cons_succ]
    refine takeW 18 21 (.slice adM Ms.length cM) rfl rfl (by kernel_rfl) (by kernel_rfl) (by kernel_rfl) (fun _ _ _ h => h) (by kernel_rfl) (by (intro Y hSw; obtain ⟨X1, X2, X3⟩ := A.below hSw P0; go_simp)) (by assumption) ?_
    simp only [List.set_cons_zero, List.set_cons_succ]
    refine takeW 19 22 (.int .i64 (Ms.length : Int)) rfl rfl (by kernel_rfl) (by kernel_rfl) (by kernel_rfl) (fun _ _ _ h => h) (by kernel_rfl) (by (intro Y hSw; go_simp)) (by assumption) ?_
    simp only [List.set_cons_zero, List.set_cons_succ]
    refine takeW 20 23 (.pointer (some ⟨P, 0, none⟩)) rfl rfl (by kernel_rfl) (by kernel_rfl) (by kernel_rfl) (fun _ _ _ h => h) (by kernel_rfl) (by (intro w hSw; go_simp)) (by assumption) ?_
    simp only [List.set_cons_zero, List.set_cons_succ]
    refine takeW 21 24 (.pointer (some ⟨P, 0, none⟩)) rfl rfl (by kernel_rfl) (by kernel_rfl) (by kernel_rfl) (fun _ _ _ h => h) (by kernel_rfl) (by (intro w hSw; go_simp)) (by assumption) ?_
    simp only [List.set_cons_zero, List.set_cons_succ]
    refine takeW 22 25 (.pointer (some ⟨P, 0, none⟩)) rfl rfl (by kernel_rfl) (by kernel_rfl) (by kernel_rfl) (fun _ _ _ h => h) (by kernel_rfl) (by (intro w hSw; go_simp)) (by assumption) ?_
    simp only [List.set_cons_zero, List.set_cons_succ]
    refine takeW 23 26 (.slice adO O.length cO) rfl rfl (by kernel_rfl) (by kernel_rfl) (by kernel_rfl) (fun _ _ _ h => h) (by kernel_rfl) (by (intro Y hSw; obtain ⟨X1, X2, X3⟩ := A.below hSw P0; go_simp)) (by assumption) ?_
    simp only [List.set_cons_zero, List.set_cons_succ]
    refine takeW 24 27 (.int .i64 (O.length : Int)) rfl rfl (by kernel_rfl) (by kernel_rfl) (by kernel_rfl) (fun _ _ _ h => h) (by kernel_rfl) (by (intro Y hSw; go_simp)) (by assumption) ?_
    simp only [List.set_cons_zero, List.set_cons_succ]
    refine takeW 25 28 (.bool false) rfl rfl (by kernel_rfl) (by kernel_rfl) (by kernel_rfl) (fun _ _ _ h => h) (by kernel_rfl) (by (intro Y hSw; go_simp; try omega)) (by assumption) ?_
    simp only [List.set_cons_zero, List.set_cons_succ]
    refine takeW 26 29 (.bool false) rfl rfl (by kernel_rfl) (by kernel_rfl) (by kernel_rfl) (fun _ _ _ h => h) (by kernel_rfl) (by (intro w hSw; go_simp)) (by assumption) ?_
    simp only [List.set_cons_zero, List.set_cons_succ]
    refine takeW 27 30 (.bool false) rfl rfl (by kernel_rfl) (by kernel_rfl) (by kernel_rfl) (fun _ _ _ h => h) (by kernel_rfl) (by (intro w hSw; go_simp)) (by assumption) ?_
    simp only [List.set_cons_zero, List.set_cons_succ]
    refine takeS 28 31 rfl rfl (by kernel_rfl) (by kernel_rfl) (by kernel_rfl) (fun _ _ _ h => h) (by kernel_rfl) (by assumption) ?_
    simp only [List.set_cons_zero, List.set_cons_succ]
    refine takeS 29 32 rfl rfl (by kernel_rfl) (by kernel_rfl) (by kernel_rfl) (fun _ _ _ h => h) (by kernel_rfl) (by assumption) ?_
    simp only [List.set_cons_zero, List.set_cons_succ]
    refine takeS 30 33 rfl rfl (by kernel_rfl) (by kernel_rfl) (by kernel_rfl) (fun _ _ _ h => h) (by kernel_rfl) (by assumption) ?_
    simp only [List.set_cons_zero, List.set_cons_succ]
    refine takeS 31 34 rfl rfl (by kernel_rfl) (by kernel_rfl) (by kernel_rfl) (fun _ _ _ h => h) (by kernel_rfl) (by assumption) ?_
    simp only [List.set_cons_zero, List.set_cons_succ]
    refine takeS 32 35 rfl rfl (by kernel_rfl) (by kernel_rfl) (by kernel_rfl) (fun _ _ _ h => h) (by kernel_rfl) (by assumption) ?_
    simp only [List.set_cons_zero, List.set_cons_succ]
    refine takeS 33 36 rfl rfl (by kernel_rfl) (by kernel_rfl) (by kernel_rfl) (fun _ _ _ h => h) (by kernel_rfl) (by assumption) ?_
    simp only [List.set_cons_zero, List.set_cons_succ]
    refine takeW 34 37 (.bool false) rfl rfl (by kernel_rfl) (by kernel_rfl) (by kernel_rfl) (fun _ _ _ h => h) (by kernel_rfl) (by (intro w hSw; go_simp)) (by assumption) ?_
    simp only [List.set_cons_zero, List.set_cons_succ]
    refine takeW 35 38 (.bool false) rfl rfl (by kernel_rfl) (by kernel_rfl) (by kernel_rfl) (fun _ _ _ h => h) (by kernel_rfl) (by (intro w hSw; go_simp)) (by assumption) ?_
    simp only [List.set_cons_zero, List.set_cons_succ]
    refine takeS 36 39 rfl rfl (by kernel_rfl) (by kernel_rfl) (by kernel_rfl) (fun _ _ _ h => h) (by kernel_rfl) (by assumption) ?_
    simp only [List.set_cons_zero, List.set_cons_succ]
    refine takeS 37 40 rfl rfl (by kernel_rfl) (by kernel_rfl) (by kernel_rfl) (fun _ _ _ h => h) (by kernel_rfl) (by assumption) ?_
    simp only [List.set_cons_zero, List.set_cons_succ]
    refine takeS 38 41 rfl rfl (by kernel_rfl) (by kernel_rfl) (by kernel_rfl) (fun _ _ _ h => h) (by kernel_rfl) (by assumption) ?_
    simp only [List.set_cons_zero, List.set_cons_succ]
    refine takeS 39 42 rfl rfl (by kernel_rfl) (by kernel_rfl) (by kernel_rfl) (fun _ _ _ h => h) (by kernel_rfl) (by assumption) ?_
    simp only [List.set_cons_zero, List.set_cons_succ]
    refine takeS 40 43 rfl rfl (by kernel_rfl) (by kernel_rfl) (by kernel_rfl) (fun _ _ _ h => h) (by kernel_rfl) (by assumption) ?_
    simp only [List.set_cons_zero, List.set_cons_succ]
    refine takeW 41 44 (.bool false) rfl rfl (by kernel_rfl) (by kernel_rfl) (by kernel_rfl) (fun _ _ _ h => h) (by kernel_rfl) (by (intro w hSw; go_simp)) (by assumption) ?_
    simp only [List.set_cons_zero, List.set_cons_succ]
    refine takeW 42 2 (.bool false) rfl rfl (by kernel_rfl) (by kernel_rfl) (by kernel_rfl) (fun _ _ _ h => h) (by kernel_rfl) (by (intro w hSw; go_simp)) (by assumption) ?_
    simp only [List.set_cons_zero, List.set_cons_succ]
    refine wpAnyH_done (by kernel_rfl) ?_ _
    go_wp2
    go_ret
    exact ⟨rfl, hb0⟩
  have d3 : ((Ms.length : Int) == (O.length : Int)) = true := by simp; omega
  have h3' : Hid (D.length = O.length) := hlen.trans h3
  clear h3
  by_cases hq : D.all okMem = true
  rotate_left
  · have hq : D.all okMem = false := by simpa using hq
    have hC : Hid (cOk O D T = false) := by
      unfold Hid cOk
      rw [hq]; simp
    rw [hC.out]
    clear hC
    go_enter Tryz.func40, Tryz.ntmps40
    go_wp2_with fail
    refine wp_region_held (S := fun Y => Below w.heap.size w Y) (by kernel_rfl) ?_
    change wpAnyH _ _ _ _ _ _ _ _ (World.drew _)
    have hb0 : Below w.heap.size w w.drew := (Below.refl _ _).drew
    refine takeW 0 3 (.pointer (some ⟨P, 0, none⟩)) rfl rfl (by kernel_rfl) (by kernel_rfl) (by kernel_rfl) (fun _ _ _ h => h) (by kernel_rfl) (by (intro w hSw; go_simp)) (by assumption) ?_
    simp only [List.set_cons_zero, List.set_cons_succ]
    refine takeW 1 4 (.pointer (some ⟨P, 0, none⟩)) rfl rfl (by kernel_rfl) (by kernel_rfl) (by kernel_rfl) (fun _ _ _ h => h) (by kernel_rfl) (by (intro w hSw; go_simp)) (by assumption) ?_
    simp only [List.set_cons_zero, List.set_cons_succ]
    refine takeW 2 5 (.pointer (some ⟨P, 0, none⟩)) rfl rfl (by kernel_rfl) (by kernel_rfl) (by kernel_rfl) (fun _ _ _ h => h) (by kernel_rfl) (by (intro w hSw; go_simp)) (by assumption) ?_
    simp only [List.set_cons_zero, List.set_cons_succ]
    refine takeW 3 6 (.slice adO O.length cO) rfl rfl (by kernel_rfl) (by kernel_rfl) (by kernel_rfl) (fun _ _ _ h => h) (by kernel_rfl) (by (intro Y hSw; obtain ⟨X1, X2, X3⟩ := A.below hSw P0; go_simp)) (by assumption) ?_
    simp only [List.set_cons_zero, List.set_cons_succ]
    refine takeW 4 7 (.int .i64 (O.length : Int)) rfl rfl (by kernel_rfl) (by kernel_rfl) (by kernel_rfl) (fun _ _ _ h => h) (by kernel_rfl) (by (intro Y hSw; go_simp)) (by assumption) ?_
    simp only [List.set_cons_zero, List.set_cons_succ]
    refine takeW 5 8 (.bool true) rfl rfl (by kernel_rfl) (by kernel_rfl) (by kernel_rfl) (fun _ _ _ h => h) (by kernel_rfl) (by (intro Y hSw; go_simp; try omega)) (by assumption) ?_
    simp only [List.set_cons_zero, List.set_cons_succ]
    refine takeW 6 9 (.bool true) rfl rfl (by kernel_rfl) (by kernel_rfl) (by kernel_rfl) (fun _ _ _ h => h) (by kernel_rfl) (by (intro w hSw; go_simp)) (by assumption) ?_
    simp only [List.set_cons_zero, List.set_cons_succ]
    refine takeW 7 10 (.pointer (some ⟨P, 0, none⟩)) rfl rfl (by kernel_rfl) (by kernel_rfl) (by kernel_rfl) (fun _ _ _ h => h) (by kernel_rfl) (by (intro w hSw; go_simp)) (by assumption) ?_
    simp only [List.set_cons_zero, List.set_cons_succ]
    refine takeW 8 11 (.pointer (some ⟨P, 0, none⟩)) rfl rfl (by kernel_rfl) (by kernel_rfl) (by kernel_rfl) (fun _ _ _ h => h) (by kernel_rfl) (by (intro w hSw; go_simp)) (by assumption) ?_
    simp only [List.set_cons_zero, List.set_cons_succ]
    refine takeW 9 12 (.pointer (some ⟨P, 0, none⟩)) rfl rfl (by kernel_rfl) (by kernel_rfl) (by kernel_rfl) (fun _ _ _ h => h) (by kernel_rfl) (by (intro w hSw; go_simp)) (by assumption) ?_
    simp only [List.set_cons_zero, List.set_cons_succ]
    refine takeW 10 13 (.slice adO O.length cO) rfl rfl (by kernel_rfl) (by kernel_rfl) (by kernel_rfl) (fun _ _ _ h => h) (by kernel_rfl) (by (intro Y hSw; obtain ⟨X1, X2, X3⟩ := A.below hSw P0; go_simp)) (by assumption) ?_
    simp only [List.set_cons_zero, List.set_cons_succ]
    refine takeW 11 14 (.int .i64 (O.length : Int)) rfl rfl (by kernel_rfl) (by kernel_rfl) (by kernel_rfl) (fun _ _ _ h => h) (by kernel_rfl) (by (intro Y hSw; go_simp)) (by assumption) ?_
    simp only [List.set_cons_zero, List.set_cons_succ]
    refine takeW 12 15 (.bool true) rfl rfl (by kernel_rfl) (by kernel_rfl) (by kernel_rfl) (fun _ _ _ h => h) (by kernel_rfl) (by (intro Y hSw; go_simp; try omega)) (by assumption) ?_
    simp only [List.set_cons_zero, List.set_cons_succ]
    refine takeW 13 16 (.bool true) rfl rfl (by kernel_rfl) (by kernel_rfl) (by kernel_rfl) (fun _ _ _ h => h) (by kernel_rfl) (by (intro w hSw; go_simp)) (by assumption) ?_
    simp only [List.set_cons_zero, List.set_cons_succ]
    refine takeW 14 17 (.bool true) rfl rfl (by kernel_rfl) (by kernel_rfl) (by kernel_rfl) (fun _ _ _ h => h) (by kernel_rfl) (by (intro w hSw; go_simp)) (by assumption) ?_
    simp only [List.set_cons_zero, List.set_cons_succ]
    refine takeW 15 18 (.pointer (some ⟨P, 0, none⟩)) rfl rfl (by kernel_rfl) (by kernel_rfl) (by kernel_rfl) (fun _ _ _ h => h) (by kernel_rfl) (by (intro w hSw; go_simp)) (by assumption) ?_
    simp only [List.set_cons_zero, List.set_cons_succ]
    refine takeW 16 19 (.pointer (some ⟨P, 0, none⟩)) rfl rfl (by kernel_rfl) (by kernel_rfl) (by kernel_rfl) (fun _ _ _ h => h) (by kernel_rfl) (by (intro w hSw; go_simp)) (by assumption) ?_
    simp only [List.set_cons_zero, List.set_cons_succ]
    refine takeW 17 20 (.pointer (some ⟨P, 1, none⟩)) rfl rfl (by kernel_rfl) (by kernel_rfl) (by kernel_rfl) (fun _ _ _ h => h) (by kernel_rfl) (by (intro w hSw; go_simp)) (by assumption) ?_
    simp only [List.set_cons_zero, List.set_cons_succ]
    refine takeW 18 21 (.slice adM Ms.length cM) rfl rfl (by kernel_rfl) (by kernel_rfl) (by kernel_rfl) (fun _ _ _ h => h) (by kernel_rfl) (by (intro Y hSw; obtain ⟨X1, X2, X3⟩ := A.below hSw P0; go_simp)) (by assumption) ?_
    simp only [List.set_cons_zero, List.set_cons_succ]
    refine takeW 19 22 (.int .i64 (Ms.length : Int)) rfl rfl (by kernel_rfl) (by kernel_rfl) (by kernel_rfl) (fun _ _ _ h => h) (by kernel_rfl) (by (intro Y hSw; go_simp)) (by assumption) ?_
    simp only [List.set_cons_zero, List.set_cons_succ]
    refine takeW 20 23 (.pointer (some ⟨P, 0, none⟩)) rfl rfl (by kernel_rfl) (by kernel_rfl) (by kernel_rfl) (fun _ _ _ h => h) (by kernel_rfl) (by (intro w hSw; go_simp)) (by assumption) ?_
    simp only [List.set_cons_zero, List.set_cons_succ]
    refine takeW 21 24 (.pointer (some ⟨P, 0, none⟩)) rfl rfl (by kernel_rfl) (by kernel_rfl) (by kernel_rfl) (fun _ _ _ h => h) (by kernel_rfl) (by (intro w hSw; go_simp)) (by assumption) ?_
    simp only [List.set_cons_zero, List.set_cons_succ]
    refine takeW 22 25 (.pointer (some ⟨P, 0, none⟩)) rfl rfl (by kernel_rfl) (by kernel_rfl) (by kernel_rfl) (fun _ _ _ h => h) (by kernel_rfl) (by (intro w hSw; go_simp)) (by assumption) ?_
    simp only [List.set_cons_zero, List.set_cons_succ]
    refine takeW 23 26 (.slice adO O.length cO) rfl rfl (by kernel_rfl) (by kernel_rfl) (by kernel_rfl) (fun _ _ _ h => h) (by kernel_rfl) (by (intro Y hSw; obtain ⟨X1, X2, X3⟩ := A.below hSw P0; go_simp)) (by assumption) ?_
    simp only [List.set_cons_zero, List.set_cons_succ]
    refine takeW 24 27 (.int .i64 (O.length : Int)) rfl rfl (by kernel_rfl) (by kernel_rfl) (by kernel_rfl) (fun _ _ _ h => h) (by kernel_rfl) (by (intro Y hSw; go_simp)) (by assumption) ?_
    simp only [List.set_cons_zero, List.set_cons_succ]
    refine takeW 25 28 (.bool true) rfl rfl (by kernel_rfl) (by kernel_rfl) (by kernel_rfl) (fun _ _ _ h => h) (by kernel_rfl) (by (intro Y hSw; go_simp; try omega)) (by assumption) ?_
    simp only [List.set_cons_zero, List.set_cons_succ]
    refine takeW 26 29 (.bool true) rfl rfl (by kernel_rfl) (by kernel_rfl) (by kernel_rfl) (fun _ _ _ h => h) (by kernel_rfl) (by (intro w hSw; go_simp)) (by assumption) ?_
    simp only [List.set_cons_zero, List.set_cons_succ]
    refine takeW 27 30 (.bool true) rfl rfl (by kernel_rfl) (by kernel_rfl) (by kernel_rfl) (fun _ _ _ h => h) (by kernel_rfl) (by (intro w hSw; go_simp)) (by assumption) ?_
    simp only [List.set_cons_zero, List.set_cons_succ]
    refine takeW 28 31 (.pointer (some ⟨P, 0, none⟩)) rfl rfl (by kernel_rfl) (by kernel_rfl) (by kernel_rfl) (fun _ _ _ h => h) (by kernel_rfl) (by (intro w hSw; go_simp)) (by assumption) ?_
    simp only [List.set_cons_zero, List.set_cons_succ]
    refine takeW 29 32 (.pointer (some ⟨P, 0, none⟩)) rfl rfl (by kernel_rfl) (by kernel_rfl) (by kernel_rfl) (fun _ _ _ h => h) (by kernel_rfl) (by (intro w hSw; go_simp)) (by assumption) ?_
    simp only [List.set_cons_zero, List.set_cons_succ]
    refine takeW 30 33 (.pointer (some ⟨P, 1, none⟩)) rfl rfl (by kernel_rfl) (by kernel_rfl) (by kernel_rfl) (fun _ _ _ h => h) (by kernel_rfl) (by (intro w hSw; go_simp)) (by assumption) ?_
    simp only [List.set_cons_zero, List.set_cons_succ]
    refine takeW 31 34 (.slice adM Ms.length cM) rfl rfl (by kernel_rfl) (by kernel_rfl) (by kernel_rfl) (fun _ _ _ h => h) (by kernel_rfl) (by (intro Y hSw; obtain ⟨X1, X2, X3⟩ := A.below hSw P0; go_simp)) (by assumption) ?_
    simp only [List.set_cons_zero, List.set_cons_succ]
    refine wpAnyH_all (rs := [32]) (by kernel_rfl) (by simp) ?_
    intro i hi; obtain rfl : i = 32 := by simpa using hi
    refine wpOp_step rfl (fun K hK => ?_)
    rw [if_pos (by kernel_rfl)]
    go_simp
    go_at_call 91
    have hct := contF adM cM Ms w.drew (vM.below hb0 (Nat.le_refl _)) hm2 hmx
    rw [hD, hq] at hct
    refine hct.mono ?_
    rintro e y1 ⟨rfl, j1⟩
    clear hct
    have hb1 : Below w.heap.size w y1 := hb0.trans (j1.mono hb0.size)
    skip
    refine hK _ _ ⟨hb1, ?_⟩
    clear hK K hi
    refine takeW 33 36 (.bool false) rfl rfl (by kernel_rfl) (by kernel_rfl) (by kernel_rfl) (fun _ _ _ h => h) (by kernel_rfl) (by (intro w hSw; go_simp)) (by assumption) ?_
    simp only [List.set_cons_zero, List.set_cons_succ]
    refine takeW 34 37 (.bool false) rfl rfl (by kernel_rfl) (by kernel_rfl) (by kernel_rfl) (fun _ _ _ h => h) (by kernel_rfl) (by (intro w hSw; go_simp)) (by assumption) ?_
    simp only [List.set_cons_zero, List.set_cons_succ]
    refine takeW 35 38 (.bool false) rfl rfl (by kernel_rfl) (by kernel_rfl) (by kernel_rfl) (fun _ _ _ h => h) (by kernel_rfl) (by (intro w hSw; go_simp)) (by assumption) ?_
    simp only [List.set_cons_zero, List.set_cons_succ]
    refine takeS 36 39 rfl rfl (by kernel_rfl) (by kernel_rfl) (by kernel_rfl) (fun _ _ _ h => h) (by kernel_rfl) (by assumption) ?_
    simp only [List.set_cons_zero, List.set_cons_succ]
    refine takeS 37 40 rfl rfl (by kernel_rfl) (by kernel_rfl) (by kernel_rfl) (fun _ _ _ h => h) (by kernel_rfl) (by assumption) ?_
    simp only [List.set_cons_zero, List.set_cons_succ]
    refine takeS 38 41 rfl rfl (by kernel_rfl) (by kernel_rfl) (by kernel_rfl) (fun _ _ _ h => h) (by kernel_rfl) (by assumption) ?_
    simp only [List.set_cons_zero, List.set_cons_succ]
    refine takeS 39 42 rfl rfl (by kernel_rfl) (by kernel_rfl) (by kernel_rfl) (fun _ _ _ h => h) (by kernel_rfl) (by assumption) ?_
    simp only [List.set_cons_zero, List.set_cons_succ]
    refine takeS 40 43 rfl rfl (by kernel_rfl) (by kernel_rfl) (by kernel_rfl) (fun _ _ _ h => h) (by kernel_rfl) (by assumption) ?_
    simp only [List.set_cons_zero, List.set_cons_succ]
    refine takeW 41 44 (.bool false) rfl rfl (by kernel_rfl) (by kernel_rfl) (by kernel_rfl) (fun _ _ _ h => h) (by kernel_rfl) (by (intro w hSw; go_simp)) (by assumption) ?_
    simp only [List.set_cons_zero, List.set_cons_succ]
    refine takeW 42 2 (.bool false) rfl rfl (by kernel_rfl) (by kernel_rfl) (by kernel_rfl) (fun _ _ _ h => h) (by kernel_rfl) (by (intro w hSw; go_simp)) (by assumption) ?_
    simp only [List.set_cons_zero, List.set_cons_succ]
    refine wpAnyH_done (by kernel_rfl) ?_ _
    go_wp2
    go_ret
    exact ⟨rfl, hb1⟩
  have hC : Hid (cOk O D T = tokB T) := by
    unfold Hid cOk
    rw [decide_eq_true h1, decide_eq_true h2, decide_eq_true (p := D.length = O.length) h3'.out, hq]; simp
  rw [hC.out]
  clear hC
  go_enter Tryz.func40, Tryz.ntmps40
  go_wp2_with fail
  refine wp_region_held (S := fun Y => Below w.heap.size w Y) (by kernel_rfl) ?_
  change wpAnyH _ _ _ _ _ _ _ _ (World.drew _)
  have hb0 : Below w.heap.size w w.drew := (Below.refl _ _).drew
  refine takeW 0 3 (.pointer (some ⟨P, 0, none⟩)) rfl rfl (by kernel_rfl) (by kernel_rfl) (by kernel_rfl) (fun _ _ _ h => h) (by kernel_rfl) (by (intro w hSw; go_simp)) (by assumption) ?_
  simp only [List.set_cons_zero, List.set_cons_succ]
  refine takeW 1 4 (.pointer (some ⟨P, 0, none⟩)) rfl rfl (by kernel_rfl) (by kernel_rfl) (by kernel_rfl) (fun _ _ _ h => h) (by kernel_rfl) (by (intro w hSw; go_simp)) (by assumption) ?_
  simp only [List.set_cons_zero, List.set_cons_succ]
  refine takeW 2 5 (.pointer (some ⟨P, 0, none⟩)) rfl rfl (by kernel_rfl) (by kernel_rfl) (by kernel_rfl) (fun _ _ _ h => h) (by kernel_rfl) (by (intro w hSw; go_simp)) (by assumption) ?_
  simp only [List.set_cons_zero, List.set_cons_succ]
  refine takeW 3 6 (.slice adO O.length cO) rfl rfl (by kernel_rfl) (by kernel_rfl) (by kernel_rfl) (fun _ _ _ h => h) (by kernel_rfl) (by (intro Y hSw; obtain ⟨X1, X2, X3⟩ := A.below hSw P0; go_simp)) (by assumption) ?_
  simp only [List.set_cons_zero, List.set_cons_succ]
  refine takeW 4 7 (.int .i64 (O.length : Int)) rfl rfl (by kernel_rfl) (by kernel_rfl) (by kernel_rfl) (fun _ _ _ h => h) (by kernel_rfl) (by (intro Y hSw; go_simp)) (by assumption) ?_
  simp only [List.set_cons_zero, List.set_cons_succ]
  refine takeW 5 8 (.bool true) rfl rfl (by kernel_rfl) (by kernel_rfl) (by kernel_rfl) (fun _ _ _ h => h) (by kernel_rfl) (by (intro Y hSw; go_simp; try omega)) (by assumption) ?_
  simp only [List.set_cons_zero, List.set_cons_succ]
  refine takeW 6 9 (.bool true) rfl rfl (by kernel_rfl) (by kernel_rfl) (by kernel_rfl) (fun _ _ _ h => h) (by kernel_rfl) (by (intro w hSw; go_simp)) (by assumption) ?_
  simp only [List.set_cons_zero, List.set_cons_succ]
  refine takeW 7 10 (.pointer (some ⟨P, 0, none⟩)) rfl rfl (by kernel_rfl) (by kernel_rfl) (by kernel_rfl) (fun _ _ _ h => h) (by kernel_rfl) (by (intro w hSw; go_simp)) (by assumption) ?_
  simp only [List.set_cons_zero, List.set_cons_succ]
  refine takeW 8 11 (.pointer (some ⟨P, 0, none⟩)) rfl rfl (by kernel_rfl) (by kernel_rfl) (by kernel_rfl) (fun _ _ _ h => h) (by kernel_rfl) (by (intro w hSw; go_simp)) (by assumption) ?_
  simp only [List.set_cons_zero, List.set_cons_succ]
  refine takeW 9 12 (.pointer (some ⟨P, 0, none⟩)) rfl rfl (by kernel_rfl) (by kernel_rfl) (by kernel_rfl) (fun _ _ _ h => h) (by kernel_rfl) (by (intro w hSw; go_simp)) (by assumption) ?_
  simp only [List.set_cons_zero, List.set_cons_succ]
  refine takeW 10 13 (.slice adO O.length cO) rfl rfl (by kernel_rfl) (by kernel_rfl) (by kernel_rfl) (fun _ _ _ h => h) (by kernel_rfl) (by (intro Y hSw; obtain ⟨X1, X2, X3⟩ := A.below hSw P0; go_simp)) (by assumption) ?_
  simp only [List.set_cons_zero, List.set_cons_succ]
  refine takeW 11 14 (.int .i64 (O.length : Int)) rfl rfl (by kernel_rfl) (by kernel_rfl) (by kernel_rfl) (fun _ _ _ h => h) (by kernel_rfl) (by (intro Y hSw; go_simp)) (by assumption) ?_
  simp only [List.set_cons_zero, List.set_cons_succ]
  refine takeW 12 15 (.bool true) rfl rfl (by kernel_rfl) (by kernel_rfl) (by kernel_rfl) (fun _ _ _ h => h) (by kernel_rfl) (by (intro Y hSw; go_simp; try omega)) (by assumption) ?_
  simp only [List.set_cons_zero, List.set_cons_succ]
  refine takeW 13 16 (.bool true) rfl rfl (by kernel_rfl) (by kernel_rfl) (by kernel_rfl) (fun _ _ _ h => h) (by kernel_rfl) (by (intro w hSw; go_simp)) (by assumption) ?_
  simp only [List.set_cons_zero, List.set_cons_succ]
  refine takeW 14 17 (.bool true) rfl rfl (by kernel_rfl) (by kernel_rfl) (by kernel_rfl) (fun _ _ _ h => h) (by kernel_rfl) (by (intro w hSw; go_simp)) (by assumption) ?_
  simp only [List.set_cons_zero, List.set_cons_succ]
  refine takeW 15 18 (.pointer (some ⟨P, 0, none⟩)) rfl rfl (by kernel_rfl) (by kernel_rfl) (by kernel_rfl) (fun _ _ _ h => h) (by kernel_rfl) (by (intro w hSw; go_simp)) (by assumption) ?_
  simp only [List.set_cons_zero, List.set_cons_succ]
  refine takeW 16 19 (.pointer (some ⟨P, 0, none⟩)) rfl rfl (by kernel_rfl) (by kernel_rfl) (by kernel_rfl) (fun _ _ _ h => h) (by kernel_rfl) (by (intro w hSw; go_simp)) (by assumption) ?_
  simp only [List.set_cons_zero, List.set_cons_succ]
  refine takeW 17 20 (.pointer (some ⟨P, 1, none⟩)) rfl rfl (by kernel_rfl) (by kernel_rfl) (by kernel_rfl) (fun _ _ _ h => h) (by kernel_rfl) (by (intro w hSw; go_simp)) (by assumption) ?_
  simp only [List.set_cons_zero, List.set_cons_succ]
  refine takeW 18 21 (.slice adM Ms.length cM) rfl rfl (by kernel_rfl) (by kernel_rfl) (by kernel_rfl) (fun _ _ _ h => h) (by kernel_rfl) (by (intro Y hSw; obtain ⟨X1, X2, X3⟩ := A.below hSw P0; go_simp)) (by assumption) ?_
  simp only [List.set_cons_zero, List.set_cons_succ]
  refine takeW 19 22 (.int .i64 (Ms.length : Int)) rfl rfl (by kernel_rfl) (by kernel_rfl) (by kernel_rfl) (fun _ _ _ h => h) (by kernel_rfl) (by (intro Y hSw; go_simp)) (by assumption) ?_
  simp only [List.set_cons_zero, List.set_cons_succ]
  refine takeW 20 23 (.pointer (some ⟨P, 0, none⟩)) rfl rfl (by kernel_rfl) (by kernel_rfl) (by kernel_rfl) (fun _ _ _ h => h) (by kernel_rfl) (by (intro w hSw; go_simp)) (by assumption) ?_
  simp only [List.set_cons_zero, List.set_cons_succ]
  refine takeW 21 24 (.pointer (some ⟨P, 0, none⟩)) rfl rfl (by kernel_rfl) (by kernel_rfl) (by kernel_rfl) (fun _ _ _ h => h) (by kernel_rfl) (by (intro w hSw; go_simp)) (by assumption) ?_
  simp only [List.set_cons_zero, List.set_cons_succ]
  refine takeW 22 25 (.pointer (some ⟨P, 0, none⟩)) rfl rfl (by kernel_rfl) (by kernel_rfl) (by kernel_rfl) (fun _ _ _ h => h) (by kernel_rfl) (by (intro w hSw; go_simp)) (by assumption) ?_
  simp only [List.set_cons_zero, List.set_cons_succ]
  refine takeW 23 26 (.slice adO O.length cO) rfl rfl (by kernel_rfl) (by kernel_rfl) (by kernel_rfl) (fun _ _ _ h => h) (by kernel_rfl) (by (intro Y hSw; obtain ⟨X1, X2, X3⟩ := A.below hSw P0; go_simp)) (by assumption) ?_
  simp only [List.set_cons_zero, List.set_cons_succ]
  refine takeW 24 27 (.int .i64 (O.length : Int)) rfl rfl (by kernel_rfl) (by kernel_rfl) (by kernel_rfl) (fun _ _ _ h => h) (by kernel_rfl) (by (intro Y hSw; go_simp)) (by assumption) ?_
  simp only [List.set_cons_zero, List.set_cons_succ]
  refine takeW 25 28 (.bool true) rfl rfl (by kernel_rfl) (by kernel_rfl) (by kernel_rfl) (fun _ _ _ h => h) (by kernel_rfl) (by (intro Y hSw; go_simp; try omega)) (by assumption) ?_
  simp only [List.set_cons_zero, List.set_cons_succ]
  refine takeW 26 29 (.bool true) rfl rfl (by kernel_rfl) (by kernel_rfl) (by kernel_rfl) (fun _ _ _ h => h) (by kernel_rfl) (by (intro w hSw; go_simp)) (by assumption) ?_
  simp only [List.set_cons_zero, List.set_cons_succ]
  refine takeW 27 30 (.bool true) rfl rfl (by kernel_rfl) (by kernel_rfl) (by kernel_rfl) (fun _ _ _ h => h) (by kernel_rfl) (by (intro w hSw; go_simp)) (by assumption) ?_
  simp only [List.set_cons_zero, List.set_cons_succ]
  refine takeW 28 31 (.pointer (some ⟨P, 0, none⟩)) rfl rfl (by kernel_rfl) (by kernel_rfl) (by kernel_rfl) (fun _ _ _ h => h) (by kernel_rfl) (by (intro w hSw; go_simp)) (by assumption) ?_
  simp only [List.set_cons_zero, List.set_cons_succ]
  refine takeW 29 32 (.pointer (some ⟨P, 0, none⟩)) rfl rfl (by kernel_rfl) (by kernel_rfl) (by kernel_rfl) (fun _ _ _ h => h) (by kernel_rfl) (by (intro w hSw; go_simp)) (by assumption) ?_
  simp only [List.set_cons_zero, List.set_cons_succ]
  refine takeW 30 33 (.pointer (some ⟨P, 1, none⟩)) rfl rfl (by kernel_rfl) (by kernel_rfl) (by kernel_rfl) (fun _ _ _ h => h) (by kernel_rfl) (by (intro w hSw; go_simp)) (by assumption) ?_
  simp only [List.set_cons_zero, List.set_cons_succ]
  refine takeW 31 34 (.slice adM Ms.length cM) rfl rfl (by kernel_rfl) (by kernel_rfl) (by kernel_rfl) (fun _ _ _ h => h) (by kernel_rfl) (by (intro Y hSw; obtain ⟨X1, X2, X3⟩ := A.below hSw P0; go_simp)) (by assumption) ?_
  simp only [List.set_cons_zero, List.set_cons_succ]
  refine wpAnyH_all (rs := [32]) (by kernel_rfl) (by simp) ?_
  intro i hi; obtain rfl : i = 32 := by simpa using hi
  refine wpOp_step rfl (fun K hK => ?_)
  rw [if_pos (by kernel_rfl)]
  go_simp
  go_at_call 91
  have hct := contF adM cM Ms w.drew (vM.below hb0 (Nat.le_refl _)) hm2 hmx
  rw [hD, hq] at hct
  refine hct.mono ?_
  rintro e y1 ⟨rfl, j1⟩
  clear hct
  have hb1 : Below w.heap.size w y1 := hb0.trans (j1.mono hb0.size)
  skip
  refine hK _ _ ⟨hb1, ?_⟩
  clear hK K hi
  refine takeW 33 36 (.bool true) rfl rfl (by kernel_rfl) (by kernel_rfl) (by kernel_rfl) (fun _ _ _ h => h) (by kernel_rfl) (by (intro w hSw; go_simp)) (by assumption) ?_
  simp only [List.set_cons_zero, List.set_cons_succ]
  refine takeW 34 37 (.bool true) rfl rfl (by kernel_rfl) (by kernel_rfl) (by kernel_rfl) (fun _ _ _ h => h) (by kernel_rfl) (by (intro w hSw; go_simp)) (by assumption) ?_
  simp only [List.set_cons_zero, List.set_cons_succ]
  refine takeW 35 38 (.bool true) rfl rfl (by kernel_rfl) (by kernel_rfl) (by kernel_rfl) (fun _ _ _ h => h) (by kernel_rfl) (by (intro w hSw; go_simp)) (by assumption) ?_
  simp only [List.set_cons_zero, List.set_cons_succ]
  refine takeW 36 39 (.pointer (some ⟨P, 0, none⟩)) rfl rfl (by kernel_rfl) (by kernel_rfl) (by kernel_rfl) (fun _ _ _ h => h) (by kernel_rfl) (by (intro w hSw; go_simp)) (by assumption) ?_
  simp only [List.set_cons_zero, List.set_cons_succ]
  refine takeW 37 40 (.pointer (some ⟨P, 0, none⟩)) rfl rfl (by kernel_rfl) (by kernel_rfl) (by kernel_rfl) (fun _ _ _ h => h) (by kernel_rfl) (by (intro w hSw; go_simp)) (by assumption) ?_
  simp only [List.set_cons_zero, List.set_cons_succ]
  refine takeW 38 41 (.pointer (some ⟨P, 2, none⟩)) rfl rfl (by kernel_rfl) (by kernel_rfl) (by kernel_rfl) (fun _ _ _ h => h) (by kernel_rfl) (by (intro w hSw; go_simp)) (by assumption) ?_
  simp only [List.set_cons_zero, List.set_cons_succ]
  refine takeW 39 42 (.slice adT T.length cT) rfl rfl (by kernel_rfl) (by kernel_rfl) (by kernel_rfl) (fun _ _ _ h => h) (by kernel_rfl) (by (intro Y hSw; obtain ⟨X1, X2, X3⟩ := A.below hSw P0; go_simp)) (by assumption) ?_
  simp only [List.set_cons_zero, List.set_cons_succ]
  refine wpAnyH_all (rs := [40]) (by kernel_rfl) (by simp) ?_
  intro i hi; obtain rfl : i = 40 := by simpa using hi
  refine wpOp_step rfl (fun K hK => ?_)
  rw [if_pos (by kernel_rfl)]
  go_simp
  go_at_call 93
  refine (okI adT cT T y1 (vT.below iT hb1) lT (iT.le hb1.size)).mono ?_
  rintro e y2 ⟨rfl, j2⟩
  have hb2 : Below w.heap.size w y2 := hb1.trans (j2.mono hb1.size)
  refine hK _ _ ⟨hb2, ?_⟩
  clear hK K hi
  refine takeW 41 44 (.bool (tokB T)) rfl rfl (by kernel_rfl) (by kernel_rfl) (by kernel_rfl) (fun _ _ _ h => h) (by kernel_rfl) (by (intro w hSw; go_simp)) (by assumption) ?_
  simp only [List.set_cons_zero, List.set_cons_succ]
  refine takeW 42 2 (.bool (tokB T)) rfl rfl (by kernel_rfl) (by kernel_rfl) (by kernel_rfl) (fun _ _ _ h => h) (by kernel_rfl) (by (intro w hSw; go_simp)) (by assumption) ?_
  simp only [List.set_cons_zero, List.set_cons_succ]
  refine wpAnyH_done (by kernel_rfl) ?_ _
  go_wp2
  go_ret
  exact ⟨rfl, hb2⟩
theorem cardOkI (adO : Option Addr) (cO : Nat) (O : List Bool) (adM : Option Addr) (cM : Nat) (D : DL) (adT : Option Addr) (cT : Nat) (T : List Hd) (lo hi : Nat) (w : World) (I : CdV w lo hi adO O adM D adT T) (ht : hi ≤ w.heap.size) (hl : O.length + totD D + T.length ≤ 1048576) :
    Calls Tryz.prog 15 #[.agg #[.slice adO O.length cO, .slice adM D.length cM, .slice adT T.length cT]] w fun e w' => e = .returned (.bool (cOk O D T)) ∧ Below w.heap.size w w' := by
  go_enter Tryz.func15, Tryz.ntmps15
  go_wp2_with fail
  go_at_call 40
  obtain ⟨x0, hx⟩ : ∃ x, x = w.alloc (Obj.cells #[.slice adO O.length cO, .slice adM D.length cM, .slice adT T.length cT] 28) := ⟨_, rfl⟩
  have B0 : Below w.heap.size w x0 := by rw [hx]; exact below_box w _
  have A0 : CdAt x0 w.heap.size adO O.length cO adM D.length cM adT T.length cT := by rw [hx]; exact CdAt.box _ _ _ _ _ _ _ _ _ _ _
  rw [← hx]
  clear hx
  refine (cardFits adO cO O adM cM D adT cT T lo hi w.heap.size x0 A0 (I.below B0 ht) (Nat.le_trans ht B0.size) hl).mono ?_
  rintro e w1 ⟨rfl, k1⟩
  go_wp2
  go_ret
  exact ⟨rfl, B0.trans (k1.mono B0.size)⟩

end Go.Proofs.YtifndemkkaelaaaGreat
