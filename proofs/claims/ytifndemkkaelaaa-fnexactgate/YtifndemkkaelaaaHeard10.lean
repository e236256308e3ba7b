/- Places, sorted. -/
import Derived.Test.YtifndemkkaelaaaRows
import Derived.WalkKit
import Derived.ProofKit
import Derived.OpenShut
import Derived.ShutString
import Derived.ChangeOld
import Derived.Below
import Derived.Deep.QuietTactic
import Derived.BigQuiet
import Derived.WalkSmall
import Derived.Laws.OwnMore
import Derived.WalkSpells
import Derived.Sort.OwnSortedInts
import Derived.Test.YtifndemkkaelaaaShelf
import Derived.Test.YtifndemkkaelaaaHeard9
namespace Go.Proofs.Ytifndemkkaelaaa
open Go.ChangeShapes Go.WideShapes Go.ChangeAt Go.RowKit
open Go.ChangeMaps (open_string shut_string)
set_option linter.unusedVariables false

theorem len64_0 (w : World) : Calls Try.prog 100 #[.int .u64 0] w fun e w' => e = .returned (.int .i64 0) ∧ w' = w := by
  go_enter Try.func100, Try.ntmps100
  go_wp2
  go_ret
  exact ⟨congrArg (fun n => Ending.returned (Value.int .i64 n)) (by kernel_rfl : wrap64 (wrap64 (Lib.len8 0)) = 0), rfl⟩
theorem len_0 (w : World) : Calls Try.prog 83 #[.int .u64 0] w fun e w' => e = .returned (.int .i64 0) ∧ w' = w := by
  go_enter Try.func83, Try.ntmps83
  go_wp2_with (first | (go_at_call 100; refine (len64_0 _).mono ?_; rintro e w' ⟨rfl, rfl⟩) | go_in)
  go_ret
  exact ⟨rfl, rfl⟩
theorem ins_0 (w : World) : Calls Try.prog 90 #[.slice none 0 0, .int .i64 0, .int .i64 0] w fun e w' => e = .returned (.tuple #[]) ∧ w' = w := by
  go_enter Try.func90, Try.ntmps90
  go_wp2
  refine wp_loop_rounds 1 ?_
  rw [rounds_succ]
  go_wp2
  go_end0
  exact ⟨rfl, rfl⟩
theorem pdq_0 (w : World) : Calls Try.prog 82 #[.slice none 0 0, .int .i64 0, .int .i64 0, .int .i64 0] w fun e w' => e = .returned (.tuple #[]) ∧ w' = w := by
  go_enter Try.func82, Try.ntmps82
  go_wp2
  refine wp_loop_rounds 1 ?_
  rw [rounds_succ]
  go_wp2_with (first | (go_at_call 90; refine (ins_0 _).mono ?_; rintro e w' ⟨rfl, rfl⟩) | go_in)
  (try simp only [Exit.inBlock, Exit.then]); refine bodyPost_ret (results_none rfl _ _ _) rfl ?_
  exact ⟨rfl, rfl⟩
theorem sort_0 (w : World) : Calls Try.prog 63 #[.slice none 0 0] w fun e w' => e = .returned (.tuple #[]) ∧ w' = w := by
  go_enter Try.func63, Try.ntmps63
  go_wp2_with (first | (go_at_call 83; refine (len_0 _).mono ?_; rintro e w' ⟨rfl, rfl⟩) | (go_at_call 82; refine (pdq_0 _).mono ?_; rintro e w' ⟨rfl, rfl⟩) | go_in)
  go_end0
  exact ⟨rfl, rfl⟩
def leI (x y : Int) : Bool := decide (x ≤ y)
open Go.Sort in
theorem sortI (base : Nat) (v : Value) (ks : List Int) (w : World) (hown : w.ownsRow base 3 1 v ks.length (ks.map (Value.int .i64))) (hl : ks.length ≤ 1048576) :
    Calls Try.prog 63 #[v] w fun e w' => e = .returned (.tuple #[]) ∧ w'.ownsRow base 3 1 v ks.length ((ks.mergeSort leI).map (Value.int .i64)) ∧ w.grownBy w' v.ownBlock := by
  rcases hown.2 with ⟨rfl, h0⟩ | ⟨g, cap, cur, rfl, hb, hh, hnc, hcm, hcs, htk⟩
  · have hk : ks = [] := List.eq_nil_of_length_eq_zero h0
    subst hk
    refine (sort_0 w).mono ?_
    rintro e w' ⟨rfl, rfl⟩
    exact ⟨rfl, by simpa using hown, ⟨rfl, rfl, rfl, Nat.le_refl _, fun _ _ _ => rfl⟩⟩
  · have hH : Holds (Value.int .i64) w g 0 ks.toArray := holds_of_blockI hh (by simpa using htk)
    refine (Try.slices_Sort_int g 0 cap ks w hH (Array.getElem?_eq_some_iff.1 hh).1 (by omega)).mono ?_
    rintro e w' ⟨rfl, n, os, rfl⟩
    refine ⟨rfl, ownsRow_sortedI (by simp) hb hh hnc hcm hcs, grownBy_sortedI _⟩
/-- Two lists that rise strictly and have the same members are one. -/
theorem eq_of_rising : ∀ {l m : List Int}, l.Pairwise (· < ·) → m.Pairwise (· < ·) → (∀ x, x ∈ l ↔ x ∈ m) → l = m
  | [], [], _, _, _ => rfl
  | [], y :: m, _, _, h => by simpa using (h y).2 (by simp)
  | x :: l, [], _, _, h => by simpa using (h x).1 (by simp)
  | x :: l, y :: m, hl, hm, h => by
    obtain ⟨hx, hl'⟩ := List.pairwise_cons.1 hl
    obtain ⟨hy, hm'⟩ := List.pairwise_cons.1 hm
    have hxy : x = y := by
      rcases List.mem_cons.1 ((h x).1 (by simp)) with e | e
      · exact e
      · rcases List.mem_cons.1 ((h y).2 (by simp)) with e' | e'
        · exact e'.symm
        · have h1 := hy x e
          have h2 := hx y e'
          omega
    subst hxy
    refine congrArg (x :: ·) (eq_of_rising hl' hm' fun z => ?_)
    constructor
    · intro hz
      rcases List.mem_cons.1 ((h z).1 (by simp [hz])) with e | e
      · subst e; exact absurd (hx z hz) (by omega)
      · exact e
    · intro hz
      rcases List.mem_cons.1 ((h z).2 (by simp [hz])) with e | e
      · subst e; exact absurd (hy z hz) (by omega)
      · exact e
theorem rising_sorted {ks : List Int} (h : ks.Nodup) : (ks.mergeSort leI).Pairwise (· < ·) := by
  have h1 : (ks.mergeSort leI).Pairwise (fun x y => leI x y = true) := List.pairwise_mergeSort (fun a b c => by simp [leI]; omega) (fun a b => by simp [leI]; omega) ks
  have h2 : (ks.mergeSort leI).Nodup := (List.mergeSort_perm ks leI).nodup_iff.2 h
  refine (h1.and h2).imp ?_
  intro a b ⟨h3, h4⟩
  simp [leI] at h3
  omega
/-- The places of which p holds. -/
def placesP (n : Nat) (p : Nat → Bool) : List Nat := (List.range n).filter p
theorem rising_places (n : Nat) (p : Nat → Bool) : ((placesP n p).map (fun i : Nat => (i : Int))).Pairwise (· < ·) := by
  rw [List.pairwise_map]
  refine List.Pairwise.imp (R := (· < ·)) (fun h => by omega) ?_
  exact (List.pairwise_lt_range).filter _
theorem sorted_places {ks : List Int} {n : Nat} {p : Nat → Bool} (hn : ks.Nodup) (hm : ∀ x, x ∈ ks ↔ ∃ i, i < n ∧ p i = true ∧ x = (i : Int)) : ks.mergeSort leI = (placesP n p).map (fun i : Nat => (i : Int)) :=
  eq_of_rising (rising_sorted hn) (rising_places n p) fun x => by
    rw [List.mem_mergeSort, hm, List.mem_map]
    constructor
    · rintro ⟨i, h1, h2, rfl⟩
      exact ⟨i, by simp [placesP, h1, h2], rfl⟩
    · rintro ⟨i, h1, rfl⟩
      simp [placesP] at h1
      exact ⟨i, h1.1, h1.2, rfl⟩

end Go.Proofs.Ytifndemkkaelaaa
