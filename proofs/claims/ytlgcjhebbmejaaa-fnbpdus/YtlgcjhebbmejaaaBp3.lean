/- The small functions of BpduBytes, walked. -/
import Derived.Test.YtlgcjhebbmejaaaRows
import Derived.WalkKit
import Derived.ProofKit
import Derived.OpenShut
import Derived.ShutString
import Derived.ChangeOld
import Derived.Below
import Derived.Deep.QuietTactic
import Derived.BigQuiet
import Derived.WalkSmall
import Derived.Laws.OwnMore
import Derived.WalkSpells
import Derived.WalkLawsBesides
import Derived.Deep.Cut
import Derived.Laws.CopyOwn
import Derived.LoopN
import Derived.Test.YtlgcjhebbmejaaaLow9
import Derived.Test.YtlgcjhebbmejaaaBp1
import Derived.Test.YtlgcjhebbmejaaaFlatApp
namespace Go.Proofs.Ytlgcjhebbmejaaa
open Go.ChangeShapes Go.WideShapes Go.ChangeAt Go.RowKit
open Go.ChangeMaps (open_string shut_string)
set_option linter.unusedVariables false
set_option maxRecDepth 100000

/-- A row of bytes, whole, by its block. -/
def RowA (w : World) (g : Nat) (L : List Value) : Prop := w.heap[g]? = some (.cells L.toArray 5 (0, 0))
theorem RowA.keep {w w' : World} {g : Nat} {L : List Value} (h : RowA w g L) (k : w'.heap[g]? = w.heap[g]?) : RowA w' g L := k.trans h
theorem RowA.lt {w : World} {g : Nat} {L : List Value} (h : RowA w g L) : g < w.heap.size := (Array.getElem?_eq_some_iff.1 h).1
def by8 (L : List Int) : List Value := L.map (Value.int .u8)
theorem by8_len (L : List Int) : (by8 L).length = L.length := List.length_map ..
theorem by8_app (L M : List Int) : by8 (L ++ M) = by8 L ++ by8 M := List.map_append ..
theorem by8_one (L : List Int) : ∀ u ∈ by8 L, u.oneCell' = true := by
  intro u h
  simp only [by8, List.mem_map] at h
  obtain ⟨x, _, rfl⟩ := h
  rfl
theorem lit_cell (y : World) (L : List Int) : ∀ j v, (by8 L)[j]? = some v → (y.alloc (Obj.cells (by8 L).toArray 5)).cell? ⟨y.heap.size, j, none⟩ = some v := by
  intro j v hj
  have hl : j < (by8 L).length := (List.getElem?_eq_some_iff.1 hj).1
  simp [go_sem, hl]
  simpa [hl] using hj
set_option maxHeartbeats 1000000 in
theorem put0 (q g b : Nat) (Ps Ls : List Int) (R : List Value) (w : World) (hq : w.cell? ⟨q, 0, none⟩ = some (.slice (some ⟨g, 0, none⟩) 36 36)) (hr : RowA w g (by8 Ps ++ R)) (hP : Ps.length = 0) (hR : R.length = 36) (hc : Ls.length = 4)
    (hsrc : ∀ j v, (by8 Ls)[j]? = some v → w.cell? ⟨b, j, none⟩ = some v) :
    Calls Try.prog 35 #[.int .i64 0, .int .i64 4, .slice (some ⟨b, 0, none⟩) 4 4, .pointer (some ⟨q, 0, none⟩)] w fun e w' => e = .returned (.tuple #[]) ∧ RowA w' g (by8 (Ps ++ Ls) ++ R.drop 4) ∧ w.grownBy w' (some g) := by
  have hsz : (Try.prog.info? 5).map (·.size) = some 1 := by kernel_rfl
  have hg := hr.lt
  go_enter Try.func35, Try.ntmps35
  go_wp2_with (first | (refine wpList_copy_own rfl _ _ 22 22 rfl 5 Try.underlying22 hsz g 0 4 4 ⟨b, 0, none⟩ 4 4 rfl rfl (by8 Ps ++ R).toArray 5 hr (by8 Ls) (by rw [by8_len, hc]; rfl) (fun j v hj => by rw [add_plain, Nat.zero_add]; exact hsrc j v hj) (by simp [by8_len, hP, hR, hc]) (by8_one Ls) ?_) | go_in)
  go_wp2
  go_end0
  refine ⟨rfl, ?_, ?_⟩
  · have e : (by8 Ps ++ R).toArray.toList.take 0 ++ (by8 Ls ++ (by8 Ps ++ R).toArray.toList.drop (0 + (by8 Ls).length)) = by8 (Ps ++ Ls) ++ R.drop 4 := by
      rw [by8_app, List.append_assoc]
      have h1 : (by8 Ps ++ R).take 0 = by8 Ps := by rw [List.take_append_of_le_length (by rw [by8_len]; omega), List.take_of_length_le (by rw [by8_len]; omega)]
      have h2 : (by8 Ps ++ R).drop (0 + (by8 Ls).length) = R.drop 4 := by rw [by8_len, hc, List.drop_append, List.drop_eq_nil_of_le (by rw [by8_len]; omega), by8_len, hP]; simp
      rw [show (by8 Ps ++ R).toArray.toList = by8 Ps ++ R by simp, h1, h2]
    simp only [List.take_zero, List.nil_append, Nat.zero_add] at e
    rw [e]
    exact setRow_heap w g _ _ _ _ hr
  · exact ⟨rfl, rfl, rfl, by simp [World.setRow], fun k hk hne => setRow_other w g k _ (fun e => hne (by rw [e]))⟩
set_option maxHeartbeats 1000000 in
theorem put4 (q g b : Nat) (Ps Ls : List Int) (R : List Value) (w : World) (hq : w.cell? ⟨q, 0, none⟩ = some (.slice (some ⟨g, 0, none⟩) 36 36)) (hr : RowA w g (by8 Ps ++ R)) (hP : Ps.length = 4) (hR : R.length = 32) (hc : Ls.length = 1)
    (hsrc : ∀ j v, (by8 Ls)[j]? = some v → w.cell? ⟨b, j, none⟩ = some v) :
    Calls Try.prog 35 #[.int .i64 4, .int .i64 5, .slice (some ⟨b, 0, none⟩) 1 1, .pointer (some ⟨q, 0, none⟩)] w fun e w' => e = .returned (.tuple #[]) ∧ RowA w' g (by8 (Ps ++ Ls) ++ R.drop 1) ∧ w.grownBy w' (some g) := by
  have hsz : (Try.prog.info? 5).map (·.size) = some 1 := by kernel_rfl
  have hg := hr.lt
  go_enter Try.func35, Try.ntmps35
  go_wp2_with (first | (refine wpList_copy_own rfl _ _ 22 22 rfl 5 Try.underlying22 hsz g 4 1 1 ⟨b, 0, none⟩ 1 1 rfl rfl (by8 Ps ++ R).toArray 5 hr (by8 Ls) (by rw [by8_len, hc]; rfl) (fun j v hj => by rw [add_plain, Nat.zero_add]; exact hsrc j v hj) (by simp [by8_len, hP, hR, hc]) (by8_one Ls) ?_) | go_in)
  go_wp2
  go_end0
  refine ⟨rfl, ?_, ?_⟩
  · have e : (by8 Ps ++ R).toArray.toList.take 4 ++ (by8 Ls ++ (by8 Ps ++ R).toArray.toList.drop (4 + (by8 Ls).length)) = by8 (Ps ++ Ls) ++ R.drop 1 := by
      rw [by8_app, List.append_assoc]
      have h1 : (by8 Ps ++ R).take 4 = by8 Ps := by rw [List.take_append_of_le_length (by rw [by8_len]; omega), List.take_of_length_le (by rw [by8_len]; omega)]
      have h2 : (by8 Ps ++ R).drop (4 + (by8 Ls).length) = R.drop 1 := by rw [by8_len, hc, List.drop_append, List.drop_eq_nil_of_le (by rw [by8_len]; omega), by8_len, hP]; simp
      rw [show (by8 Ps ++ R).toArray.toList = by8 Ps ++ R by simp, h1, h2]
    rw [e, ← List.drop_one]
    exact setRow_heap w g _ _ _ _ hr
  · exact ⟨rfl, rfl, rfl, by simp [World.setRow], fun k hk hne => setRow_other w g k _ (fun e => hne (by rw [e]))⟩
set_option maxHeartbeats 1000000 in
theorem put5 (q g b : Nat) (Ps Ls : List Int) (R : List Value) (w : World) (hq : w.cell? ⟨q, 0, none⟩ = some (.slice (some ⟨g, 0, none⟩) 36 36)) (hr : RowA w g (by8 Ps ++ R)) (hP : Ps.length = 5) (hR : R.length = 31) (hc : Ls.length = 8)
    (hsrc : ∀ j v, (by8 Ls)[j]? = some v → w.cell? ⟨b, j, none⟩ = some v) :
    Calls Try.prog 35 #[.int .i64 5, .int .i64 13, .slice (some ⟨b, 0, none⟩) 8 8, .pointer (some ⟨q, 0, none⟩)] w fun e w' => e = .returned (.tuple #[]) ∧ RowA w' g (by8 (Ps ++ Ls) ++ R.drop 8) ∧ w.grownBy w' (some g) := by
  have hsz : (Try.prog.info? 5).map (·.size) = some 1 := by kernel_rfl
  have hg := hr.lt
  go_enter Try.func35, Try.ntmps35
  go_wp2_with (first | (refine wpList_copy_own rfl _ _ 22 22 rfl 5 Try.underlying22 hsz g 5 8 8 ⟨b, 0, none⟩ 8 8 rfl rfl (by8 Ps ++ R).toArray 5 hr (by8 Ls) (by rw [by8_len, hc]; rfl) (fun j v hj => by rw [add_plain, Nat.zero_add]; exact hsrc j v hj) (by simp [by8_len, hP, hR, hc]) (by8_one Ls) ?_) | go_in)
  go_wp2
  go_end0
  refine ⟨rfl, ?_, ?_⟩
  · have e : (by8 Ps ++ R).toArray.toList.take 5 ++ (by8 Ls ++ (by8 Ps ++ R).toArray.toList.drop (5 + (by8 Ls).length)) = by8 (Ps ++ Ls) ++ R.drop 8 := by
      rw [by8_app, List.append_assoc]
      have h1 : (by8 Ps ++ R).take 5 = by8 Ps := by rw [List.take_append_of_le_length (by rw [by8_len]; omega), List.take_of_length_le (by rw [by8_len]; omega)]
      have h2 : (by8 Ps ++ R).drop (5 + (by8 Ls).length) = R.drop 8 := by rw [by8_len, hc, List.drop_append, List.drop_eq_nil_of_le (by rw [by8_len]; omega), by8_len, hP]; simp
      rw [show (by8 Ps ++ R).toArray.toList = by8 Ps ++ R by simp, h1, h2]
    rw [e]
    exact setRow_heap w g _ _ _ _ hr
  · exact ⟨rfl, rfl, rfl, by simp [World.setRow], fun k hk hne => setRow_other w g k _ (fun e => hne (by rw [e]))⟩
set_option maxHeartbeats 1000000 in
theorem put13 (q g b : Nat) (Ps Ls : List Int) (R : List Value) (w : World) (hq : w.cell? ⟨q, 0, none⟩ = some (.slice (some ⟨g, 0, none⟩) 36 36)) (hr : RowA w g (by8 Ps ++ R)) (hP : Ps.length = 13) (hR : R.length = 23) (hc : Ls.length = 4)
    (hsrc : ∀ j v, (by8 Ls)[j]? = some v → w.cell? ⟨b, j, none⟩ = some v) :
    Calls Try.prog 35 #[.int .i64 13, .int .i64 17, .slice (some ⟨b, 0, none⟩) 4 4, .pointer (some ⟨q, 0, none⟩)] w fun e w' => e = .returned (.tuple #[]) ∧ RowA w' g (by8 (Ps ++ Ls) ++ R.drop 4) ∧ w.grownBy w' (some g) := by
  have hsz : (Try.prog.info? 5).map (·.size) = some 1 := by kernel_rfl
  have hg := hr.lt
  go_enter Try.func35, Try.ntmps35
  go_wp2_with (first | (refine wpList_copy_own rfl _ _ 22 22 rfl 5 Try.underlying22 hsz g 13 4 4 ⟨b, 0, none⟩ 4 4 rfl rfl (by8 Ps ++ R).toArray 5 hr (by8 Ls) (by rw [by8_len, hc]; rfl) (fun j v hj => by rw [add_plain, Nat.zero_add]; exact hsrc j v hj) (by simp [by8_len, hP, hR, hc]) (by8_one Ls) ?_) | go_in)
  go_wp2
  go_end0
  refine ⟨rfl, ?_, ?_⟩
  · have e : (by8 Ps ++ R).toArray.toList.take 13 ++ (by8 Ls ++ (by8 Ps ++ R).toArray.toList.drop (13 + (by8 Ls).length)) = by8 (Ps ++ Ls) ++ R.drop 4 := by
      rw [by8_app, List.append_assoc]
      have h1 : (by8 Ps ++ R).take 13 = by8 Ps := by rw [List.take_append_of_le_length (by rw [by8_len]; omega), List.take_of_length_le (by rw [by8_len]; omega)]
      have h2 : (by8 Ps ++ R).drop (13 + (by8 Ls).length) = R.drop 4 := by rw [by8_len, hc, List.drop_append, List.drop_eq_nil_of_le (by rw [by8_len]; omega), by8_len, hP]; simp
      rw [show (by8 Ps ++ R).toArray.toList = by8 Ps ++ R by simp, h1, h2]
    rw [e]
    exact setRow_heap w g _ _ _ _ hr
  · exact ⟨rfl, rfl, rfl, by simp [World.setRow], fun k hk hne => setRow_other w g k _ (fun e => hne (by rw [e]))⟩
set_option maxHeartbeats 1000000 in
theorem put17 (q g b : Nat) (Ps Ls : List Int) (R : List Value) (w : World) (hq : w.cell? ⟨q, 0, none⟩ = some (.slice (some ⟨g, 0, none⟩) 36 36)) (hr : RowA w g (by8 Ps ++ R)) (hP : Ps.length = 17) (hR : R.length = 19) (hc : Ls.length = 8)
    (hsrc : ∀ j v, (by8 Ls)[j]? = some v → w.cell? ⟨b, j, none⟩ = some v) :
    Calls Try.prog 35 #[.int .i64 17, .int .i64 25, .slice (some ⟨b, 0, none⟩) 8 8, .pointer (some ⟨q, 0, none⟩)] w fun e w' => e = .returned (.tuple #[]) ∧ RowA w' g (by8 (Ps ++ Ls) ++ R.drop 8) ∧ w.grownBy w' (some g) := by
  have hsz : (Try.prog.info? 5).map (·.size) = some 1 := by kernel_rfl
  have hg := hr.lt
  go_enter Try.func35, Try.ntmps35
  go_wp2_with (first | (refine wpList_copy_own rfl _ _ 22 22 rfl 5 Try.underlying22 hsz g 17 8 8 ⟨b, 0, none⟩ 8 8 rfl rfl (by8 Ps ++ R).toArray 5 hr (by8 Ls) (by rw [by8_len, hc]; rfl) (fun j v hj => by rw [add_plain, Nat.zero_add]; exact hsrc j v hj) (by simp [by8_len, hP, hR, hc]) (by8_one Ls) ?_) | go_in)
  go_wp2
  go_end0
  refine ⟨rfl, ?_, ?_⟩
  · have e : (by8 Ps ++ R).toArray.toList.take 17 ++ (by8 Ls ++ (by8 Ps ++ R).toArray.toList.drop (17 + (by8 Ls).length)) = by8 (Ps ++ Ls) ++ R.drop 8 := by
      rw [by8_app, List.append_assoc]
      have h1 : (by8 Ps ++ R).take 17 = by8 Ps := by rw [List.take_append_of_le_length (by rw [by8_len]; omega), List.take_of_length_le (by rw [by8_len]; omega)]
      have h2 : (by8 Ps ++ R).drop (17 + (by8 Ls).length) = R.drop 8 := by rw [by8_len, hc, List.drop_append, List.drop_eq_nil_of_le (by rw [by8_len]; omega), by8_len, hP]; simp
      rw [show (by8 Ps ++ R).toArray.toList = by8 Ps ++ R by simp, h1, h2]
    rw [e]
    exact setRow_heap w g _ _ _ _ hr
  · exact ⟨rfl, rfl, rfl, by simp [World.setRow], fun k hk hne => setRow_other w g k _ (fun e => hne (by rw [e]))⟩
set_option maxHeartbeats 1000000 in
theorem put25 (q g b : Nat) (Ps Ls : List Int) (R : List Value) (w : World) (hq : w.cell? ⟨q, 0, none⟩ = some (.slice (some ⟨g, 0, none⟩) 36 36)) (hr : RowA w g (by8 Ps ++ R)) (hP : Ps.length = 25) (hR : R.length = 11) (hc : Ls.length = 2)
    (hsrc : ∀ j v, (by8 Ls)[j]? = some v → w.cell? ⟨b, j, none⟩ = some v) :
    Calls Try.prog 35 #[.int .i64 25, .int .i64 27, .slice (some ⟨b, 0, none⟩) 2 2, .pointer (some ⟨q, 0, none⟩)] w fun e w' => e = .returned (.tuple #[]) ∧ RowA w' g (by8 (Ps ++ Ls) ++ R.drop 2) ∧ w.grownBy w' (some g) := by
  have hsz : (Try.prog.info? 5).map (·.size) = some 1 := by kernel_rfl
  have hg := hr.lt
  go_enter Try.func35, Try.ntmps35
  go_wp2_with (first | (refine wpList_copy_own rfl _ _ 22 22 rfl 5 Try.underlying22 hsz g 25 2 2 ⟨b, 0, none⟩ 2 2 rfl rfl (by8 Ps ++ R).toArray 5 hr (by8 Ls) (by rw [by8_len, hc]; rfl) (fun j v hj => by rw [add_plain, Nat.zero_add]; exact hsrc j v hj) (by simp [by8_len, hP, hR, hc]) (by8_one Ls) ?_) | go_in)
  go_wp2
  go_end0
  refine ⟨rfl, ?_, ?_⟩
  · have e : (by8 Ps ++ R).toArray.toList.take 25 ++ (by8 Ls ++ (by8 Ps ++ R).toArray.toList.drop (25 + (by8 Ls).length)) = by8 (Ps ++ Ls) ++ R.drop 2 := by
      rw [by8_app, List.append_assoc]
      have h1 : (by8 Ps ++ R).take 25 = by8 Ps := by rw [List.take_append_of_le_length (by rw [by8_len]; omega), List.take_of_length_le (by rw [by8_len]; omega)]
      have h2 : (by8 Ps ++ R).drop (25 + (by8 Ls).length) = R.drop 2 := by rw [by8_len, hc, List.drop_append, List.drop_eq_nil_of_le (by rw [by8_len]; omega), by8_len, hP]; simp
      rw [show (by8 Ps ++ R).toArray.toList = by8 Ps ++ R by simp, h1, h2]
    rw [e]
    exact setRow_heap w g _ _ _ _ hr
  · exact ⟨rfl, rfl, rfl, by simp [World.setRow], fun k hk hne => setRow_other w g k _ (fun e => hne (by rw [e]))⟩
set_option maxHeartbeats 1000000 in
theorem put27 (q g b : Nat) (Ps Ls : List Int) (R : List Value) (w : World) (hq : w.cell? ⟨q, 0, none⟩ = some (.slice (some ⟨g, 0, none⟩) 36 36)) (hr : RowA w g (by8 Ps ++ R)) (hP : Ps.length = 27) (hR : R.length = 9) (hc : Ls.length = 2)
    (hsrc : ∀ j v, (by8 Ls)[j]? = some v → w.cell? ⟨b, j, none⟩ = some v) :
    Calls Try.prog 35 #[.int .i64 27, .int .i64 29, .slice (some ⟨b, 0, none⟩) 2 2, .pointer (some ⟨q, 0, none⟩)] w fun e w' => e = .returned (.tuple #[]) ∧ RowA w' g (by8 (Ps ++ Ls) ++ R.drop 2) ∧ w.grownBy w' (some g) := by
  have hsz : (Try.prog.info? 5).map (·.size) = some 1 := by kernel_rfl
  have hg := hr.lt
  go_enter Try.func35, Try.ntmps35
  go_wp2_with (first | (refine wpList_copy_own rfl _ _ 22 22 rfl 5 Try.underlying22 hsz g 27 2 2 ⟨b, 0, none⟩ 2 2 rfl rfl (by8 Ps ++ R).toArray 5 hr (by8 Ls) (by rw [by8_len, hc]; rfl) (fun j v hj => by rw [add_plain, Nat.zero_add]; exact hsrc j v hj) (by simp [by8_len, hP, hR, hc]) (by8_one Ls) ?_) | go_in)
  go_wp2
  go_end0
  refine ⟨rfl, ?_, ?_⟩
  · have e : (by8 Ps ++ R).toArray.toList.take 27 ++ (by8 Ls ++ (by8 Ps ++ R).toArray.toList.drop (27 + (by8 Ls).length)) = by8 (Ps ++ Ls) ++ R.drop 2 := by
      rw [by8_app, List.append_assoc]
      have h1 : (by8 Ps ++ R).take 27 = by8 Ps := by rw [List.take_append_of_le_length (by rw [by8_len]; omega), List.take_of_length_le (by rw [by8_len]; omega)]
      have h2 : (by8 Ps ++ R).drop (27 + (by8 Ls).length) = R.drop 2 := by rw [by8_len, hc, List.drop_append, List.drop_eq_nil_of_le (by rw [by8_len]; omega), by8_len, hP]; simp
      rw [show (by8 Ps ++ R).toArray.toList = by8 Ps ++ R by simp, h1, h2]
    rw [e]
    exact setRow_heap w g _ _ _ _ hr
  · exact ⟨rfl, rfl, rfl, by simp [World.setRow], fun k hk hne => setRow_other w g k _ (fun e => hne (by rw [e]))⟩
set_option maxHeartbeats 1000000 in
theorem put29 (q g b : Nat) (Ps Ls : List Int) (R : List Value) (w : World) (hq : w.cell? ⟨q, 0, none⟩ = some (.slice (some ⟨g, 0, none⟩) 36 36)) (hr : RowA w g (by8 Ps ++ R)) (hP : Ps.length = 29) (hR : R.length = 7) (hc : Ls.length = 7)
    (hsrc : ∀ j v, (by8 Ls)[j]? = some v → w.cell? ⟨b, j, none⟩ = some v) :
    Calls Try.prog 35 #[.int .i64 29, .int .i64 36, .slice (some ⟨b, 0, none⟩) 7 7, .pointer (some ⟨q, 0, none⟩)] w fun e w' => e = .returned (.tuple #[]) ∧ RowA w' g (by8 (Ps ++ Ls) ++ R.drop 7) ∧ w.grownBy w' (some g) := by
  have hsz : (Try.prog.info? 5).map (·.size) = some 1 := by kernel_rfl
  have hg := hr.lt
  go_enter Try.func35, Try.ntmps35
  go_wp2_with (first | (refine wpList_copy_own rfl _ _ 22 22 rfl 5 Try.underlying22 hsz g 29 7 7 ⟨b, 0, none⟩ 7 7 rfl rfl (by8 Ps ++ R).toArray 5 hr (by8 Ls) (by rw [by8_len, hc]; rfl) (fun j v hj => by rw [add_plain, Nat.zero_add]; exact hsrc j v hj) (by simp [by8_len, hP, hR, hc]) (by8_one Ls) ?_) | go_in)
  go_wp2
  go_end0
  refine ⟨rfl, ?_, ?_⟩
  · have e : (by8 Ps ++ R).toArray.toList.take 29 ++ (by8 Ls ++ (by8 Ps ++ R).toArray.toList.drop (29 + (by8 Ls).length)) = by8 (Ps ++ Ls) ++ R.drop 7 := by
      rw [by8_app, List.append_assoc]
      have h1 : (by8 Ps ++ R).take 29 = by8 Ps := by rw [List.take_append_of_le_length (by rw [by8_len]; omega), List.take_of_length_le (by rw [by8_len]; omega)]
      have h2 : (by8 Ps ++ R).drop (29 + (by8 Ls).length) = R.drop 7 := by rw [by8_len, hc, List.drop_append, List.drop_eq_nil_of_le (by rw [by8_len]; omega), by8_len, hP]; simp
      rw [show (by8 Ps ++ R).toArray.toList = by8 Ps ++ R by simp, h1, h2]
    rw [e]
    exact setRow_heap w g _ _ _ _ hr
  · exact ⟨rfl, rfl, rfl, by simp [World.setRow], fun k hk hne => setRow_other w g k _ (fun e => hne (by rw [e]))⟩
def hi4 (s : Int) : List Int := [s / 16777216 % 256, s / 65536 % 256, s / 256 % 256, s % 256]
theorem brByI (r : Int) (w : World) (h0 : 0 ≤ r) (h1 : r ≤ 255) : Calls Try.prog 36 #[.int .i64 r] w fun e w' => e = .returned (.slice (some ⟨w.heap.size, 0, none⟩) 8 8) ∧ w' = w.alloc (Obj.cells (by8 [128, 0, 0, 0, 0, 0, 0, r]).toArray 5) := by
  go_enter Try.func36, Try.ntmps36
  go_wp2
  go_ret
  exact ⟨rfl, rfl⟩
theorem whoS (r : Int) (w : World) (h0 : 0 ≤ r) (h1 : r ≤ 255) : Calls Try.prog 43 #[.int .i64 r] w fun e w' => e = .returned (.slice (some ⟨w.heap.size, 0, none⟩) 8 8) ∧ w' = w.alloc (Obj.cells (by8 [128, 0, 0, 0, 0, 0, 0, r]).toArray 5) := by
  go_enter Try.func43, Try.ntmps43
  go_wp2
  go_ret
  exact ⟨rfl, rfl⟩
set_option maxHeartbeats 1000000 in
theorem lowFirstF (s : Int) (w : World) (h0 : 0 ≤ s) (h1 : s ≤ 4294967295) :
    Calls Try.prog 58 #[.int .i64 s] w fun e w' => e = .returned (.slice (some ⟨w.heap.size, 0, none⟩) 4 4) ∧ Filled w.heap.size 4 (fun i => (low4 s).getD i 0) 4 w w' := by
  obtain ⟨i0, hi, hz0, hz1, hz2⟩ := info_parts Try.info5'
  go_enter Try.func58, Try.ntmps58
  go_wp2_with (first | (refine wpList_make_full _ rfl _ _ 22 rfl w.heap.size 5 i0 (.int .u8 0) 1 Try.underlying22 hi hz0 hz1 .i64 .i64 _ _ 4 rfl rfl rfl rfl ?c1 ?c2 ?c3 ?_))
  case c1 => rw [hz2]; omega
  case c2 => unfold maxLen; omega
  case c3 => exact Nat.le_refl _
  intro w1 hown hgrow
  have F0 : Filled w.heap.size 4 (fun i => (low4 s).getD i 0) 0 w w1 := filled_made hown hgrow
  clear hown hgrow
  go_wp2
  go_loopw [8] (fun i wr => ∃ k : Nat, k ≤ 4 ∧ i = .int .i64 k ∧ Filled w.heap.size 4 (fun i => (low4 s).getD i 0) k w wr) (fun i _ => 4 - (intOf i).toNat)
  case atStart => exact ⟨0, Nat.zero_le _, rfl, F0⟩
  case round =>
    obtain ⟨k, hk, rfl, F⟩ := hrel
    clear F0
    by_cases hlt : k < 4
    · obtain ⟨u, hu⟩ := F.2.2.1 k hlt
      have hfz := F.2.2.2.1 k hlt
      have F1 := F.step hlt
      clear F
      rcases (by omega : k = 0 ∨ k = 1 ∨ k = 2 ∨ k = 3) with rfl | rfl | rfl | rfl
      · go_wp2
        go_roundw
        case rel => exact ⟨1, by omega, rfl, F1⟩
        case measure => simp [intOf]
      · go_wp2
        go_roundw
        case rel => exact ⟨2, by omega, rfl, F1⟩
        case measure => simp [intOf]
      · go_wp2
        go_roundw
        case rel => exact ⟨3, by omega, rfl, F1⟩
        case measure => simp [intOf]
      · go_wp2
        go_roundw
        case rel => exact ⟨4, by omega, rfl, by rw [show s / 16777216 = (low4 s).getD 3 0 by show _ = s / 16777216 % 256; omega]; exact F1⟩
        case measure => simp [intOf]
    · obtain rfl : k = 4 := by omega
      go_wp2
      go_ret
      exact ⟨rfl, F⟩
set_option maxHeartbeats 4000000 in
theorem rev4 (g : Nat) (a b c d : Int) (w : World) (c0 : w.cell? ⟨g, 0, none⟩ = some (.int .u8 a)) (c1 : w.cell? ⟨g, 1, none⟩ = some (.int .u8 b)) (c2 : w.cell? ⟨g, 2, none⟩ = some (.int .u8 c)) (c3 : w.cell? ⟨g, 3, none⟩ = some (.int .u8 d))
    (f0 : w.frozen? ⟨g, 0, none⟩ = false) (f1 : w.frozen? ⟨g, 1, none⟩ = false) (f2 : w.frozen? ⟨g, 2, none⟩ = false) (f3 : w.frozen? ⟨g, 3, none⟩ = false) :
    Calls Try.prog 59 #[.slice (some ⟨g, 0, none⟩) 4 4] w fun e w' => e = .returned (.tuple #[]) ∧ (w'.cell? ⟨g, 0, none⟩ = some (.int .u8 d) ∧ w'.cell? ⟨g, 1, none⟩ = some (.int .u8 c) ∧ w'.cell? ⟨g, 2, none⟩ = some (.int .u8 b) ∧ w'.cell? ⟨g, 3, none⟩ = some (.int .u8 a)) ∧ w.grownBy w' (some g) := by
  go_enter Try.func59, Try.ntmps59
  go_wp2
  refine wp_loop_rounds 3 ?_
  rw [rounds_succ]
  go_wp2_with fail
  go_region
  obtain ⟨w1, hw1⟩ : ∃ w1, w1 = ((w.setCell ⟨g, 0, none⟩ (.int .u8 d)).setCell ⟨g, 3, none⟩ (.int .u8 a)).drew := ⟨_, rfl⟩
  have r0 : w1.cell? ⟨g, 0, none⟩ = some (.int .u8 d) := by rw [hw1]; show (World.setCell _ _ _).cell? _ = _; rw [pset_else (by decide)]; exact pset_same c0
  have r1 : w1.cell? ⟨g, 1, none⟩ = some (.int .u8 b) := by rw [hw1]; show (World.setCell _ _ _).cell? _ = _; rw [pset_else (by decide), pset_else (by decide)]; exact c1
  have r2 : w1.cell? ⟨g, 2, none⟩ = some (.int .u8 c) := by rw [hw1]; show (World.setCell _ _ _).cell? _ = _; rw [pset_else (by decide), pset_else (by decide)]; exact c2
  have r3 : w1.cell? ⟨g, 3, none⟩ = some (.int .u8 a) := by rw [hw1]; show (World.setCell _ _ _).cell? _ = _; exact pset_same (by rw [pset_else (by decide)]; exact c3)
  have e1 : w1.frozen? ⟨g, 1, none⟩ = false := by rw [hw1]; simpa [go_sem] using f1
  have e2 : w1.frozen? ⟨g, 2, none⟩ = false := by rw [hw1]; simpa [go_sem] using f2
  have G1 : w.grownBy w1 (some g) := by
    rw [hw1]
    have h := grown_putAll [.int .u8 a] 3 (grown_putAll [.int .u8 d] 0 (gr_refl w (some g)))
    exact ⟨h.os, h.tape, h.output, h.size, h.block⟩
  rw [← hw1]
  clear hw1 c0 c1 c2 c3 f0 f1 f2 f3
  go_wp2
  rw [rounds_succ]
  go_wp2_with fail
  go_region
  obtain ⟨w2, hw2⟩ : ∃ w2, w2 = ((w1.setCell ⟨g, 1, none⟩ (.int .u8 c)).setCell ⟨g, 2, none⟩ (.int .u8 b)).drew := ⟨_, rfl⟩
  have s0 : w2.cell? ⟨g, 0, none⟩ = some (.int .u8 d) := by rw [hw2]; show (World.setCell _ _ _).cell? _ = _; rw [pset_else (by decide), pset_else (by decide)]; exact r0
  have s1 : w2.cell? ⟨g, 1, none⟩ = some (.int .u8 c) := by rw [hw2]; show (World.setCell _ _ _).cell? _ = _; rw [pset_else (by decide)]; exact pset_same r1
  have s2 : w2.cell? ⟨g, 2, none⟩ = some (.int .u8 b) := by rw [hw2]; show (World.setCell _ _ _).cell? _ = _; exact pset_same (by rw [pset_else (by decide)]; exact r2)
  have s3 : w2.cell? ⟨g, 3, none⟩ = some (.int .u8 a) := by rw [hw2]; show (World.setCell _ _ _).cell? _ = _; rw [pset_else (by decide), pset_else (by decide)]; exact r3
  have G2 : w.grownBy w2 (some g) := by
    rw [hw2]
    have h := grown_putAll [.int .u8 b] 2 (grown_putAll [.int .u8 c] 1 G1)
    exact ⟨h.os, h.tape, h.output, h.size, h.block⟩
  rw [← hw2]
  clear hw2 r0 r1 r2 r3 e1 e2 G1
  go_wp2
  rw [rounds_succ]
  go_wp2
  go_end0
  exact ⟨rfl, ⟨s0, s1, s2, s3⟩, G2⟩
set_option maxHeartbeats 1000000 in
theorem highI (s : Int) (w : World) (h0 : 0 ≤ s) (h1 : s ≤ 4294967295) :
    Calls Try.prog 37 #[.int .i64 s] w fun e w' => e = .returned (.slice (some ⟨w.heap.size, 0, none⟩) 4 4) ∧ (∀ j v, (by8 (hi4 s))[j]? = some v → w'.cell? ⟨w.heap.size, j, none⟩ = some v) ∧ w.heap.size < w'.heap.size ∧ Below w.heap.size w w' := by
  go_enter Try.func37, Try.ntmps37
  go_wp2_with fail
  go_at_call 58
  refine (lowFirstF s w h0 h1).mono ?_
  rintro e w1 ⟨rfl, B1, l1, _, hf, hc⟩
  go_wp2_with fail
  go_at_call 59
  refine (rev4 w.heap.size _ _ _ _ w1 (hc 0 (by omega)) (hc 1 (by omega)) (hc 2 (by omega)) (hc 3 (by omega)) (hf 0 (by omega)) (hf 1 (by omega)) (hf 2 (by omega)) (hf 3 (by omega))).mono ?_
  rintro e w2 ⟨rfl, ⟨c0, c1, c2, c3⟩, G⟩
  go_wp2
  go_ret
  refine ⟨rfl, ?_, Nat.lt_of_lt_of_le l1 G.size, B1.grown G (Nat.le_of_lt l1) (fun g e => by cases e; exact Nat.le_refl _)⟩
  intro j v hj
  have hl : j < 4 := (List.getElem?_eq_some_iff.1 hj).1
  rcases (by omega : j = 0 ∨ j = 1 ∨ j = 2 ∨ j = 3) with rfl | rfl | rfl | rfl
  · exact c0.trans hj
  · exact c1.trans hj
  · exact c2.trans hj
  · exact c3.trans hj

end Go.Proofs.Ytlgcjhebbmejaaa
