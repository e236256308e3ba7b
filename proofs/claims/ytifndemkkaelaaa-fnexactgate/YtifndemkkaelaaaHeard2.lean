/- What fits, what stands ahead, what is compared. -/
import Derived.Test.YtifndemkkaelaaaRows
import Derived.WalkKit
import Derived.ProofKit
import Derived.OpenShut
import Derived.ShutString
import Derived.ChangeOld
import Derived.Below
import Derived.Deep.QuietTactic
import Derived.BigQuiet
import Derived.WalkSmall
import Derived.Laws.OwnMore
import Derived.WalkSpells
import Derived.Test.YtifndemkkaelaaaHeard1
import Derived.Test.YtifndemkkaelaaaNaN
namespace Go.Proofs.Ytifndemkkaelaaa
open Go.ChangeShapes Go.WideShapes Go.ChangeAt Go.RowKit
open Go.ChangeMaps (open_string shut_string)
set_option linter.unusedVariables false

def Hd.fits (h : Hd) : Bool := decide (1 ≤ h.a ∧ h.a ≤ 9 ∧ 1 ≤ h.v ∧ h.v ≤ 4 ∧ 0 ≤ h.p ∧ h.p ≤ 3 ∧ 1 ≤ h.l ∧ h.l ≤ 20)
def Hd.bef (x y : Hd) : Bool := decide (x.v < y.v ∨ (x.v = y.v ∧ x.a < y.a))
/-- What a table is. -/
def TOk (L : List Hd) : Prop := L.length ≤ 12 ∧ (∀ i, i < L.length → (L.getD i Hd.nil).fits = true) ∧ ∀ i, i < L.length → 0 < i → (L.getD (i - 1) Hd.nil).bef (L.getD i Hd.nil) = true
def tokB (L : List Hd) : Bool := decide (L.length ≤ 12 ∧ (∀ i, i < L.length → (L.getD i Hd.nil).fits = true) ∧ ∀ i, i < L.length → 0 < i → (L.getD (i - 1) Hd.nil).bef (L.getD i Hd.nil) = true)
theorem tokB_yes {L : List Hd} (h : TOk L) : tokB L = true := decide_eq_true h
theorem tokB_no {L : List Hd} (h : ¬ TOk L) : tokB L = false := decide_eq_false h
theorem tokB_of {L : List Hd} (h : tokB L = true) : TOk L := by
  unfold tokB at h
  have q := of_decide_eq_true h
  exact q
theorem inIs (n lo hi : Int) (w : World) : Calls Try.prog 36 #[.int .i64 n, .int .i64 lo, .int .i64 hi] w fun e w' => e = .returned (.bool (decide (lo ≤ n ∧ n ≤ hi))) ∧ w' = w := by
  by_cases h1 : lo ≤ n
  · by_cases h2 : n ≤ hi
    · rw [decide_eq_true (by omega : lo ≤ n ∧ n ≤ hi)]
      go_enter Try.func36, Try.ntmps36
      go_wp2
      go_ret
      exact ⟨rfl, rfl⟩
    · rw [decide_eq_false (by omega : ¬ (lo ≤ n ∧ n ≤ hi))]
      have h3 : decide (n ≤ hi) = false := decide_eq_false h2
      go_enter Try.func36, Try.ntmps36
      go_wp2
      go_ret
      exact ⟨rfl, rfl⟩
  · rw [decide_eq_false (by omega : ¬ (lo ≤ n ∧ n ≤ hi))]
    have h3 : decide (lo ≤ n) = false := decide_eq_false h1
    go_enter Try.func36, Try.ntmps36
    go_wp2
    go_ret
    exact ⟨rfl, rfl⟩
theorem befS (x y : Hd) (w : World) :
    Calls Try.prog 65 #[.agg #[.int .i64 x.a, .int .i64 x.v, .int .i64 x.p, .int .i64 x.l], .agg #[.int .i64 y.a, .int .i64 y.v, .int .i64 y.p, .int .i64 y.l]] w fun e w' => e = .returned (.bool (x.bef y)) ∧ Below w.heap.size w w' := by
  obtain ⟨xa, xv, xp, xl⟩ := x
  obtain ⟨ya, yv, yp, yl⟩ := y
  by_cases h1 : xv < yv
  · rw [show Hd.bef ⟨xa, xv, xp, xl⟩ ⟨ya, yv, yp, yl⟩ = true by unfold Hd.bef; simp; omega]
    go_enter Try.func65, Try.ntmps65
    go_wp2
    go_ret
    exact ⟨rfl, ((Below.refl _ _).alloc (Nat.le_refl _) _).alloc (by simp) _⟩
  · have h1' : decide (xv < yv) = false := decide_eq_false h1
    by_cases h2 : xv = yv
    · subst h2
      by_cases h3 : xa < ya
      · rw [show Hd.bef ⟨xa, xv, xp, xl⟩ ⟨ya, xv, yp, yl⟩ = true by unfold Hd.bef; simp; omega]
        go_enter Try.func65, Try.ntmps65
        go_wp2
        go_ret
        exact ⟨rfl, ((Below.refl _ _).alloc (Nat.le_refl _) _).alloc (by simp) _⟩
      · rw [show Hd.bef ⟨xa, xv, xp, xl⟩ ⟨ya, xv, yp, yl⟩ = false by unfold Hd.bef; simp; omega]
        have h3' : decide (xa < ya) = false := decide_eq_false h3
        go_enter Try.func65, Try.ntmps65
        go_wp2
        go_ret
        exact ⟨rfl, ((Below.refl _ _).alloc (Nat.le_refl _) _).alloc (by simp) _⟩
    · rw [show Hd.bef ⟨xa, xv, xp, xl⟩ ⟨ya, yv, yp, yl⟩ = false by unfold Hd.bef; simp; omega]
      have h2' : (xv == yv) = false := by simp [h2]
      go_enter Try.func65, Try.ntmps65
      go_wp2
      go_ret
      exact ⟨rfl, ((Below.refl _ _).alloc (Nat.le_refl _) _).alloc (by simp) _⟩
def cmp3 (x y : Int) : Int := if x < y then -1 else if y < x then 1 else 0
theorem cmpI (x y : Int) (w : World) : Calls Try.prog 105 #[.int .i64 x, .int .i64 y] w fun e w' => e = .returned (.int .i64 (cmp3 x y)) ∧ w' = w := by
  go_enter Try.func105, Try.ntmps105
  go_wp2_with (first | (go_at_call 111; refine (nanI _ _).mono ?_; rintro e w' ⟨rfl, rfl⟩) | go_in)
  all_goals (go_ret; refine ⟨?_, rfl⟩; unfold cmp3; (repeat' split) <;> first | rfl | (exfalso; omega))
def or2 (x y : Int) : Int := if x ≠ 0 then x else y
theorem orI (b : Nat) (x y : Int) (w : World) (c0 : w.cell? ⟨b, 0, none⟩ = some (.int .i64 x)) (c1 : w.cell? ⟨b, 1, none⟩ = some (.int .i64 y)) :
    Calls Try.prog 104 #[.slice (some ⟨b, 0, none⟩) 2 2] w fun e w' => e = .returned (.int .i64 (or2 x y)) ∧ w' = w := by
  by_cases hx : x = 0
  · subst hx
    by_cases hy : y = 0
    · subst hy
      rw [show or2 0 0 = 0 by simp [or2]]
      go_enter Try.func104, Try.ntmps104
      go_wp2
      refine wp_loop_rounds 3 ?_
      repeat (rw [rounds_succ]; go_wp2)
      go_ret
      exact ⟨rfl, rfl⟩
    · rw [show or2 0 y = y by simp [or2]]
      have hy' : (y != 0) = true := by simp [hy]
      go_enter Try.func104, Try.ntmps104
      go_wp2
      refine wp_loop_rounds 2 ?_
      repeat (rw [rounds_succ]; go_wp2)
      go_ret
      exact ⟨rfl, rfl⟩
  · rw [show or2 x y = x by simp [or2, hx]]
    have hx' : (x != 0) = true := by simp [hx]
    go_enter Try.func104, Try.ntmps104
    go_wp2
    refine wp_loop_rounds 1 ?_
    repeat (rw [rounds_succ]; go_wp2)
    go_ret
    exact ⟨rfl, rfl⟩
set_option maxHeartbeats 1000000 in
theorem fitsH (h : Hd) (w : World) :
    Calls Try.prog 79 #[.agg #[.int .i64 h.a, .int .i64 h.v, .int .i64 h.p, .int .i64 h.l]] w fun e w' => e = .returned (.bool h.fits) ∧ Below w.heap.size w w' := by
  obtain ⟨a, v, p, l⟩ := h
  by_cases h0 : 1 ≤ a
  rotate_left
  · rw [show Hd.fits ⟨a, v, p, l⟩ = false by unfold Hd.fits; simp; omega]
    have d0 : decide (1 ≤ a) = false := decide_eq_false h0
    go_enter Try.func79, Try.ntmps79
    go_wp2
    go_ret
    exact ⟨rfl, (Below.refl _ _).alloc (Nat.le_refl _) _⟩
  by_cases h1 : a ≤ 9
  rotate_left
  · rw [show Hd.fits ⟨a, v, p, l⟩ = false by unfold Hd.fits; simp; omega]
    have d1 : decide (a ≤ 9) = false := decide_eq_false h1
    go_enter Try.func79, Try.ntmps79
    go_wp2
    go_ret
    exact ⟨rfl, (Below.refl _ _).alloc (Nat.le_refl _) _⟩
  by_cases h2 : 1 ≤ v
  rotate_left
  · rw [show Hd.fits ⟨a, v, p, l⟩ = false by unfold Hd.fits; simp; omega]
    have d2 : decide (1 ≤ v) = false := decide_eq_false h2
    go_enter Try.func79, Try.ntmps79
    go_wp2
    go_ret
    exact ⟨rfl, (Below.refl _ _).alloc (Nat.le_refl _) _⟩
  by_cases h3 : v ≤ 4
  rotate_left
  · rw [show Hd.fits ⟨a, v, p, l⟩ = false by unfold Hd.fits; simp; omega]
    have d3 : decide (v ≤ 4) = false := decide_eq_false h3
    go_enter Try.func79, Try.ntmps79
    go_wp2
    go_ret
    exact ⟨rfl, (Below.refl _ _).alloc (Nat.le_refl _) _⟩
  by_cases h4 : 0 ≤ p
  rotate_left
  · rw [show Hd.fits ⟨a, v, p, l⟩ = false by unfold Hd.fits; simp; omega]
    have d4 : decide (0 ≤ p) = false := decide_eq_false h4
    go_enter Try.func79, Try.ntmps79
    go_wp2
    go_ret
    exact ⟨rfl, (Below.refl _ _).alloc (Nat.le_refl _) _⟩
  by_cases h5 : p < 4
  rotate_left
  · rw [show Hd.fits ⟨a, v, p, l⟩ = false by unfold Hd.fits; simp; omega]
    have d5 : decide (p < 4) = false := decide_eq_false h5
    go_enter Try.func79, Try.ntmps79
    go_wp2
    go_ret
    exact ⟨rfl, (Below.refl _ _).alloc (Nat.le_refl _) _⟩
  by_cases h6 : 1 ≤ l
  rotate_left
  · rw [show Hd.fits ⟨a, v, p, l⟩ = false by unfold Hd.fits; simp; omega]
    have d6 : decide (1 ≤ l) = false := decide_eq_false h6
    go_enter Try.func79, Try.ntmps79
    go_wp2
    go_ret
    exact ⟨rfl, (Below.refl _ _).alloc (Nat.le_refl _) _⟩
  by_cases h7 : l ≤ 20
  rotate_left
  · rw [show Hd.fits ⟨a, v, p, l⟩ = false by unfold Hd.fits; simp; omega]
    have d7 : decide (l ≤ 20) = false := decide_eq_false h7
    go_enter Try.func79, Try.ntmps79
    go_wp2
    go_ret
    exact ⟨rfl, (Below.refl _ _).alloc (Nat.le_refl _) _⟩
  rw [show Hd.fits ⟨a, v, p, l⟩ = true by unfold Hd.fits; simp; omega]
  go_enter Try.func79, Try.ntmps79
  go_wp2
  go_ret
  exact ⟨rfl, (Below.refl _ _).alloc (Nat.le_refl _) _⟩

end Go.Proofs.Ytifndemkkaelaaa
