/- Contracts of the functions over frames: alike, ready to be sent. -/
import Derived.Test.YtpdlliehdmeboaaDoorRows
import Derived.WalkKit
import Derived.ProofKit
import Derived.OpenShut
import Derived.ShutString
import Derived.ChangeOld
import Derived.Below
import Derived.Deep.QuietTactic
import Derived.BigQuiet
import Derived.WalkSmall
import Derived.Laws.OwnMore
import Derived.WalkSpells
import Derived.Test.YtpdlliehdmeboaaDoorPut
namespace Go.Proofs.YtpdlliehdmeboaaDoor
open Go.ChangeShapes Go.WideShapes Go.ChangeAt Go.RowKit
open Go.ChangeMaps (open_string shut_string)
set_option linter.unusedVariables false

/-- What a frame's four cells hold, in a world. -/
def FrameAt (w : World) (p : Nat) (a b c : Int) (ad : Option Addr) (len cap : Nat) : Prop :=
  w.cell? ⟨p, 0, none⟩ = some (.int .i64 a) ∧ w.cell? ⟨p, 1, none⟩ = some (.int .i64 b) ∧ w.cell? ⟨p, 2, none⟩ = some (.int .i64 c) ∧ w.cell? ⟨p, 3, none⟩ = some (.slice ad len cap)


set_option maxHeartbeats 400000 in
theorem eqF (a b c : Int) (ad ad' : Option Addr) (len cap cap' : Nat) (f : Nat → Int) (w : World) (hv : View w ad len f) (hv' : View w ad' len f) (hl : len ≤ 1048576)
    (hB : ∀ x, ad = some x → 0 < len → x.block < w.heap.size) (hB' : ∀ x, ad' = some x → 0 < len → x.block < w.heap.size) :
    Calls Tryd.prog 18 #[.agg #[.int .i64 a, .int .i64 b, .int .i64 c, .slice ad len cap], .agg #[.int .i64 a, .int .i64 b, .int .i64 c, .slice ad' len cap']] w fun e w' => e = .returned (.bool true) ∧ Below w.heap.size w w' := by
  go_enter Tryd.func18, Tryd.ntmps18
  go_wp2_with fail
  go_at_call 19
  obtain ⟨w0, hw0⟩ : ∃ w0, w0 = ((w.alloc (Obj.cells #[Value.int IntKind.i64 a, Value.int IntKind.i64 b, Value.int IntKind.i64 c, Value.slice ad len cap] 25)).alloc (Obj.cells #[Value.int IntKind.i64 a, Value.int IntKind.i64 b, Value.int IntKind.i64 c, Value.slice ad' len cap'] 25)) := ⟨_, rfl⟩
  have b0 : Below w.heap.size w w0 := by rw [hw0]; exact ((Below.refl _ _).alloc (Nat.le_refl _) _).alloc (by simp) _
  rw [← hw0]
  clear hw0
  refine (eqBytes ad ad' len cap cap' f w0 (hv.carry (fun x h hp => b0.block _ (hB x h hp))) (hv'.carry (fun x h hp => b0.block _ (hB' x h hp))) hl).mono ?_
  rintro e w1 ⟨rfl, n, rfl⟩
  go_wp2
  go_ret
  exact ⟨rfl, below_drewN b0 n⟩

/-- When a frame can be sent. -/
def okF (a b c : Int) (len : Nat) : Bool := decide (0 ≤ a ∧ a ≤ 9 ∧ 1 ≤ b ∧ b ≤ 9 ∧ 0 ≤ c ∧ c ≤ 4 ∧ len ≤ 30)

set_option maxHeartbeats 1000000 in
theorem okSpec (a b c : Int) (ad : Option Addr) (len cap : Nat) (w : World) (hm : len ≤ maxLen) :
    Calls Tryd.prog 16 #[.agg #[.int .i64 a, .int .i64 b, .int .i64 c, .slice ad len cap]] w fun e w' => e = .returned (.bool (okF a b c len)) ∧ Below w.heap.size w w' := by
  unfold maxLen at hm
  by_cases ha : 0 ≤ a ∧ a ≤ 9
  · by_cases hb : 1 ≤ b ∧ b ≤ 9
    · by_cases hc : 0 ≤ c ∧ c ≤ 4
      · by_cases hn : len ≤ 30
        · have e : okF a b c len = true := by unfold okF; simp; omega
          have hn' : (len : Int) ≤ 30 := by omega
          rw [e]
          clear e
          go_enter Tryd.func16, Tryd.ntmps16
          go_wp2_with (first | (go_at_call 37; refine (inYes _ _ _ _ (by omega)).mono ?_; rintro e w' ⟨rfl, rfl⟩) | go_in)
          go_ret
          exact ⟨rfl, (Below.refl _ _).alloc (Nat.le_refl _) _⟩
        · have e : okF a b c len = false := by unfold okF; simp; omega
          have hn' : decide ((len : Int) ≤ 30) = false := by simp; omega
          rw [e]
          clear e
          go_enter Tryd.func16, Tryd.ntmps16
          go_wp2_with (first | (go_at_call 37; refine (inYes _ _ _ _ (by omega)).mono ?_; rintro e w' ⟨rfl, rfl⟩) | go_in)
          go_ret
          exact ⟨rfl, (Below.refl _ _).alloc (Nat.le_refl _) _⟩
      · have e : okF a b c len = false := by unfold okF; simp; omega
        rw [e]
        clear e
        go_enter Tryd.func16, Tryd.ntmps16
        go_wp2_with (first | (go_at_call 37; refine (inYes _ _ _ _ (by omega)).mono ?_; rintro e w' ⟨rfl, rfl⟩) | (go_at_call 37; refine (inNo _ _ _ _ (by omega)).mono ?_; rintro e w' ⟨rfl, rfl⟩) | go_in)
        go_ret
        exact ⟨rfl, (Below.refl _ _).alloc (Nat.le_refl _) _⟩
    · have e : okF a b c len = false := by unfold okF; simp; omega
      rw [e]
      clear e
      go_enter Tryd.func16, Tryd.ntmps16
      go_wp2_with (first | (go_at_call 37; refine (inYes _ _ _ _ (by omega)).mono ?_; rintro e w' ⟨rfl, rfl⟩) | (go_at_call 37; refine (inNo _ _ _ _ (by omega)).mono ?_; rintro e w' ⟨rfl, rfl⟩) | go_in)
      go_ret
      exact ⟨rfl, (Below.refl _ _).alloc (Nat.le_refl _) _⟩
  · have e : okF a b c len = false := by unfold okF; simp; omega
    rw [e]
    clear e
    go_enter Tryd.func16, Tryd.ntmps16
    go_wp2_with (first | (go_at_call 37; refine (inNo _ _ _ _ (by omega)).mono ?_; rintro e w' ⟨rfl, rfl⟩) | go_in)
    go_ret
    exact ⟨rfl, (Below.refl _ _).alloc (Nat.le_refl _) _⟩

set_option maxHeartbeats 2000000 in
theorem fits (p : Nat) (a b c : Int) (ad : Option Addr) (len cap : Nat) (w : World) (hm : len ≤ maxLen) (h : FrameAt w p a b c ad len cap) :
    Calls Tryd.prog 36 #[.pointer (some ⟨p, 0, none⟩)] w fun e w' => e = .returned (.bool (okF a b c len)) ∧ w' = w := by
  unfold maxLen at hm
  obtain ⟨h1, h2, h3, h4⟩ := h
  by_cases k0 : 0 ≤ a
  rotate_left
  · have k' : a < 0 := by omega
    have kd : decide (0 ≤ a) = false := by simp; omega
    have e : okF a b c len = false := by unfold okF; simp; omega
    rw [e]
    clear e
    go_enter Tryd.func36, Tryd.ntmps36
    go_wp2
    go_ret
    exact ⟨rfl, rfl⟩
  by_cases k1 : a ≤ 9
  rotate_left
  · have k' : 9 < a := by omega
    have kd : decide (a ≤ 9) = false := by simp; omega
    have e : okF a b c len = false := by unfold okF; simp; omega
    rw [e]
    clear e
    go_enter Tryd.func36, Tryd.ntmps36
    go_wp2
    go_ret
    exact ⟨rfl, rfl⟩
  by_cases k2 : 1 ≤ b
  rotate_left
  · have k' : b < 1 := by omega
    have kd : decide (1 ≤ b) = false := by simp; omega
    have e : okF a b c len = false := by unfold okF; simp; omega
    rw [e]
    clear e
    go_enter Tryd.func36, Tryd.ntmps36
    go_wp2
    go_ret
    exact ⟨rfl, rfl⟩
  by_cases k3 : b ≤ 9
  rotate_left
  · have k' : 9 < b := by omega
    have kd : decide (b ≤ 9) = false := by simp; omega
    have e : okF a b c len = false := by unfold okF; simp; omega
    rw [e]
    clear e
    go_enter Tryd.func36, Tryd.ntmps36
    go_wp2
    go_ret
    exact ⟨rfl, rfl⟩
  by_cases k4 : 0 ≤ c
  rotate_left
  · have k' : c < 0 := by omega
    have kd : decide (0 ≤ c) = false := by simp; omega
    have e : okF a b c len = false := by unfold okF; simp; omega
    rw [e]
    clear e
    go_enter Tryd.func36, Tryd.ntmps36
    go_wp2
    go_ret
    exact ⟨rfl, rfl⟩
  by_cases k5 : c ≤ 4
  rotate_left
  · have k' : 4 < c := by omega
    have kd : decide (c ≤ 4) = false := by simp; omega
    have e : okF a b c len = false := by unfold okF; simp; omega
    rw [e]
    clear e
    go_enter Tryd.func36, Tryd.ntmps36
    go_wp2
    go_ret
    exact ⟨rfl, rfl⟩
  by_cases k6 : (len : Int) ≤ 30
  rotate_left
  · have k' : 30 < (len : Int) := by omega
    have kd : decide ((len : Int) ≤ 30) = false := by simp; omega
    have e : okF a b c len = false := by unfold okF; simp; omega
    rw [e]
    clear e
    go_enter Tryd.func36, Tryd.ntmps36
    go_wp2
    go_ret
    exact ⟨rfl, rfl⟩
  have e : okF a b c len = true := by unfold okF; simp; omega
  rw [e]
  clear e
  go_enter Tryd.func36, Tryd.ntmps36
  go_wp2
  go_ret
  exact ⟨rfl, rfl⟩
theorem okImpl (a b c : Int) (ad : Option Addr) (len cap : Nat) (w : World) (hm : len ≤ maxLen) :
    Calls Tryd.prog 15 #[.agg #[.int .i64 a, .int .i64 b, .int .i64 c, .slice ad len cap]] w fun e w' => e = .returned (.bool (okF a b c len)) ∧ Below w.heap.size w w' := by
  go_enter Tryd.func15, Tryd.ntmps15
  go_wp2_with fail
  go_at_call 36
  refine (fits w.heap.size a b c ad len cap _ hm (by refine ⟨?_, ?_, ?_, ?_⟩ <;> simp [go_sem])).mono ?_
  rintro e w1 ⟨rfl, rfl⟩
  go_wp2
  go_ret
  exact ⟨rfl, (Below.refl _ _).alloc (Nat.le_refl _) _⟩

theorem FrameAt.below {w w' : World} {p : Nat} {a b c : Int} {ad : Option Addr} {len cap B : Nat} (h : FrameAt w p a b c ad len cap) (bl : Below B w w') (hp : p < B) : FrameAt w' p a b c ad len cap :=
  ⟨(bl.cell (p := ⟨p, 0, none⟩) hp).trans h.1, (bl.cell (p := ⟨p, 1, none⟩) hp).trans h.2.1, (bl.cell (p := ⟨p, 2, none⟩) hp).trans h.2.2.1, (bl.cell (p := ⟨p, 3, none⟩) hp).trans h.2.2.2⟩
theorem frameAt_box (w : World) (a b c : Int) (ad : Option Addr) (len cap : Nat) (t : TypeId) : FrameAt (w.alloc (Obj.cells #[.int .i64 a, .int .i64 b, .int .i64 c, .slice ad len cap] t)) w.heap.size a b c ad len cap := by
  refine ⟨?_, ?_, ?_, ?_⟩ <;> simp [go_sem]
theorem below_box (w : World) (o : Obj) : Below w.heap.size w (w.alloc o) := (Below.refl _ _).alloc (Nat.le_refl _) _
theorem size_box (w : World) (o : Obj) : w.heap.size < (w.alloc o).heap.size := by simp

end Go.Proofs.YtpdlliehdmeboaaDoor
