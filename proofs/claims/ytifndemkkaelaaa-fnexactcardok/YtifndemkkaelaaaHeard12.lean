/- Marks upon lists. -/
import Derived.Test.YtifndemkkaelaaaRows
import Derived.WalkKit
import Derived.ProofKit
import Derived.OpenShut
import Derived.ShutString
import Derived.ChangeOld
import Derived.Below
import Derived.Deep.QuietTactic
import Derived.BigQuiet
import Derived.WalkSmall
import Derived.Laws.OwnMore
import Derived.WalkSpells
import Derived.Test.YtifndemkkaelaaaHeard6
namespace Go.Proofs.Ytifndemkkaelaaa
open Go.ChangeShapes Go.WideShapes Go.ChangeAt Go.RowKit
open Go.ChangeMaps (open_string shut_string)
set_option linter.unusedVariables false

/-- The marks that markHeardS lays. -/
def mkH (m : Int) (i : Nat) : Hd := ⟨m + 4 * (i : Int), m + 4 * (i : Int) + 1, m + 4 * (i : Int) + 2, m + 4 * (i : Int) + 3⟩
def mksH (m : Int) (n : Nat) : List Hd := (List.range n).map (mkH m)
theorem mksH_len (m : Int) (n : Nat) : (mksH m n).length = n := by simp [mksH]
theorem mksH_at (m : Int) {n i : Nat} (h : i < n) : (mksH m n).getD i Hd.nil = mkH m i := by simp [mksH, List.getD, h]
/-- What markHeardS has done behind k rounds. -/
def HMk (m : Int) (b off len : Nat) (k : Nat) (w wr : World) : Prop :=
  w.grownBy wr (some b) ∧ (∀ j, j < len * 4 → (∃ u, wr.cell? ⟨b, off + j, none⟩ = some u) ∧ wr.frozen? ⟨b, off + j, none⟩ = false) ∧ ∀ j, j < k → HAt wr b (off + j * 4) (mkH m j)
theorem grown_put4 {w wr : World} {b : Nat} (h : w.grownBy wr (some b)) (o : Nat) (x : Hd) : w.grownBy (World.put4 wr b o x) (some b) := by
  refine ⟨h.os, h.tape, h.output, by rw [size_put4]; exact h.size, fun j hj hne => ?_⟩
  have hn : j ≠ b := fun e => hne (by rw [e])
  unfold World.put4
  rw [Below.heap_setCell _ _ _ _ hn, Below.heap_setCell _ _ _ _ hn, Below.heap_setCell _ _ _ _ hn, Below.heap_setCell _ _ _ _ hn]
  exact h.block j hj hne
theorem HMk.step {m : Int} {b off len k : Nat} {w wr : World} (h : HMk m b off len k w wr) (hk : k < len) : HMk m b off len (k + 1) w (World.put4 wr b (off + k * 4) (mkH m k)) := by
  obtain ⟨h1, h2, h3⟩ := h
  refine ⟨grown_put4 h1 _ _, fun j hj => ⟨cell_put4_some (h2 j hj).1, by rw [frozen_put4]; exact (h2 j hj).2⟩, fun j hj => ?_⟩
  by_cases e : j = k
  · subst e
    exact hat_put4 fun i hi => by rw [Nat.add_assoc]; exact (h2 _ (by omega)).1
  · obtain ⟨q0, q1, q2, q3⟩ := h3 j (by omega)
    exact ⟨(cell_put4_ne (by omega)).trans q0, (cell_put4_ne (by omega)).trans q1, (cell_put4_ne (by omega)).trans q2, (cell_put4_ne (by omega)).trans q3⟩
set_option maxHeartbeats 1000000 in
theorem markHG (ad : Option Addr) (len cap : Nat) (m : Int) (w : World) (hr : HRoom w ad len) (hl : len ≤ 1048576) (hm0 : 0 ≤ m) (hm1 : m ≤ 1000000000000) :
    Calls Try.prog 49 #[.slice ad len cap, .int .i64 m] w fun e w' => e = .returned (.int .i64 (m + 4 * (len : Int))) ∧ HView w' ad (mksH m len) ∧ HRoom w' ad len ∧ (w' = w ∨ ∃ a, ad = some a ∧ 0 < len ∧ w.grownBy w' (some a.block)) := by
  by_cases hz : len = 0
  · subst hz
    go_enter Try.func49, Try.ntmps49
    go_wp2
    refine wp_loop_rounds 1 ?_; rw [rounds_succ]
    go_wp2
    go_ret
    exact ⟨by simp, fun h => absurd h (by simp [mksH]), fun h => absurd h (by omega), .inl rfl⟩
  · obtain ⟨b, off, rfl, hc⟩ := hr (by omega)
    have M0 : HMk m b off len 0 w w := ⟨⟨rfl, rfl, rfl, Nat.le_refl _, fun _ _ _ => rfl⟩, hc, fun j hj => absurd hj (by omega)⟩
    clear hc hr
    go_enter Try.func49, Try.ntmps49
    go_wp2
    go_loopw [1, 5] (fun q i wr => ∃ k : Nat, k ≤ len ∧ i = .int .i64 k ∧ q = .int .i64 (m + 4 * (k : Int)) ∧ HMk m b off len k w wr) (fun _ i _ => len - (intOf i).toNat)
    case atStart => exact ⟨0, Nat.zero_le _, rfl, by simp, M0⟩
    case round =>
      obtain ⟨k, hk, rfl, rfl, M⟩ := hrel
      clear M0
      by_cases hlt : k < len
      · obtain ⟨u0, hu0⟩ := (M.2.1 (k * 4) (by omega)).1
        obtain ⟨u1, hu1⟩ := (M.2.1 (k * 4 + 1) (by omega)).1
        obtain ⟨u2, hu2⟩ := (M.2.1 (k * 4 + 2) (by omega)).1
        obtain ⟨u3, hu3⟩ := (M.2.1 (k * 4 + 3) (by omega)).1
        have f0 := (M.2.1 (k * 4) (by omega)).2
        have f1 := (M.2.1 (k * 4 + 1) (by omega)).2
        have f2 := (M.2.1 (k * 4 + 2) (by omega)).2
        have f3 := (M.2.1 (k * 4 + 3) (by omega)).2
        simp only [← Nat.add_assoc] at hu0 hu1 hu2 hu3 f0 f1 f2 f3
        have M1 := M.step hlt
        unfold World.put4 mkH at M1
        clear M
        go_wp2
        go_roundw
        case rel => exact ⟨k + 1, by omega, by go_num, by go_num, by simpa [Int.add_assoc] using M1⟩
        case measure => simp [intOf]; omega
      · obtain rfl : k = len := by omega
        go_wp2
        go_ret
        exact ⟨rfl, fun _ => ⟨b, off, rfl, fun i hi => by rw [mksH_len] at hi; rw [mksH_at m hi]; exact M.2.2 i hi⟩, fun _ => ⟨b, off, rfl, M.2.1⟩, .inr ⟨_, rfl, by omega, M.1⟩⟩
set_option maxHeartbeats 1000000 in
theorem heldHG (ad : Option Addr) (len cap : Nat) (m : Int) (w : World) (hv : HView w ad (mksH m len)) (hl : len ≤ 1048576) (hm0 : 0 ≤ m) (hm1 : m ≤ 1000000000000) :
    Calls Try.prog 52 #[.slice ad len cap, .int .i64 m] w fun e w' => e = .returned (.int .i64 (m + 4 * (len : Int))) ∧ w' = w := by
  go_enter Try.func52, Try.ntmps52
  go_wp2
  go_loop [1, 5] (fun q i => ∃ k : Nat, k ≤ len ∧ i = .int .i64 k ∧ q = .int .i64 (m + 4 * (k : Int))) (fun _ i => len - (intOf i).toNat)
  case atStart => exact ⟨0, Nat.zero_le _, rfl, by simp⟩
  case round =>
    obtain ⟨k, hk, rfl, rfl⟩ := hrel
    by_cases hlt : k < len
    · obtain ⟨b, off, rfl, hc⟩ := hv (by rw [mksH_len]; omega)
      have hck := hc k (by rw [mksH_len]; exact hlt)
      rw [mksH_at m hlt] at hck
      obtain ⟨c1, c2, c3, c4⟩ := hck
      simp only [mkH] at c1 c2 c3 c4
      clear hc hv
      go_wp2
      go_round
      case rel => exact ⟨k + 1, by omega, by go_num, by go_num⟩
      case measure => simp [intOf]; omega
    · obtain rfl : k = len := by omega
      go_wp2
      go_ret
      exact ⟨rfl, rfl⟩

end Go.Proofs.Ytifndemkkaelaaa
