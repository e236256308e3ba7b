/- Contracts of the small functions over bytes that the laws call. -/
import Derived.Test.YtlgcjhebbmejaaaRows
import Derived.WalkKit
import Derived.ProofKit
import Derived.OpenShut
import Derived.ShutString
import Derived.ChangeOld
import Derived.Below
import Derived.Deep.QuietTactic
import Derived.BigQuiet
import Derived.WalkSmall
import Derived.Laws.OwnMore
import Derived.Test.YtlgcjhebbmejaaaBase
namespace Go.Proofs.Ytlgcjhebbmejaaa
open Go.ChangeShapes Go.WideShapes Go.ChangeAt Go.RowKit
open Go.ChangeMaps (open_string shut_string)
set_option linter.unusedVariables false
set_option maxRecDepth 100000

theorem Try.info5' : (Try.prog.info? 5).map (fun i => (i.zero, i.size, i.bytes)) = some (some (.int .u8 0), 1, 1) := by kernel_rfl
/-- What a loop that fills the block B has done behind k rounds. -/
def Filled (B len : Nat) (f : Nat → Int) (k : Nat) (w wr : World) : Prop :=
  Below B w wr ∧ B < wr.heap.size ∧ (∀ j, j < len → ∃ u, wr.cell? ⟨B, j, none⟩ = some u) ∧ (∀ j, j < len → wr.frozen? ⟨B, j, none⟩ = false) ∧ ∀ j, j < k → wr.cell? ⟨B, j, none⟩ = some (.int .u8 (f j))
theorem Filled.step {B len : Nat} {f : Nat → Int} {k : Nat} {w wr : World} (h : Filled B len f k w wr) (hk : k < len) : Filled B len f (k + 1) w (wr.setCell ⟨B, k, none⟩ (.int .u8 (f k))) := by
  obtain ⟨h1, h2, h3, h4, h5⟩ := h
  refine ⟨h1.setCell (Nat.le_refl _) _, by simpa using h2, ?_, ?_, ?_⟩
  · intro j hj
    exact cell?_setCell_some (h3 j hj).choose_spec
  · intro j hj
    simpa using h4 j hj
  · intro j hj
    by_cases e : j = k
    · subst e
      exact cell_set_same (h3 j hk)
    · rw [cell_set_ne e]
      exact h5 j (by omega)
theorem filled_made {w w1 : World} {len : Nat} {f : Nat → Int} {xs : List Value} (hown : w1.ownsRow w.heap.size 5 1 (.slice (some ⟨w.heap.size, 0, none⟩) len len) len xs) (hgrow : w.grownBy w1 none) : Filled w.heap.size len f 0 w w1 := by
  refine ⟨(Below.refl _ _).grown hgrow (Nat.le_refl _) (by simp), ?_, ?_, ?_, fun j hj => by omega⟩
  · rcases hown.2 with ⟨h, _⟩ | ⟨g, cap, cur, h, _, hg, _⟩
    · simp at h
    · simp only [Value.slice.injEq, Option.some.injEq, Addr.mk.injEq, and_true, true_and] at h
      obtain ⟨rfl, _⟩ := h
      exact (Array.getElem?_eq_some_iff.1 hg).1
  · intro j hj
    have hx := hown.1
    rw [hown.cellAt j (by omega)]
    exact ⟨xs[j]'(by omega), List.getElem?_eq_getElem (by omega)⟩
  · intro j hj
    exact hown.frozenAt j

set_option maxHeartbeats 400000 in
theorem eqBytes (ad ad' : Option Addr) (len cap cap' : Nat) (f : Nat → Int) (w : World) (hv : View w ad len f) (hv' : View w ad' len f) (hl : len ≤ 16777216) :
    Calls Try.prog 27 #[.slice ad len cap, .slice ad' len cap'] w fun e w' => e = .returned (.bool true) ∧ ∃ n, w' = w.drewN n := by
  go_enter Try.func27, Try.ntmps27
  go_wp2
  go_loopw [5] (fun i wr => ∃ k n : Nat, k ≤ len ∧ i = .int .i64 k ∧ wr = w.drewN n) (fun i _ => len - (intOf i).toNat)
  case atStart => exact ⟨0, 0, Nat.zero_le _, rfl, rfl⟩
  case round =>
    obtain ⟨k, n, hk, rfl, rfl⟩ := hrel
    by_cases hlt : k < len
    · obtain ⟨b, off, rfl, hc⟩ := hv (by omega)
      obtain ⟨b', off', rfl, hc'⟩ := hv' (by omega)
      have hck := hc k hlt
      have hck' := hc' k hlt
      go_wp2
      go_quiet (fail)
      go_wp2
      go_roundw
      case rel => exact ⟨k + 1, _, by omega, by go_num, rfl⟩
      case measure => simp [intOf]; omega
    · obtain rfl : k = len := by omega
      go_wp2
      go_ret
      exact ⟨rfl, _, rfl⟩

/-- What markByteS has done behind k rounds, at a row at (b, off). -/
def Marked (b off len : Nat) (m : Int) (k : Nat) (w wr : World) : Prop :=
  w.grownBy wr (some b) ∧ (∀ j, j < len → (∃ u, wr.cell? ⟨b, off + j, none⟩ = some u) ∧ wr.frozen? ⟨b, off + j, none⟩ = false) ∧ ∀ j, j < k → wr.cell? ⟨b, off + j, none⟩ = some (.int .u8 ((m + j) % 256))
theorem Marked.step {b off len : Nat} {m : Int} {k : Nat} {w wr : World} (h : Marked b off len m k w wr) (hk : k < len) : Marked b off len m (k + 1) w (wr.setCell ⟨b, off + k, none⟩ (.int .u8 ((m + k) % 256))) := by
  obtain ⟨h1, h2, h3⟩ := h
  refine ⟨⟨h1.os, h1.tape, h1.output, by simpa using h1.size, fun j hj hne => ?_⟩, fun j hj => ⟨?_, ?_⟩, fun j hj => ?_⟩
  · rw [Below.heap_setCell _ _ _ _ (fun e => hne (by rw [e]))]
    exact h1.block j hj hne
  · exact cell?_setCell_some (h2 j hj).1.choose_spec
  · simpa using (h2 j hj).2
  · by_cases e : j = k
    · subst e
      exact cell_set_same (h2 j hk).1
    · rw [cell_set_ne (by omega)]
      exact h3 j (by omega)

set_option maxHeartbeats 400000 in
theorem markBytes (ad : Option Addr) (len cap : Nat) (m : Int) (w : World) (hr : Room w ad len) (hl : len ≤ 16777216) (hm0 : 0 ≤ m) (hm1 : m ≤ 1000000000000) :
    Calls Try.prog 28 #[.slice ad len cap, .int .i64 m] w fun e w' => e = .returned (.int .i64 (m + len)) ∧ View w' ad len (fun i => (m + i) % 256) ∧ Room w' ad len ∧ (w' = w ∨ ∃ a, ad = some a ∧ 0 < len ∧ w.grownBy w' (some a.block)) := by
  by_cases hz : len = 0
  · subst hz
    go_enter Try.func28, Try.ntmps28
    go_wp2
    refine wp_loop_rounds 1 ?_; rw [rounds_succ]
    go_wp2
    go_ret
    exact ⟨by simp, fun h => absurd h (by omega), fun h => absurd h (by omega), .inl rfl⟩
  · obtain ⟨b, off, rfl, hc⟩ := hr (by omega)
    have M0 : Marked b off len m 0 w w := ⟨⟨rfl, rfl, rfl, Nat.le_refl _, fun _ _ _ => rfl⟩, hc, fun j hj => absurd hj (by omega)⟩
    clear hc hr
    go_enter Try.func28, Try.ntmps28
    go_wp2
    go_loopw [1, 5] (fun q i wr => ∃ k : Nat, k ≤ len ∧ i = .int .i64 k ∧ q = .int .i64 (m + k) ∧ Marked b off len m k w wr) (fun _ i _ => len - (intOf i).toNat)
    case atStart => exact ⟨0, Nat.zero_le _, rfl, by simp, M0⟩
    case round =>
      obtain ⟨k, hk, rfl, rfl, M⟩ := hrel
      clear M0
      by_cases hlt : k < len
      · obtain ⟨u, hu⟩ := (M.2.1 k hlt).1
        have hfz := (M.2.1 k hlt).2
        have M1 := M.step hlt
        clear M
        go_wp2
        go_roundw
        case rel => exact ⟨k + 1, by omega, by go_num, by go_num, by simpa using M1⟩
        case measure => simp [intOf]; omega
      · obtain rfl : k = len := by omega
        go_wp2
        go_ret
        exact ⟨rfl, fun _ => ⟨b, off, rfl, M.2.2⟩, fun _ => ⟨b, off, rfl, M.2.1⟩, .inr ⟨_, rfl, by omega, M.1⟩⟩

set_option maxHeartbeats 400000 in
theorem heldBytes (ad : Option Addr) (len cap : Nat) (m : Int) (w : World) (hv : View w ad len (fun i => (m + i) % 256)) (hl : len ≤ 16777216) (hm0 : 0 ≤ m) (hm1 : m ≤ 1000000000000) :
    Calls Try.prog 29 #[.slice ad len cap, .int .i64 m] w fun e w' => e = .returned (.int .i64 (m + len)) ∧ w' = w := by
  go_enter Try.func29, Try.ntmps29
  go_wp2
  go_loop [1, 5] (fun q i => ∃ k : Nat, k ≤ len ∧ i = .int .i64 k ∧ q = .int .i64 (m + k)) (fun _ i => len - (intOf i).toNat)
  case atStart => exact ⟨0, Nat.zero_le _, rfl, by simp⟩
  case round =>
    obtain ⟨k, hk, rfl, rfl⟩ := hrel
    by_cases hlt : k < len
    · obtain ⟨b, off, rfl, hc⟩ := hv (by omega)
      have hck := hc k hlt
      go_wp2
      go_round
      case rel => exact ⟨k + 1, by omega, by go_num, by go_num⟩
      case measure => simp [intOf]; omega
    · obtain rfl : k = len := by omega
      go_wp2
      go_ret
      exact ⟨rfl, rfl⟩
theorem mark_below {w w' : World} {ad : Option Addr} {len B : Nat} {n : Nat} (h : w' = w.drewN n ∨ ∃ a, ad = some a ∧ 0 < len ∧ (w.drewN n).grownBy w' (some a.block)) (hB : ∀ a, ad = some a → B ≤ a.block) (hs : B ≤ w.heap.size) : Below B w w' := by
  rcases h with rfl | ⟨a, e, _, hg⟩
  · exact below_drewN (Below.refl _ _) n
  · refine (below_drewN (Below.refl _ _) n).trans ⟨hg.os, hg.tape, hg.output, hg.size, fun k hk => ?_⟩
    exact hg.block k (Nat.lt_of_lt_of_le hk hs) (by have := hB a e; simp; omega)

set_option maxHeartbeats 400000 in
theorem toBytes (ad : Option Addr) (len cap : Nat) (f : Nat → Int) (w : World) (hv : View w ad len f) (hl : len ≤ 1048576) (hB : ∀ a, ad = some a → 0 < len → a.block < w.heap.size) :
    Calls Try.prog 30 #[.slice ad len cap] w fun e w' => e = .returned (.slice (some ⟨w.heap.size, 0, none⟩) len len) ∧ Filled w.heap.size len f len w w' := by
  obtain ⟨i0, hi, hz0, hz1, hz2⟩ := info_parts Try.info5'
  go_enter Try.func30, Try.ntmps30
  go_wp2_with (first | (refine wpList_make_full _ rfl _ _ 22 rfl w.heap.size 5 i0 (.int .u8 0) 1 Try.underlying22 hi hz0 hz1 .i64 .i64 _ _ len rfl rfl rfl rfl ?c1 ?c2 ?c3 ?_))
  case c1 => rw [hz2]; omega
  case c2 => unfold maxLen; omega
  case c3 => exact Nat.le_refl _
  intro w1 hown hgrow
  have F0 : Filled w.heap.size len f 0 w w1 := filled_made hown hgrow
  clear hown hgrow
  go_wp2
  go_loopw [4] (fun i wr => ∃ k : Nat, k ≤ len ∧ i = .int .i64 k ∧ Filled w.heap.size len f k w wr) (fun i _ => len - (intOf i).toNat)
  case atStart => exact ⟨0, Nat.zero_le _, rfl, F0⟩
  case round =>
    obtain ⟨k, hk, rfl, F⟩ := hrel
    clear F0
    by_cases hlt : k < len
    · obtain ⟨b, off, rfl, hc⟩ := hv (by omega)
      have hck : wr.cell? ⟨b, off + k, none⟩ = some (.int .u8 (f k)) := (F.1.cell (p := ⟨b, off + k, none⟩) (hB ⟨b, off, none⟩ rfl (by omega))).trans (hc k hlt)
      obtain ⟨u, hu⟩ := F.2.2.1 k hlt
      have hfz := F.2.2.2.1 k hlt
      have F1 := F.step hlt
      clear F hc
      go_wp2
      go_roundw
      case rel => exact ⟨k + 1, by omega, by go_num, F1⟩
      case measure => simp [intOf]; omega
    · obtain rfl : k = len := by omega
      go_wp2
      go_ret
      exact ⟨rfl, F⟩
/-- The same, from a world w that came before. -/
theorem toBytesIn (ad : Option Addr) (len cap : Nat) (f : Nat → Int) (w wc : World) (hv : View w ad len f) (hl : len ≤ 1048576) (hB : ∀ a, ad = some a → 0 < len → a.block < w.heap.size) (hb : Below w.heap.size w wc) :
    Calls Try.prog 30 #[.slice ad len cap] wc fun e w' => e = .returned (.slice (some ⟨wc.heap.size, 0, none⟩) len len) ∧ Below w.heap.size w w' ∧ Below wc.heap.size wc w' ∧ wc.heap.size < w'.heap.size ∧ View w' (some ⟨wc.heap.size, 0, none⟩) len f := by
  have hv' : View wc ad len f := fun hp => by
    obtain ⟨b, off, e, hc⟩ := hv hp
    exact ⟨b, off, e, fun i hi => (hb.cell (p := ⟨b, off + i, none⟩) (hB ⟨b, off, none⟩ e hp)).trans (hc i hi)⟩
  refine (toBytes ad len cap f wc hv' hl (fun a h hp => Nat.lt_of_lt_of_le (hB a h hp) hb.size)).mono ?_
  rintro e w' ⟨rfl, F⟩
  exact ⟨rfl, hb.trans (F.1.mono hb.size), F.1, F.2.1, View.mk0 F.2.2.2.2⟩

end Go.Proofs.Ytlgcjhebbmejaaa
