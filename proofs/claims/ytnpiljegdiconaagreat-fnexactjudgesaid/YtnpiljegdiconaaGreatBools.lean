/- Rows of bools: how great, copied, alike, marked. -/
import Derived.Test.YtnpiljegdiconaaGreatRows
import Derived.WalkKit
import Derived.ProofKit
import Derived.OpenShut
import Derived.ShutString
import Derived.ChangeOld
import Derived.Below
import Derived.Deep.QuietTactic
import Derived.BigQuiet
import Derived.WalkSmall
import Derived.Laws.OwnMore
import Derived.WalkSpells
import Derived.WalkLawsBesides
import Derived.Test.YtnpiljegdiconaaGreatBase
namespace Go.Proofs.YtnpiljegdiconaaGreat
open Go.ChangeShapes Go.WideShapes Go.ChangeAt Go.RowKit
open Go.ChangeMaps (open_string shut_string)
set_option linter.unusedVariables false
set_option maxRecDepth 100000

/-- The slice at 'ad' of 'len' bools reads as f 0, f 1, .. -/
def ViewB (w : World) (ad : Option Addr) (len : Nat) (f : Nat → Bool) : Prop :=
  0 < len → ∃ b off, ad = some ⟨b, off, none⟩ ∧ ∀ i, i < len → w.cell? ⟨b, off + i, none⟩ = some (.bool (f i))
theorem ViewB.mk0 {w : World} {b len : Nat} {f : Nat → Bool} (h : ∀ i, i < len → w.cell? ⟨b, i, none⟩ = some (.bool (f i))) : ViewB w (some ⟨b, 0, none⟩) len f :=
  fun _ => ⟨b, 0, rfl, fun i hi => by rw [Nat.zero_add]; exact h i hi⟩
theorem ViewB.carry {w w' : World} {ad : Option Addr} {len : Nat} {f : Nat → Bool} (h : ViewB w ad len f) (hb : ∀ a, ad = some a → 0 < len → w'.heap[a.block]? = w.heap[a.block]?) : ViewB w' ad len f :=
  fun hp => by
    obtain ⟨b, off, e, hc⟩ := h hp
    exact ⟨b, off, e, fun i hi => (World.cell?_of_block (a := ⟨b, off + i, none⟩) (hb ⟨b, off, none⟩ e hp)).trans (hc i hi)⟩
theorem ViewB.congr {w : World} {ad : Option Addr} {len : Nat} {f g : Nat → Bool} (h : ViewB w ad len f) (e : ∀ i, i < len → f i = g i) : ViewB w ad len g :=
  fun hp => by
    obtain ⟨b, off, e', hc⟩ := h hp
    exact ⟨b, off, e', fun i hi => by rw [← e i hi]; exact hc i hi⟩
theorem ViewB.lt {w : World} {ad : Option Addr} {len : Nat} {f : Nat → Bool} (h : ViewB w ad len f) (x : Addr) (e : ad = some x) (hp : 0 < len) : x.block < w.heap.size := by
  obtain ⟨b, off, e', hc⟩ := h hp
  rw [e] at e'
  cases e'
  exact World.block_lt_of_cell? w _ (hc 0 hp)
theorem ViewB.below {w w' : World} {ad : Option Addr} {len B : Nat} {f : Nat → Bool} (h : ViewB w ad len f) (k : Below B w w') (hB : w.heap.size ≤ B) : ViewB w' ad len f :=
  h.carry (fun x e hp => k.block _ (Nat.lt_of_lt_of_le (h.lt x e hp) hB))
theorem szBo (ad : Option Addr) (len cap : Nat) (l : Int) (w : World) (hl0 : 0 ≤ l) (hl1 : l ≤ 1048576) (hm : len ≤ maxLen) :
    Calls Tryz.prog 107 #[.slice ad len cap, .int .i64 l] w fun e w' => (e = .returned (.int .i64 (if (len : Int) ≤ l then l - len else -1))) ∧ w' = w := by
  unfold maxLen at hm
  by_cases h : (len : Int) ≤ l
  · rw [if_pos h]
    go_enter Tryz.func107, Tryz.ntmps107
    go_wp2
    go_ret
    exact ⟨rfl, rfl⟩
  · rw [if_neg h]
    go_enter Tryz.func107, Tryz.ntmps107
    go_wp2
    go_ret
    exact ⟨rfl, rfl⟩
set_option maxHeartbeats 400000 in
theorem eqBools (ad ad' : Option Addr) (len cap cap' : Nat) (f : Nat → Bool) (w : World) (hv : ViewB w ad len f) (hv' : ViewB w ad' len f) (hl : len ≤ 1048576) :
    Calls Tryz.prog 119 #[.slice ad len cap, .slice ad' len cap'] w fun e w' => e = .returned (.bool true) ∧ ∃ n, w' = w.drewN n := by
  go_enter Tryz.func119, Tryz.ntmps119
  go_wp2
  go_loopw [5] (fun i wr => ∃ k n : Nat, k ≤ len ∧ i = .int .i64 k ∧ wr = w.drewN n) (fun i _ => len - (intOf i).toNat)
  case atStart => exact ⟨0, 0, Nat.zero_le _, rfl, rfl⟩
  case round =>
    obtain ⟨k, n, hk, rfl, rfl⟩ := hrel
    by_cases hlt : k < len
    · obtain ⟨b, off, rfl, hc⟩ := hv (by omega)
      obtain ⟨b', off', rfl, hc'⟩ := hv' (by omega)
      have hck := hc k hlt
      have hck' := hc' k hlt
      go_wp2
      go_quiet (fail)
      go_wp2
      go_roundw
      case rel => exact ⟨k + 1, _, by omega, by go_num, rfl⟩
      case measure => simp [intOf]; omega
    · obtain rfl : k = len := by omega
      go_wp2
      go_ret
      exact ⟨rfl, _, rfl⟩
theorem Tryz.infoB' : (Tryz.prog.info? 4).map (fun i => (i.zero, i.size, i.bytes)) = some (some (.bool false), 1, 1) := by kernel_rfl
/-- What a loop that fills the block B has done behind k rounds. -/
def FilledB (B len : Nat) (f : Nat → Bool) (k : Nat) (w wr : World) : Prop :=
  Below B w wr ∧ B < wr.heap.size ∧ (∀ j, j < len → ∃ u, wr.cell? ⟨B, j, none⟩ = some u) ∧ (∀ j, j < len → wr.frozen? ⟨B, j, none⟩ = false) ∧ ∀ j, j < k → wr.cell? ⟨B, j, none⟩ = some (.bool (f j))
theorem FilledB.step {B len : Nat} {f : Nat → Bool} {k : Nat} {w wr : World} (h : FilledB B len f k w wr) (hk : k < len) : FilledB B len f (k + 1) w (wr.setCell ⟨B, k, none⟩ (.bool (f k))) := by
  obtain ⟨h1, h2, h3, h4, h5⟩ := h
  refine ⟨h1.setCell (Nat.le_refl _) _, by simpa using h2, ?_, ?_, ?_⟩
  · intro j hj
    exact cell?_setCell_some (h3 j hj).choose_spec
  · intro j hj
    simpa using h4 j hj
  · intro j hj
    by_cases e : j = k
    · subst e
      exact cell_set_same (h3 j hk)
    · rw [cell_set_ne e]
      exact h5 j (by omega)

theorem filledB_made {w w1 : World} {len : Nat} {f : Nat → Bool} {xs : List Value} (hown : w1.ownsRow w.heap.size 4 1 (.slice (some ⟨w.heap.size, 0, none⟩) len len) len xs) (hgrow : w.grownBy w1 none) : FilledB w.heap.size len f 0 w w1 := by
  refine ⟨(Below.refl _ _).grown hgrow (Nat.le_refl _) (by simp), ?_, ?_, ?_, fun j hj => by omega⟩
  · rcases hown.2 with ⟨h, _⟩ | ⟨g, cap, cur, h, _, hg, _⟩
    · simp at h
    · simp only [Value.slice.injEq, Option.some.injEq, Addr.mk.injEq, and_true, true_and] at h
      obtain ⟨rfl, _⟩ := h
      exact (Array.getElem?_eq_some_iff.1 hg).1
  · intro j hj
    have hx := hown.1
    rw [hown.cellAt j (by omega)]
    exact ⟨xs[j]'(by omega), List.getElem?_eq_getElem (by omega)⟩
  · intro j hj
    exact hown.frozenAt j

set_option maxHeartbeats 400000 in
theorem toBools (ad : Option Addr) (len cap : Nat) (f : Nat → Bool) (w : World) (hv : ViewB w ad len f) (hl : len ≤ 1048576) (hB : ∀ a, ad = some a → 0 < len → a.block < w.heap.size) :
    Calls Tryz.prog 113 #[.slice ad len cap] w fun e w' => e = .returned (.slice (some ⟨w.heap.size, 0, none⟩) len len) ∧ FilledB w.heap.size len f len w w' := by
  obtain ⟨i0, hi, hz0, hz1, hz2⟩ := info_parts Tryz.infoB'
  go_enter Tryz.func113, Tryz.ntmps113
  go_wp2_with (first | (refine wpList_make_full _ rfl _ _ 45 rfl w.heap.size 4 i0 (.bool false) 1 Tryz.underlying45 hi hz0 hz1 .i64 .i64 _ _ len rfl rfl rfl rfl ?c1 ?c2 ?c3 ?_))
  case c1 => rw [hz2]; omega
  case c2 => unfold maxLen; omega
  case c3 => exact Nat.le_refl _
  intro w1 hown hgrow
  have F0 : FilledB w.heap.size len f 0 w w1 := filledB_made hown hgrow
  clear hown hgrow
  go_wp2
  go_loopw [4] (fun i wr => ∃ k : Nat, k ≤ len ∧ i = .int .i64 k ∧ FilledB w.heap.size len f k w wr) (fun i _ => len - (intOf i).toNat)
  case atStart => exact ⟨0, Nat.zero_le _, rfl, F0⟩
  case round =>
    obtain ⟨k, hk, rfl, F⟩ := hrel
    clear F0
    by_cases hlt : k < len
    · obtain ⟨b, off, rfl, hc⟩ := hv (by omega)
      have hck : wr.cell? ⟨b, off + k, none⟩ = some (.bool (f k)) := (F.1.cell (p := ⟨b, off + k, none⟩) (hB ⟨b, off, none⟩ rfl (by omega))).trans (hc k hlt)
      obtain ⟨u, hu⟩ := F.2.2.1 k hlt
      have hfz := F.2.2.2.1 k hlt
      have F1 := F.step hlt
      clear F hc
      go_wp2
      go_roundw
      case rel => exact ⟨k + 1, by omega, by go_num, F1⟩
      case measure => simp [intOf]; omega
    · obtain rfl : k = len := by omega
      go_wp2
      go_ret
      exact ⟨rfl, F⟩

/-- The same, from a world w that came before. -/
theorem toBoolsIn (ad : Option Addr) (len cap : Nat) (f : Nat → Bool) (w wc : World) (hv : ViewB w ad len f) (hl : len ≤ 1048576) (hB : ∀ a, ad = some a → 0 < len → a.block < w.heap.size) (hb : Below w.heap.size w wc) :
    Calls Tryz.prog 113 #[.slice ad len cap] wc fun e w' => e = .returned (.slice (some ⟨wc.heap.size, 0, none⟩) len len) ∧ Below w.heap.size w w' ∧ Below wc.heap.size wc w' ∧ wc.heap.size < w'.heap.size ∧ ViewB w' (some ⟨wc.heap.size, 0, none⟩) len f := by
  have hv' : ViewB wc ad len f := fun hp => by
    obtain ⟨b, off, e, hc⟩ := hv hp
    exact ⟨b, off, e, fun i hi => (hb.cell (p := ⟨b, off + i, none⟩) (hB ⟨b, off, none⟩ e hp)).trans (hc i hi)⟩
  refine (toBools ad len cap f wc hv' hl (fun a h hp => Nat.lt_of_lt_of_le (hB a h hp) hb.size)).mono ?_
  rintro e w' ⟨rfl, F⟩
  exact ⟨rfl, hb.trans (F.1.mono hb.size), F.1, F.2.1, ViewB.mk0 F.2.2.2.2⟩
/-- The mark of a bool. -/
def mkB (k : Int) : Bool := k % 3 == 0
/-- What markBoolS has done behind k rounds, at a row at (b, off). -/
def MarkedB (b off len : Nat) (m : Int) (k : Nat) (w wr : World) : Prop :=
  w.grownBy wr (some b) ∧ (∀ j, j < len → (∃ u, wr.cell? ⟨b, off + j, none⟩ = some u) ∧ wr.frozen? ⟨b, off + j, none⟩ = false) ∧ ∀ j, j < k → wr.cell? ⟨b, off + j, none⟩ = some (.bool (mkB (m + j)))
theorem MarkedB.step {b off len : Nat} {m : Int} {k : Nat} {w wr : World} (h : MarkedB b off len m k w wr) (hk : k < len) : MarkedB b off len m (k + 1) w (wr.setCell ⟨b, off + k, none⟩ (.bool (mkB (m + k)))) := by
  obtain ⟨h1, h2, h3⟩ := h
  refine ⟨⟨h1.os, h1.tape, h1.output, by simpa using h1.size, fun j hj hne => ?_⟩, fun j hj => ⟨?_, ?_⟩, fun j hj => ?_⟩
  · rw [Below.heap_setCell _ _ _ _ (fun e => hne (by rw [e]))]
    exact h1.block j hj hne
  · exact cell?_setCell_some (h2 j hj).1.choose_spec
  · simpa using (h2 j hj).2
  · by_cases e : j = k
    · subst e
      exact cell_set_same (h2 j hk).1
    · rw [cell_set_ne (by omega)]
      exact h3 j (by omega)
theorem tmod3 {x : Int} (h : 0 ≤ x) : x.tmod 3 = x % 3 := Int.tmod_eq_emod_of_nonneg h
end Go.Proofs.YtnpiljegdiconaaGreat
