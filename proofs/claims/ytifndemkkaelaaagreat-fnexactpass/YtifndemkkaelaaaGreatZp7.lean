/- What a call owns. Contracts of the small functions over integers that the laws call. Contracts of the functions over members: how great, copied, alike. -/
import Derived.Test.YtifndemkkaelaaaGreatRows
import Derived.WalkKit
import Derived.ProofKit
import Derived.OpenShut
import Derived.ShutString
import Derived.ChangeOld
import Derived.Below
import Derived.Deep.QuietTactic
import Derived.BigQuiet
import Derived.WalkSmall
import Derived.Laws.OwnMore
import Derived.WalkSpells
import Derived.WalkLawsBesides
import Derived.Laws.AppendOwnNone
import Derived.Laws.CopyOwn
import Derived.Test.YtifndemkkaelaaaGreatZpFrameOwn
import Derived.Test.YtifndemkkaelaaaGreatZp1
import Derived.Test.YtifndemkkaelaaaGreatZp3
import Derived.Test.YtifndemkkaelaaaGreatZpNets4
namespace Go.Proofs.YtifndemkkaelaaaGreat
open Go.ChangeShapes Go.WideShapes Go.ChangeAt Go.RowKit
open Go.ChangeMaps (open_string shut_string)
set_option linter.unusedVariables false
set_option maxRecDepth 100000


end Go.Proofs.YtifndemkkaelaaaGreat
namespace Go.Proofs.YtifndemkkaelaaaGreat
open Go.ChangeShapes Go.WideShapes Go.ChangeAt Go.RowKit
open Go.ChangeMaps (open_string shut_string)
set_option linter.unusedVariables false

theorem ViewI.mk0 {w : World} {b len : Nat} {f : Nat → Int} (h : ∀ i, i < len → w.cell? ⟨b, i, none⟩ = some (.int .i64 (f i))) : ViewI w (some ⟨b, 0, none⟩) len f :=
  fun _ => ⟨b, 0, rfl, fun i hi => by rw [Nat.zero_add]; exact h i hi⟩
theorem ViewI.congr {w : World} {ad : Option Addr} {len : Nat} {f g : Nat → Int} (h : ViewI w ad len f) (e : ∀ i, i < len → f i = g i) : ViewI w ad len g :=
  fun hp => by
    obtain ⟨b, off, e', hc⟩ := h hp
    exact ⟨b, off, e', fun i hi => by rw [← e i hi]; exact hc i hi⟩
theorem szI (ad : Option Addr) (len cap : Nat) (l : Int) (w : World) (hl0 : 0 ≤ l) (hl1 : l ≤ 1048576) (hm : len ≤ maxLen) :
    Calls Tryz.prog 130 #[.slice ad len cap, .int .i64 l] w fun e w' => (e = .returned (.int .i64 (if (len : Int) ≤ l then l - len else -1))) ∧ w' = w := by
  unfold maxLen at hm
  by_cases h : (len : Int) ≤ l
  · rw [if_pos h]
    go_enter Tryz.func130, Tryz.ntmps130
    go_wp2
    go_ret
    exact ⟨rfl, rfl⟩
  · rw [if_neg h]
    go_enter Tryz.func130, Tryz.ntmps130
    go_wp2
    go_ret
    exact ⟨rfl, rfl⟩
set_option maxHeartbeats 400000 in
theorem eqInts (ad ad' : Option Addr) (len cap cap' : Nat) (f : Nat → Int) (w : World) (hv : ViewI w ad len f) (hv' : ViewI w ad' len f) (hl : len ≤ 1048576) :
    Calls Tryz.prog 132 #[.slice ad len cap, .slice ad' len cap'] w fun e w' => e = .returned (.bool true) ∧ ∃ n, w' = w.drewN n := by
  go_enter Tryz.func132, Tryz.ntmps132
  go_wp2
  go_loopw [5] (fun i wr => ∃ k n : Nat, k ≤ len ∧ i = .int .i64 k ∧ wr = w.drewN n) (fun i _ => len - (intOf i).toNat)
  case atStart => exact ⟨0, 0, Nat.zero_le _, rfl, rfl⟩
  case round =>
    obtain ⟨k, n, hk, rfl, rfl⟩ := hrel
    by_cases hlt : k < len
    · obtain ⟨b, off, rfl, hc⟩ := hv (by omega)
      obtain ⟨b', off', rfl, hc'⟩ := hv' (by omega)
      have hck := hc k hlt
      have hck' := hc' k hlt
      go_wp2
      go_quiet (fail)
      go_wp2
      go_roundw
      case rel => exact ⟨k + 1, _, by omega, by go_num, rfl⟩
      case measure => simp [intOf]; omega
    · obtain rfl : k = len := by omega
      go_wp2
      go_ret
      exact ⟨rfl, _, rfl⟩
theorem Tryz.infoI' : (Tryz.prog.info? 3).map (fun i => (i.zero, i.size, i.bytes)) = some (some (.int .i64 0), 1, 8) := by kernel_rfl
/-- What a loop that fills the block B has done behind k rounds. -/
def FilledI (B len : Nat) (f : Nat → Int) (k : Nat) (w wr : World) : Prop :=
  Below B w wr ∧ B < wr.heap.size ∧ (∀ j, j < len → ∃ u, wr.cell? ⟨B, j, none⟩ = some u) ∧ (∀ j, j < len → wr.frozen? ⟨B, j, none⟩ = false) ∧ ∀ j, j < k → wr.cell? ⟨B, j, none⟩ = some (.int .i64 (f j))
theorem FilledI.step {B len : Nat} {f : Nat → Int} {k : Nat} {w wr : World} (h : FilledI B len f k w wr) (hk : k < len) : FilledI B len f (k + 1) w (wr.setCell ⟨B, k, none⟩ (.int .i64 (f k))) := by
  obtain ⟨h1, h2, h3, h4, h5⟩ := h
  refine ⟨h1.setCell (Nat.le_refl _) _, by simpa using h2, ?_, ?_, ?_⟩
  · intro j hj
    exact cell?_setCell_some (h3 j hj).choose_spec
  · intro j hj
    simpa using h4 j hj
  · intro j hj
    by_cases e : j = k
    · subst e
      exact cell_set_same (h3 j hk)
    · rw [cell_set_ne e]
      exact h5 j (by omega)

theorem filledI_made {w w1 : World} {len : Nat} {f : Nat → Int} {xs : List Value} (hown : w1.ownsRow w.heap.size 3 1 (.slice (some ⟨w.heap.size, 0, none⟩) len len) len xs) (hgrow : w.grownBy w1 none) : FilledI w.heap.size len f 0 w w1 := by
  refine ⟨(Below.refl _ _).grown hgrow (Nat.le_refl _) (by simp), ?_, ?_, ?_, fun j hj => by omega⟩
  · rcases hown.2 with ⟨h, _⟩ | ⟨g, cap, cur, h, _, hg, _⟩
    · simp at h
    · simp only [Value.slice.injEq, Option.some.injEq, Addr.mk.injEq, and_true, true_and] at h
      obtain ⟨rfl, _⟩ := h
      exact (Array.getElem?_eq_some_iff.1 hg).1
  · intro j hj
    have hx := hown.1
    rw [hown.cellAt j (by omega)]
    exact ⟨xs[j]'(by omega), List.getElem?_eq_getElem (by omega)⟩
  · intro j hj
    exact hown.frozenAt j

set_option maxHeartbeats 400000 in
theorem toInts (ad : Option Addr) (len cap : Nat) (f : Nat → Int) (w : World) (hv : ViewI w ad len f) (hl : len ≤ 1048576) (hB : ∀ a, ad = some a → 0 < len → a.block < w.heap.size) :
    Calls Tryz.prog 131 #[.slice ad len cap] w fun e w' => e = .returned (.slice (some ⟨w.heap.size, 0, none⟩) len len) ∧ FilledI w.heap.size len f len w w' := by
  obtain ⟨i0, hi, hz0, hz1, hz2⟩ := info_parts Tryz.infoI'
  go_enter Tryz.func131, Tryz.ntmps131
  go_wp2_with (first | (refine wpList_make_full _ rfl _ _ 48 rfl w.heap.size 3 i0 (.int .i64 0) 1 Tryz.underlying48 hi hz0 hz1 .i64 .i64 _ _ len rfl rfl rfl rfl ?c1 ?c2 ?c3 ?_))
  case c1 => rw [hz2]; omega
  case c2 => unfold maxLen; omega
  case c3 => exact Nat.le_refl _
  intro w1 hown hgrow
  have F0 : FilledI w.heap.size len f 0 w w1 := filledI_made hown hgrow
  clear hown hgrow
  go_wp2
  go_loopw [4] (fun i wr => ∃ k : Nat, k ≤ len ∧ i = .int .i64 k ∧ FilledI w.heap.size len f k w wr) (fun i _ => len - (intOf i).toNat)
  case atStart => exact ⟨0, Nat.zero_le _, rfl, F0⟩
  case round =>
    obtain ⟨k, hk, rfl, F⟩ := hrel
    clear F0
    by_cases hlt : k < len
    · obtain ⟨b, off, rfl, hc⟩ := hv (by omega)
      have hck : wr.cell? ⟨b, off + k, none⟩ = some (.int .i64 (f k)) := (F.1.cell (p := ⟨b, off + k, none⟩) (hB ⟨b, off, none⟩ rfl (by omega))).trans (hc k hlt)
      obtain ⟨u, hu⟩ := F.2.2.1 k hlt
      have hfz := F.2.2.2.1 k hlt
      have F1 := F.step hlt
      clear F hc
      go_wp2
      go_roundw
      case rel => exact ⟨k + 1, by omega, by go_num, F1⟩
      case measure => simp [intOf]; omega
    · obtain rfl : k = len := by omega
      go_wp2
      go_ret
      exact ⟨rfl, F⟩

/-- The same, from a world w that came before. -/
theorem toIntsIn (ad : Option Addr) (len cap : Nat) (f : Nat → Int) (w wc : World) (hv : ViewI w ad len f) (hl : len ≤ 1048576) (hB : ∀ a, ad = some a → 0 < len → a.block < w.heap.size) (hb : Below w.heap.size w wc) :
    Calls Tryz.prog 131 #[.slice ad len cap] wc fun e w' => e = .returned (.slice (some ⟨wc.heap.size, 0, none⟩) len len) ∧ Below w.heap.size w w' ∧ Below wc.heap.size wc w' ∧ wc.heap.size < w'.heap.size ∧ ViewI w' (some ⟨wc.heap.size, 0, none⟩) len f := by
  have hv' : ViewI wc ad len f := fun hp => by
    obtain ⟨b, off, e, hc⟩ := hv hp
    exact ⟨b, off, e, fun i hi => (hb.cell (p := ⟨b, off + i, none⟩) (hB ⟨b, off, none⟩ e hp)).trans (hc i hi)⟩
  refine (toInts ad len cap f wc hv' hl (fun a h hp => Nat.lt_of_lt_of_le (hB a h hp) hb.size)).mono ?_
  rintro e w' ⟨rfl, F⟩
  exact ⟨rfl, hb.trans (F.1.mono hb.size), F.1, F.2.1, ViewI.mk0 F.2.2.2.2⟩
/-- What markByteS has done behind k rounds, at a row at (b, off). -/
def MarkedI (b off len : Nat) (m : Int) (k : Nat) (w wr : World) : Prop :=
  w.grownBy wr (some b) ∧ (∀ j, j < len → (∃ u, wr.cell? ⟨b, off + j, none⟩ = some u) ∧ wr.frozen? ⟨b, off + j, none⟩ = false) ∧ ∀ j, j < k → wr.cell? ⟨b, off + j, none⟩ = some (.int .i64 (m + j))
theorem MarkedI.step {b off len : Nat} {m : Int} {k : Nat} {w wr : World} (h : MarkedI b off len m k w wr) (hk : k < len) : MarkedI b off len m (k + 1) w (wr.setCell ⟨b, off + k, none⟩ (.int .i64 (m + k))) := by
  obtain ⟨h1, h2, h3⟩ := h
  refine ⟨⟨h1.os, h1.tape, h1.output, by simpa using h1.size, fun j hj hne => ?_⟩, fun j hj => ⟨?_, ?_⟩, fun j hj => ?_⟩
  · rw [Below.heap_setCell _ _ _ _ (fun e => hne (by rw [e]))]
    exact h1.block j hj hne
  · exact cell?_setCell_some (h2 j hj).1.choose_spec
  · simpa using (h2 j hj).2
  · by_cases e : j = k
    · subst e
      exact cell_set_same (h2 j hk).1
    · rw [cell_set_ne (by omega)]
      exact h3 j (by omega)

set_option maxHeartbeats 400000 in
theorem markInts (ad : Option Addr) (len cap : Nat) (m : Int) (w : World) (hr : Room w ad len) (hl : len ≤ 1048576) (hm0 : 0 ≤ m) (hm1 : m ≤ 1000000000000) :
    Calls Tryz.prog 115 #[.slice ad len cap, .int .i64 m] w fun e w' => e = .returned (.int .i64 (m + len)) ∧ ViewI w' ad len (fun i => m + i) ∧ Room w' ad len ∧ (w' = w ∨ ∃ a, ad = some a ∧ 0 < len ∧ w.grownBy w' (some a.block)) := by
  by_cases hz : len = 0
  · subst hz
    go_enter Tryz.func115, Tryz.ntmps115
    go_wp2
    refine wp_loop_rounds 1 ?_; rw [rounds_succ]
    go_wp2
    go_ret
    exact ⟨by simp, fun h => absurd h (by omega), fun h => absurd h (by omega), .inl rfl⟩
  · obtain ⟨b, off, rfl, hc⟩ := hr (by omega)
    have M0 : MarkedI b off len m 0 w w := ⟨⟨rfl, rfl, rfl, Nat.le_refl _, fun _ _ _ => rfl⟩, hc, fun j hj => absurd hj (by omega)⟩
    clear hc hr
    go_enter Tryz.func115, Tryz.ntmps115
    go_wp2
    go_loopw [1, 5] (fun q i wr => ∃ k : Nat, k ≤ len ∧ i = .int .i64 k ∧ q = .int .i64 (m + k) ∧ MarkedI b off len m k w wr) (fun _ i _ => len - (intOf i).toNat)
    case atStart => exact ⟨0, Nat.zero_le _, rfl, by simp, M0⟩
    case round =>
      obtain ⟨k, hk, rfl, rfl, M⟩ := hrel
      clear M0
      by_cases hlt : k < len
      · obtain ⟨u, hu⟩ := (M.2.1 k hlt).1
        have hfz := (M.2.1 k hlt).2
        have M1 := M.step hlt
        clear M
        go_wp2
        go_roundw
        case rel => exact ⟨k + 1, by omega, by go_num, by go_num, by simpa using M1⟩
        case measure => simp [intOf]; omega
      · obtain rfl : k = len := by omega
        go_wp2
        go_ret
        exact ⟨rfl, fun _ => ⟨b, off, rfl, M.2.2⟩, fun _ => ⟨b, off, rfl, M.2.1⟩, .inr ⟨_, rfl, by omega, M.1⟩⟩


end Go.Proofs.YtifndemkkaelaaaGreat
namespace Go.Proofs.YtifndemkkaelaaaGreat
open Go.ChangeShapes Go.WideShapes Go.ChangeAt Go.RowKit
open Go.ChangeMaps (open_string shut_string)
set_option linter.unusedVariables false
set_option maxRecDepth 100000

theorem szM (own : Int) (ad : Option Addr) (len cap : Nat) (l : Int) (w : World) (hl0 : 0 ≤ l) (hl1 : l ≤ 1048576) (hm : len ≤ maxLen) :
    Calls Tryz.prog 110 #[.agg #[.int .i64 own, .slice ad len cap], .int .i64 l] w fun e w' => (e = .returned (.int .i64 (if (len : Int) ≤ l then l - len else -1))) ∧ Below w.heap.size w w' := by
  by_cases h : (len : Int) ≤ l
  · go_enter Tryz.func110, Tryz.ntmps110
    go_wp2_with fail
    go_at_call 130
    refine (szI ad len cap l _ hl0 hl1 hm).mono ?_
    rintro e w1 ⟨rfl, rfl⟩
    rw [if_pos h]
    have h1 : 0 ≤ l - (len : Int) := by omega
    go_wp2
    go_ret
    exact ⟨rfl, (Below.refl _ _).alloc (Nat.le_refl _) _⟩
  · go_enter Tryz.func110, Tryz.ntmps110
    go_wp2_with fail
    go_at_call 130
    refine (szI ad len cap l _ hl0 hl1 hm).mono ?_
    rintro e w1 ⟨rfl, rfl⟩
    rw [if_neg (by omega)]
    go_wp2
    go_ret
    exact ⟨rfl, (Below.refl _ _).alloc (Nat.le_refl _) _⟩
set_option maxHeartbeats 1000000 in
theorem toM (own : Int) (ad : Option Addr) (len cap : Nat) (f : Nat → Int) (w : World) (hv : ViewI w ad len f) (hl : len ≤ 1048576) :
    Calls Tryz.prog 111 #[.agg #[.int .i64 own, .slice ad len cap]] w fun e w' => ∃ N, e = .returned (.agg #[.int .i64 own, .slice (some ⟨N, 0, none⟩) len len]) ∧ w.heap.size ≤ N ∧ N < w'.heap.size ∧ ViewI w' (some ⟨N, 0, none⟩) len f ∧ Room w' (some ⟨N, 0, none⟩) len ∧ Below w.heap.size w w' := by
  go_enter Tryz.func111, Tryz.ntmps111
  go_wp2_with fail
  go_at_call 131
  obtain ⟨w0, hw0⟩ : ∃ w0, w0 = (((w.alloc (Obj.cells #[Value.int IntKind.i64 own, Value.slice ad len cap] 136)).alloc (Obj.cells #[Value.int IntKind.i64 0, Value.slice none 0 0] 50)).alloc (Obj.cells #[Value.int IntKind.i64 own, Value.slice none 0 0] 50)) := ⟨_, rfl⟩
  have hs0 : w0.heap.size = w.heap.size + 3 := by rw [hw0]; simp
  have b0 : Below w.heap.size w w0 := by rw [hw0]; exact (((Below.refl _ _).alloc (Nat.le_refl _) _).alloc (by simp) _).alloc (by simp; omega) _
  have c0 : MemAt w0 (w.heap.size + 1) 0 none 0 0 := by rw [hw0]; refine ⟨?_, ?_⟩ <;> simp [go_sem]
  have g0 : ∀ i, w0.frozen? ⟨w.heap.size + 1, i, none⟩ = false := by intro i; rw [hw0]; simp [go_sem]
  have d0 : MemAt w0 (w.heap.size + 1 + 1) own none 0 0 := by rw [hw0]; refine ⟨?_, ?_⟩ <;> simp [go_sem]
  have e0 : ∀ i, w0.frozen? ⟨w.heap.size + 1 + 1, i, none⟩ = false := by intro i; rw [hw0]; simp [go_sem]
  rw [← hw0]
  clear hw0
  refine (toInts ad len cap f w0 (hv.below b0 (Nat.le_refl _)) hl (fun x h hp => by have := hv.lt x h hp; omega)).mono ?_
  rintro e w1 ⟨rfl, F⟩
  obtain ⟨f1, f2, f3, f4, f5⟩ := F
  rw [hs0] at f1 f2 f3 f4 f5
  obtain ⟨D1, D2⟩ := d0.below f1 (by omega)
  obtain ⟨C1, C2⟩ := c0.below f1 (by omega)
  have D5 := fz_below e0 f1 (by omega) 1
  have G := fz_below g0 f1 (by omega)
  have G0 := G 0
  have G1 := G 1
  have bb : Below w.heap.size w w1 := b0.trans (f1.mono (by omega))
  rw [hs0]
  clear e0 g0 G hs0 c0 d0
  go_wp2
  refine bodyPost_ret (v := .agg #[.int .i64 own, .slice (some ⟨w.heap.size + 3, 0, none⟩) len len]) (by simp [results, Tryz.results111, go_sem, *]) rfl ⟨w.heap.size + 3, rfl, by omega, ?_, ?_, ?_, ?_⟩
  · simp; omega
  · refine ViewI.mk0 fun i hi => ?_
    simp [go_sem, f5 i hi]
  · refine fun _ => ⟨_, _, rfl, fun i hi => ⟨⟨.int .i64 (f i), ?_⟩, ?_⟩⟩
    · rw [Nat.zero_add]; simp [go_sem, f5 i hi]
    · rw [Nat.zero_add]; simp [go_sem, f4 i hi]
  · exact ((bb.setCell (by show _ ≤ w.heap.size + 1 + 1; omega) _).setCell (by simp) _).setCell (by simp) _
set_option maxHeartbeats 400000 in
theorem eqM (own : Int) (ad ad' : Option Addr) (len cap cap' : Nat) (f : Nat → Int) (w : World) (hv : ViewI w ad len f) (hv' : ViewI w ad' len f) (hl : len ≤ 1048576) :
    Calls Tryz.prog 113 #[.agg #[.int .i64 own, .slice ad len cap], .agg #[.int .i64 own, .slice ad' len cap']] w fun e w' => e = .returned (.bool true) ∧ Below w.heap.size w w' := by
  go_enter Tryz.func113, Tryz.ntmps113
  go_wp2_with fail
  go_at_call 132
  obtain ⟨w0, hw0⟩ : ∃ w0, w0 = ((w.alloc (Obj.cells #[Value.int IntKind.i64 own, Value.slice ad len cap] 50)).alloc (Obj.cells #[Value.int IntKind.i64 own, Value.slice ad' len cap'] 50)) := ⟨_, rfl⟩
  have b0 : Below w.heap.size w w0 := by rw [hw0]; exact ((Below.refl _ _).alloc (Nat.le_refl _) _).alloc (by simp) _
  rw [← hw0]
  clear hw0
  refine (eqInts ad ad' len cap cap' f w0 (hv.below b0 (Nat.le_refl _)) (hv'.below b0 (Nat.le_refl _)) hl).mono ?_
  rintro e w1 ⟨rfl, n, rfl⟩
  go_wp2
  go_ret
  exact ⟨rfl, below_drewN' b0 n⟩

end Go.Proofs.YtifndemkkaelaaaGreat
