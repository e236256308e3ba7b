/- Cells that are read and written. -/
import Derived.Test.YtlgcjhebbmejaaaRows
import Derived.WalkKit
import Derived.ProofKit
import Derived.OpenShut
import Derived.ShutString
import Derived.ChangeOld
import Derived.Below
import Derived.Deep.QuietTactic
import Derived.BigQuiet
import Derived.WalkSmall
import Derived.Laws.OwnMore
namespace Go.Proofs.Ytlgcjhebbmejaaa
open Go.ChangeShapes Go.WideShapes Go.ChangeAt Go.RowKit
open Go.ChangeMaps (open_string shut_string)
set_option linter.unusedVariables false
set_option maxRecDepth 100000

/-- The slice at 'ad' of 'len' bytes reads, in the world w, as the numbers f 0, f 1, .. -/
def View (w : World) (ad : Option Addr) (len : Nat) (f : Nat → Int) : Prop :=
  0 < len → ∃ b off, ad = some ⟨b, off, none⟩ ∧ ∀ i, i < len → w.cell? ⟨b, off + i, none⟩ = some (.int .u8 (f i))
/-- Its cells may be written. -/
def Room (w : World) (ad : Option Addr) (len : Nat) : Prop :=
  0 < len → ∃ b off, ad = some ⟨b, off, none⟩ ∧ ∀ i, i < len → (∃ u, w.cell? ⟨b, off + i, none⟩ = some u) ∧ w.frozen? ⟨b, off + i, none⟩ = false

theorem View.mk0 {w : World} {b len : Nat} {f : Nat → Int} (h : ∀ i, i < len → w.cell? ⟨b, i, none⟩ = some (.int .u8 (f i))) : View w (some ⟨b, 0, none⟩) len f :=
  fun _ => ⟨b, 0, rfl, fun i hi => by rw [Nat.zero_add]; exact h i hi⟩
theorem View.carry {w w' : World} {ad : Option Addr} {len : Nat} {f : Nat → Int} (h : View w ad len f) (hb : ∀ a, ad = some a → 0 < len → w'.heap[a.block]? = w.heap[a.block]?) : View w' ad len f :=
  fun hp => by
    obtain ⟨b, off, e, hc⟩ := h hp
    exact ⟨b, off, e, fun i hi => (World.cell?_of_block (a := ⟨b, off + i, none⟩) (hb ⟨b, off, none⟩ e hp)).trans (hc i hi)⟩
theorem Room.carry {w w' : World} {ad : Option Addr} {len : Nat} (h : Room w ad len) (hb : ∀ a, ad = some a → 0 < len → w'.heap[a.block]? = w.heap[a.block]?) : Room w' ad len :=
  fun hp => by
    obtain ⟨b, off, e, hc⟩ := h hp
    refine ⟨b, off, e, fun i hi => ⟨?_, ?_⟩⟩
    · obtain ⟨u, hu⟩ := (hc i hi).1
      exact ⟨u, (World.cell?_of_block (a := ⟨b, off + i, none⟩) (hb ⟨b, off, none⟩ e hp)).trans hu⟩
    · exact (World.frozen?_of_block (a := ⟨b, off + i, none⟩) (hb ⟨b, off, none⟩ e hp)).trans (hc i hi).2
theorem View.congr {w : World} {ad : Option Addr} {len : Nat} {f g : Nat → Int} (h : View w ad len f) (e : ∀ i, i < len → f i = g i) : View w ad len g :=
  fun hp => by
    obtain ⟨b, off, e', hc⟩ := h hp
    exact ⟨b, off, e', fun i hi => by rw [← e i hi]; exact hc i hi⟩
theorem cell_set_same {w : World} {b j : Nat} {v : Value} (h : ∃ u, w.cell? ⟨b, j, none⟩ = some u) : (w.setCell ⟨b, j, none⟩ v).cell? ⟨b, j, none⟩ = some v := by
  obtain ⟨u, hu⟩ := h
  exact World.cell?_setCell_same _ _ _ hu
theorem cell_set_ne {w : World} {b j i : Nat} {v : Value} (h : i ≠ j) : (w.setCell ⟨b, j, none⟩ v).cell? ⟨b, i, none⟩ = w.cell? ⟨b, i, none⟩ :=
  World.cell?_setCell_other _ _ _ _ (fun e => h (by injection e with _ e2; exact e2.symm))
/-- What a slice of bytes that the call itself owns is good for. -/
theorem own_view {w : World} {base E n : Nat} {v : Value} {L : List Int} (h : w.ownsRow base E 1 v n (L.map (Value.int .u8))) :
    n = L.length ∧ ∃ ad cap, v = .slice ad n cap ∧ View w ad n (fun i => L.getD i 0) ∧ Room w ad n ∧ ∀ a, ad = some a → base ≤ a.block ∧ a.block < w.heap.size := by
  have hn : n = L.length := by have := h.1; simp at this; omega
  refine ⟨hn, ?_⟩
  rcases h.2 with ⟨rfl, h0⟩ | ⟨g, cap, cur, rfl, hb, hg, hnc, hcm, hcs, htk⟩
  · exact ⟨none, 0, by rw [h0], fun hp => absurd hp (by omega), fun hp => absurd hp (by omega), fun a e => by simp at e⟩
  · have hc : ∀ i, i < n → w.cell? ⟨g, i, none⟩ = some (.int .u8 (L.getD i 0)) := fun i hi => by
      rw [h.cellAt i (by omega), List.getElem?_map, List.getElem?_eq_getElem (by omega)]
      simp [List.getD, List.getElem?_eq_getElem (by omega : i < L.length)]
    refine ⟨some ⟨g, 0, none⟩, cap, rfl, View.mk0 hc, fun _ => ⟨g, 0, rfl, fun i hi => ?_⟩, fun a e => ?_⟩
    · rw [Nat.zero_add]
      exact ⟨⟨_, hc i hi⟩, h.frozenAt i⟩
    · obtain rfl : (⟨g, 0, none⟩ : Addr) = a := by simpa using e
      exact ⟨hb, (Array.getElem?_eq_some_iff.1 hg).1⟩

theorem below_box (w : World) (o : Obj) : Below w.heap.size w (w.alloc o) := (Below.refl _ _).alloc (Nat.le_refl _) _
theorem size_box (w : World) (o : Obj) : w.heap.size < (w.alloc o).heap.size := by simp

end Go.Proofs.Ytlgcjhebbmejaaa
