/- What a call owns, in general. -/
import Derived.Test.YtifndemkkaelaaaRows
import Derived.WalkKit
import Derived.ProofKit
import Derived.OpenShut
import Derived.ShutString
import Derived.ChangeOld
import Derived.Below
import Derived.Deep.QuietTactic
import Derived.BigQuiet
import Derived.WalkSmall
import Derived.Laws.OwnMore
import Derived.WalkSpells
import Derived.WalkLawsBesides
import Derived.Laws.AppendOwnNone
import Derived.Laws.CopyOwn
import Derived.Test.YtifndemkkaelaaaBase
import Derived.Test.YtifndemkkaelaaaNets4
namespace Go.Proofs.Ytifndemkkaelaaa
open Go.ChangeShapes Go.WideShapes Go.ChangeAt Go.RowKit
open Go.ChangeMaps (open_string shut_string)
set_option linter.unusedVariables false

theorem View.lt {w : World} {ad : Option Addr} {len : Nat} {f : Nat → Int} (h : View w ad len f) (x : Addr) (e : ad = some x) (hp : 0 < len) : x.block < w.heap.size := by
  obtain ⟨b, off, e', hc⟩ := h hp
  rw [e] at e'
  cases e'
  exact World.block_lt_of_cell? w _ (hc 0 hp)
theorem own_empty (w : World) (E : Nat) : (w.alloc (.cells #[] E)).ownsRow w.heap.size E 1 (.slice (some ⟨w.heap.size, 0, none⟩) 0 0) 0 [] :=
  World.ownsRow_lit w #[] 0 (Nat.le_refl _) (Nat.zero_le _) rfl
theorem below_own {w w' : World} {base E n : Nat} {v : Value} {xs : List Value} (hown : w.ownsRow base E 1 v n xs) (h : w.grownBy w' v.ownBlock) (hb : base ≤ w.heap.size) : Below base w w' := by
  refine (Below.refl _ _).grown h hb ?_
  intro k hk
  rcases hown.2 with ⟨rfl, _⟩ | ⟨g, cap, cur, rfl, hb, _⟩
  · simp [Value.ownBlock] at hk
  · simp [Value.ownBlock] at hk; omega
theorem own_carry {w w' : World} {base E n : Nat} {v : Value} {xs : List Value} (h : w.ownsRow base E 1 v n xs) (bl : Below w.heap.size w w') : w'.ownsRow base E 1 v n xs := by
  refine ⟨h.1, ?_⟩
  rcases h.2 with h | ⟨g, cap, cur, e, hb, hg, r⟩
  · exact .inl h
  · exact .inr ⟨g, cap, cur, e, hb, (bl.block g (Array.getElem?_eq_some_iff.1 hg).1).trans hg, r⟩
theorem own_base {w : World} {base base' E n : Nat} {v : Value} {xs : List Value} (h : w.ownsRow base E 1 v n xs) (hb : base' ≤ base) : w.ownsRow base' E 1 v n xs := by
  refine ⟨h.1, ?_⟩
  rcases h.2 with h | ⟨g, cap, cur, e, hg, r⟩
  · exact .inl h
  · exact .inr ⟨g, cap, cur, e, Nat.le_trans hb hg, r⟩
theorem grown_weak {w w' : World} {r : Option Nat} (h : w.grownBy w' none) : w.grownBy w' r :=
  ⟨h.os, h.tape, h.output, h.size, fun j hj _ => h.block j hj (by simp)⟩
theorem grown_below {w w' : World} {g B : Nat} (h : w.grownBy w' (some g)) (hg : B ≤ g) (hs : B ≤ w.heap.size) : Below B w w' :=
  ⟨h.os, h.tape, h.output, h.size, fun k hk => h.block k (by omega) (by simp; omega)⟩
theorem own_nil {w : World} {base E n : Nat} {ad : Option Addr} {cap : Nat} {xs : List Value} (h : w.ownsRow base E 1 (.slice ad n cap) n xs) : (ad = none → cap = 0) ∧ n ≤ cap := by
  rcases h.2 with ⟨e, h0⟩ | ⟨g, cap', cur, e, hb, hg, hnc, _⟩
  · cases e; exact ⟨fun _ => rfl, Nat.le_refl _⟩
  · cases e; exact ⟨fun h => (by cases h), hnc⟩
theorem own_keep {w w' : World} {base E n : Nat} {v : Value} {xs : List Value} (h : w.ownsRow base E 1 v n xs) (k : ∀ g, base ≤ g → w'.heap[g]? = w.heap[g]?) : w'.ownsRow base E 1 v n xs := by
  refine ⟨h.1, ?_⟩
  rcases h.2 with h | ⟨g, cap, cur, e, hb, hg, r⟩
  · exact .inl h
  · exact .inr ⟨g, cap, cur, e, hb, (k g hb).trans hg, r⟩
/-- All blocks but that of 'ad' are as they were. -/
def Kept (ad : Option Addr) (w w' : World) : Prop := ∃ r, w.grownBy w' r ∧ ∀ g, r = some g → ∃ x, ad = some x ∧ x.block = g
theorem Kept.below {ad : Option Addr} {w w' : World} {B : Nat} (h : Kept ad w w') (hB : ∀ x, ad = some x → B ≤ x.block) (hs : B ≤ w.heap.size) : Below B w w' := by
  obtain ⟨r, g, hr⟩ := h
  refine ⟨g.os, g.tape, g.output, g.size, fun k hk => g.block k (by omega) ?_⟩
  intro e
  obtain ⟨x, hx, e2⟩ := hr k e.symm
  have := hB x hx
  omega
theorem Kept.block {ad : Option Addr} {w w' : World} {k : Nat} (h : Kept ad w w') (hk : k < w.heap.size) (hne : ∀ x, ad = some x → x.block ≠ k) : w'.heap[k]? = w.heap[k]? := by
  obtain ⟨r, g, hr⟩ := h
  refine g.block k hk ?_
  intro e
  obtain ⟨x, hx, e2⟩ := hr k e.symm
  exact hne x hx e2
theorem mark_kept {w w' : World} {ad : Option Addr} {len : Nat} (h : w' = w ∨ ∃ a, ad = some a ∧ 0 < len ∧ w.grownBy w' (some a.block)) : Kept ad w w' := by
  rcases h with rfl | ⟨a, e, _, hg⟩
  · exact ⟨none, ⟨rfl, rfl, rfl, Nat.le_refl _, fun _ _ _ => rfl⟩, fun g h => by cases h⟩
  · exact ⟨_, hg, fun g h => ⟨a, e, by simpa using h⟩⟩
theorem kept_after {ad : Option Addr} {w x w' : World} (b : Below w.heap.size w x) (h : Kept ad x w') : Kept ad w w' := by
  obtain ⟨r, g, hr⟩ := h
  exact ⟨r, ⟨g.os.trans b.os, g.tape.trans b.tape, g.output.trans b.output, Nat.le_trans b.size g.size, fun j hj hne => (g.block j (Nat.lt_of_lt_of_le hj b.size) hne).trans (b.block j hj)⟩, hr⟩
theorem Room.lt {w : World} {ad : Option Addr} {len : Nat} (h : Room w ad len) (x : Addr) (e : ad = some x) (hp : 0 < len) : x.block < w.heap.size := by
  obtain ⟨b, off, e', hc⟩ := h hp
  rw [e] at e'
  cases e'
  obtain ⟨u, hu⟩ := (hc 0 hp).1
  exact World.block_lt_of_cell? w _ hu

end Go.Proofs.Ytifndemkkaelaaa
