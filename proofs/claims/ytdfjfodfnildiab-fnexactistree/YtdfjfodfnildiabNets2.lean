/- Lists of nets: netsOf. -/
import Derived.Test.YtdfjfodfnildiabRows
import Derived.WalkKit
import Derived.ProofKit
import Derived.OpenShut
import Derived.ShutString
import Derived.ChangeOld
import Derived.Below
import Derived.Deep.QuietTactic
import Derived.BigQuiet
import Derived.WalkSmall
import Derived.Laws.OwnMore
import Derived.WalkSpells
import Derived.WalkLawsBesides
import Derived.Test.YtdfjfodfnildiabNets1
namespace Go.Proofs.Ytdfjfodfnildiab
open Go.ChangeShapes Go.WideShapes Go.ChangeAt Go.RowKit
open Go.ChangeMaps (open_string shut_string)
set_option linter.unusedVariables false
set_option maxRecDepth 100000

/-- Whether x is one of f 0, .., f (k-1). -/
def hasIn (f : Nat → Int) : Nat → Int → Bool
  | 0, _ => false
  | k + 1, x => hasIn f k x || decide (f k = x)
/-- Whether marking k turns anything. -/
def fresh (k : Int) (b1 b2 b3 b4 : Bool) : Bool := if k = 1 then !b1 else if k = 2 then !b2 else if k = 3 then !b3 else if k = 4 then !b4 else false
theorem fresh_eq (k : Int) (b1 b2 b3 b4 : Bool) : (put k true 1 b1 == b1 && (put k true 2 b2 == b2 && (put k true 3 b3 == b3 && put k true 4 b4 == b4))) = !(fresh k b1 b2 b3 b4) := by
  unfold put fresh
  by_cases h1 : k = 1
  · subst h1; cases b1 <;> simp
  by_cases h2 : k = 2
  · subst h2; cases b2 <;> simp
  by_cases h3 : k = 3
  · subst h3; cases b3 <;> simp
  by_cases h4 : k = 4
  · subst h4; cases b4 <;> simp
  simp [h1, h2, h3, h4]
theorem put_in (f : Nat → Int) (k : Nat) (i : Int) : put (f k) true i (hasIn f k i) = hasIn f (k + 1) i := by
  show _ = (hasIn f k i || decide (f k = i))
  unfold put
  by_cases h : f k = i
  · simp [h]
  · simp [h]
/-- Each of f 0, .., f (k-1) is a net, none twice. -/
def good (f : Nat → Int) : Nat → Bool
  | 0 => true
  | k + 1 => good f k && fresh (f k) (hasIn f k 1) (hasIn f k 2) (hasIn f k 3) (hasIn f k 4)
theorem good_le {f : Nat → Int} {k : Nat} (h : good f k = false) : ∀ {n : Nat}, k ≤ n → good f n = false := by
  intro n hn
  induction hn with
  | refl => exact h
  | step _ ih => show (good f _ && _) = false; rw [ih]; rfl
/-- The slice at 'ad' of 'len' integers reads as f 0, f 1, .. -/
def ViewI (w : World) (ad : Option Addr) (len : Nat) (f : Nat → Int) : Prop :=
  0 < len → ∃ b off, ad = some ⟨b, off, none⟩ ∧ ∀ i, i < len → w.cell? ⟨b, off + i, none⟩ = some (.int .i64 (f i))
theorem ViewI.carry {w w' : World} {ad : Option Addr} {len : Nat} {f : Nat → Int} (h : ViewI w ad len f) (hb : ∀ a, ad = some a → 0 < len → w'.heap[a.block]? = w.heap[a.block]?) : ViewI w' ad len f :=
  fun hp => by
    obtain ⟨b, off, e, hc⟩ := h hp
    exact ⟨b, off, e, fun i hi => (World.cell?_of_block (a := ⟨b, off + i, none⟩) (hb ⟨b, off, none⟩ e hp)).trans (hc i hi)⟩
theorem ViewI.lt {w : World} {ad : Option Addr} {len : Nat} {f : Nat → Int} (h : ViewI w ad len f) (x : Addr) (e : ad = some x) (hp : 0 < len) : x.block < w.heap.size := by
  obtain ⟨b, off, e', hc⟩ := h hp
  rw [e] at e'
  cases e'
  exact World.block_lt_of_cell? w _ (hc 0 hp)
theorem ViewI.below {w w' : World} {ad : Option Addr} {len B : Nat} {f : Nat → Int} (h : ViewI w ad len f) (k : Below B w w') (hB : w.heap.size ≤ B) : ViewI w' ad len f :=
  h.carry (fun x e hp => k.block _ (Nat.lt_of_lt_of_le (h.lt x e hp) hB))
/-- What netsOf's loop keeps. -/
structure NO (w : World) (f : Nat → Int) (k : Nat) (y : World) : Prop where
  bel : Below w.heap.size w y
  size : w.heap.size + 1 < y.heap.size
  res : NetAt y w.heap.size false false false false
  rfz : ∀ i, y.frozen? ⟨w.heap.size, i, none⟩ = false
  all : NetAt y (w.heap.size + 1) (hasIn f k 1) (hasIn f k 2) (hasIn f k 3) (hasIn f k 4)
  afz : ∀ i, y.frozen? ⟨w.heap.size + 1, i, none⟩ = false
theorem NO.later {w : World} {f : Nat → Int} {k : Nat} {y y' : World} (h : NO w f k y) (b : Below y.heap.size y y') : NO w f k y' := by
  have hs := h.size
  have e0 := b.block w.heap.size (by omega)
  have e1 := b.block (w.heap.size + 1) (by omega)
  exact ⟨h.bel.trans (b.mono (by omega)), by have := b.size; omega, h.res.same e0, fun i => (World.frozen?_of_block (a := ⟨w.heap.size, i, none⟩) e0).trans (h.rfz i), h.all.same e1, fun i => (World.frozen?_of_block (a := ⟨w.heap.size + 1, i, none⟩) e1).trans (h.afz i)⟩
theorem NO.step {w : World} {f : Nat → Int} {k : Nat} {y : World} (h : NO w f k y) : NO w f (k + 1) ((((y.setCell ⟨w.heap.size + 1, 0, none⟩ (.bool (hasIn f (k + 1) 1))).setCell ⟨w.heap.size + 1, 1, none⟩ (.bool (hasIn f (k + 1) 2))).setCell ⟨w.heap.size + 1, 2, none⟩ (.bool (hasIn f (k + 1) 3))).setCell ⟨w.heap.size + 1, 3, none⟩ (.bool (hasIn f (k + 1) 4))) := by
  obtain ⟨h1, h2, h3, h4, ⟨a1, a2, a3, a4⟩, h6⟩ := h
  refine ⟨(((h1.setCell (by simp) _).setCell (by simp) _).setCell (by simp) _).setCell (by simp) _, by simpa using h2, h3.same ?_, fun i => by simpa using h4 i, ?_, fun i => by simpa using h6 i⟩
  · rw [Below.heap_setCell _ _ _ _ (by simp), Below.heap_setCell _ _ _ _ (by simp), Below.heap_setCell _ _ _ _ (by simp), Below.heap_setCell _ _ _ _ (by simp)]
  · refine ⟨?_, ?_, ?_, ?_⟩ <;> simp [go_sem, *]
end Go.Proofs.Ytdfjfodfnildiab
