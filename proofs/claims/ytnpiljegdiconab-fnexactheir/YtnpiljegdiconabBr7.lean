/- impl.roleAt, walked. -/
import Derived.Test.YtnpiljegdiconabRows
import Derived.WalkKit
import Derived.ProofKit
import Derived.OpenShut
import Derived.ShutString
import Derived.ChangeOld
import Derived.Below
import Derived.Deep.QuietTactic
import Derived.BigQuiet
import Derived.WalkSmall
import Derived.Laws.OwnMore
import Derived.WalkSpells
import Derived.WalkLawsBesides
import Derived.Deep.Cut
import Derived.Test.YtnpiljegdiconabBr6
import Derived.Test.YtnpiljegdiconabBr4
import Derived.Test.YtnpiljegdiconabTakes
namespace Go.Proofs.Ytnpiljegdiconab
open Go.ChangeShapes Go.WideShapes Go.ChangeAt Go.RowKit
open Go.ChangeMaps (open_string shut_string)
set_option linter.unusedVariables false
set_option maxRecDepth 100000

/-- Worlds that are alike below B, but at g. -/
structure Bar (g B : Nat) (a w : World) : Prop where
  size : a.heap.size ≤ w.heap.size
  block : ∀ k, k < B → k ≠ g → w.heap[k]? = a.heap[k]?
theorem Bar.of {g B : Nat} {a w : World} (h : Below B a w) : Bar g B a w := ⟨h.size, fun k hk _ => h.block k hk⟩
theorem Bar.putAll {g B o : Nat} {a w : World} (vs : List Value) (h : Bar g B a w) : Bar g B a (putAll w g o vs) :=
  ⟨by rw [size_putAll]; exact h.size, fun k hk hne => by rw [heap_putAll _ _ _ _ hne]; exact h.block k hk hne⟩
theorem PtAt.bar {g B q : Nat} {a w : World} {x : Pt} (h : PtAt a q x) (k : Bar g B a w) (hq : q < B) (hne : q ≠ g) : PtAt w q x := h.keep (k.block q hq hne)
theorem BrAt.bar {g B q : Nat} {a w : World} {id : Int} {v : Value} (h : BrAt a q id v) (k : Bar g B a w) (hq : q < B) (hne : q ≠ g) : BrAt w q id v := h.keep (k.block q hq hne)
theorem turnR_up (x : Pt) (role : Int) : turnR x role = turnUp x role := by
  unfold turnUp
  cases hu : x.up
  · unfold turnR; rw [hu]; simp
  · simp
theorem FOwn.row {X : Type} {enc : X → List Value} {n : Nat} {T : TypeId} {base : Nat} {w : World} {ad : Option Addr} {len cap : Nat} {L : List X} (h : FOwn enc n T base w (.slice ad len cap) L) (h0 : 0 < L.length) : ∃ g, ad = some ⟨g, 0, none⟩ ∧ base ≤ g ∧ g < w.heap.size := by
  rcases h.2 with ⟨_, q⟩ | ⟨g, c, cur, q, _⟩
  · omega
  · simp only [Value.slice.injEq] at q
    obtain ⟨rfl, rfl, rfl⟩ := q
    have := h.lt g rfl
    exact ⟨g, rfl, this⟩
end Go.Proofs.Ytnpiljegdiconab
