import Derived.Test.YtjmnaeeknomiaaaGreatRKWBr6
import Derived.Test.YtjmnaeeknomiaaaGreatRKWBr4
namespace Go.Proofs.YtjmnaeeknomiaaaGreat
open Go.ChangeShapes Go.WideShapes Go.ChangeAt Go.RowKit
open Go.ChangeMaps (open_string shut_string)
set_option linter.unusedVariables false
set_option maxRecDepth 100000
set_option maxHeartbeats 32000000
set_option linter.unusedSimpArgs false
open Go.Proofs.Tryz
attribute [local go_sem] ji ja pc
structure AW (g B : Nat) (a w : World) : Prop where
 size : a.heap.size ≤ w.heap.size
 block : ∀ k, k < B → k ≠ g → w.heap[k]? = a.heap[k]?
theorem AW.of {g B : Nat} {a w : World} (h : Below B a w) : AW g B a w := ⟨h.size, fun k hk _ => h.block k hk⟩
theorem AW.putAll {g B o : Nat} {a w : World} (vs : List Value) (h : AW g B a w) : AW g B a (CB w g o vs) :=
 ⟨by rw [H5]; exact h.size, fun k hk hne => by rw [Cp _ _ _ _ hne]; exact h.block k hk hne⟩
theorem Bv.bar {g B q : Nat} {a w : World} {x : Pt} (h : Bv a q x) (k : AW g B a w) (hq : q < B) (hne : q ≠ g) : Bv w q x := h.keep (k.block q hq hne)
theorem As.bar {g B q : Nat} {a w : World} {id : Int} {v : Value} (h : As a q id v) (k : AW g B a w) (hq : q < B) (hne : q ≠ g) : As w q id v := h.keep (k.block q hq hne)
theorem FY (x : Pt) (role : Int) : Ci x role = ET x role := by
 unfold ET;cases hu : x.up
 ·
  unfold Ci; rw [hu]; simp
 simp
theorem AB.row {X : Type} {enc : X → List Value} {n : Nat} {T : TypeId} {base : Nat} {w : World} {ad : Option Addr} {len cap : Nat} {L : List X} (h : AB enc n T base w (.slice ad len cap) L) (h0 : 0 < L.length) : ∃ g, ad = some (ja g 0) ∧ base ≤ g ∧ g < w.heap.size := by
 rcases h.2 with ⟨_, q⟩ | ⟨g, c, cur, q, _⟩
 ·
  omega
 simp only [Value.slice.injEq] at q;obtain ⟨rfl, rfl, rfl⟩ := q;have := h.lt g rfl;exact ⟨g, rfl, this⟩
end Go.Proofs.YtjmnaeeknomiaaaGreat
