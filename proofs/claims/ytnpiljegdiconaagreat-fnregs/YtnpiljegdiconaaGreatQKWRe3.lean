import Derived.Test.YtnpiljegdiconaaGreatQM11
import Derived.Test.YtnpiljegdiconaaGreatQKWIn2
namespace Go.Proofs.YtnpiljegdiconaaGreat
open Go.ChangeShapes Go.WideShapes Go.ChangeAt Go.RowKit
open Go.ChangeMaps (open_string shut_string)
set_option linter.unusedVariables false
set_option maxRecDepth 100000
theorem join_region {P : Program} {reg : Code} {K : Act → World → Prop} {Q : Exit → Act → World → Prop} {l : List Value} {ds : List Deferred} {W : World} (R : List Value → List Value → World → Prop) (h1 : ∀ l' W', R l l' W' → K ⟨l'.toArray, ds⟩ W') (h2 : ∀ K2 : Act → World → Prop, Hid (∀ l' W', R l l' W' → K2 ⟨l'.toArray, ds⟩ W') → Code.wp P reg (Exit.then K2 Q) ⟨l.toArray, ds⟩ W) : Code.wp P reg (Exit.then K Q) ⟨l.toArray, ds⟩ W := h2 K h1
def goes (id : Int) (L : List Pt) (x : Ik) : Bool := bOk id L && (inOk x && decide (0 ≤ x.q ∧ x.q < (L.length : Int)))
def reactL (id : Int) (L : List Pt) (x : Ik) : List Pt := if goes id L x then afterL id L x else L
def reactO (id : Int) (L : List Pt) (x : Ik) : List Ou := if goes id L x then gatesTo L (afterL id L x) L.length ++ (if x.k = 2 then toldTo id (afterL id L x) L.length else []) else []
theorem reactL_len (id : Int) (L : List Pt) (x : Ik) : (reactL id L x).length = L.length := by
 unfold reactL;split
 ·
  exact afterL_len id L x
 rfl
theorem inOk_q {x : Ik} (h : inOk x = true) : 0 ≤ x.q ∧ x.q ≤ 3 := by
 unfold inOk at h;split at h
 ·
  simp only [Bool.and_eq_true, decide_eq_true_eq] at h; exact h.1
 split at h
 ·
  simp only [Bool.and_eq_true, decide_eq_true_eq] at h; exact h.1
 split at h
 ·
  simp only [decide_eq_true_eq] at h; omega
 cases h
theorem inOk_k {x : Ik} (h : inOk x = true) : x.k = 1 ∨ x.k = 2 ∨ x.k = 3 := by
 unfold inOk at h;split at h
 ·
  exact .inl (by assumption)
 split at h
 ·
  exact .inr (.inr (by assumption))
 split at h
 ·
  exact .inr (.inl (by assumption))
 cases h
end Go.Proofs.YtnpiljegdiconaaGreat
