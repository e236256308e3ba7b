/- Rings and spans, in plain lists. -/
import Derived.Test.YtdfjfodfnildiaaRows
import Derived.WalkKit
import Derived.ProofKit
import Derived.OpenShut
import Derived.ShutString
import Derived.ChangeOld
import Derived.Below
import Derived.Deep.QuietTactic
import Derived.BigQuiet
import Derived.WalkSmall
import Derived.Laws.OwnMore
import Derived.WalkSpells
import Derived.WalkLawsBesides
import Derived.Test.YtdfjfodfnildiaaTr0
import Derived.Test.YtdfjfodfnildiaaNm0
namespace Go.Proofs.Ytdfjfodfnildiaa
open Go.ChangeShapes Go.WideShapes Go.ChangeAt Go.RowKit
open Go.ChangeMaps (open_string shut_string)
set_option linter.unusedVariables false
set_option maxRecDepth 100000

/-- No two ways: without a link that is picked its ends are not joined by what is picked. -/
def RingP (p : Lk → Bool) (K : List Lk) : Prop := ∀ A x C, K = A ++ x :: C → p x = true → ¬ Con ((A ++ C).filter p) x.a x.b
theorem ring_filter (p : Lk → Bool) (K : List Lk) : RingP p K ↔ ∀ A x C, K.filter p = A ++ x :: C → ¬ Con (A ++ C) x.a x.b := by
  constructor
  · intro h A x C e
    obtain ⟨K1, K2, rfl, e1, e2⟩ := List.filter_eq_append_iff.1 e
    obtain ⟨K3, K4, rfl, e3, e4, e5⟩ := List.filter_eq_cons_iff.1 e2
    have := h (K1 ++ K3) x K4 (by simp) e4
    have q : K3.filter p = [] := by rw [List.filter_eq_nil_iff]; exact e3
    simp only [List.filter_append, q, List.append_nil, e1, e5] at this
    exact this
  · intro h A x C e hx
    subst e
    have := h (A.filter p) x (C.filter p) (by simp [List.filter_append, hx])
    rwa [List.filter_append]
/-- Who is linked is so by what is picked. -/
def SpanP (p : Lk → Bool) (K : List Lk) (n : Nat) : Prop := ∀ i : Nat, i < n → ∀ j : Nat, j < n → Con K (i : Int) (j : Int) → Con (K.filter p) (i : Int) (j : Int)
theorem idx_count (M : List Bool) : ∀ k, (idx k M).length = M.count true := by
  induction M with
  | nil => intro k; rfl
  | cons x M ih => intro k; cases x <;> simp [idx, ih]
theorem count_sub (N : List Bool) : ∀ M : List Bool, N.length = M.length → (∀ j, N.getD j false = true → M.getD j false = true) → N.count true ≤ M.count true ∧ (N.count true = M.count true → N = M) := by
  induction N with
  | nil => intro M hl _; cases M with | nil => exact ⟨Nat.le_refl _, fun _ => rfl⟩ | cons x M => simp at hl
  | cons y N ih =>
    intro M hl h
    cases M with
    | nil => simp at hl
    | cons x M =>
      have r := ih M (by simpa using hl) (fun j hj => by have := h (j + 1) (by simpa using hj); simpa using this)
      have h0 : y = true → x = true := fun e => by have := h 0 (by simpa using e); simpa using this
      simp only [List.count_cons]
      cases y
      · cases x
        · refine ⟨by simpa using r.1, fun e => ?_⟩
          rw [r.2 (by simpa using e)]
        · refine ⟨?_, fun e => ?_⟩
          · have := r.1; simp; omega
          · have := r.1; simp at e; omega
      · have := h0 rfl
        subst this
        refine ⟨by simpa using r.1, fun e => ?_⟩
        rw [r.2 (by simpa using e)]
theorem filter_sub {K : List Lk} {p : Lk → Bool} {a b : Int} (h : Con (K.filter p) a b) : Con K a b := h.sub (fun _ hl => (List.mem_filter.1 hl).1)
theorem span_eq {p : Lk → Bool} {K : List Lk} {n : Nat} {i : Nat} {M N : List Bool} (hM : Marks K n (i : Int) M) (hN : Marks (K.filter p) n (i : Int) N) : N = M ↔ ∀ j : Nat, j < n → Con K (i : Int) (j : Int) → Con (K.filter p) (i : Int) (j : Int) := by
  constructor
  · intro e j hj h
    exact (hN.is j hj).1 (by rw [e]; exact (hM.is j hj).2 h)
  · intro h
    refine eq_of_getD (by rw [hM.len, hN.len]) (fun j hj => ?_)
    rw [hN.len] at hj
    exact Bool.eq_iff_iff.2 ((hN.is j hj).trans (Iff.trans ⟨filter_sub, h j hj⟩ (hM.is j hj).symm))
theorem span_len {p : Lk → Bool} {K : List Lk} {n : Nat} {i : Nat} {M N : List Bool} (hM : Marks K n (i : Int) M) (hN : Marks (K.filter p) n (i : Int) N) : (idx 0 M).length = (idx 0 N).length ↔ N = M := by
  rw [idx_count, idx_count]
  constructor
  · intro e
    refine (count_sub N M (by rw [hM.len, hN.len]) (fun j hj => ?_)).2 e.symm
    have hl := getD_lt hj
    rw [hN.len] at hl
    exact (hM.is j hl).2 (filter_sub ((hN.is j hl).1 hj))
  · intro e; rw [e]
/-- Who is root is the least of whom it is linked with. -/
def LeastP (B : List Bg) (K : List Lk) (R : List Int) : Prop := ∀ r : Int, r ∈ R → ∀ j : Nat, j < B.length → Con K r (j : Int) → ¬ (B.getD j Bg.nil).id < (B.getD r.toNat Bg.nil).id
/-- It is open at both ends. -/
def openB (B : List Bg) (l : Lk) : Bool := (pt B l.a.toNat l.p.toNat).op && (pt B l.b.toNat l.q.toNat).op
theorem NetP.inN {B : List Bg} {K : List Lk} (h : NetP B K) : InN K B.length := fun l hl => ⟨(h.link l hl).2.1.1, (h.link l hl).2.2.1⟩

end Go.Proofs.Ytdfjfodfnildiaa
