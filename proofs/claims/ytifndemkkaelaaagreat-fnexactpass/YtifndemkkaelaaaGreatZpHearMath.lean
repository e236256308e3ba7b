/- What Hear answers of a table, in plain lists. -/
import Derived.Test.YtifndemkkaelaaaGreatRows
import Derived.WalkKit
import Derived.ProofKit
import Derived.OpenShut
import Derived.ShutString
import Derived.ChangeOld
import Derived.Below
import Derived.Deep.QuietTactic
import Derived.BigQuiet
import Derived.WalkSmall
import Derived.Laws.OwnMore
import Derived.WalkSpells
import Derived.WalkLawsBesides
import Derived.Test.YtifndemkkaelaaaGreatZp11
namespace Go.Proofs.YtifndemkkaelaaaGreat
open Go.ChangeShapes Go.WideShapes Go.ChangeAt Go.RowKit
open Go.ChangeMaps (open_string shut_string)
set_option linter.unusedVariables false
set_option maxRecDepth 100000

def Hd.same (x y : Hd) : Bool := decide (x.a = y.a ∧ x.v = y.v)
/-- What the specification's loop makes: x ahead of the first that does not stand before it, those of its Addr and Vlan away. -/
def insS (x : Hd) : Bool → List Hd → List Hd
  | put, [] => if put then [] else [x]
  | put, h :: t => (if !put && !(h.bef x) then [x] else []) ++ ((if h.same x then [] else [h]) ++ insS x (put || !(h.bef x)) t)
/-- What Hear answers. -/
def hearR (L : List Hd) (x : Hd) : List Hd := if tokB (insS x false L) = true then insS x false L else L
/-- Strictly in order. -/
def Str (L : List Hd) : Prop := L.Pairwise (fun x y => x.bef y = true)
theorem bef_irr (x : Hd) : x.bef x = false := by unfold Hd.bef; simp
theorem bef_tr {x y z : Hd} (h1 : x.bef y = true) (h2 : y.bef z = true) : x.bef z = true := by
  unfold Hd.bef at *
  simp only [decide_eq_true_eq] at *
  omega
theorem bef_as {x y : Hd} (h1 : x.bef y = true) : y.bef x = false := by
  unfold Hd.bef at *
  simp only [decide_eq_true_eq, decide_eq_false_iff_not] at *
  omega
theorem bef_tot {x y : Hd} (h1 : x.bef y = false) (h2 : x.same y = false) : y.bef x = true := by
  unfold Hd.bef Hd.same at *
  simp only [decide_eq_true_eq, decide_eq_false_iff_not] at *
  omega
theorem bef_same {x y z : Hd} (h : x.same y = true) : x.bef z = y.bef z ∧ z.bef x = z.bef y := by
  unfold Hd.same at h
  simp only [decide_eq_true_eq] at h
  unfold Hd.bef
  rw [h.1, h.2]
  exact ⟨rfl, rfl⟩
theorem same_bef {x y : Hd} (h : x.same y = true) : x.bef y = false := by rw [(bef_same h).1]; exact bef_irr y
theorem insS_put (x : Hd) : ∀ L : List Hd, insS x true L = L.filter (fun h => !(h.same x))
  | [] => rfl
  | h :: t => by
    show (if (!true && !(h.bef x)) = true then [x] else []) ++ ((if h.same x = true then [] else [h]) ++ insS x (true || !(h.bef x)) t) = _
    simp only [Bool.not_true, Bool.false_and, Bool.true_or, Bool.false_eq_true, if_false, List.nil_append]
    rw [insS_put x t, List.filter_cons]
    cases h.same x <;> simp
theorem insS_perm (x : Hd) : ∀ L : List Hd, (insS x false L).Perm (L.filter (fun h => !(h.same x)) ++ [x])
  | [] => List.Perm.refl _
  | h :: t => by
    show ((if (!false && !(h.bef x)) = true then [x] else []) ++ ((if h.same x = true then [] else [h]) ++ insS x (false || !(h.bef x)) t)).Perm _
    cases hb : h.bef x
    · simp only [Bool.not_false, Bool.true_and, if_true, Bool.false_or]
      rw [insS_put]
      have e : (if h.same x = true then [] else [h]) ++ t.filter (fun h => !(h.same x)) = (h :: t).filter (fun h => !(h.same x)) := by
        rw [List.filter_cons]; cases h.same x <;> simp
      rw [e]
      exact List.perm_append_comm
    · have hs : h.same x = false := by
        cases q : h.same x
        · rfl
        · rw [same_bef q] at hb; cases hb
      simp only [Bool.not_true, Bool.and_false, Bool.false_eq_true, if_false, Bool.or_false, List.nil_append, hs]
      rw [List.filter_cons]
      simp only [hs, Bool.not_false, if_true]
      exact (insS_perm x t).cons h
theorem str_filter {L : List Hd} (p : Hd → Bool) (h : Str L) : Str (L.filter p) := List.Pairwise.filter p h
theorem insS_mem {x y : Hd} {L : List Hd} (h : y ∈ insS x false L) : y = x ∨ y ∈ L := by
  have := (insS_perm x L).mem_iff.1 h
  simp only [List.mem_append, List.mem_filter, List.mem_singleton] at this
  rcases this with h | h
  · exact .inr h.1
  · exact .inl h
theorem insS_str (x : Hd) : ∀ {L : List Hd}, Str L → Str (insS x false L)
  | [], _ => by show Str [x]; exact List.pairwise_singleton _ _
  | h :: t, hs => by
    have hs' : (∀ y ∈ t, h.bef y = true) ∧ Str t := List.pairwise_cons.1 hs
    show Str ((if (!false && !(h.bef x)) = true then [x] else []) ++ ((if h.same x = true then [] else [h]) ++ insS x (false || !(h.bef x)) t))
    cases hb : h.bef x
    · simp only [Bool.not_false, Bool.true_and, if_true, Bool.false_or]
      rw [insS_put]
      have e : (if h.same x = true then [] else [h]) ++ t.filter (fun h => !(h.same x)) = (h :: t).filter (fun h => !(h.same x)) := by
        rw [List.filter_cons]; cases h.same x <;> simp
      rw [e]
      refine List.pairwise_cons.2 ⟨fun y hy => ?_, str_filter _ hs⟩
      obtain ⟨hm, hn⟩ := List.mem_filter.1 hy
      simp at hn
      rcases List.mem_cons.1 hm with rfl | hm
      · exact bef_tot hb hn
      · cases q : h.same x
        · exact bef_tr (bef_tot hb q) (hs'.1 y hm)
        · rw [← (bef_same q).1]; exact hs'.1 y hm
    · have hs0 : h.same x = false := by
        cases q : h.same x
        · rfl
        · rw [same_bef q] at hb; cases hb
      simp only [Bool.not_true, Bool.and_false, Bool.false_eq_true, if_false, Bool.or_false, List.nil_append, hs0]
      refine List.pairwise_cons.2 ⟨fun y hy => ?_, insS_str x hs'.2⟩
      rcases insS_mem hy with rfl | hm
      · exact hb
      · exact hs'.1 y hm
theorem str_eq : ∀ {A B : List Hd}, Str A → Str B → A.Perm B → A = B
  | [], B, _, _, hp => (List.nil_perm.1 hp).symm
  | a :: A, [], _, _, hp => by have := hp.length_eq; simp at this
  | a :: A, b :: B, hA, hB, hp => by
    have hA' := List.pairwise_cons.1 hA
    have hB' := List.pairwise_cons.1 hB
    have e : a = b := by
      have h1 : a ∈ b :: B := hp.mem_iff.1 (List.mem_cons_self)
      have h2 : b ∈ a :: A := hp.mem_iff.2 (List.mem_cons_self)
      rcases List.mem_cons.1 h1 with h1 | h1
      · exact h1
      · rcases List.mem_cons.1 h2 with h2 | h2
        · exact h2.symm
        · have k1 := hB'.1 a h1
          have k2 := hA'.1 b h2
          rw [bef_as k1] at k2
          cases k2
    subst e
    rw [str_eq hA'.2 hB'.2 (List.Perm.cons_inv hp)]
/-- What is in order, weakly, of no two that are the same, is so strictly. -/
theorem str_of_weak : ∀ {N : List Hd}, N.Pairwise (fun x y => y.bef x = false) → N.Pairwise (fun x y => x.same y = false) → Str N := by
  intro N h1 h2
  refine List.Pairwise.imp₂ (R := fun x y => y.bef x = false) (S := fun x y => x.same y = false) ?_ h1 h2
  intro x y a b
  have b' : y.same x = false := by
    unfold Hd.same at *
    simp only [decide_eq_false_iff_not] at *
    omega
  exact bef_tot a b'
/-- Those of L that are not x's, and x, sorted: what the specification makes. -/
theorem sorted_insS {x : Hd} {L N : List Hd} (hL : Str L) (hp : (L.filter (fun h => !(h.same x)) ++ [x]).Perm N) (hw : N.Pairwise (fun x y => y.bef x = false)) : N = insS x false L := by
  have hd : (insS x false L).Pairwise (fun x y => x.same y = false) := by
    refine List.Pairwise.imp ?_ (insS_str x hL)
    intro a b hab
    cases q : a.same b
    · rfl
    · rw [same_bef q] at hab; cases hab
  have hd' : N.Pairwise (fun x y => x.same y = false) := by
    refine (((insS_perm x L).trans hp).pairwise_iff ?_).1 hd
    intro a b h
    unfold Hd.same at *
    simp only [decide_eq_false_iff_not] at *
    omega
  exact str_eq (str_of_weak hw hd') (insS_str x hL) (((insS_perm x L).trans hp).symm)
theorem str_of_tok {L : List Hd} (h : TOk L) : Str L := by
  obtain ⟨_, _, h3⟩ := h
  unfold Str
  rw [List.pairwise_iff_getElem]
  have key : ∀ j (hj : j < L.length) i, i < j → (L.getD i Hd.nil).bef (L.getD j Hd.nil) = true := by
    intro j
    induction j with
    | zero => intro _ i hi; omega
    | succ j ih =>
      intro hj i hi
      have hs := h3 (j + 1) hj (by omega)
      rw [Nat.add_sub_cancel] at hs
      by_cases e : i = j
      · subst e; exact hs
      · exact bef_tr (ih (by omega) i (by omega)) hs
  intro i j hi hj hij
  have := key j hj i hij
  simpa [List.getD, hi, hj] using this

end Go.Proofs.YtifndemkkaelaaaGreat
