/- Nets that a call owns. -/
import Derived.Test.YtdfjfodfnildiabRows
import Derived.WalkKit
import Derived.ProofKit
import Derived.OpenShut
import Derived.ShutString
import Derived.ChangeOld
import Derived.Below
import Derived.Deep.QuietTactic
import Derived.BigQuiet
import Derived.WalkSmall
import Derived.Laws.OwnMore
import Derived.WalkSpells
import Derived.WalkLawsBesides
import Derived.Deep.Cut
import Derived.Test.YtdfjfodfnildiabNe3
import Derived.Test.YtdfjfodfnildiabFlatApp
namespace Go.Proofs.Ytdfjfodfnildiab
open Go.ChangeShapes Go.WideShapes Go.ChangeAt Go.RowKit
open Go.ChangeMaps (open_string shut_string)
set_option linter.unusedVariables false
set_option maxRecDepth 100000

theorem getD_push {X : Type} (L : List X) (x d : X) (i : Nat) : (L ++ [x]).getD i d = if i < L.length then L.getD i d else if i = L.length then x else d := by
  by_cases h : i < L.length
  · rw [if_pos h]; simp [List.getD, List.getElem?_append_left h]
  · rw [if_neg h]
    by_cases e : i = L.length
    · rw [if_pos e, e]; simp [List.getD]
    · rw [if_neg e]
      have : (L ++ [x])[i]? = none := List.getElem?_eq_none (by simp; omega)
      simp [List.getD, this]
/-- One bridge more. -/
theorem NOwn.push {lo hi : Nat} {w w' : World} {v v' : Value} {Bs : List Bd} {x : Bd} (h : NOwn lo hi w v Bs) (hs : hi ≤ w.heap.size)
    (row : FOwn bdEnc 2 54 lo w' v' (Bs ++ [x])) (gr : w.grownBy w' v.ownBlock) (hv : v'.ownBlock = v.ownBlock ∨ ∃ g, v'.ownBlock = some g ∧ w.heap.size ≤ g)
    (nx : FOwn ptEnc 11 68 lo w x.v x.L) (hx : ∀ g, x.v.ownBlock = some g → hi ≤ g ∧ g < w.heap.size) : NOwn lo w'.heap.size w' v' (Bs ++ [x]) := by
  have hvl : ∀ g, v.ownBlock = some g → lo ≤ g ∧ g < w.heap.size := fun g e => h.row.lt g e
  have sz := gr.size
  have hvg : ∀ g, v'.ownBlock = some g → v.ownBlock = some g ∨ w.heap.size ≤ g := fun g e => by
    rcases hv with q | ⟨g', q, hg⟩
    · exact .inl (by rw [← q]; exact e)
    · rw [q] at e
      cases e
      exact .inr hg
  have nb : ∀ i, i < Bs.length → ∀ g, (Bs.getD i Bd.nil).v.ownBlock = some g → g < hi := fun i hi g e => h.nhi i hi g e
  have get : ∀ i, i < (Bs ++ [x]).length → (i < Bs.length ∧ (Bs ++ [x]).getD i Bd.nil = Bs.getD i Bd.nil) ∨ (i = Bs.length ∧ (Bs ++ [x]).getD i Bd.nil = x) := fun i hi => by
    rw [getD_push]
    have : i < Bs.length + 1 := by simpa using hi
    by_cases q : i < Bs.length
    · exact .inl ⟨q, if_pos q⟩
    · have e : i = Bs.length := by omega
      exact .inr ⟨e, by rw [if_neg q, if_pos e]⟩
  refine ⟨row, fun i hi => ?_, fun g e => (row.lt g e).2, fun i hi g e => ?_, fun i hi g g' e e' => ?_, fun i j hij hj g g' e e' => ?_⟩
  · rcases get i hi with ⟨q, r⟩ | ⟨q, r⟩
    · rw [r]
      exact (h.nest i q).keep (fun g e => gr.block g (by have := nb i q g e; omega) (fun e2 => h.apart i q g g (by rw [← e2]) e rfl))
    · rw [r]
      exact nx.keep (fun g e => gr.block g (hx g e).2 (fun e2 => by have := h.rhi g (by rw [← e2]); have := (hx g e).1; omega))
  · rcases get i hi with ⟨q, r⟩ | ⟨q, r⟩
    · rw [r] at e
      have := nb i q g e
      omega
    · rw [r] at e
      have := (hx g e).2
      omega
  · rcases get i hi with ⟨q, r⟩ | ⟨q, r⟩
    · rw [r] at e'
      rcases hvg g e with k | k
      · exact h.apart i q g g' k e'
      · have := nb i q g' e'
        omega
    · rw [r] at e'
      have := hx g' e'
      rcases hvg g e with k | k
      · have := h.rhi g k
        omega
      · omega
  · have hj' : j < Bs.length + 1 := by simpa using hj
    rcases get i (by omega) with ⟨q, r⟩ | ⟨q, r⟩
    · rw [r] at e
      rcases get j hj with ⟨q2, r2⟩ | ⟨q2, r2⟩
      · rw [r2] at e'
        exact h.aparts i j hij q2 g g' e e'
      · rw [r2] at e'
        have := nb i q g e
        have := (hx g' e').1
        omega
    · omega
/-- A bridge in the place of another. -/
theorem NOwn.set {lo hi : Nat} {w : World} {g cap : Nat} {Bs : List Bd} {i : Nat} (h : NOwn lo hi w (.slice (some ⟨g, 0, none⟩) Bs.length cap) Bs) (hs : hi ≤ w.heap.size) (hi' : i < Bs.length) (x : Bd)
    (nx : FOwn ptEnc 11 68 lo w x.v x.L) (hx : ∀ k, x.v.ownBlock = some k → hi ≤ k ∧ k < w.heap.size) : NOwn lo w.heap.size (putAll w g (i * 2) (bdEnc x)) (.slice (some ⟨g, 0, none⟩) (Bs.set i x).length cap) (Bs.set i x) := by
  have row : FOwn bdEnc 2 54 lo (putAll w g (i * 2) (bdEnc x)) (.slice (some ⟨g, 0, none⟩) (Bs.set i x).length cap) (Bs.set i x) := by
    rw [List.length_set]
    exact h.row.set bdEnc_len (by omega) hi' x
  have hg : g < hi := h.rhi g rfl
  have bl : ∀ k, k ≠ g → (putAll w g (i * 2) (bdEnc x)).heap[k]? = w.heap[k]? := fun k hk => heap_putAll _ _ _ _ hk
  have get : ∀ j, j < (Bs.set i x).length → (j ≠ i ∧ j < Bs.length ∧ (Bs.set i x).getD j Bd.nil = Bs.getD j Bd.nil) ∨ (j = i ∧ (Bs.set i x).getD j Bd.nil = x) := fun j hj => by
    rw [List.length_set] at hj
    by_cases e : j = i
    · subst e
      exact .inr ⟨rfl, by simp [List.getD, hj]⟩
    · exact .inl ⟨e, hj, by simp [List.getD, List.getElem?_set_ne (Ne.symm e)]⟩
  refine ⟨row, fun j hj => ?_, fun k e => ?_, fun j hj k e => ?_, fun j hj k k' e e' => ?_, fun j l hjl hl k k' e e' => ?_⟩
  · rcases get j hj with ⟨q, q2, r⟩ | ⟨q, r⟩
    · rw [r]
      exact (h.nest j q2).keep (fun k e => bl k (fun e2 => h.apart j q2 g k rfl e e2.symm))
    · rw [r]
      exact nx.keep (fun k e => bl k (by have := (hx k e).1; omega))
  · obtain rfl : g = k := by simpa [Value.ownBlock] using e
    omega
  · rcases get j hj with ⟨q, q2, r⟩ | ⟨q, r⟩
    · rw [r] at e
      have := h.nhi j q2 k e
      omega
    · rw [r] at e
      exact (hx k e).2
  · obtain rfl : g = k := by simpa [Value.ownBlock] using e
    rcases get j hj with ⟨q, q2, r⟩ | ⟨q, r⟩
    · rw [r] at e'
      exact h.apart j q2 g k' rfl e'
    · rw [r] at e'
      have := (hx k' e').1
      omega
  · rcases get j (by omega) with ⟨q, q2, r⟩ | ⟨q, r⟩
    · rw [r] at e
      rcases get l hl with ⟨p, p2, s⟩ | ⟨p, s⟩
      · rw [s] at e'
        exact h.aparts j l hjl p2 k k' e e'
      · rw [s] at e'
        have := h.nhi j q2 k e
        have := (hx k' e').1
        omega
    · rw [r] at e
      rcases get l hl with ⟨p, p2, s⟩ | ⟨p, s⟩
      · rw [s] at e'
        have := h.nhi l p2 k' e'
        have := (hx k e).1
        omega
      · omega
theorem NOwn.nil {lo hi : Nat} {w : World} : NOwn lo hi w (.slice none 0 0) [] :=
  ⟨FOwn.nil, fun i h => absurd h (by simp), fun g e => by simp [Value.ownBlock] at e, fun i h => absurd h (by simp), fun i h => absurd h (by simp), fun i j _ h => absurd h (by simp)⟩
/-- A net whose memory is its own: the links' from lo on below mid, the bridges' from mid on below hi. -/
structure NetOwn (lo mid hi : Nat) (w : World) (vB : Value) (Cs : List Bd) (vK : Value) (K : List Lk) : Prop where
  own : NOwn mid hi w vB Cs
  own2 : FOwn lkEnc 4 70 lo w vK K
  khi : ∀ g, vK.ownBlock = some g → g < mid
  lm : lo ≤ mid
  mh : mid ≤ hi
  hs : hi ≤ w.heap.size
theorem NetOwn.keep {lo mid hi : Nat} {w w' : World} {vB : Value} {Cs : List Bd} {vK : Value} {K : List Lk} (h : NetOwn lo mid hi w vB Cs vK K) (k : ∀ g, lo ≤ g → g < hi → w'.heap[g]? = w.heap[g]?) (hs : w.heap.size ≤ w'.heap.size) : NetOwn lo mid hi w' vB Cs vK K :=
  ⟨h.own.keep (fun g h1 h2 => k g (Nat.le_trans h.lm h1) h2), h.own2.keep (fun g e => k g (h.own2.lt g e).1 (Nat.lt_of_lt_of_le (h.khi g e) h.mh)), h.khi, h.lm, h.mh, Nat.le_trans h.hs hs⟩
theorem NetOwn.later {lo mid hi : Nat} {w w' : World} {vB : Value} {Cs : List Bd} {vK : Value} {K : List Lk} (h : NetOwn lo mid hi w vB Cs vK K) (k : Below w.heap.size w w') : NetOwn lo mid hi w' vB Cs vK K :=
  h.keep (fun g _ hg => k.block g (Nat.lt_of_lt_of_le hg h.hs)) k.size
theorem NetOwn.nn {lo mid hi : Nat} {w : World} {adB : Option Addr} {cB : Nat} {Cs : List Bd} {adK : Option Addr} {cK : Nat} {K : List Lk} (h : NetOwn lo mid hi w (.slice adB Cs.length cB) Cs (.slice adK K.length cK) K) (hl : Cs.length ≤ 1048576) (hls : ∀ i, i < Cs.length → (Cs.getD i Bd.nil).L.length ≤ 1048576) (hk : K.length ≤ 1048576) : NN w adB Cs adK K :=
  ⟨h.own.view.2, h.own2.view.2, hl, hls, hk⟩
theorem FOwn.cap_ {X : Type} {enc : X → List Value} {n : Nat} {T : TypeId} {base : Nat} {w : World} {ad : Option Addr} {cap : Nat} {L : List X} (h : FOwn enc n T base w (.slice ad L.length cap) L) : L.length ≤ cap := by
  rcases h.2 with ⟨q, e⟩ | ⟨g, c, cur, q, _, _, hc, _⟩
  · rw [e]; exact Nat.zero_le _
  · simp only [Value.slice.injEq] at q
    rw [q.2.2]
    exact hc

end Go.Proofs.Ytdfjfodfnildiab
