/- Lists of what goes out that a call is making. What Pass answers. -/
import Derived.Test.YtifndemkkaelaaaGreatRows
import Derived.WalkKit
import Derived.ProofKit
import Derived.OpenShut
import Derived.ShutString
import Derived.ChangeOld
import Derived.Below
import Derived.Deep.QuietTactic
import Derived.BigQuiet
import Derived.WalkSmall
import Derived.Laws.OwnMore
import Derived.WalkSpells
import Derived.WalkLawsBesides
import Derived.Test.YtifndemkkaelaaaGreatZlCopy1
import Derived.Test.YtifndemkkaelaaaGreatZl15
import Derived.Test.YtifndemkkaelaaaGreatZl10
import Derived.Test.YtifndemkkaelaaaGreatZl6
namespace Go.Proofs.YtifndemkkaelaaaGreat
open Go.ChangeShapes Go.WideShapes Go.ChangeAt Go.RowKit
open Go.ChangeMaps (open_string shut_string)
set_option linter.unusedVariables false
set_option maxRecDepth 100000

def ocells : List Ob → List Value
  | [] => []
  | m :: L => [.int .i64 m.p, .int .i64 m.a, .int .i64 m.b, .int .i64 m.c, .slice m.ad m.L.length m.cap] ++ ocells L
theorem ocells_len (L : List Ob) : (ocells L).length = L.length * 5 := by
  induction L with
  | nil => rfl
  | cons m L ih => simp [ocells, ih]; omega
theorem ocells_app (A B : List Ob) : ocells (A ++ B) = ocells A ++ ocells B := by
  induction A with
  | nil => rfl
  | cons m A ih => simp [ocells, ih]
theorem ocells_at {L : List Ob} : ∀ {i : Nat}, i < L.length → (ocells L)[i * 5]? = some (.int .i64 (L.getD i Ob.nil).p) ∧ (ocells L)[i * 5 + 1]? = some (.int .i64 (L.getD i Ob.nil).a) ∧ (ocells L)[i * 5 + 2]? = some (.int .i64 (L.getD i Ob.nil).b) ∧ (ocells L)[i * 5 + 3]? = some (.int .i64 (L.getD i Ob.nil).c) ∧ (ocells L)[i * 5 + 4]? = some (.slice (L.getD i Ob.nil).ad (L.getD i Ob.nil).L.length (L.getD i Ob.nil).cap) := by
  induction L with
  | nil => intro i h; simp at h
  | cons m L ih =>
    intro i h
    cases i with
    | zero => exact ⟨rfl, rfl, rfl, rfl, rfl⟩
    | succ i =>
      obtain ⟨h1, h2, h3, h4, h5⟩ := ih (i := i) (by simpa using h)
      have e1 : (i + 1) * 5 = i * 5 + 1 + 1 + 1 + 1 + 1 := by omega
      have e2 : (i + 1) * 5 + 1 = i * 5 + 1 + 1 + 1 + 1 + 1 + 1 := by omega
      have e3 : (i + 1) * 5 + 2 = i * 5 + 2 + 1 + 1 + 1 + 1 + 1 := by omega
      have e4 : (i + 1) * 5 + 3 = i * 5 + 3 + 1 + 1 + 1 + 1 + 1 := by omega
      have e5 : (i + 1) * 5 + 4 = i * 5 + 4 + 1 + 1 + 1 + 1 + 1 := by omega
      refine ⟨?_, ?_, ?_, ?_, ?_⟩
      · rw [e1]; exact h1
      · rw [e2]; exact h2
      · rw [e3]; exact h3
      · rw [e4]; exact h4
      · rw [e5]; exact h5
structure OC (base : Nat) (w : World) (v : Value) (Ns : List Ob) : Prop where
  own : w.ownsRow base 43 5 v Ns.length (ocells Ns)
  nest : ∀ i, i < Ns.length → ObL w (Ns.getD i Ob.nil)
  nil0 : ∀ i, i < Ns.length → (Ns.getD i Ob.nil).ad = none → (Ns.getD i Ob.nil).cap = 0
  rooms : ∀ i, i < Ns.length → Room w (Ns.getD i Ob.nil).ad (Ns.getD i Ob.nil).L.length
  inn : ∀ i, i < Ns.length → ∀ x, (Ns.getD i Ob.nil).ad = some x → 0 < (Ns.getD i Ob.nil).L.length → base ≤ x.block ∧ x.block < w.heap.size
  apart : ∀ i, i < Ns.length → ∀ x, (Ns.getD i Ob.nil).ad = some x → 0 < (Ns.getD i Ob.nil).L.length → v.ownBlock ≠ some x.block
  aparts : ∀ i j, i < j → j < Ns.length → ∀ x y, (Ns.getD i Ob.nil).ad = some x → (Ns.getD j Ob.nil).ad = some y → 0 < (Ns.getD i Ob.nil).L.length → 0 < (Ns.getD j Ob.nil).L.length → x.block ≠ y.block
theorem OC.later {base B : Nat} {w w' : World} {v : Value} {Ns : List Ob} (h : OC base w v Ns) (k : Below B w w') (hB : w.heap.size ≤ B) : OC base w' v Ns := by
  have e : ∀ i, i < Ns.length → ∀ x, (Ns.getD i Ob.nil).ad = some x → 0 < (Ns.getD i Ob.nil).L.length → w'.heap[x.block]? = w.heap[x.block]? := fun i hi x q p => k.block _ (Nat.lt_of_lt_of_le (h.inn i hi x q p).2 hB)
  exact ⟨own_below2 h.own k hB, fun i hi => View.carry (h.nest i hi) (e i hi), h.nil0, fun i hi => (h.rooms i hi).carry (e i hi), fun i hi x q p => ⟨(h.inn i hi x q p).1, Nat.lt_of_lt_of_le (h.inn i hi x q p).2 k.size⟩, h.apart, h.aparts⟩
theorem OC.same {base : Nat} {w w' : World} {v : Value} {Ns : List Ob} (h : OC base w v Ns) (k : ∀ j, base ≤ j → j < w.heap.size → w'.heap[j]? = w.heap[j]?) (hs : w.heap.size ≤ w'.heap.size) : OC base w' v Ns := by
  have e : ∀ i, i < Ns.length → ∀ x, (Ns.getD i Ob.nil).ad = some x → 0 < (Ns.getD i Ob.nil).L.length → w'.heap[x.block]? = w.heap[x.block]? := fun i hi x q p => k _ (h.inn i hi x q p).1 (h.inn i hi x q p).2
  exact ⟨own_same h.own (fun g q => k g (own_lt h.own g q).1 (own_lt h.own g q).2), fun i hi => View.carry (h.nest i hi) (e i hi), h.nil0, fun i hi => (h.rooms i hi).carry (e i hi), fun i hi x q p => ⟨(h.inn i hi x q p).1, Nat.lt_of_lt_of_le (h.inn i hi x q p).2 hs⟩, h.apart, h.aparts⟩
theorem OC.push {base B : Nat} {w w1 w2 : World} {v v' : Value} {Ns : List Ob} {m : Ob} (h : OC base w v Ns) (k1 : Below w.heap.size w w1) (hv : ObL w1 m) (hr : Room w1 m.ad m.L.length) (hn : m.ad = none → m.cap = 0) (hm : ∀ x, m.ad = some x → 0 < m.L.length → w.heap.size ≤ x.block ∧ x.block < w1.heap.size) (hb : base ≤ w.heap.size)
    (own : w2.ownsRow base 43 5 v' (Ns.length + 1) (ocells Ns ++ [.int .i64 m.p, .int .i64 m.a, .int .i64 m.b, .int .i64 m.c, .slice m.ad m.L.length m.cap])) (g : w1.grownBy w2 v.ownBlock) (hv' : v'.ownBlock = v.ownBlock ∨ v'.ownBlock = some w1.heap.size) : OC base w2 v' (Ns ++ [m]) := by
  have h1 := h.later k1 (Nat.le_refl _)
  have z1 := k1.size
  have hvl : ∀ j, v.ownBlock = some j → j < w.heap.size := fun j e => (own_lt h.own j e).2
  have e1 : ∀ i, i < Ns.length → ∀ x, (Ns.getD i Ob.nil).ad = some x → 0 < (Ns.getD i Ob.nil).L.length → w2.heap[x.block]? = w1.heap[x.block]? := fun i hi x q p => g.block _ (h1.inn i hi x q p).2 (fun e => h.apart i hi x q p e.symm)
  have e2 : ∀ x, m.ad = some x → 0 < m.L.length → w2.heap[x.block]? = w1.heap[x.block]? := fun x q p => g.block _ (hm x q p).2 (fun e => by have := hvl _ e.symm; have := (hm x q p).1; omega)
  have hl : (Ns ++ [m]).length = Ns.length + 1 := by simp
  have hg : ∀ i, i < (Ns ++ [m]).length → (i < Ns.length ∧ (Ns ++ [m]).getD i Ob.nil = Ns.getD i Ob.nil) ∨ (i = Ns.length ∧ (Ns ++ [m]).getD i Ob.nil = m) := fun i hi => by
    rw [hl] at hi
    rcases Nat.lt_or_ge i Ns.length with q | q
    · exact .inl ⟨q, getD_app_lt q⟩
    · obtain rfl : i = Ns.length := by omega
      exact .inr ⟨rfl, getD_app_len⟩
  refine ⟨by rw [hl, ocells_app]; exact own, fun i hi => ?_, fun i hi => ?_, fun i hi => ?_, fun i hi x => ?_, fun i hi x => ?_, fun i j hij hj x y => ?_⟩
  · rcases hg i hi with ⟨q, e⟩ | ⟨q, e⟩ <;> rw [e]
    · exact View.carry (h1.nest i q) (e1 i q)
    · exact View.carry hv e2
  · rcases hg i hi with ⟨q, e⟩ | ⟨q, e⟩ <;> rw [e]
    · exact h1.nil0 i q
    · exact hn
  · rcases hg i hi with ⟨q, e⟩ | ⟨q, e⟩ <;> rw [e]
    · exact (h1.rooms i q).carry (e1 i q)
    · exact hr.carry e2
  · have gs := g.size
    rcases hg i hi with ⟨q, e⟩ | ⟨q, e⟩ <;> rw [e]
    · intro a p; have := h1.inn i q x a p; omega
    · intro a p; have := hm x a p; omega
  · rcases hg i hi with ⟨q, e⟩ | ⟨q, e⟩ <;> rw [e]
    · intro a p
      have u := h.inn i q x a p
      rcases hv' with r | r <;> rw [r]
      · exact h.apart i q x a p
      · intro c; simp at c; omega
    · intro a p
      have u := hm x a p
      rcases hv' with r | r <;> rw [r]
      · intro c; have := hvl _ c; omega
      · intro c; simp at c; omega
  · rcases hg j hj with ⟨q, e⟩ | ⟨q, e⟩ <;> rw [e]
    · rw [getD_app_lt (by omega)]; exact h.aparts i j hij q x y
    · rw [getD_app_lt (by omega)]
      intro a b p r
      have := h.inn i (by omega) x a p
      have := hm y b r
      omega
theorem OC.start (base : Nat) (w : World) : OC base w (.slice none 0 0) [] :=
  ⟨⟨rfl, .inl ⟨rfl, rfl⟩⟩, fun i hi => absurd hi (by simp), fun i hi => absurd hi (by simp), fun i hi => absurd hi (by simp), fun i hi => absurd hi (by simp), fun i hi => absurd hi (by simp), fun i j _ hi => absurd hi (by simp)⟩
theorem OC.done {base : Nat} {w : World} {v : Value} {Ns : List Ob} (h : OC base w v Ns) : ∃ ad cap fp, v = .slice ad Ns.length cap ∧ ObW w ad Ns fp ∧ (∀ x ∈ fp, base ≤ x ∧ x < w.heap.size) := by
  have hfp : ∃ fp : List Nat, (∀ x ∈ fp, base ≤ x ∧ x < w.heap.size) ∧ (∀ g, v.ownBlock = some g → g ∈ fp) ∧ ∀ i, i < Ns.length → ∀ x, (Ns.getD i Ob.nil).ad = some x → 0 < (Ns.getD i Ob.nil).L.length → x.block ∈ fp := by
    refine ⟨(List.range w.heap.size).filter (fun x => decide (base ≤ x)), fun x hx => ?_, fun g e => ?_, fun i hi x q p => ?_⟩
    · simp at hx; omega
    · have := own_lt h.own g e; simp; omega
    · have := h.inn i hi x q p; simp; omega
  obtain ⟨fp, f1, f2, f3⟩ := hfp
  rcases h.own.2 with ⟨rfl, h0⟩ | ⟨g, cap, cur, rfl, hb, hg, hnc, hcm, hcs, htk⟩
  · obtain rfl : Ns = [] := List.eq_nil_of_length_eq_zero h0
    exact ⟨none, 0, fp, rfl, ⟨⟨fun p => absurd p (by simp), fun i hi => absurd hi (by simp), fun i hi => absurd hi (by simp)⟩, fun p => absurd p (by simp), fun i hi => absurd hi (by simp), fun x e => (by cases e), fun i hi => absurd hi (by simp), fun i hi => absurd hi (by simp), fun i j _ hi => absurd hi (by simp)⟩, f1⟩
  · refine ⟨some ⟨g, 0, none⟩, cap, fp, rfl, ⟨⟨fun _ => ⟨g, 0, rfl, fun i hi => ?_⟩, h.nest, h.nil0⟩, fun _ => ⟨g, 0, rfl, fun i hi => ?_⟩, h.rooms, fun x e _ => (by cases e; exact f2 g rfl), f3, fun i hi x y e q p => (by cases e; exact fun c => h.apart i hi y q p (by rw [c]; rfl)), h.aparts⟩, f1⟩
    · obtain ⟨m1, m2, m3, m4, m5⟩ := ocells_at hi
      refine ⟨?_, ?_, ?_, ?_, ?_⟩
      · rw [Nat.zero_add, h.own.cellAt (i * 5) (by omega)]; exact m1
      · rw [Nat.zero_add, h.own.cellAt (i * 5 + 1) (by omega)]; exact m2
      · rw [Nat.zero_add, h.own.cellAt (i * 5 + 2) (by omega)]; exact m3
      · rw [Nat.zero_add, h.own.cellAt (i * 5 + 3) (by omega)]; exact m4
      · rw [Nat.zero_add, h.own.cellAt (i * 5 + 4) (by omega)]; exact m5
    · rw [Nat.zero_add]
      refine ⟨?_, h.own.frozenAt i⟩
      rw [h.own.cellAt i (by omega)]
      exact ⟨_, List.getElem?_eq_getElem (by rw [ocells_len]; exact hi)⟩

end Go.Proofs.YtifndemkkaelaaaGreat
namespace Go.Proofs.YtifndemkkaelaaaGreat
open Go.ChangeShapes Go.WideShapes Go.ChangeAt Go.RowKit
open Go.ChangeMaps (open_string shut_string)
set_option linter.unusedVariables false
set_option maxRecDepth 100000

abbrev OL := List (Int × Int × Int × Int × List Int)
def insD (d : Int × List Int) (a b c : Int) (L : List Int) : FR := insR d.1 (fun i => d.2.getD i 0) d.2.length a b c L
def outD (d : Int × List Int) (a b c : Int) (L : List Int) : FR := outR d.1 (fun i => d.2.getD i 0) d.2.length a b c L
def pGo (O : List Bool) (D : DL) (T : List Hd) (p : Int) : Bool := cOk O D T && (decide (0 ≤ p ∧ p < (O.length : Int)) && O.getD p.toNat false)
def pIn (O : List Bool) (D : DL) (T : List Hd) (p a b c : Int) (L : List Int) : FR := if pGo O D T p then insD (D.getD p.toNat (0, [])) a b c L else FR.no
def pTab (O : List Bool) (D : DL) (T : List Hd) (p a b c : Int) (L : List Int) : List Hd := if (pIn O D T p a b c L).ok then hearR T ⟨(pIn O D T p a b c L).b, (pIn O D T p a b c L).c, p, 20⟩ else T
def goesAt (O : List Bool) (D : DL) (p : Int) (x : FR) (kn : Bool) (only : Int) (i : Nat) : OL :=
  if (i : Int) = p then [] else if O.getD i false = false then [] else if (kn && ((i : Int) != only)) = true then [] else
    if (outD (D.getD i (0, [])) x.a x.b x.c x.M).ok then [((i : Int), (outD (D.getD i (0, [])) x.a x.b x.c x.M).a, (outD (D.getD i (0, [])) x.a x.b x.c x.M).b, (outD (D.getD i (0, [])) x.a x.b x.c x.M).c, (outD (D.getD i (0, [])) x.a x.b x.c x.M).M)] else []
def goesTo (O : List Bool) (D : DL) (p : Int) (x : FR) (kn : Bool) (only : Int) : Nat → OL
  | 0 => []
  | k + 1 => goesTo O D p x kn only k ++ goesAt O D p x kn only k
def pOuts (O : List Bool) (D : DL) (T : List Hd) (p a b c : Int) (L : List Int) : OL :=
  if (pIn O D T p a b c L).ok then goesTo O D p (pIn O D T p a b c L) ((whereR T (pIn O D T p a b c L).a (pIn O D T p a b c L).c).2 && ((pIn O D T p a b c L).a != 0)) (whereR T (pIn O D T p a b c L).a (pIn O D T p a b c L).c).1 O.length else []
def ViewP (w : World) (O : List Bool) (D : DL) (T : List Hd) (X : OL) (e : Ending) (w' : World) : Prop :=
  ∃ (aO : Option Addr) (kO : Nat) (aM : Option Addr) (kM : Nat) (aT : Option Addr) (kT : Nat) (aL : Option Addr) (kL : Nat) (Ns : List Ob), e = .returned (.tuple #[.agg #[.slice aO O.length kO, .slice aM (List.length D) kM, .slice aT T.length kT], .slice aL Ns.length kL]) ∧ CdV w' w.heap.size w'.heap.size aO O aM D aT T ∧ Ns.map Ob.d = X ∧ ObV w' aL Ns ∧ (∀ x, aL = some x → 0 < Ns.length → w.heap.size ≤ x.block ∧ x.block < w'.heap.size) ∧ (∀ i, i < Ns.length → ∀ x, (Ns.getD i Ob.nil).ad = some x → 0 < (Ns.getD i Ob.nil).L.length → w.heap.size ≤ x.block ∧ x.block < w'.heap.size) ∧ Below w.heap.size w w'
theorem p_no {O : List Bool} {D : DL} {T : List Hd} {p a b c : Int} {L : List Int} (h : (pIn O D T p a b c L).ok = false) : pTab O D T p a b c L = T ∧ pOuts O D T p a b c L = [] := by
  unfold pTab pOuts
  rw [h]
  exact ⟨rfl, rfl⟩

end Go.Proofs.YtifndemkkaelaaaGreat
