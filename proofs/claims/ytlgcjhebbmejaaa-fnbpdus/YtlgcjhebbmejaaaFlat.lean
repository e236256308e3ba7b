/- Lists of flat structs. -/
import Derived.Test.YtlgcjhebbmejaaaRows
import Derived.WalkKit
import Derived.ProofKit
import Derived.OpenShut
import Derived.ShutString
import Derived.ChangeOld
import Derived.Below
import Derived.Deep.QuietTactic
import Derived.BigQuiet
import Derived.WalkSmall
import Derived.Laws.OwnMore
import Derived.WalkSpells
import Derived.Laws.AppendOwn
namespace Go.Proofs.Ytlgcjhebbmejaaa
open Go.ChangeShapes Go.WideShapes Go.ChangeAt Go.RowKit
open Go.ChangeMaps (open_string shut_string)
set_option linter.unusedVariables false
set_option maxRecDepth 100000

/-- The cells of a list of flat structs. -/
def fcells {X : Type} (enc : X → List Value) : List X → List Value
  | [] => []
  | x :: L => enc x ++ fcells enc L
theorem fcells_len {X : Type} {enc : X → List Value} {n : Nat} (hn : ∀ x, (enc x).length = n) (L : List X) : (fcells enc L).length = L.length * n := by
  induction L with
  | nil => simp [fcells]
  | cons x L ih => simp only [fcells, List.length_append, hn, ih, List.length_cons, Nat.add_mul]; omega
theorem fcells_app {X : Type} {enc : X → List Value} (A B : List X) : fcells enc (A ++ B) = fcells enc A ++ fcells enc B := by
  induction A with
  | nil => rfl
  | cons x A ih => simp [fcells, ih]
theorem fcells_at {X : Type} {enc : X → List Value} {n : Nat} (hn : ∀ x, (enc x).length = n) (d : X) (L : List X) : ∀ (i j : Nat), i < L.length → j < n → (fcells enc L)[i * n + j]? = (enc (L.getD i d))[j]? := by
  induction L with
  | nil => intro i j h; simp at h
  | cons x L ih =>
    intro i j hi hj
    cases i with
    | zero => simp only [fcells, Nat.zero_mul, Nat.zero_add, List.getD_cons_zero]; rw [List.getElem?_append_left (by rw [hn]; exact hj)]
    | succ i =>
      simp only [fcells, List.getD_cons_succ]
      rw [List.getElem?_append_right (by rw [hn, Nat.add_mul]; omega), hn, show (i + 1) * n + j - n = i * n + j by rw [Nat.add_mul]; omega]
      exact ih i j (by simpa using hi) hj
/-- The slice at 'ad' reads, in the world w, as the list L. -/
def FView {X : Type} (enc : X → List Value) (w : World) (ad : Option Addr) (L : List X) : Prop :=
  0 < L.length → ∃ b off, ad = some ⟨b, off, none⟩ ∧ ∀ j v, (fcells enc L)[j]? = some v → w.cell? ⟨b, off + j, none⟩ = some v
theorem FView.nil {X : Type} {enc : X → List Value} {w : World} {ad : Option Addr} : FView enc w ad [] := fun h => absurd h (by simp)
theorem FView.lt {X : Type} {enc : X → List Value} {n : Nat} (hn : ∀ x, (enc x).length = n) (h0 : 0 < n) {w : World} {ad : Option Addr} {L : List X} (h : FView enc w ad L) : ∀ a, ad = some a → 0 < L.length → a.block < w.heap.size := by
  intro a e hp
  obtain ⟨b, off, e2, hc⟩ := h hp
  rw [e2] at e
  cases e
  have hl : 0 < (fcells enc L).length := by rw [fcells_len hn]; exact Nat.mul_pos hp h0
  exact World.block_lt_of_cell? w _ (hc 0 _ (List.getElem?_eq_getElem hl))
theorem FView.carry {X : Type} {enc : X → List Value} {w w' : World} {ad : Option Addr} {L : List X} (h : FView enc w ad L) (hb : ∀ a, ad = some a → 0 < L.length → w'.heap[a.block]? = w.heap[a.block]?) : FView enc w' ad L :=
  fun hp => by
    obtain ⟨b, off, e, hc⟩ := h hp
    exact ⟨b, off, e, fun j v hv => (World.cell?_of_block (a := ⟨b, off + j, none⟩) (hb ⟨b, off, none⟩ e hp)).trans (hc j v hv)⟩
theorem FView.below {X : Type} {enc : X → List Value} {w w' : World} {ad : Option Addr} {L : List X} {B : Nat} (h : FView enc w ad L) (k : Below B w w') (hb : ∀ a, ad = some a → 0 < L.length → a.block < B) : FView enc w' ad L :=
  h.carry fun a e hp => k.block _ (hb a e hp)
theorem FView.at_ {X : Type} {enc : X → List Value} {n : Nat} (hn : ∀ x, (enc x).length = n) (d : X) {w : World} {b off : Nat} {L : List X} (h : FView enc w (some ⟨b, off, none⟩) L) {i : Nat} (hi : i < L.length) : ∀ j v, (enc (L.getD i d))[j]? = some v → w.cell? ⟨b, off + i * n + j, none⟩ = some v := by
  intro j v hv
  obtain ⟨b', off', e, hc⟩ := h (by omega)
  simp only [Option.some.injEq, Addr.mk.injEq, and_true] at e
  obtain ⟨rfl, rfl⟩ := e
  have hj : j < n := by
    rw [← hn (L.getD i d)]
    exact (List.getElem?_eq_some_iff.1 hv).1
  have := hc (i * n + j) v ((fcells_at hn d L i j hi hj).trans hv)
  rw [Nat.add_assoc]
  exact this
/-- Cells written one behind the other. -/
def putAll (w : World) (g : Nat) : Nat → List Value → World
  | _, [] => w
  | o, v :: vs => putAll (w.setCell ⟨g, o, none⟩ v) g (o + 1) vs
def setAll (xs : List Value) : Nat → List Value → List Value
  | _, [] => xs
  | o, v :: vs => setAll (xs.set o v) (o + 1) vs
theorem setAll_len (vs : List Value) : ∀ (xs : List Value) (o : Nat), (setAll xs o vs).length = xs.length := by
  induction vs with
  | nil => intro xs o; rfl
  | cons v vs ih => intro xs o; simp only [setAll]; rw [ih]; simp
theorem setAll_at (vs : List Value) : ∀ (xs : List Value) (o j : Nat), o + vs.length ≤ xs.length → (setAll xs o vs)[j]? = if o ≤ j ∧ j < o + vs.length then vs[j - o]? else xs[j]? := by
  induction vs with
  | nil => intro xs o j h; rw [if_neg (by simp)]; rfl
  | cons v vs ih =>
    intro xs o j h
    simp only [setAll, List.length_cons] at h ⊢
    rw [ih (xs.set o v) (o + 1) j (by simp; omega)]
    by_cases h1 : o = j
    · subst h1
      rw [if_neg (by omega), if_pos (by omega), List.getElem?_set_self (by omega)]
      simp
    · by_cases h2 : o + 1 ≤ j ∧ j < o + 1 + vs.length
      · rw [if_pos h2, if_pos (by omega), show j - o = (j - (o + 1)) + 1 by omega, List.getElem?_cons_succ]
      · rw [if_neg h2, if_neg (by omega), List.getElem?_set_ne h1]
theorem setAll_cells {X : Type} {enc : X → List Value} {n : Nat} (hn : ∀ x, (enc x).length = n) (h0 : 0 < n) (d : X) (L : List X) (i : Nat) (hi : i < L.length) (x : X) : setAll (fcells enc L) (i * n) (enc x) = fcells enc (L.set i x) := by
  have hle : i * n + n ≤ L.length * n := by
    have := Nat.mul_le_mul_right n (show i + 1 ≤ L.length from hi)
    rw [Nat.add_mul] at this
    omega
  apply List.ext_getElem?
  intro j
  rw [setAll_at _ _ _ _ (by rw [fcells_len hn, hn]; exact hle), hn]
  by_cases hj : j < L.length * n
  · have e : j = j / n * n + j % n := by rw [Nat.mul_comm]; exact (Nat.div_add_mod j n).symm
    have hq : j / n < L.length := Nat.div_lt_of_lt_mul (by rw [Nat.mul_comm]; exact hj)
    have hr : j % n < n := Nat.mod_lt _ h0
    have r1 : (fcells enc (L.set i x))[j]? = (enc ((L.set i x).getD (j / n) d))[j % n]? := by
      conv => lhs; rw [e]
      exact fcells_at hn d _ _ _ (by simpa using hq) hr
    have r2 : (fcells enc L)[j]? = (enc (L.getD (j / n) d))[j % n]? := by
      conv => lhs; rw [e]
      exact fcells_at hn d _ _ _ hq hr
    rw [r1, r2]
    by_cases hi2 : j / n = i
    · have hjm : i * n + j % n = j := by rw [← hi2]; exact e.symm
      rw [if_pos (by omega), show j - i * n = j % n by omega, hi2]
      simp [List.getD, hi]
    · have hno : ¬ (i * n ≤ j ∧ j < i * n + n) := by
        rintro ⟨a1, a2⟩
        apply hi2
        rw [Nat.div_eq_of_lt_le]
        · exact a1
        · rw [Nat.add_mul]; omega
      rw [if_neg hno]
      simp [List.getD, List.getElem?_set_ne (Ne.symm hi2)]
  · have l1 : (fcells enc L)[j]? = none := List.getElem?_eq_none (by rw [fcells_len hn]; omega)
    have l2 : (fcells enc (L.set i x))[j]? = none := List.getElem?_eq_none (by rw [fcells_len hn]; simp; omega)
    rw [l1, l2, if_neg (by omega)]
/-- A list that a call owns: its row v, behind base. -/
def FOwn {X : Type} (enc : X → List Value) (n : Nat) (T : TypeId) (base : Nat) (w : World) (v : Value) (L : List X) : Prop := w.ownsRow base T n v L.length (fcells enc L)
theorem FOwn.keep {X : Type} {enc : X → List Value} {n : Nat} {T : TypeId} {base : Nat} {w w' : World} {v : Value} {L : List X} (h : FOwn enc n T base w v L) (k : ∀ g, v.ownBlock = some g → w'.heap[g]? = w.heap[g]?) : FOwn enc n T base w' v L := by
  obtain ⟨h1, h2⟩ := h
  refine ⟨h1, ?_⟩
  rcases h2 with q | ⟨g, cap, cur, rfl, hb, hg, r⟩
  · exact .inl q
  · exact .inr ⟨g, cap, cur, rfl, hb, (k g rfl).trans hg, r⟩
theorem FOwn.lt {X : Type} {enc : X → List Value} {n : Nat} {T : TypeId} {base : Nat} {w : World} {v : Value} {L : List X} (h : FOwn enc n T base w v L) : ∀ k, v.ownBlock = some k → base ≤ k ∧ k < w.heap.size := World.ownsRow.lt h
theorem FOwn.below {X : Type} {enc : X → List Value} {n : Nat} {T : TypeId} {base B : Nat} {w w' : World} {v : Value} {L : List X} (h : FOwn enc n T base w v L) (k : Below B w w') (hB : ∀ g, v.ownBlock = some g → g < B) : FOwn enc n T base w' v L := h.keep fun g e => k.block g (hB g e)
theorem FOwn.later {X : Type} {enc : X → List Value} {n : Nat} {T : TypeId} {base : Nat} {w w' : World} {v : Value} {L : List X} (h : FOwn enc n T base w v L) (k : Below w.heap.size w w') : FOwn enc n T base w' v L := h.below k fun g e => (h.lt g e).2
theorem FOwn.view {X : Type} {enc : X → List Value} {n : Nat} {T : TypeId} {base : Nat} {w : World} {ad : Option Addr} {len cap : Nat} {L : List X} (h : FOwn enc n T base w (.slice ad len cap) L) : len = L.length ∧ FView enc w ad L := by
  obtain ⟨h1, h2⟩ := h
  rcases h2 with ⟨e, e0⟩ | ⟨g, c, cur, e, hb, hg, hc, hm, hs, ht⟩
  · cases e
    exact ⟨e0.symm, fun hp => absurd hp (by omega)⟩
  · simp only [Value.slice.injEq] at e
    obtain ⟨rfl, rfl, rfl⟩ := e
    refine ⟨rfl, fun hp => ⟨g, 0, rfl, fun j v hv => ?_⟩⟩
    have hj : j < L.length * n := by rw [← h1]; exact (List.getElem?_eq_some_iff.1 hv).1
    have own : w.ownsRow base T n (.slice (some ⟨g, 0, none⟩) L.length cap) L.length (fcells enc L) := ⟨h1, .inr ⟨g, cap, cur, rfl, hb, hg, hc, hm, hs, ht⟩⟩
    rw [Nat.zero_add, own.cellAt j hj]
    exact hv
theorem own_putAll {base : Nat} {T : TypeId} {n g m cap : Nat} (vs : List Value) : ∀ {w : World} {xs : List Value} (o : Nat), w.ownsRow base T n (.slice (some ⟨g, 0, none⟩) m cap) m xs → o + vs.length ≤ m * n → (putAll w g o vs).ownsRow base T n (.slice (some ⟨g, 0, none⟩) m cap) m (setAll xs o vs) := by
  induction vs with
  | nil => intro w xs o h _; exact h
  | cons v vs ih =>
    intro w xs o h hl
    simp only [putAll, setAll, List.length_cons] at hl ⊢
    exact ih (o + 1) (h.stored o v).1 (by omega)
theorem FOwn.set {X : Type} {enc : X → List Value} {n : Nat} (hn : ∀ x, (enc x).length = n) (h0 : 0 < n) {T : TypeId} {base : Nat} {w : World} {g cap : Nat} {L : List X} (h : FOwn enc n T base w (.slice (some ⟨g, 0, none⟩) L.length cap) L) {i : Nat} (hi : i < L.length) (x : X) : FOwn enc n T base (putAll w g (i * n) (enc x)) (.slice (some ⟨g, 0, none⟩) L.length cap) (L.set i x) := by
  have hle : i * n + n ≤ L.length * n := by
    have := Nat.mul_le_mul_right n (show i + 1 ≤ L.length from hi)
    rw [Nat.add_mul] at this
    omega
  have := own_putAll (enc x) (i * n) (show w.ownsRow base T n _ L.length (fcells enc L) from h) (by rw [hn]; exact hle)
  rw [setAll_cells hn h0 x L i hi x] at this
  unfold FOwn
  rw [List.length_set]
  exact this
theorem FOwn.app {X : Type} {enc : X → List Value} {n : Nat} {T : TypeId} {base : Nat} {w : World} {v : Value} {L M : List X} {m : Nat} (h : w.ownsRow base T n v m (fcells enc L ++ fcells enc M)) (hm : m = L.length + M.length) : FOwn enc n T base w v (L ++ M) := by
  unfold FOwn
  rw [fcells_app, List.length_append, ← hm]
  exact h
theorem FOwn.nil {X : Type} {enc : X → List Value} {n : Nat} {T : TypeId} {base : Nat} {w : World} : FOwn enc n T base w (.slice none 0 0) ([] : List X) := ⟨by simp [fcells], .inl ⟨rfl, rfl⟩⟩
theorem heap_putAll {g : Nat} (vs : List Value) : ∀ (w : World) (o k : Nat), k ≠ g → (putAll w g o vs).heap[k]? = w.heap[k]? := by
  induction vs with
  | nil => intro w o k _; rfl
  | cons v vs ih => intro w o k hk; simp only [putAll]; rw [ih _ _ k hk, Below.heap_setCell _ _ _ _ hk]
theorem size_putAll {g : Nat} (vs : List Value) : ∀ (w : World) (o : Nat), (putAll w g o vs).heap.size = w.heap.size := by
  induction vs with
  | nil => intro w o; rfl
  | cons v vs ih => intro w o; simp only [putAll]; rw [ih]; simp
theorem below_putAll {B g : Nat} {a : World} (hB : B ≤ g) (vs : List Value) : ∀ {w : World} (o : Nat), Below B a w → Below B a (putAll w g o vs) := by
  induction vs with
  | nil => intro w o h; exact h
  | cons v vs ih => intro w o h; exact ih (o + 1) (h.setCell hB v)
/-- A row that is being filled: its first k elements are those of L. -/
def FFill {X : Type} (enc : X → List Value) (n : Nat) (T : TypeId) (base : Nat) (w : World) (g : Nat) (L : List X) (k : Nat) : Prop :=
  ∃ xs, w.ownsRow base T n (.slice (some ⟨g, 0, none⟩) L.length L.length) L.length xs ∧ ∀ j, j < k * n → xs[j]? = (fcells enc L)[j]?
theorem FFill.start {X : Type} {enc : X → List Value} {n : Nat} {T : TypeId} {base : Nat} {w : World} {g : Nat} {L : List X} {xs : List Value} (h : w.ownsRow base T n (.slice (some ⟨g, 0, none⟩) L.length L.length) L.length xs) : FFill enc n T base w g L 0 := ⟨xs, h, fun j hj => by omega⟩
theorem FFill.keep {X : Type} {enc : X → List Value} {n : Nat} {T : TypeId} {base : Nat} {w w' : World} {g : Nat} {L : List X} {k : Nat} (h : FFill enc n T base w g L k) (e : w'.heap[g]? = w.heap[g]?) : FFill enc n T base w' g L k := by
  obtain ⟨xs, ⟨h1, h2⟩, h3⟩ := h
  refine ⟨xs, ⟨h1, ?_⟩, h3⟩
  rcases h2 with q | ⟨g', cap, cur, q, hb, hg, r⟩
  · exact .inl q
  · simp only [Value.slice.injEq, Option.some.injEq, Addr.mk.injEq, and_true] at q
    obtain ⟨rfl, q2⟩ := q
    exact .inr ⟨g, cap, cur, by simp [q2], hb, e.trans hg, r⟩
theorem FFill.lt {X : Type} {enc : X → List Value} {n : Nat} {T : TypeId} {base : Nat} {w : World} {g : Nat} {L : List X} {k : Nat} (h : FFill enc n T base w g L k) : base ≤ g ∧ g < w.heap.size := by
  obtain ⟨xs, h1, _⟩ := h
  exact h1.lt g rfl
theorem FFill.cell {X : Type} {enc : X → List Value} {n : Nat} {T : TypeId} {base : Nat} {w : World} {g : Nat} {L : List X} {k : Nat} (h : FFill enc n T base w g L k) (j : Nat) (hj : j < L.length * n) : ∃ u, w.cell? ⟨g, j, none⟩ = some u := by
  obtain ⟨xs, h1, _⟩ := h
  rw [h1.cellAt j hj]
  exact ⟨xs[j]'(by rw [h1.1]; exact hj), List.getElem?_eq_getElem _⟩
theorem FFill.frozen {X : Type} {enc : X → List Value} {n : Nat} {T : TypeId} {base : Nat} {w : World} {g : Nat} {L : List X} {k : Nat} (h : FFill enc n T base w g L k) (j : Nat) : w.frozen? ⟨g, j, none⟩ = false := by
  obtain ⟨xs, h1, _⟩ := h
  exact h1.frozenAt j
theorem mul_le_of_lt {i m n : Nat} (h : i < m) : i * n + n ≤ m * n := by
  have := Nat.mul_le_mul_right n (show i + 1 ≤ m from h)
  rw [Nat.add_mul] at this
  omega
theorem FFill.step {X : Type} {enc : X → List Value} {n : Nat} (hn : ∀ x, (enc x).length = n) (d : X) {T : TypeId} {base : Nat} {w : World} {g : Nat} {L : List X} {k : Nat} (h : FFill enc n T base w g L k) (hk : k < L.length) : FFill enc n T base (putAll w g (k * n) (enc (L.getD k d))) g L (k + 1) := by
  obtain ⟨xs, h1, h2⟩ := h
  have hle := mul_le_of_lt (n := n) hk
  refine ⟨_, own_putAll (enc (L.getD k d)) (k * n) h1 (by rw [hn]; exact hle), fun j hj => ?_⟩
  rw [setAll_at _ _ _ _ (by rw [h1.1, hn]; exact hle), hn]
  rw [Nat.add_mul] at hj
  by_cases q : k * n ≤ j
  · rw [if_pos ⟨q, by omega⟩]
    have := fcells_at hn d L k (j - k * n) hk (by omega)
    rw [show k * n + (j - k * n) = j by omega] at this
    exact this.symm
  · rw [if_neg (by omega)]
    exact h2 j (by omega)
theorem FFill.done {X : Type} {enc : X → List Value} {n : Nat} (hn : ∀ x, (enc x).length = n) {T : TypeId} {base : Nat} {w : World} {g : Nat} {L : List X} (h : FFill enc n T base w g L L.length) : FOwn enc n T base w (.slice (some ⟨g, 0, none⟩) L.length L.length) L := by
  obtain ⟨xs, h1, h2⟩ := h
  have e : xs = fcells enc L := by
    apply List.ext_getElem?
    intro j
    by_cases hj : j < L.length * n
    · exact h2 j hj
    · rw [List.getElem?_eq_none (by rw [h1.1]; omega), List.getElem?_eq_none (by rw [fcells_len hn]; omega)]
  rw [e] at h1
  exact h1
theorem FOwn.cell {X : Type} {enc : X → List Value} {n : Nat} (hn : ∀ x, (enc x).length = n) (d : X) {T : TypeId} {base : Nat} {w : World} {g cap : Nat} {L : List X} (h : FOwn enc n T base w (.slice (some ⟨g, 0, none⟩) L.length cap) L) {i : Nat} (hi : i < L.length) : ∀ j v, (enc (L.getD i d))[j]? = some v → w.cell? ⟨g, i * n + j, none⟩ = some v := by
  intro j v hv
  have := h.view.2.at_ hn d hi j v hv
  rw [Nat.zero_add] at this
  exact this
theorem FOwn.frozen {X : Type} {enc : X → List Value} {n : Nat} {T : TypeId} {base : Nat} {w : World} {g cap : Nat} {L : List X} (h : FOwn enc n T base w (.slice (some ⟨g, 0, none⟩) L.length cap) L) (j : Nat) : w.frozen? ⟨g, j, none⟩ = false := World.ownsRow.frozenAt h j
theorem grown_putAll {a w : World} {g : Nat} (vs : List Value) (o : Nat) (h : a.grownBy w (some g)) : a.grownBy (putAll w g o vs) (some g) := by
  induction vs generalizing w o with
  | nil => exact h
  | cons v vs ih =>
    refine ih (o + 1) ⟨h.os, h.tape, h.output, by have := h.size; simp; omega, fun k hk hne => ?_⟩
    have hn : k ≠ g := fun e => hne (by rw [e])
    rw [Below.heap_setCell _ _ _ _ hn]
    exact h.block k hk hne
/-- The first k of a list, marked; the others as they were. -/
def markd {X : Type} (mk : Nat → X) (L : List X) (k : Nat) : List X := (List.range k).map mk ++ L.drop k
theorem markd_len {X : Type} {mk : Nat → X} {L : List X} {k : Nat} (h : k ≤ L.length) : (markd mk L k).length = L.length := by simp [markd]; omega
theorem markd_zero {X : Type} {mk : Nat → X} {L : List X} : markd mk L 0 = L := by simp [markd]
theorem markd_all {X : Type} {mk : Nat → X} {L : List X} : markd mk L L.length = (List.range L.length).map mk := by simp [markd]
theorem markd_set {X : Type} {mk : Nat → X} {L : List X} {k : Nat} (h : k < L.length) : (markd mk L k).set k (mk k) = markd mk L (k + 1) := by
  apply List.ext_getElem?
  intro j
  unfold markd
  by_cases h1 : j < k
  · rw [List.getElem?_set_ne (by omega), List.getElem?_append_left (by simp; omega), List.getElem?_append_left (by simp; omega)]
    simp [h1, Nat.lt_succ_of_lt h1]
  · by_cases h2 : j = k
    · subst h2
      rw [List.getElem?_set_self (by simp; omega), List.getElem?_append_left (by simp)]
      simp
    · rw [List.getElem?_set_ne (by omega), List.getElem?_append_right (by simp; omega), List.getElem?_append_right (by simp; omega)]
      simp only [List.length_map, List.length_range, List.getElem?_drop]
      congr 1
      omega
theorem FOwn.base {X : Type} {enc : X → List Value} {n : Nat} {T : TypeId} {base base' : Nat} {w : World} {v : Value} {L : List X} (h : FOwn enc n T base w v L) (hb : base' ≤ base) : FOwn enc n T base' w v L := by
  obtain ⟨h1, h2⟩ := h
  refine ⟨h1, ?_⟩
  rcases h2 with q | ⟨g, cap, cur, e, hg, r⟩
  · exact .inl q
  · exact .inr ⟨g, cap, cur, e, Nat.le_trans hb hg, r⟩

end Go.Proofs.Ytlgcjhebbmejaaa
