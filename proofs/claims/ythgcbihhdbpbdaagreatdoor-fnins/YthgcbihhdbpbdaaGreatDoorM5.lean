/- Lists of flat structs. What Claim, Fade and Turn keep. The bridge in plain lists. Lists of ports: how they come in. Lists of ports: copied, compared. Bridges: how they come in, copied, compared. Elements put behind a list. Both BridgeOk, portIsOf, canFollow, walked. impl.RootPort, walked. impl.Own, impl.Hops, walked. What is said: gatesTurned, walked. What is said: claimsTold, walked. -/
import Derived.Test.YthgcbihhdbpbdaaGreatDoorRows
import Derived.WalkKit
import Derived.ProofKit
import Derived.OpenShut
import Derived.ShutString
import Derived.ChangeOld
import Derived.Below
import Derived.Deep.QuietTactic
import Derived.BigQuiet
import Derived.WalkSmall
import Derived.Laws.OwnMore
import Derived.WalkSpells
import Derived.Laws.AppendOwn
import Derived.WalkLawsBesides
import Derived.Test.YthgcbihhdbpbdaaGreatDoorM3
import Derived.Test.YthgcbihhdbpbdaaGreatDoorKPort5
import Derived.Deep.Slices
import Derived.Lib.SmallJoins
import Derived.Test.YthgcbihhdbpbdaaGreatDoorM2
import Derived.Test.YthgcbihhdbpbdaaGreatDoorM1
import Derived.Maps.AppendAt
import Derived.Laws.AppendOwnNone
import Derived.Deep.Cut
namespace Go.Proofs.YthgcbihhdbpbdaaGreatDoor
open Go.ChangeShapes Go.WideShapes Go.ChangeAt Go.RowKit
open Go.ChangeMaps (open_string shut_string)
set_option linter.unusedVariables false
set_option maxRecDepth 100000

/-- The cells of a list of flat structs. -/
def fcells {X : Type} (enc : X → List Value) : List X → List Value
  | [] => []
  | x :: L => enc x ++ fcells enc L
theorem fcells_len {X : Type} {enc : X → List Value} {n : Nat} (hn : ∀ x, (enc x).length = n) (L : List X) : (fcells enc L).length = L.length * n := by
  induction L with
  | nil => simp [fcells]
  | cons x L ih => simp only [fcells, List.length_append, hn, ih, List.length_cons, Nat.add_mul]; omega
theorem fcells_app {X : Type} {enc : X → List Value} (A B : List X) : fcells enc (A ++ B) = fcells enc A ++ fcells enc B := by
  induction A with
  | nil => rfl
  | cons x A ih => simp [fcells, ih]
theorem fcells_at {X : Type} {enc : X → List Value} {n : Nat} (hn : ∀ x, (enc x).length = n) (d : X) (L : List X) : ∀ (i j : Nat), i < L.length → j < n → (fcells enc L)[i * n + j]? = (enc (L.getD i d))[j]? := by
  induction L with
  | nil => intro i j h; simp at h
  | cons x L ih =>
    intro i j hi hj
    cases i with
    | zero => simp only [fcells, Nat.zero_mul, Nat.zero_add, List.getD_cons_zero]; rw [List.getElem?_append_left (by rw [hn]; exact hj)]
    | succ i =>
      simp only [fcells, List.getD_cons_succ]
      rw [List.getElem?_append_right (by rw [hn, Nat.add_mul]; omega), hn, show (i + 1) * n + j - n = i * n + j by rw [Nat.add_mul]; omega]
      exact ih i j (by simpa using hi) hj
/-- The slice at 'ad' reads, in the world w, as the list L. -/
def FView {X : Type} (enc : X → List Value) (w : World) (ad : Option Addr) (L : List X) : Prop :=
  0 < L.length → ∃ b off, ad = some ⟨b, off, none⟩ ∧ ∀ j v, (fcells enc L)[j]? = some v → w.cell? ⟨b, off + j, none⟩ = some v
theorem FView.nil {X : Type} {enc : X → List Value} {w : World} {ad : Option Addr} : FView enc w ad [] := fun h => absurd h (by simp)
theorem FView.lt {X : Type} {enc : X → List Value} {n : Nat} (hn : ∀ x, (enc x).length = n) (h0 : 0 < n) {w : World} {ad : Option Addr} {L : List X} (h : FView enc w ad L) : ∀ a, ad = some a → 0 < L.length → a.block < w.heap.size := by
  intro a e hp
  obtain ⟨b, off, e2, hc⟩ := h hp
  rw [e2] at e
  cases e
  have hl : 0 < (fcells enc L).length := by rw [fcells_len hn]; exact Nat.mul_pos hp h0
  exact World.block_lt_of_cell? w _ (hc 0 _ (List.getElem?_eq_getElem hl))
theorem FView.carry {X : Type} {enc : X → List Value} {w w' : World} {ad : Option Addr} {L : List X} (h : FView enc w ad L) (hb : ∀ a, ad = some a → 0 < L.length → w'.heap[a.block]? = w.heap[a.block]?) : FView enc w' ad L :=
  fun hp => by
    obtain ⟨b, off, e, hc⟩ := h hp
    exact ⟨b, off, e, fun j v hv => (World.cell?_of_block (a := ⟨b, off + j, none⟩) (hb ⟨b, off, none⟩ e hp)).trans (hc j v hv)⟩
theorem FView.below {X : Type} {enc : X → List Value} {w w' : World} {ad : Option Addr} {L : List X} {B : Nat} (h : FView enc w ad L) (k : Below B w w') (hb : ∀ a, ad = some a → 0 < L.length → a.block < B) : FView enc w' ad L :=
  h.carry fun a e hp => k.block _ (hb a e hp)
theorem FView.at_ {X : Type} {enc : X → List Value} {n : Nat} (hn : ∀ x, (enc x).length = n) (d : X) {w : World} {b off : Nat} {L : List X} (h : FView enc w (some ⟨b, off, none⟩) L) {i : Nat} (hi : i < L.length) : ∀ j v, (enc (L.getD i d))[j]? = some v → w.cell? ⟨b, off + i * n + j, none⟩ = some v := by
  intro j v hv
  obtain ⟨b', off', e, hc⟩ := h (by omega)
  simp only [Option.some.injEq, Addr.mk.injEq, and_true] at e
  obtain ⟨rfl, rfl⟩ := e
  have hj : j < n := by
    rw [← hn (L.getD i d)]
    exact (List.getElem?_eq_some_iff.1 hv).1
  have := hc (i * n + j) v ((fcells_at hn d L i j hi hj).trans hv)
  rw [Nat.add_assoc]
  exact this
/-- Cells written one behind the other. -/
def putAll (w : World) (g : Nat) : Nat → List Value → World
  | _, [] => w
  | o, v :: vs => putAll (w.setCell ⟨g, o, none⟩ v) g (o + 1) vs
def setAll (xs : List Value) : Nat → List Value → List Value
  | _, [] => xs
  | o, v :: vs => setAll (xs.set o v) (o + 1) vs
theorem setAll_len (vs : List Value) : ∀ (xs : List Value) (o : Nat), (setAll xs o vs).length = xs.length := by
  induction vs with
  | nil => intro xs o; rfl
  | cons v vs ih => intro xs o; simp only [setAll]; rw [ih]; simp
theorem setAll_at (vs : List Value) : ∀ (xs : List Value) (o j : Nat), o + vs.length ≤ xs.length → (setAll xs o vs)[j]? = if o ≤ j ∧ j < o + vs.length then vs[j - o]? else xs[j]? := by
  induction vs with
  | nil => intro xs o j h; rw [if_neg (by simp)]; rfl
  | cons v vs ih =>
    intro xs o j h
    simp only [setAll, List.length_cons] at h ⊢
    rw [ih (xs.set o v) (o + 1) j (by simp; omega)]
    by_cases h1 : o = j
    · subst h1
      rw [if_neg (by omega), if_pos (by omega), List.getElem?_set_self (by omega)]
      simp
    · by_cases h2 : o + 1 ≤ j ∧ j < o + 1 + vs.length
      · rw [if_pos h2, if_pos (by omega), show j - o = (j - (o + 1)) + 1 by omega, List.getElem?_cons_succ]
      · rw [if_neg h2, if_neg (by omega), List.getElem?_set_ne h1]
theorem setAll_cells {X : Type} {enc : X → List Value} {n : Nat} (hn : ∀ x, (enc x).length = n) (h0 : 0 < n) (d : X) (L : List X) (i : Nat) (hi : i < L.length) (x : X) : setAll (fcells enc L) (i * n) (enc x) = fcells enc (L.set i x) := by
  have hle : i * n + n ≤ L.length * n := by
    have := Nat.mul_le_mul_right n (show i + 1 ≤ L.length from hi)
    rw [Nat.add_mul] at this
    omega
  apply List.ext_getElem?
  intro j
  rw [setAll_at _ _ _ _ (by rw [fcells_len hn, hn]; exact hle), hn]
  by_cases hj : j < L.length * n
  · have e : j = j / n * n + j % n := by rw [Nat.mul_comm]; exact (Nat.div_add_mod j n).symm
    have hq : j / n < L.length := Nat.div_lt_of_lt_mul (by rw [Nat.mul_comm]; exact hj)
    have hr : j % n < n := Nat.mod_lt _ h0
    have r1 : (fcells enc (L.set i x))[j]? = (enc ((L.set i x).getD (j / n) d))[j % n]? := by
      conv => lhs; rw [e]
      exact fcells_at hn d _ _ _ (by simpa using hq) hr
    have r2 : (fcells enc L)[j]? = (enc (L.getD (j / n) d))[j % n]? := by
      conv => lhs; rw [e]
      exact fcells_at hn d _ _ _ hq hr
    rw [r1, r2]
    by_cases hi2 : j / n = i
    · have hjm : i * n + j % n = j := by rw [← hi2]; exact e.symm
      rw [if_pos (by omega), show j - i * n = j % n by omega, hi2]
      simp [List.getD, hi]
    · have hno : ¬ (i * n ≤ j ∧ j < i * n + n) := by
        rintro ⟨a1, a2⟩
        apply hi2
        rw [Nat.div_eq_of_lt_le]
        · exact a1
        · rw [Nat.add_mul]; omega
      rw [if_neg hno]
      simp [List.getD, List.getElem?_set_ne (Ne.symm hi2)]
  · have l1 : (fcells enc L)[j]? = none := List.getElem?_eq_none (by rw [fcells_len hn]; omega)
    have l2 : (fcells enc (L.set i x))[j]? = none := List.getElem?_eq_none (by rw [fcells_len hn]; simp; omega)
    rw [l1, l2, if_neg (by omega)]
/-- A list that a call owns: its row v, behind base. -/
def FOwn {X : Type} (enc : X → List Value) (n : Nat) (T : TypeId) (base : Nat) (w : World) (v : Value) (L : List X) : Prop := w.ownsRow base T n v L.length (fcells enc L)
theorem FOwn.keep {X : Type} {enc : X → List Value} {n : Nat} {T : TypeId} {base : Nat} {w w' : World} {v : Value} {L : List X} (h : FOwn enc n T base w v L) (k : ∀ g, v.ownBlock = some g → w'.heap[g]? = w.heap[g]?) : FOwn enc n T base w' v L := by
  obtain ⟨h1, h2⟩ := h
  refine ⟨h1, ?_⟩
  rcases h2 with q | ⟨g, cap, cur, rfl, hb, hg, r⟩
  · exact .inl q
  · exact .inr ⟨g, cap, cur, rfl, hb, (k g rfl).trans hg, r⟩
theorem FOwn.lt {X : Type} {enc : X → List Value} {n : Nat} {T : TypeId} {base : Nat} {w : World} {v : Value} {L : List X} (h : FOwn enc n T base w v L) : ∀ k, v.ownBlock = some k → base ≤ k ∧ k < w.heap.size := World.ownsRow.lt h
theorem FOwn.below {X : Type} {enc : X → List Value} {n : Nat} {T : TypeId} {base B : Nat} {w w' : World} {v : Value} {L : List X} (h : FOwn enc n T base w v L) (k : Below B w w') (hB : ∀ g, v.ownBlock = some g → g < B) : FOwn enc n T base w' v L := h.keep fun g e => k.block g (hB g e)
theorem FOwn.later {X : Type} {enc : X → List Value} {n : Nat} {T : TypeId} {base : Nat} {w w' : World} {v : Value} {L : List X} (h : FOwn enc n T base w v L) (k : Below w.heap.size w w') : FOwn enc n T base w' v L := h.below k fun g e => (h.lt g e).2
theorem FOwn.view {X : Type} {enc : X → List Value} {n : Nat} {T : TypeId} {base : Nat} {w : World} {ad : Option Addr} {len cap : Nat} {L : List X} (h : FOwn enc n T base w (.slice ad len cap) L) : len = L.length ∧ FView enc w ad L := by
  obtain ⟨h1, h2⟩ := h
  rcases h2 with ⟨e, e0⟩ | ⟨g, c, cur, e, hb, hg, hc, hm, hs, ht⟩
  · cases e
    exact ⟨e0.symm, fun hp => absurd hp (by omega)⟩
  · simp only [Value.slice.injEq] at e
    obtain ⟨rfl, rfl, rfl⟩ := e
    refine ⟨rfl, fun hp => ⟨g, 0, rfl, fun j v hv => ?_⟩⟩
    have hj : j < L.length * n := by rw [← h1]; exact (List.getElem?_eq_some_iff.1 hv).1
    have own : w.ownsRow base T n (.slice (some ⟨g, 0, none⟩) L.length cap) L.length (fcells enc L) := ⟨h1, .inr ⟨g, cap, cur, rfl, hb, hg, hc, hm, hs, ht⟩⟩
    rw [Nat.zero_add, own.cellAt j hj]
    exact hv
theorem own_putAll {base : Nat} {T : TypeId} {n g m cap : Nat} (vs : List Value) : ∀ {w : World} {xs : List Value} (o : Nat), w.ownsRow base T n (.slice (some ⟨g, 0, none⟩) m cap) m xs → o + vs.length ≤ m * n → (putAll w g o vs).ownsRow base T n (.slice (some ⟨g, 0, none⟩) m cap) m (setAll xs o vs) := by
  induction vs with
  | nil => intro w xs o h _; exact h
  | cons v vs ih =>
    intro w xs o h hl
    simp only [putAll, setAll, List.length_cons] at hl ⊢
    exact ih (o + 1) (h.stored o v).1 (by omega)
theorem FOwn.set {X : Type} {enc : X → List Value} {n : Nat} (hn : ∀ x, (enc x).length = n) (h0 : 0 < n) {T : TypeId} {base : Nat} {w : World} {g cap : Nat} {L : List X} (h : FOwn enc n T base w (.slice (some ⟨g, 0, none⟩) L.length cap) L) {i : Nat} (hi : i < L.length) (x : X) : FOwn enc n T base (putAll w g (i * n) (enc x)) (.slice (some ⟨g, 0, none⟩) L.length cap) (L.set i x) := by
  have hle : i * n + n ≤ L.length * n := by
    have := Nat.mul_le_mul_right n (show i + 1 ≤ L.length from hi)
    rw [Nat.add_mul] at this
    omega
  have := own_putAll (enc x) (i * n) (show w.ownsRow base T n _ L.length (fcells enc L) from h) (by rw [hn]; exact hle)
  rw [setAll_cells hn h0 x L i hi x] at this
  unfold FOwn
  rw [List.length_set]
  exact this
theorem FOwn.app {X : Type} {enc : X → List Value} {n : Nat} {T : TypeId} {base : Nat} {w : World} {v : Value} {L M : List X} {m : Nat} (h : w.ownsRow base T n v m (fcells enc L ++ fcells enc M)) (hm : m = L.length + M.length) : FOwn enc n T base w v (L ++ M) := by
  unfold FOwn
  rw [fcells_app, List.length_append, ← hm]
  exact h
theorem FOwn.nil {X : Type} {enc : X → List Value} {n : Nat} {T : TypeId} {base : Nat} {w : World} : FOwn enc n T base w (.slice none 0 0) ([] : List X) := ⟨by simp [fcells], .inl ⟨rfl, rfl⟩⟩
theorem heap_putAll {g : Nat} (vs : List Value) : ∀ (w : World) (o k : Nat), k ≠ g → (putAll w g o vs).heap[k]? = w.heap[k]? := by
  induction vs with
  | nil => intro w o k _; rfl
  | cons v vs ih => intro w o k hk; simp only [putAll]; rw [ih _ _ k hk, Below.heap_setCell _ _ _ _ hk]
theorem size_putAll {g : Nat} (vs : List Value) : ∀ (w : World) (o : Nat), (putAll w g o vs).heap.size = w.heap.size := by
  induction vs with
  | nil => intro w o; rfl
  | cons v vs ih => intro w o; simp only [putAll]; rw [ih]; simp
theorem below_putAll {B g : Nat} {a : World} (hB : B ≤ g) (vs : List Value) : ∀ {w : World} (o : Nat), Below B a w → Below B a (putAll w g o vs) := by
  induction vs with
  | nil => intro w o h; exact h
  | cons v vs ih => intro w o h; exact ih (o + 1) (h.setCell hB v)
/-- A row that is being filled: its first k elements are those of L. -/
def FFill {X : Type} (enc : X → List Value) (n : Nat) (T : TypeId) (base : Nat) (w : World) (g : Nat) (L : List X) (k : Nat) : Prop :=
  ∃ xs, w.ownsRow base T n (.slice (some ⟨g, 0, none⟩) L.length L.length) L.length xs ∧ ∀ j, j < k * n → xs[j]? = (fcells enc L)[j]?
theorem FFill.start {X : Type} {enc : X → List Value} {n : Nat} {T : TypeId} {base : Nat} {w : World} {g : Nat} {L : List X} {xs : List Value} (h : w.ownsRow base T n (.slice (some ⟨g, 0, none⟩) L.length L.length) L.length xs) : FFill enc n T base w g L 0 := ⟨xs, h, fun j hj => by omega⟩
theorem FFill.keep {X : Type} {enc : X → List Value} {n : Nat} {T : TypeId} {base : Nat} {w w' : World} {g : Nat} {L : List X} {k : Nat} (h : FFill enc n T base w g L k) (e : w'.heap[g]? = w.heap[g]?) : FFill enc n T base w' g L k := by
  obtain ⟨xs, ⟨h1, h2⟩, h3⟩ := h
  refine ⟨xs, ⟨h1, ?_⟩, h3⟩
  rcases h2 with q | ⟨g', cap, cur, q, hb, hg, r⟩
  · exact .inl q
  · simp only [Value.slice.injEq, Option.some.injEq, Addr.mk.injEq, and_true] at q
    obtain ⟨rfl, q2⟩ := q
    exact .inr ⟨g, cap, cur, by simp [q2], hb, e.trans hg, r⟩
theorem FFill.lt {X : Type} {enc : X → List Value} {n : Nat} {T : TypeId} {base : Nat} {w : World} {g : Nat} {L : List X} {k : Nat} (h : FFill enc n T base w g L k) : base ≤ g ∧ g < w.heap.size := by
  obtain ⟨xs, h1, _⟩ := h
  exact h1.lt g rfl
theorem FFill.cell {X : Type} {enc : X → List Value} {n : Nat} {T : TypeId} {base : Nat} {w : World} {g : Nat} {L : List X} {k : Nat} (h : FFill enc n T base w g L k) (j : Nat) (hj : j < L.length * n) : ∃ u, w.cell? ⟨g, j, none⟩ = some u := by
  obtain ⟨xs, h1, _⟩ := h
  rw [h1.cellAt j hj]
  exact ⟨xs[j]'(by rw [h1.1]; exact hj), List.getElem?_eq_getElem _⟩
theorem FFill.frozen {X : Type} {enc : X → List Value} {n : Nat} {T : TypeId} {base : Nat} {w : World} {g : Nat} {L : List X} {k : Nat} (h : FFill enc n T base w g L k) (j : Nat) : w.frozen? ⟨g, j, none⟩ = false := by
  obtain ⟨xs, h1, _⟩ := h
  exact h1.frozenAt j
theorem mul_le_of_lt {i m n : Nat} (h : i < m) : i * n + n ≤ m * n := by
  have := Nat.mul_le_mul_right n (show i + 1 ≤ m from h)
  rw [Nat.add_mul] at this
  omega
theorem FFill.step {X : Type} {enc : X → List Value} {n : Nat} (hn : ∀ x, (enc x).length = n) (d : X) {T : TypeId} {base : Nat} {w : World} {g : Nat} {L : List X} {k : Nat} (h : FFill enc n T base w g L k) (hk : k < L.length) : FFill enc n T base (putAll w g (k * n) (enc (L.getD k d))) g L (k + 1) := by
  obtain ⟨xs, h1, h2⟩ := h
  have hle := mul_le_of_lt (n := n) hk
  refine ⟨_, own_putAll (enc (L.getD k d)) (k * n) h1 (by rw [hn]; exact hle), fun j hj => ?_⟩
  rw [setAll_at _ _ _ _ (by rw [h1.1, hn]; exact hle), hn]
  rw [Nat.add_mul] at hj
  by_cases q : k * n ≤ j
  · rw [if_pos ⟨q, by omega⟩]
    have := fcells_at hn d L k (j - k * n) hk (by omega)
    rw [show k * n + (j - k * n) = j by omega] at this
    exact this.symm
  · rw [if_neg (by omega)]
    exact h2 j (by omega)
theorem FFill.done {X : Type} {enc : X → List Value} {n : Nat} (hn : ∀ x, (enc x).length = n) {T : TypeId} {base : Nat} {w : World} {g : Nat} {L : List X} (h : FFill enc n T base w g L L.length) : FOwn enc n T base w (.slice (some ⟨g, 0, none⟩) L.length L.length) L := by
  obtain ⟨xs, h1, h2⟩ := h
  have e : xs = fcells enc L := by
    apply List.ext_getElem?
    intro j
    by_cases hj : j < L.length * n
    · exact h2 j hj
    · rw [List.getElem?_eq_none (by rw [h1.1]; omega), List.getElem?_eq_none (by rw [fcells_len hn]; omega)]
  rw [e] at h1
  exact h1
theorem FOwn.cell {X : Type} {enc : X → List Value} {n : Nat} (hn : ∀ x, (enc x).length = n) (d : X) {T : TypeId} {base : Nat} {w : World} {g cap : Nat} {L : List X} (h : FOwn enc n T base w (.slice (some ⟨g, 0, none⟩) L.length cap) L) {i : Nat} (hi : i < L.length) : ∀ j v, (enc (L.getD i d))[j]? = some v → w.cell? ⟨g, i * n + j, none⟩ = some v := by
  intro j v hv
  have := h.view.2.at_ hn d hi j v hv
  rw [Nat.zero_add] at this
  exact this
theorem FOwn.frozen {X : Type} {enc : X → List Value} {n : Nat} {T : TypeId} {base : Nat} {w : World} {g cap : Nat} {L : List X} (h : FOwn enc n T base w (.slice (some ⟨g, 0, none⟩) L.length cap) L) (j : Nat) : w.frozen? ⟨g, j, none⟩ = false := World.ownsRow.frozenAt h j
theorem grown_putAll {a w : World} {g : Nat} (vs : List Value) (o : Nat) (h : a.grownBy w (some g)) : a.grownBy (putAll w g o vs) (some g) := by
  induction vs generalizing w o with
  | nil => exact h
  | cons v vs ih =>
    refine ih (o + 1) ⟨h.os, h.tape, h.output, by have := h.size; simp; omega, fun k hk hne => ?_⟩
    have hn : k ≠ g := fun e => hne (by rw [e])
    rw [Below.heap_setCell _ _ _ _ hn]
    exact h.block k hk hne
/-- The first k of a list, marked; the others as they were. -/
def markd {X : Type} (mk : Nat → X) (L : List X) (k : Nat) : List X := (List.range k).map mk ++ L.drop k
theorem markd_len {X : Type} {mk : Nat → X} {L : List X} {k : Nat} (h : k ≤ L.length) : (markd mk L k).length = L.length := by simp [markd]; omega
theorem markd_zero {X : Type} {mk : Nat → X} {L : List X} : markd mk L 0 = L := by simp [markd]
theorem markd_all {X : Type} {mk : Nat → X} {L : List X} : markd mk L L.length = (List.range L.length).map mk := by simp [markd]
theorem markd_set {X : Type} {mk : Nat → X} {L : List X} {k : Nat} (h : k < L.length) : (markd mk L k).set k (mk k) = markd mk L (k + 1) := by
  apply List.ext_getElem?
  intro j
  unfold markd
  by_cases h1 : j < k
  · rw [List.getElem?_set_ne (by omega), List.getElem?_append_left (by simp; omega), List.getElem?_append_left (by simp; omega)]
    simp [h1, Nat.lt_succ_of_lt h1]
  · by_cases h2 : j = k
    · subst h2
      rw [List.getElem?_set_self (by simp; omega), List.getElem?_append_left (by simp)]
      simp
    · rw [List.getElem?_set_ne (by omega), List.getElem?_append_right (by simp; omega), List.getElem?_append_right (by simp; omega)]
      simp only [List.length_map, List.length_range, List.getElem?_drop]
      congr 1
      omega
theorem FOwn.base {X : Type} {enc : X → List Value} {n : Nat} {T : TypeId} {base base' : Nat} {w : World} {v : Value} {L : List X} (h : FOwn enc n T base w v L) (hb : base' ≤ base) : FOwn enc n T base' w v L := by
  obtain ⟨h1, h2⟩ := h
  refine ⟨h1, ?_⟩
  rcases h2 with q | ⟨g, cap, cur, e, hg, r⟩
  · exact .inl q
  · exact .inr ⟨g, cap, cur, e, Nat.le_trans hb hg, r⟩

end Go.Proofs.YthgcbihhdbpbdaaGreatDoor
namespace Go.Proofs.YthgcbihhdbpbdaaGreatDoor
open Go.ChangeShapes Go.WideShapes Go.ChangeAt Go.RowKit
open Go.ChangeMaps (open_string shut_string)
set_option linter.unusedVariables false
set_option maxRecDepth 100000

theorem claim_ok {x : Pt} {r c b p k : Int} (h : pOk x = true) : pOk (claimR x r c b p k) = true := by
  cases ht : takes x r c b p k
  · rw [claimR_no ht]; exact h
  · rw [claimR_yes ht]
    unfold takes at ht
    simp only [Bool.and_eq_true] at ht
    obtain ⟨_, hu, hv, hk, _⟩ := ht
    unfold pOk at h ⊢
    simp only [Bool.and_eq_true] at h ⊢
    refine ⟨h.1, h.2.1, h.2.2.1, h.2.2.2.1, ?_⟩
    simp only [fitsB, if_true, hu, hv, hk, Bool.true_and]
    rfl
theorem claim_has {x : Pt} {r c b p k : Int} (h : x.has = true) : (claimR x r c b p k).has = true := by
  cases ht : takes x r c b p k
  · rw [claimR_no ht]; exact h
  · rw [claimR_yes ht]
theorem turn_ok {x : Pt} {role : Int} (h : pOk x = true) : pOk (turnR x role) = true := by
  unfold turnR
  rw [h]
  cases hu : x.up
  · exact h
  cases hr : raUp role
  · exact h
  simp only [Bool.true_and, if_true]
  unfold pOk at h ⊢
  simp only [Bool.and_eq_true, decide_eq_true_eq] at h ⊢
  obtain ⟨_, _, _, hw, hf⟩ := h
  have hr' : 1 ≤ role ∧ role ≤ 3 := by simpa [raUp] using hr
  refine ⟨by simp [raIs]; omega, by rw [hr]; rfl, by simp, ?_, ?_⟩
  · unfold waitR; split
    · omega
    · split <;> omega
  · unfold fitsB at hf ⊢
    rw [hu] at hf
    exact hf
theorem fade_less {x : Pt} (h : ¬ (fadeR x).l < x.l) : fadeR x = x := by
  by_cases hc : (pOk x && x.has) = true
  · exfalso
    simp only [Bool.and_eq_true] at hc
    have hl := pOk_has hc.1 hc.2
    apply h
    unfold fadeR
    rw [hc.1, hc.2]
    simp only [Bool.and_self, if_true]
    split
    · simp only [Pt.bare]; omega
    · simp only []; omega
  · unfold fadeR
    rw [if_neg hc]

end Go.Proofs.YthgcbihhdbpbdaaGreatDoor
namespace Go.Proofs.YthgcbihhdbpbdaaGreatDoor
open Go.ChangeShapes Go.WideShapes Go.ChangeAt Go.RowKit
open Go.ChangeMaps (open_string shut_string)
set_option linter.unusedVariables false
set_option maxRecDepth 100000

/-- A port that is not there. -/
def Pt.nil : Pt := ⟨false, false, 0, 0, 0, 0, 0, 0, 0, 0, false⟩
theorem pOk_nil : pOk Pt.nil = true := by decide
/-- A bridge is right. -/
def bOk (id : Int) (L : List Pt) : Bool := decide (1 ≤ id ∧ id ≤ 9) && (decide (1 ≤ L.length ∧ L.length ≤ 4) && L.all pOk)
theorem bOk_all {id : Int} {L : List Pt} (h : bOk id L = true) : (1 ≤ id ∧ id ≤ 9) ∧ (1 ≤ L.length ∧ L.length ≤ 4) ∧ ∀ i, pOk (L.getD i Pt.nil) = true := by
  simp only [bOk, Bool.and_eq_true, decide_eq_true_eq, List.all_eq_true] at h
  refine ⟨h.1, h.2.1, fun i => ?_⟩
  by_cases hi : i < L.length
  · have : L.getD i Pt.nil = L[i] := by simp [List.getD, hi]
    rw [this]
    exact h.2.2 _ (List.getElem_mem hi)
  · have : L.getD i Pt.nil = Pt.nil := by simp [List.getD, List.getElem?_eq_none (by omega : L.length ≤ i)]
    rw [this]
    exact pOk_nil
theorem bOk_of {id : Int} {L : List Pt} (h1 : 1 ≤ id ∧ id ≤ 9) (h2 : 1 ≤ L.length ∧ L.length ≤ 4) (h3 : ∀ i, i < L.length → pOk (L.getD i Pt.nil) = true) : bOk id L = true := by
  simp only [bOk, Bool.and_eq_true, decide_eq_true_eq, List.all_eq_true]
  refine ⟨h1, h2, fun x hx => ?_⟩
  obtain ⟨i, hi, rfl⟩ := List.getElem_of_mem hx
  have := h3 i hi
  rwa [show L.getD i Pt.nil = L[i] by simp [List.getD, hi]] at this
/-- A port whose claim may lead to the least. -/
def cand (id : Int) (x : Pt) : Bool := x.has && (!(x.b == id) && (decide (x.r < id) && (decide (x.c < 20) && decide (x.h < 8))))
def vBetter (x y : Pt) : Bool := vLt x.r x.c x.b x.p y.r y.c y.b y.p
/-- The best of the first n. -/
def bestTo (id : Int) (L : List Pt) : Nat → Option Nat
  | 0 => none
  | n + 1 => match bestTo id L n with
    | none => if cand id (L.getD n Pt.nil) then some n else none
    | some k => if cand id (L.getD n Pt.nil) && vBetter (L.getD n Pt.nil) (L.getD k Pt.nil) then some n else some k
theorem bestTo_some {id : Int} {L : List Pt} {n k : Nat} (h : bestTo id L n = some k) : k < n ∧ cand id (L.getD k Pt.nil) = true := by
  induction n generalizing k with
  | zero => cases h
  | succ n ih =>
    simp only [bestTo] at h
    cases hb : bestTo id L n with
    | none =>
      rw [hb] at h
      simp only [] at h
      cases hc : cand id (L.getD n Pt.nil) with
      | false => rw [hc] at h; cases h
      | true =>
        rw [hc] at h
        cases h
        exact ⟨by omega, hc⟩
    | some m =>
      rw [hb] at h
      simp only [] at h
      split at h
      · rename_i q
        cases h
        simp only [Bool.and_eq_true] at q
        exact ⟨by omega, q.1⟩
      · cases h
        obtain ⟨a, b⟩ := ih hb
        exact ⟨by omega, b⟩
/-- What a claim is told by is alike. -/
def likeV (x y : Pt) : Prop := x.has = y.has ∧ x.r = y.r ∧ x.c = y.c ∧ x.b = y.b ∧ x.p = y.p ∧ x.h = y.h
theorem cand_like {id : Int} {x y : Pt} (h : likeV x y) : cand id x = cand id y := by
  obtain ⟨h1, h2, h3, h4, h5, h6⟩ := h
  simp [cand, h1, h2, h3, h4, h6]
theorem best_like {id : Int} {L M : List Pt} (h : ∀ i, likeV (L.getD i Pt.nil) (M.getD i Pt.nil)) (n : Nat) : bestTo id L n = bestTo id M n := by
  induction n with
  | zero => rfl
  | succ n ih =>
    simp only [bestTo, ih]
    rw [cand_like (h n)]
    cases bestTo id M n with
    | none => rfl
    | some k =>
      simp only []
      have e : vBetter (L.getD n Pt.nil) (L.getD k Pt.nil) = vBetter (M.getD n Pt.nil) (M.getD k Pt.nil) := by
        obtain ⟨_, a2, a3, a4, a5, _⟩ := h n
        obtain ⟨_, b2, b3, b4, b5, _⟩ := h k
        unfold vBetter
        rw [a2, a3, a4, a5, b2, b3, b4, b5]
      rw [e]
/-- The port that leads to the least. -/
def rootO (id : Int) (L : List Pt) : Option Nat := if bOk id L then bestTo id L L.length else none
def rootI (id : Int) (L : List Pt) : Int := match rootO id L with
  | none => -1
  | some k => (k : Int)
theorem rootO_some {id : Int} {L : List Pt} {k : Nat} (h : rootO id L = some k) : bOk id L = true ∧ k < L.length ∧ cand id (L.getD k Pt.nil) = true := by
  unfold rootO at h
  cases hb : bOk id L with
  | false => simp [hb] at h
  | true =>
    simp only [hb, if_true] at h
    exact ⟨rfl, bestTo_some h⟩
/-- What a bridge claims at a port. -/
def ownR (id : Int) (L : List Pt) (port : Int) : Int × Int × Int × Int :=
  if bOk id L && decide (0 ≤ port ∧ port < (L.length : Int)) then (match rootO id L with
    | none => (id, 0, id, port)
    | some k => ((L.getD k Pt.nil).r, (L.getD k Pt.nil).c + 1, id, port)) else (0, 0, 0, 0)
def hopsR (id : Int) (L : List Pt) : Int := match rootO id L with
  | none => 0
  | some k => (L.getD k Pt.nil).h + 1
/-- What a port is for. -/
def roleR (id : Int) (L : List Pt) (i : Nat) : Int :=
  if rootO id L = some i then 1 else if (L.getD i Pt.nil).has && vLt (L.getD i Pt.nil).r (L.getD i Pt.nil).c (L.getD i Pt.nil).b (L.getD i Pt.nil).p (ownR id L i).1 (ownR id L i).2.1 (ownR id L i).2.2.1 (ownR id L i).2.2.2 then 3 else 2
theorem roleR_in (id : Int) (L : List Pt) (i : Nat) : 1 ≤ roleR id L i ∧ roleR id L i ≤ 3 := by
  unfold roleR
  split
  · omega
  · split <;> omega
/-- A port, turned to its role, where it is there. -/
def turnUp (x : Pt) (role : Int) : Pt := if x.up then turnR x role else x
def decideR (id : Int) (L : List Pt) : List Pt := if bOk id L then (List.range L.length).map fun i => turnUp (L.getD i Pt.nil) (roleR id L i) else L
theorem decideR_len (id : Int) (L : List Pt) : (decideR id L).length = L.length := by unfold decideR; split <;> simp
theorem decideR_at {id : Int} {L : List Pt} (h : bOk id L = true) {i : Nat} (hi : i < L.length) : (decideR id L).getD i Pt.nil = turnUp (L.getD i Pt.nil) (roleR id L i) := by
  unfold decideR
  rw [if_pos h]
  simp [List.getD, hi]
theorem turnR_like (x : Pt) (role : Int) : likeV (turnR x role) x ∧ (turnR x role).up = x.up ∧ (turnR x role).l = x.l := by
  unfold turnR
  split
  · exact ⟨⟨rfl, rfl, rfl, rfl, rfl, rfl⟩, rfl, rfl⟩
  · exact ⟨⟨rfl, rfl, rfl, rfl, rfl, rfl⟩, rfl, rfl⟩
theorem turnUp_like (x : Pt) (role : Int) : likeV (turnUp x role) x ∧ (turnUp x role).up = x.up ∧ (turnUp x role).l = x.l := by
  unfold turnUp
  split
  · exact turnR_like x role
  · exact ⟨⟨rfl, rfl, rfl, rfl, rfl, rfl⟩, rfl, rfl⟩
theorem turnUp_ok {x : Pt} {role : Int} (h : pOk x = true) : pOk (turnUp x role) = true := by
  unfold turnUp
  split
  · exact turn_ok h
  · exact h
theorem getD_none {L : List Pt} {i : Nat} (h : L.length ≤ i) : L.getD i Pt.nil = Pt.nil := by simp [List.getD, List.getElem?_eq_none h]
theorem decideR_like {id : Int} {L : List Pt} (h : bOk id L = true) (i : Nat) : likeV ((decideR id L).getD i Pt.nil) (L.getD i Pt.nil) ∧ ((decideR id L).getD i Pt.nil).up = (L.getD i Pt.nil).up ∧ ((decideR id L).getD i Pt.nil).l = (L.getD i Pt.nil).l := by
  by_cases hi : i < L.length
  · rw [decideR_at h hi]
    exact turnUp_like _ _
  · rw [getD_none (L := decideR id L) (by rw [decideR_len]; omega), getD_none (L := L) (by omega)]
    exact ⟨⟨rfl, rfl, rfl, rfl, rfl, rfl⟩, rfl, rfl⟩
theorem decideR_ok {id : Int} {L : List Pt} (h : bOk id L = true) : bOk id (decideR id L) = true := by
  obtain ⟨h1, h2, h3⟩ := bOk_all h
  refine bOk_of h1 (by rw [decideR_len]; exact h2) fun i hi => ?_
  rw [decideR_len] at hi
  rw [decideR_at h hi]
  exact turnUp_ok (h3 i)
theorem rootO_like {id : Int} {L M : List Pt} (hL : bOk id L = true) (hM : bOk id M = true) (hl : L.length = M.length) (h : ∀ i, likeV (L.getD i Pt.nil) (M.getD i Pt.nil)) : rootO id L = rootO id M := by
  unfold rootO
  rw [if_pos hL, if_pos hM, hl]
  exact best_like h _
theorem ownR_like {id : Int} {L M : List Pt} (hL : bOk id L = true) (hM : bOk id M = true) (hl : L.length = M.length) (h : ∀ i, likeV (L.getD i Pt.nil) (M.getD i Pt.nil)) (p : Int) : ownR id L p = ownR id M p := by
  unfold ownR
  rw [rootO_like hL hM hl h, hL, hM, hl]
  cases rootO id M with
  | none => rfl
  | some k =>
    obtain ⟨_, a2, a3, _⟩ := h k
    simp only [a2, a3]
theorem roleR_like {id : Int} {L M : List Pt} (hL : bOk id L = true) (hM : bOk id M = true) (hl : L.length = M.length) (h : ∀ i, likeV (L.getD i Pt.nil) (M.getD i Pt.nil)) (i : Nat) : roleR id L i = roleR id M i := by
  unfold roleR
  rw [rootO_like hL hM hl h, ownR_like hL hM hl h]
  obtain ⟨a1, a2, a3, a4, a5, _⟩ := h i
  rw [a1, a2, a3, a4, a5]
theorem turnR_idem {x : Pt} {role : Int} (h : pOk x = true) : turnR (turnR x role) role = turnR x role := by
  have h2 : pOk (turnR x role) = true := turn_ok h
  cases hu : x.up
  · have e : turnR x role = x := by unfold turnR; rw [hu]; simp
    rw [e, e]
  cases hr : raUp role
  · have e : turnR x role = x := by unfold turnR; rw [hr]; simp
    rw [e, e]
  have e : turnR x role = ⟨x.up, x.has, x.r, x.c, x.b, x.p, x.h, x.l, role, waitR x.ro x.wa role, raOp role (waitR x.ro x.wa role)⟩ := by unfold turnR; rw [h, hu, hr]; simp
  have ew : waitR role (waitR x.ro x.wa role) role = waitR x.ro x.wa role := by
    by_cases q : role = 3
    · simp [waitR, q]
    · simp [waitR, q]
  rw [e] at h2 ⊢
  unfold turnR
  rw [h2]
  simp only [hu, hr, Bool.and_self, if_true, ew]
theorem turnUp_idem {x : Pt} {role : Int} (h : pOk x = true) : turnUp (turnUp x role) role = turnUp x role := by
  cases hu : x.up
  · have e : turnUp x role = x := by simp [turnUp, hu]
    rw [e, e]
  · have e : turnUp x role = turnR x role := by simp [turnUp, hu]
    have e2 : (turnR x role).up = true := (turnR_like x role).2.1.trans hu
    rw [e]
    unfold turnUp
    rw [if_pos e2]
    exact turnR_idem h
theorem decideR_idem (id : Int) (L : List Pt) : decideR id (decideR id L) = decideR id L := by
  cases h : bOk id L with
  | false =>
    have e : decideR id L = L := by unfold decideR; rw [h]; simp
    rw [e, e]
  | true =>
    have h2 := decideR_ok h
    have hl := decideR_len id L
    apply List.ext_getElem (by rw [decideR_len])
    intro i hi1 hi2
    have hi : i < L.length := by rw [hl] at hi2; exact hi2
    have a1 := decideR_at h2 hi2
    have a2 := decideR_at h hi
    rw [show (decideR id (decideR id L)).getD i Pt.nil = (decideR id (decideR id L))[i] by simp [List.getD, hi1]] at a1
    rw [show (decideR id L).getD i Pt.nil = (decideR id L)[i] by simp [List.getD, hi2]] at a1 a2
    rw [a1, a2, roleR_like h2 h hl (fun j => (decideR_like h j).1) i]
    exact turnUp_idem ((bOk_all h).2.2 i)
/-- A port, a tick later. -/
def tickW (x : Pt) : Int := if (x.ro = 1 ∨ x.ro = 2) ∧ 0 < x.wa then x.wa - 1 else x.wa
def tickP (x : Pt) : Pt := ⟨(fadeR x).up, (fadeR x).has, (fadeR x).r, (fadeR x).c, (fadeR x).b, (fadeR x).p, (fadeR x).h, (fadeR x).l, (fadeR x).ro, tickW (fadeR x), raOp (fadeR x).ro (tickW (fadeR x))⟩
theorem fadeR_keeps (x : Pt) : (fadeR x).up = x.up ∧ (fadeR x).ro = x.ro ∧ (fadeR x).wa = x.wa ∧ (fadeR x).op = x.op := by
  unfold fadeR
  split
  · split
    · exact ⟨rfl, rfl, rfl, rfl⟩
    · exact ⟨rfl, rfl, rfl, rfl⟩
  · exact ⟨rfl, rfl, rfl, rfl⟩
theorem pOk_parts {x : Pt} : pOk x = true ↔ ((0 ≤ x.ro ∧ x.ro ≤ 3) ∧ x.up = raUp x.ro ∧ x.op = raOp x.ro x.wa ∧ (0 ≤ x.wa ∧ x.wa ≤ 4) ∧ fitsB x = true) := by
  simp [pOk, raIs]
theorem fits_fade {x : Pt} (h : pOk x = true) : fitsB (fadeR x) = true := by
  have hf : fitsB x = true := (pOk_parts.1 h).2.2.2.2
  unfold fadeR
  rw [h]
  cases hh : x.has
  · simpa using hf
  · have hp := pOk_has h hh
    simp only [Bool.and_self, if_true]
    split
    · simp [fitsB, Pt.bare]
    · simp only [fitsB, if_true, hp.1, hp.2.1, Bool.true_and, Bool.and_eq_true, decide_eq_true_eq]
      omega
theorem tick_ok {x : Pt} (h : pOk x = true) : pOk (tickP x) = true := by
  obtain ⟨h1, h2, h3, h4, _⟩ := pOk_parts.1 h
  obtain ⟨k1, k2, k3, _⟩ := fadeR_keeps x
  refine pOk_parts.2 ⟨?_, ?_, rfl, ?_, ?_⟩
  · show 0 ≤ (fadeR x).ro ∧ (fadeR x).ro ≤ 3
    rw [k2]; exact h1
  · show (fadeR x).up = raUp (fadeR x).ro
    rw [k1, k2]; exact h2
  · show 0 ≤ tickW (fadeR x) ∧ tickW (fadeR x) ≤ 4
    unfold tickW
    rw [k3]
    split <;> omega
  · exact fits_fade h
theorem tick_left {x : Pt} (h : pOk x = true) {m : Int} (hm : x.has = true → x.l ≤ m + 1) : (tickP x).has = true → (tickP x).l ≤ m := by
  show (fadeR x).has = true → (fadeR x).l ≤ m
  unfold fadeR
  rw [h]
  cases hh : x.has
  · simp [hh]
  · have := hm hh
    simp only [Bool.and_self, if_true]
    split
    · intro q; cases q
    · intro _
      show x.l - 1 ≤ m
      omega
/-- A port that was shut for a ring, and still waits m ticks. -/
def shutFor (m : Int) (x : Pt) : Prop := x.ro = 3 ∨ m ≤ x.wa
theorem shut_not {m : Int} {x : Pt} (h : pOk x = true) (hm : 1 ≤ m) (hs : shutFor m x) : x.op = false := by
  obtain ⟨_, _, h3, _, _⟩ := pOk_parts.1 h
  rw [h3]
  unfold raOp
  simp only [decide_eq_false_iff_not]
  rcases hs with q | q <;> omega
theorem shut_tick {m : Int} {x : Pt} (role : Int) (h : pOk x = true) (h0 : 1 ≤ m) (hm : m ≤ 4) (hs : shutFor (m + 1) x) : shutFor m (turnUp (tickP x) role) := by
  obtain ⟨h1, h2, h3, h4, _⟩ := pOk_parts.1 h
  obtain ⟨k1, k2, k3, _⟩ := fadeR_keeps x
  have t1 : (tickP x).up = x.up := k1
  have t2 : (tickP x).ro = x.ro := k2
  have t3 : (tickP x).wa = if (x.ro = 1 ∨ x.ro = 2) ∧ 0 < x.wa then x.wa - 1 else x.wa := by
    show tickW (fadeR x) = _
    unfold tickW
    rw [k2, k3]
  have hw : x.ro = 3 ∨ m ≤ (tickP x).wa := by
    rcases hs with q | q
    · exact .inl q
    · right
      rw [t3]
      split <;> omega
  unfold turnUp
  split
  · unfold turnR
    split
    · show role = 3 ∨ m ≤ waitR (tickP x).ro (tickP x).wa role
      by_cases q : role = 3
      · exact .inl q
      · right
        unfold waitR
        rw [if_neg q, t2]
        split
        · omega
        · rcases hw with e | e
          · omega
          · exact e
    · rcases hw with e | e
      · exact .inl (t2.trans e)
      · exact .inr e
  · rcases hw with e | e
    · exact .inl (t2.trans e)
    · exact .inr e
/-- A bridge, a tick later. -/
def tickR (id : Int) (L : List Pt) : List Pt := decideR id (L.map tickP)
theorem map_getD {f : Pt → Pt} {L : List Pt} {i : Nat} (hi : i < L.length) : (L.map f).getD i Pt.nil = f (L.getD i Pt.nil) := by simp [List.getD, hi]
theorem tickM_ok {id : Int} {L : List Pt} (h : bOk id L = true) : bOk id (L.map tickP) = true := by
  obtain ⟨h1, h2, h3⟩ := bOk_all h
  refine bOk_of h1 (by simpa using h2) fun i hi => ?_
  rw [map_getD (by simpa using hi)]
  exact tick_ok (h3 i)
theorem tickR_ok {id : Int} {L : List Pt} (h : bOk id L = true) : bOk id (tickR id L) = true := decideR_ok (tickM_ok h)
theorem tickR_len (id : Int) (L : List Pt) : (tickR id L).length = L.length := by unfold tickR; rw [decideR_len]; simp
theorem tickR_left {id : Int} {L : List Pt} (h : bOk id L = true) {m : Int} (hm : ∀ i, i < L.length → (L.getD i Pt.nil).has = true → (L.getD i Pt.nil).l ≤ m + 1) : ∀ i, i < L.length → ((tickR id L).getD i Pt.nil).has = true → ((tickR id L).getD i Pt.nil).l ≤ m := by
  intro i hi q
  obtain ⟨⟨a1, _⟩, _, a2⟩ := decideR_like (tickM_ok h) i
  have e := map_getD (f := tickP) hi
  unfold tickR at q ⊢
  rw [a1, e] at q
  rw [a2, e]
  exact tick_left ((bOk_all h).2.2 i) (hm i hi) q
theorem tickR_shut {id : Int} {L : List Pt} (h : bOk id L = true) {m : Int} (h0 : 1 ≤ m) (hm : m ≤ 4) {i : Nat} (hi : i < L.length) (hs : shutFor (m + 1) (L.getD i Pt.nil)) : shutFor m ((tickR id L).getD i Pt.nil) := by
  unfold tickR
  rw [decideR_at (tickM_ok h) (by simpa using hi), map_getD hi]
  exact shut_tick _ ((bOk_all h).2.2 i) h0 hm hs
theorem gone3 {id : Int} {L : List Pt} (h : bOk id L = true) : ∀ i, i < L.length → ((tickR id (tickR id (tickR id L))).getD i Pt.nil).has = false := by
  have h1 := tickR_ok h
  have h2 := tickR_ok h1
  have h3 := tickR_ok h2
  have a0 : ∀ i, i < L.length → (L.getD i Pt.nil).has = true → (L.getD i Pt.nil).l ≤ 2 + 1 := fun i _ q => (pOk_has ((bOk_all h).2.2 i) q).2.2.2.2.2
  have a1 := tickR_left h a0
  have a2 := tickR_left h1 (m := 1) (by rw [tickR_len]; exact a1)
  rw [tickR_len] at a2
  have a3 := tickR_left h2 (m := 0) (by rw [tickR_len, tickR_len]; exact a2)
  rw [tickR_len, tickR_len] at a3
  intro i hi
  cases q : ((tickR id (tickR id (tickR id L))).getD i Pt.nil).has
  · rfl
  · have b1 := a3 i hi q
    have b2 := (pOk_has ((bOk_all h3).2.2 i) q).2.2.2.2.1
    omega

end Go.Proofs.YthgcbihhdbpbdaaGreatDoor
namespace Go.Proofs.YthgcbihhdbpbdaaGreatDoor
open Go.ChangeShapes Go.WideShapes Go.ChangeAt Go.RowKit
open Go.ChangeMaps (open_string shut_string)
set_option linter.unusedVariables false
set_option maxRecDepth 100000

def ptEnc (x : Pt) : List Value := [.bool x.up, .bool x.has, .int .i64 x.r, .int .i64 x.c, .int .i64 x.b, .int .i64 x.p, .int .i64 x.h, .int .i64 x.l, .int .i64 x.ro, .int .i64 x.wa, .bool x.op]
theorem ptEnc_len (x : Pt) : (ptEnc x).length = 11 := rfl
theorem ptEnc_ones (L : List Pt) : ∀ u ∈ fcells ptEnc L, u.oneCell' = true := by
  induction L with
  | nil => intro u h; cases h
  | cons x L ih =>
    intro u h
    simp only [fcells, ptEnc, List.mem_append, List.mem_cons, List.not_mem_nil, or_false] at h
    rcases h with (rfl | rfl | rfl | rfl | rfl | rfl | rfl | rfl | rfl | rfl | rfl) | h
    · rfl
    · rfl
    · rfl
    · rfl
    · rfl
    · rfl
    · rfl
    · rfl
    · rfl
    · rfl
    · rfl
    · exact ih u h
/-- What its cells hold, in a world. -/
structure PtAtO (w : World) (b o : Nat) (x : Pt) : Prop where
  c0 : w.cell? ⟨b, o, none⟩ = some (.bool x.up)
  c1 : w.cell? ⟨b, o + 1, none⟩ = some (.bool x.has)
  c2 : w.cell? ⟨b, o + 2, none⟩ = some (.int .i64 x.r)
  c3 : w.cell? ⟨b, o + 3, none⟩ = some (.int .i64 x.c)
  c4 : w.cell? ⟨b, o + 4, none⟩ = some (.int .i64 x.b)
  c5 : w.cell? ⟨b, o + 5, none⟩ = some (.int .i64 x.p)
  c6 : w.cell? ⟨b, o + 6, none⟩ = some (.int .i64 x.h)
  c7 : w.cell? ⟨b, o + 7, none⟩ = some (.int .i64 x.l)
  c8 : w.cell? ⟨b, o + 8, none⟩ = some (.int .i64 x.ro)
  c9 : w.cell? ⟨b, o + 9, none⟩ = some (.int .i64 x.wa)
  c10 : w.cell? ⟨b, o + 10, none⟩ = some (.bool x.op)
theorem ptAtO_of {w : World} {b o : Nat} {x : Pt} (h : ∀ j v, (ptEnc x)[j]? = some v → w.cell? ⟨b, o + j, none⟩ = some v) : PtAtO w b o x := ⟨h 0 _ rfl, h 1 _ rfl, h 2 _ rfl, h 3 _ rfl, h 4 _ rfl, h 5 _ rfl, h 6 _ rfl, h 7 _ rfl, h 8 _ rfl, h 9 _ rfl, h 10 _ rfl⟩
theorem ptPut (w : World) (g o : Nat) (x : Pt) : putAll w g o (ptEnc x) = (((((((((((w.setCell ⟨g, o, none⟩ (.bool x.up)).setCell ⟨g, o + 1, none⟩ (.bool x.has)).setCell ⟨g, o + 2, none⟩ (.int .i64 x.r)).setCell ⟨g, o + 3, none⟩ (.int .i64 x.c)).setCell ⟨g, o + 4, none⟩ (.int .i64 x.b)).setCell ⟨g, o + 5, none⟩ (.int .i64 x.p)).setCell ⟨g, o + 6, none⟩ (.int .i64 x.h)).setCell ⟨g, o + 7, none⟩ (.int .i64 x.l)).setCell ⟨g, o + 8, none⟩ (.int .i64 x.ro)).setCell ⟨g, o + 9, none⟩ (.int .i64 x.wa)).setCell ⟨g, o + 10, none⟩ (.bool x.op)) := rfl
end Go.Proofs.YthgcbihhdbpbdaaGreatDoor
namespace Go.Proofs.YthgcbihhdbpbdaaGreatDoor
open Go.ChangeShapes Go.WideShapes Go.ChangeAt Go.RowKit
open Go.ChangeMaps (open_string shut_string)
set_option linter.unusedVariables false
set_option maxRecDepth 100000

theorem ptInfo : (Tryz.prog.info? 47).map (fun i => (i.zero, i.size, i.bytes)) = some (some (.agg #[.bool false, .bool false, .int .i64 0, .int .i64 0, .int .i64 0, .int .i64 0, .int .i64 0, .int .i64 0, .int .i64 0, .int .i64 0, .bool false]), 11, 80) := by kernel_rfl
end Go.Proofs.YthgcbihhdbpbdaaGreatDoor
namespace Go.Proofs.YthgcbihhdbpbdaaGreatDoor
open Go.ChangeShapes Go.WideShapes Go.ChangeAt Go.RowKit
open Go.ChangeMaps (open_string shut_string)
set_option linter.unusedVariables false
set_option maxRecDepth 100000

/-- A bridge's box: its number, and the list of its ports. -/
structure BrAt (w : World) (q : Nat) (id : Int) (v : Value) : Prop where
  c0 : w.cell? ⟨q, 0, none⟩ = some (.int .i64 id)
  c1 : w.cell? ⟨q, 1, none⟩ = some v
theorem BrAt.keep {w w' : World} {q : Nat} {id : Int} {v : Value} (h : BrAt w q id v) (k : w'.heap[q]? = w.heap[q]?) : BrAt w' q id v :=
  ⟨(World.cell?_of_block (a := ⟨q, 0, none⟩) k).trans h.c0, (World.cell?_of_block (a := ⟨q, 1, none⟩) k).trans h.c1⟩
theorem BrAt.below {w w' : World} {q n : Nat} {id : Int} {v : Value} (h : BrAt w q id v) (k : Below n w w') (hq : q < n) : BrAt w' q id v := h.keep (k.block q hq)
theorem BrAt.lt {w : World} {q : Nat} {id : Int} {v : Value} (h : BrAt w q id v) : q < w.heap.size := World.block_lt_of_cell? w _ h.c0
theorem BrAt.new (w : World) (t : TypeId) (id : Int) (v : Value) : BrAt (w.alloc (Obj.cells #[.int .i64 id, v] t)) w.heap.size id v := by
  refine ⟨?_, ?_⟩ <;> simp [go_sem]
theorem BrAt.alloc {w : World} {q : Nat} {id : Int} {v : Value} (h : BrAt w q id v) (o : Obj) : BrAt (w.alloc o) q id v := h.keep (Below.heap_alloc w o q h.lt)
theorem below_new {w : World} (o : Obj) : Below w.heap.size w (w.alloc o) := (Below.refl _ _).alloc (Nat.le_refl _) _
/-- A bridge's box that may be written. -/
structure BBox (w : World) (q : Nat) (id : Int) (v : Value) : Prop where
  at_ : BrAt w q id v
  fr : ∀ i, w.frozen? ⟨q, i, none⟩ = false
theorem BBox.keep {w w' : World} {q : Nat} {id : Int} {v : Value} (h : BBox w q id v) (k : w'.heap[q]? = w.heap[q]?) : BBox w' q id v :=
  ⟨h.at_.keep k, fun i => (World.frozen?_of_block (a := ⟨q, i, none⟩) k).trans (h.fr i)⟩
theorem BBox.lt {w : World} {q : Nat} {id : Int} {v : Value} (h : BBox w q id v) : q < w.heap.size := h.at_.lt
theorem BBox.below {w w' : World} {q n : Nat} {id : Int} {v : Value} (h : BBox w q id v) (k : Below n w w') (hq : q < n) : BBox w' q id v := h.keep (k.block q hq)
theorem BBox.new (w : World) (t : TypeId) (id : Int) (v : Value) : BBox (w.alloc (Obj.cells #[.int .i64 id, v] t)) w.heap.size id v := ⟨BrAt.new w t id v, fun i => by simp [go_sem]⟩
theorem BBox.put {w : World} {q : Nat} {id : Int} {v : Value} (h : BBox w q id v) (id' : Int) (v' : Value) : BBox ((w.setCell ⟨q, 0, none⟩ (.int .i64 id')).setCell ⟨q, 1, none⟩ v') q id' v' := by
  have e1 : (w.setCell ⟨q, 0, none⟩ (.int .i64 id')).cell? ⟨q, 1, none⟩ = some v := (pset_else (by decide)).trans h.at_.c1
  refine ⟨⟨(pset_else (by decide)).trans (pset_same h.at_.c0), pset_same e1⟩, fun i => ?_⟩
  rw [World.frozen?_setCell, World.frozen?_setCell]; exact h.fr i
/-- What is known of a bridge that comes in. -/
structure BrIn (w : World) (ad : Option Addr) (cap : Nat) (L : List Pt) : Prop where
  lm : L.length ≤ maxLen
  hv : FView ptEnc w ad L
  hn : ad = none → cap = 0
/-- A bridge that a call made: its list is its own. -/
def BrNew (base : Nat) (w : World) (id : Int) (L : List Pt) (v : Value) : Prop := ∃ ad cap, v = .agg #[.int .i64 id, .slice ad L.length cap] ∧ FOwn ptEnc 11 47 base w (.slice ad L.length cap) L
end Go.Proofs.YthgcbihhdbpbdaaGreatDoor
namespace Go.Proofs.YthgcbihhdbpbdaaGreatDoor
open Go.ChangeShapes Go.WideShapes Go.ChangeAt Go.RowKit
open Go.ChangeMaps (open_string shut_string)
set_option linter.unusedVariables false
set_option maxRecDepth 100000

/-- Elements put behind a list that the call owns, as one operation. -/
theorem app_at {P : Program} {w : World} {o : Oper} {a : Act} {K : Act → World → Prop} {Q : Exit → Act → World → Prop} (s x : Operand) (t : TypeId) (ho : o.op = .call { callee := .builtin .append, args := #[s, x], argTypes := #[t, t] })
    (base : Nat) (e : TypeId) (i : TypeInfo) (z : Value) (size bytes : Nat) (ht : P.underlying t = some (.slice e)) (hi : P.info? e = some i) (hz : i.zero = some z)
    (hsize : i.size = size) (hby : i.bytes = bytes) (hzs : z.cells.size = size) (hsz : 0 < size)
    (v : Value) (n : Nat) (xs : List Value) (hs : a.eval s = v) (hown : w.ownsRow base e size v n xs)
    (ad : Addr) (m c : Nat) (news : List Value) (hx : a.eval x = .slice (some ad) m c) (hl : news.length = m * size) (hnews : ∀ j u, news[j]? = some u → w.cell? (ad.add j) = some u) (h1 : ∀ u ∈ news, u.oneCell' = true)
    (h63 : n + m ≤ maxLen) (hbytes : (n + m) * bytes ≤ 140737488355328) (hbase : base ≤ w.heap.size)
    (h : ∀ v' w', w'.ownsRow base e size v' (n + m) (xs ++ news) → w.grownBy w' v.ownBlock → (v'.ownBlock = v.ownBlock ∨ v'.ownBlock = some w.heap.size) → K (a.put o.dst v') w') : o.wp P a w K Q := by
  obtain ⟨v', w', hr, h2, h3, h4, h5⟩ := run_append_own_at (P := P) w base t o.type e i z size bytes ht hi hz hsize hby hzs hsz v n xs hown ad m c news hl hnews h1 h63 hbytes hbase
  unfold Oper.wp execOp
  simp only [ho, resolve, invoke, builtin, Sem.run_bind, Sem.run_pure, Result.andThen_ok, List.map_toArray, List.map_cons, List.map_nil, hs, hx, hr]
  exact h v' w' h2 h3 h5
/-- The same of no row. -/
theorem app_none {P : Program} {w : World} {o : Oper} {a : Act} {K : Act → World → Prop} {Q : Exit → Act → World → Prop} (s x : Operand) (t : TypeId) (ho : o.op = .call { callee := .builtin .append, args := #[s, x], argTypes := #[t, t] })
    (base : Nat) (e : TypeId) (i : TypeInfo) (size : Nat) (ht : P.underlying t = some (.slice e)) (hi : P.info? e = some i)
    (v : Value) (n : Nat) (xs : List Value) (hs : a.eval s = v) (hown : w.ownsRow base e size v n xs) (hx : a.eval x = .slice none 0 0)
    (h : K (a.put o.dst v) w) : o.wp P a w K Q := by
  have hrun := run_append_owned_none (P := P) (w := w) base t o.type e i size ht hi v n xs hown
  unfold Oper.wp
  simp [execOp, ho, resolve, invoke, builtin, hs, hx, hrun, Result.andThen]
  exact h
theorem FView.news {X : Type} {enc : X → List Value} {w : World} {a : Addr} {L : List X} (h : FView enc w (some a) L) : ∀ j u, (fcells enc L)[j]? = some u → w.cell? (a.add j) = some u := by
  intro j u hu
  have hp : 0 < L.length := by
    cases L with
    | nil => simp [fcells] at hu
    | cons x r => simp
  obtain ⟨b, off, e, hc⟩ := h hp
  obtain rfl : a = ⟨b, off, none⟩ := by simpa using e
  rw [add_plain]
  exact hc j u hu
theorem FView.none_nil {X : Type} {enc : X → List Value} {w : World} {L : List X} (h : FView enc w none L) : L = [] := by
  cases L with
  | nil => rfl
  | cons a r => obtain ⟨b, off, e, _⟩ := h (by simp); cases e
theorem FOwn.capn {X : Type} {enc : X → List Value} {n : Nat} {T : TypeId} {base : Nat} {w : World} {ad : Option Addr} {len cap : Nat} {L : List X} (h : FOwn enc n T base w (.slice ad len cap) L) : ad = none → cap = 0 := by
  intro e
  rcases h.2 with ⟨q, _⟩ | ⟨g, c, cur, q, _⟩
  · cases q; rfl
  · cases e; simp at q
theorem FOwn.open_ {X : Type} {enc : X → List Value} {n : Nat} {T : TypeId} {base : Nat} {w : World} {v : Value} {L : List X} (h : FOwn enc n T base w v L) : ∃ ad cap, v = .slice ad L.length cap := by
  rcases h.2 with ⟨q, e⟩ | ⟨g, c, cur, q, _⟩
  · exact ⟨none, 0, by rw [q, e]⟩
  · exact ⟨_, _, q⟩
theorem fappO {P : Program} {X : Type} {enc : X → List Value} {n : Nat} (hn : ∀ x, (enc x).length = n) (h1 : ∀ L, ∀ u ∈ fcells enc L, u.oneCell' = true) {w : World} {o : Oper} {a : Act} {K : Act → World → Prop} {Q : Exit → Act → World → Prop} (s x : Operand) (t : TypeId) (ho : o.op = .call { callee := .builtin .append, args := #[s, x], argTypes := #[t, t] })
    (base : Nat) (e : TypeId) (i : TypeInfo) (z : Value) (bytes : Nat) (ht : P.underlying t = some (.slice e)) (hi : P.info? e = some i) (hz : i.zero = some z)
    (hsize : i.size = n) (hby : i.bytes = bytes) (hzs : z.cells.size = n) (hsz : 0 < n) (hb2 : bytes ≤ 1000)
    (v : Value) (M : List X) (hs : a.eval s = v) (hown : FOwn enc n e base w v M)
    (ad : Option Addr) (cap : Nat) (L : List X) (hx : a.eval x = .slice ad L.length cap) (hc : ad = none → cap = 0) (hv : FView enc w ad L)
    (hlen : M.length + L.length ≤ 3000000) (hbase : base ≤ w.heap.size)
    (h : ∀ v' w', FOwn enc n e base w' v' (M ++ L) → w.grownBy w' v.ownBlock → (v'.ownBlock = v.ownBlock ∨ v'.ownBlock = some w.heap.size) → K (a.put o.dst v') w') : o.wp P a w K Q := by
  cases ad with
  | none =>
    obtain rfl := hv.none_nil
    obtain rfl := hc rfl
    exact app_none s x t ho base e i n ht hi v M.length (fcells enc M) hs hown hx (h v w (by simpa using hown) ⟨rfl, rfl, rfl, Nat.le_refl _, fun _ _ _ => rfl⟩ (.inl rfl))
  | some q =>
    have hmul : (M.length + L.length) * bytes ≤ 3000000 * 1000 := Nat.mul_le_mul hlen hb2
    refine app_at s x t ho base e i z n bytes ht hi hz hsize hby hzs hsz v M.length (fcells enc M) hs hown q L.length cap (fcells enc L) hx (fcells_len hn L) hv.news (h1 L) (by unfold maxLen; omega) (by omega) hbase ?_
    intro v' w' o' g' e'
    exact h v' w' (FOwn.app o' rfl) g' e'
theorem fapp {P : Program} {X : Type} {enc : X → List Value} {n : Nat} (hn : ∀ x, (enc x).length = n) (h1 : ∀ L, ∀ u ∈ fcells enc L, u.oneCell' = true) {w : World} {o : Oper} {l : List Value} {ds : List Deferred} {K : Act → World → Prop} {Q : Exit → Act → World → Prop} (dd : Nat) (s x : Operand) (t : TypeId) (hd : o.dst = some dd) (ho : o.op = .call { callee := .builtin .append, args := #[s, x], argTypes := #[t, t] })
    (base : Nat) (e : TypeId) (i : TypeInfo) (z : Value) (bytes : Nat) (ht : P.underlying t = some (.slice e)) (hi : P.info? e = some i) (hz : i.zero = some z)
    (hsize : i.size = n) (hby : i.bytes = bytes) (hzs : z.cells.size = n) (hsz : 0 < n) (hb2 : bytes ≤ 1000)
    (v : Value) (M : List X) (hs : (Act.mk l.toArray ds).eval s = v) (hown : FOwn enc n e base w v M)
    (ad : Option Addr) (cap : Nat) (L : List X) (hx : (Act.mk l.toArray ds).eval x = .slice ad L.length cap) (hc : ad = none → cap = 0) (hv : FView enc w ad L)
    (hlen : M.length + L.length ≤ 3000000) (hbase : base ≤ w.heap.size)
    (h : ∀ v' w', FOwn enc n e base w' v' (M ++ L) → w.grownBy w' v.ownBlock → (v'.ownBlock = v.ownBlock ∨ v'.ownBlock = some w.heap.size) → K ⟨(l.set dd v').toArray, ds⟩ w') : o.wp P ⟨l.toArray, ds⟩ w K Q := by
  have hput : ∀ v', (Act.mk l.toArray ds).put o.dst v' = ⟨(l.set dd v').toArray, ds⟩ := fun v' => by rw [hd]; simp [Act.put]
  exact fappO hn h1 s x t ho base e i z bytes ht hi hz hsize hby hzs hsz hb2 v M hs hown ad cap L hx hc hv hlen hbase (fun v' w' a b c => by rw [hput]; exact h v' w' a b c)
theorem fappL {P : Program} {X : Type} {enc : X → List Value} {n : Nat} (hn : ∀ x, (enc x).length = n) (h1 : ∀ L, ∀ u ∈ fcells enc L, u.oneCell' = true) {w : World} {ops : Array Oper} {rest : List Oper} {o : Oper} {a : Act} {Q : Exit → Act → World → Prop} (hgd : o.guard = none) (s x : Operand) (t : TypeId) (ho : o.op = .call { callee := .builtin .append, args := #[s, x], argTypes := #[t, t] })
    (base : Nat) (e : TypeId) (i : TypeInfo) (z : Value) (bytes : Nat) (ht : P.underlying t = some (.slice e)) (hi : P.info? e = some i) (hz : i.zero = some z)
    (hsize : i.size = n) (hby : i.bytes = bytes) (hzs : z.cells.size = n) (hsz : 0 < n) (hb2 : bytes ≤ 1000)
    (v : Value) (M : List X) (hs : a.eval s = v) (hown : FOwn enc n e base w v M)
    (ad : Option Addr) (cap : Nat) (L : List X) (hx : a.eval x = .slice ad L.length cap) (hc : ad = none → cap = 0) (hv : FView enc w ad L)
    (hlen : M.length + L.length ≤ 3000000) (hbase : base ≤ w.heap.size)
    (h : ∀ v' w', FOwn enc n e base w' v' (M ++ L) → w.grownBy w' v.ownBlock → (v'.ownBlock = v.ownBlock ∨ v'.ownBlock = some w.heap.size) → wpList P ops Q rest (a.put o.dst v') w') : wpList P ops Q (o :: rest) a w := by
  refine wpList_plain hgd fun K hK => ?_
  exact fappO hn h1 s x t ho base e i z bytes ht hi hz hsize hby hzs hsz hb2 v M hs hown ad cap L hx hc hv hlen hbase (fun v' w' a b c => hK _ _ (h v' w' a b c))
theorem heap_newF (w : World) (o : Obj) : (w.alloc o).heap[w.heap.size]? = some o := by
  show (w.heap.push o)[w.heap.size]? = some o
  simp
theorem FOwn.empty {X : Type} {enc : X → List Value} {n : Nat} {T : TypeId} (w : World) : FOwn enc n T w.heap.size (w.alloc (Obj.cells #[] T)) (.slice (some ⟨w.heap.size, 0, none⟩) 0 0) ([] : List X) :=
  ⟨by simp [fcells], .inr ⟨w.heap.size, 0, #[], rfl, Nat.le_refl _, heap_newF w _, Nat.le_refl _, Nat.zero_le _, by simp, by simp [fcells]⟩⟩

end Go.Proofs.YthgcbihhdbpbdaaGreatDoor
namespace Go.Proofs.YthgcbihhdbpbdaaGreatDoor
open Go.ChangeShapes Go.WideShapes Go.ChangeAt Go.RowKit
open Go.ChangeMaps (open_string shut_string)
set_option linter.unusedVariables false
set_option maxRecDepth 100000

theorem pall_no {L : List Pt} {k : Nat} (h : k < L.length) (hq : pOk (L.getD k Pt.nil) = false) : L.all pOk = false := by
  rw [List.all_eq_false]
  exact ⟨L[k], List.getElem_mem h, by rw [show L.getD k Pt.nil = L[k] by simp [List.getD, h]] at hq; simp [hq]⟩
theorem pall_yes {L : List Pt} (h : ∀ j, j < L.length → pOk (L.getD j Pt.nil) = true) : L.all pOk = true := by
  rw [List.all_eq_true]
  intro x hx
  obtain ⟨i, hi, rfl⟩ := List.getElem_of_mem hx
  have := h i hi
  rwa [show L.getD i Pt.nil = L[i] by simp [List.getD, hi]] at this
set_option maxHeartbeats 1000000 in
theorem bOkS (id : Int) (ad : Option Addr) (cap : Nat) (L : List Pt) (w : World) (hv : FView ptEnc w ad L) (hl : L.length ≤ 1048576) :
    Calls Tryz.prog 91 #[.agg #[.int .i64 id, .slice ad L.length cap]] w fun e w' => e = .returned (.bool (bOk id L)) ∧ Below w.heap.size w w' := by
  have hB := hv.lt ptEnc_len (by omega)
  obtain ⟨y, hy⟩ : ∃ y, y = w.alloc (Obj.cells #[.int .i64 id, .slice ad L.length cap] 51) := ⟨_, rfl⟩
  have B0 : Below w.heap.size w y := by rw [hy]; exact below_new _
  have A0 : BrAt y w.heap.size id (.slice ad L.length cap) := by rw [hy]; exact BrAt.new w _ _ _
  have S0 := A0.lt
  have hv := hv.below B0 hB
  have hB := hv.lt ptEnc_len (by omega)
  obtain ⟨R, hR⟩ : ∃ R, R = bOk id L := ⟨_, rfl⟩
  rw [← hR]
  replace hR : Hid _ := hR
  go_enter Tryz.func91, Tryz.ntmps91
  go_wp2
  rw [← hy]
  clear hy
  go_loopw [3] (fun i wr => ∃ k : Nat, i = .int .i64 (k : Int) ∧ k ≤ L.length ∧ Hid (∀ j, j < k → pOk (L.getD j Pt.nil) = true) ∧ Below y.heap.size y wr) (fun i _ => L.length - (intOf i).toNat)
  case atStart => exact ⟨0, rfl, Nat.zero_le _, fun j hj => absurd hj (by omega), Below.refl _ _⟩
  case round =>
    obtain ⟨k, rfl, hk, hF, hb⟩ := hrel
    obtain ⟨a0, a1⟩ := A0.below hb S0
    by_cases hlt : k < L.length
    · obtain ⟨b, off, rfl, _⟩ := hv (by omega)
      obtain ⟨h, hh⟩ : ∃ h, L.getD k Pt.nil = h := ⟨_, rfl⟩
      have hck : PtAtO wr b (off + k * 11) h := by
        rw [← hh]
        exact ptAtO_of ((hv.below hb hB).at_ ptEnc_len Pt.nil hlt)
      obtain ⟨c0, c1, c2, c3, c4, c5, c6, c7, c8, c9, c10⟩ := hck
      replace hh : Hid _ := hh
      clear hB hv
      go_wp2_with fail
      go_at_call 112
      refine (pOkS h wr).mono ?_
      rintro e w3 ⟨rfl, k3⟩
      have b3 := hb.trans (k3.mono hb.size)
      by_cases hq : pOk h = true
      · rw [hq]
        go_wp2
        go_roundw
        case rel =>
          refine ⟨k + 1, by go_num, by omega, fun j hj => ?_, b3⟩
          by_cases e : j = k
          · rw [e, hh.out]; exact hq
          · exact hF.out j (by omega)
        case measure => simp [intOf]; omega
      · have hq' : pOk h = false := by simpa using hq
        rw [hq']
        have hC : Hid (R = false) := by
          unfold Hid; rw [hR.out, bOk, pall_no hlt (by rw [hh.out]; exact hq')]; simp
        clear hR
        go_wp2
        go_ret
        exact ⟨by rw [hC.out]; rfl, B0.trans (b3.mono B0.size)⟩
    · obtain rfl : k = L.length := by omega
      have hP := pall_yes hF.out
      have B1 := B0.trans (hb.mono B0.size)
      by_cases h1 : 1 ≤ id ∧ id ≤ 9
      · have d1 : decide (1 ≤ id ∧ id ≤ 9) = true := decide_eq_true h1
        have hC : Hid (R = decide (1 ≤ (L.length : Int) ∧ (L.length : Int) ≤ 4)) := by
          unfold Hid; rw [hR.out, bOk, hP, d1, Bool.true_and, Bool.and_true]; exact decide_eq_decide.2 (by omega)
        clear hR hP h1
        go_wp2_with fail
        go_at_call 66
        refine (inB id 1 9 wr).mono ?_
        rintro e w4 ⟨rfl, rfl⟩
        rw [d1]
        go_wp2_with fail
        go_at_call 66
        refine (inB L.length 1 4 w4).mono ?_
        rintro e w5 ⟨rfl, rfl⟩
        rw [← hC.out]
        go_wp2
        go_ret
        exact ⟨rfl, B1⟩
      · have d1 : decide (1 ≤ id ∧ id ≤ 9) = false := decide_eq_false h1
        have hC : Hid (R = false) := by
          unfold Hid; rw [hR.out, bOk, d1]; simp
        clear hR hP h1
        go_wp2_with fail
        go_at_call 66
        refine (inB id 1 9 wr).mono ?_
        rintro e w4 ⟨rfl, rfl⟩
        rw [d1]
        go_wp2
        go_ret
        exact ⟨by rw [hC.out]; rfl, B1⟩
theorem cand_up {id : Int} {x : Pt} (h : pOk x = true) : (x.up && cand id x) = cand id x := by
  cases hh : x.has
  · simp [cand, hh]
  · rw [(pOk_has h hh).1]; rfl
end Go.Proofs.YthgcbihhdbpbdaaGreatDoor
namespace Go.Proofs.YthgcbihhdbpbdaaGreatDoor
open Go.ChangeShapes Go.WideShapes Go.ChangeAt Go.RowKit
open Go.ChangeMaps (open_string shut_string)
set_option linter.unusedVariables false
set_option maxRecDepth 100000

def oI (o : Option Nat) : Int := match o with
  | none => -1
  | some k => (k : Int)
theorem best_no {id : Int} {L : List Pt} {k : Nat} {h : Pt} (hh : L.getD k Pt.nil = h) (hc : cand id h = false) : bestTo id L (k + 1) = bestTo id L k := by
  simp only [bestTo, hh, hc]
  cases bestTo id L k <;> simp
theorem best_none {id : Int} {L : List Pt} {k : Nat} {h : Pt} (hb : bestTo id L k = none) (hh : L.getD k Pt.nil = h) (hc : cand id h = true) : bestTo id L (k + 1) = some k := by
  simp only [bestTo, hb, hh, hc]
  simp
theorem best_some {id : Int} {L : List Pt} {k j : Nat} {h g : Pt} {t : Bool} (hb : bestTo id L k = some j) (hh : L.getD k Pt.nil = h) (hg : L.getD j Pt.nil = g) (hc : cand id h = true) (ht : vBetter h g = t) : bestTo id L (k + 1) = if t then some k else some j := by
  simp only [bestTo, hb, hh, hg, hc, ht]
  simp
end Go.Proofs.YthgcbihhdbpbdaaGreatDoor
namespace Go.Proofs.YthgcbihhdbpbdaaGreatDoor
open Go.ChangeShapes Go.WideShapes Go.ChangeAt Go.RowKit
open Go.ChangeMaps (open_string shut_string)
set_option linter.unusedVariables false
set_option maxRecDepth 100000

/-- A claim's box that may be written. -/
structure VBox (w : World) (q : Nat) (r c b p : Int) : Prop where
  at_ : VecAt w q r c b p
  fr : ∀ i, w.frozen? ⟨q, i, none⟩ = false
theorem VBox.lt {w : World} {q : Nat} {r c b p : Int} (h : VBox w q r c b p) : q < w.heap.size := World.block_lt_of_cell? w _ h.at_.1
theorem VBox.below {w w' : World} {q n : Nat} {r c b p : Int} (h : VBox w q r c b p) (k : Below n w w') (hq : q < n) : VBox w' q r c b p :=
  ⟨h.at_.below k hq, fun i => (World.frozen?_of_block (a := ⟨q, i, none⟩) (k.block q hq)).trans (h.fr i)⟩
end Go.Proofs.YthgcbihhdbpbdaaGreatDoor
namespace Go.Proofs.YthgcbihhdbpbdaaGreatDoor
open Go.ChangeShapes Go.WideShapes Go.ChangeAt Go.RowKit
open Go.ChangeMaps (open_string shut_string)
set_option linter.unusedVariables false
set_option maxRecDepth 100000

/-- A what is said: its cells. -/
structure Ou where
  k : Int
  pt : Int
  r : Int
  c : Int
  b : Int
  p : Int
  h : Int
  on : Bool
def Ou.nil : Ou := ⟨0, 0, 0, 0, 0, 0, 0, false⟩
def ouEnc (x : Ou) : List Value := [.int .i64 x.k, .int .i64 x.pt, .int .i64 x.r, .int .i64 x.c, .int .i64 x.b, .int .i64 x.p, .int .i64 x.h, .bool x.on]
theorem ouEnc_len (x : Ou) : (ouEnc x).length = 8 := rfl
theorem ouEnc_ones (L : List Ou) : ∀ u ∈ fcells ouEnc L, u.oneCell' = true := by
  induction L with
  | nil => intro u h; cases h
  | cons x L ih =>
    intro u h
    simp only [fcells, ouEnc, List.mem_append, List.mem_cons, List.not_mem_nil, or_false] at h
    rcases h with (rfl | rfl | rfl | rfl | rfl | rfl | rfl | rfl) | h
    · rfl
    · rfl
    · rfl
    · rfl
    · rfl
    · rfl
    · rfl
    · rfl
    · exact ih u h
/-- What its cells hold, in a world. -/
structure OuAtO (w : World) (b o : Nat) (x : Ou) : Prop where
  c0 : w.cell? ⟨b, o, none⟩ = some (.int .i64 x.k)
  c1 : w.cell? ⟨b, o + 1, none⟩ = some (.int .i64 x.pt)
  c2 : w.cell? ⟨b, o + 2, none⟩ = some (.int .i64 x.r)
  c3 : w.cell? ⟨b, o + 3, none⟩ = some (.int .i64 x.c)
  c4 : w.cell? ⟨b, o + 4, none⟩ = some (.int .i64 x.b)
  c5 : w.cell? ⟨b, o + 5, none⟩ = some (.int .i64 x.p)
  c6 : w.cell? ⟨b, o + 6, none⟩ = some (.int .i64 x.h)
  c7 : w.cell? ⟨b, o + 7, none⟩ = some (.bool x.on)
theorem ouAtO_of {w : World} {b o : Nat} {x : Ou} (h : ∀ j v, (ouEnc x)[j]? = some v → w.cell? ⟨b, o + j, none⟩ = some v) : OuAtO w b o x := ⟨h 0 _ rfl, h 1 _ rfl, h 2 _ rfl, h 3 _ rfl, h 4 _ rfl, h 5 _ rfl, h 6 _ rfl, h 7 _ rfl⟩
theorem ouPut (w : World) (g o : Nat) (x : Ou) : putAll w g o (ouEnc x) = ((((((((w.setCell ⟨g, o, none⟩ (.int .i64 x.k)).setCell ⟨g, o + 1, none⟩ (.int .i64 x.pt)).setCell ⟨g, o + 2, none⟩ (.int .i64 x.r)).setCell ⟨g, o + 3, none⟩ (.int .i64 x.c)).setCell ⟨g, o + 4, none⟩ (.int .i64 x.b)).setCell ⟨g, o + 5, none⟩ (.int .i64 x.p)).setCell ⟨g, o + 6, none⟩ (.int .i64 x.h)).setCell ⟨g, o + 7, none⟩ (.bool x.on)) := rfl
theorem ouInfo : (Tryz.prog.info? 41).map (fun i => (i.zero, i.size, i.bytes)) = some (some (.agg #[.int .i64 0, .int .i64 0, .int .i64 0, .int .i64 0, .int .i64 0, .int .i64 0, .int .i64 0, .bool false]), 8, 64) := by kernel_rfl
theorem FView.oneO (w : World) (t : TypeId) (x : Ou) : FView ouEnc (w.alloc (Obj.cells #[.int .i64 x.k, .int .i64 x.pt, .int .i64 x.r, .int .i64 x.c, .int .i64 x.b, .int .i64 x.p, .int .i64 x.h, .bool x.on] t)) (some ⟨w.heap.size, 0, none⟩) [x] := by
  intro _
  refine ⟨w.heap.size, 0, rfl, fun j v hv => ?_⟩
  have hj : j < 8 := by
    have := (List.getElem?_eq_some_iff.1 hv).1
    simpa [fcells, ouEnc] using this
  rcases (by omega : j = 0 ∨ j = 1 ∨ j = 2 ∨ j = 3 ∨ j = 4 ∨ j = 5 ∨ j = 6 ∨ j = 7) with rfl | rfl | rfl | rfl | rfl | rfl | rfl | rfl
  · cases hv; simp [go_sem]
  · cases hv; simp [go_sem]
  · cases hv; simp [go_sem]
  · cases hv; simp [go_sem]
  · cases hv; simp [go_sem]
  · cases hv; simp [go_sem]
  · cases hv; simp [go_sem]
  · cases hv; simp [go_sem]
/-- A gate that turned. -/
def gateO (i : Nat) (on : Bool) : Ou := ⟨2, i, 0, 0, 0, 0, 0, on⟩
def gatesTo (L M : List Pt) : Nat → List Ou
  | 0 => []
  | n + 1 => gatesTo L M n ++ if (M.getD n Pt.nil).op = (L.getD n Pt.nil).op then [] else [gateO n (M.getD n Pt.nil).op]
/-- What a bridge claims at its ports. -/
def toldO (id : Int) (M : List Pt) (i : Nat) : Ou := ⟨1, i, (ownR id M i).1, (ownR id M i).2.1, (ownR id M i).2.2.1, (ownR id M i).2.2.2, hopsR id M, false⟩
def toldTo (id : Int) (M : List Pt) : Nat → List Ou
  | 0 => []
  | n + 1 => toldTo id M n ++ if (M.getD n Pt.nil).ro = 2 then [toldO id M n] else []
theorem gates_len (L M : List Pt) (n : Nat) : (gatesTo L M n).length ≤ n := by
  induction n with
  | zero => simp [gatesTo]
  | succ n ih => simp only [gatesTo, List.length_append]; split <;> simp <;> omega
theorem told_len (id : Int) (M : List Pt) (n : Nat) : (toldTo id M n).length ≤ n := by
  induction n with
  | zero => simp [toldTo]
  | succ n ih => simp only [toldTo, List.length_append]; split <;> simp <;> omega
theorem gates_yes {L M : List Pt} {n : Nat} {h g : Pt} (hh : M.getD n Pt.nil = h) (hg : L.getD n Pt.nil = g) (e : h.op = g.op) : gatesTo L M (n + 1) = gatesTo L M n := by
  simp only [gatesTo, hh, hg]; rw [if_pos e, List.append_nil]
theorem gates_no {L M : List Pt} {n : Nat} {h g : Pt} (hh : M.getD n Pt.nil = h) (hg : L.getD n Pt.nil = g) (e : h.op ≠ g.op) : gatesTo L M (n + 1) = gatesTo L M n ++ [gateO n h.op] := by
  simp only [gatesTo, hh, hg]; rw [if_neg e]
theorem told_yes {id : Int} {M : List Pt} {n : Nat} {h : Pt} (hh : M.getD n Pt.nil = h) (e : h.ro = 2) : toldTo id M (n + 1) = toldTo id M n ++ [toldO id M n] := by
  simp only [toldTo, hh]; rw [if_pos e]
theorem told_no {id : Int} {M : List Pt} {n : Nat} {h : Pt} (hh : M.getD n Pt.nil = h) (e : h.ro ≠ 2) : toldTo id M (n + 1) = toldTo id M n := by
  simp only [toldTo, hh]; rw [if_neg e, List.append_nil]
end Go.Proofs.YthgcbihhdbpbdaaGreatDoor
namespace Go.Proofs.YthgcbihhdbpbdaaGreatDoor
open Go.ChangeShapes Go.WideShapes Go.ChangeAt Go.RowKit
open Go.ChangeMaps (open_string shut_string)
set_option linter.unusedVariables false
set_option maxRecDepth 100000

end Go.Proofs.YthgcbihhdbpbdaaGreatDoor
