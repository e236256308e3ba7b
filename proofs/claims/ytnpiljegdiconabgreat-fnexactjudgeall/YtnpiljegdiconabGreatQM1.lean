import Derived.Laws.AppendOwn
import Derived.Test.YtnpiljegdiconabGreatQKWPort5
import Derived.Test.YtnpiljegdiconabGreatQKWPort6
import Derived.Deep.Slices
import Derived.Maps.AppendAt
import Derived.Laws.AppendOwnNone
namespace Go.Proofs.YtnpiljegdiconabGreat
open Go.ChangeShapes Go.WideShapes Go.ChangeAt Go.RowKit
open Go.ChangeMaps (open_string shut_string)
set_option linter.unusedVariables false
set_option maxRecDepth 100000
def fcells {X : Type} (enc : X → List Value) : List X → List Value
 | [] => []
 | x :: L => enc x ++ fcells enc L
theorem fcells_len {X : Type} {enc : X → List Value} {n : Nat} (hn : ∀ x, (enc x).length = n) (L : List X) : (fcells enc L).length = L.length * n := by
 induction L with
 | nil => simp [fcells]
 | cons x L ih => simp only [fcells, List.length_append, hn, ih, List.length_cons, Nat.add_mul]; omega
theorem fcells_app {X : Type} {enc : X → List Value} (A B : List X) : fcells enc (A ++ B) = fcells enc A ++ fcells enc B := by
 induction A with
 | nil => rfl
 | cons x A ih => simp [fcells, ih]
theorem fcells_at {X : Type} {enc : X → List Value} {n : Nat} (hn : ∀ x, (enc x).length = n) (d : X) (L : List X) : ∀ (i j : Nat), i < L.length → j < n → (fcells enc L)[i * n + j]? = (enc (L.getD i d))[j]? := by
 induction L with
 | nil => intro i j h; simp at h
 | cons x L ih =>
  intro i j hi hj
  cases i with
  | zero => simp only [fcells, Nat.zero_mul, Nat.zero_add, List.getD_cons_zero]; rw [List.getElem?_append_left (by rw [hn]; exact hj)]
  | succ i =>
   simp only [fcells, List.getD_cons_succ]
   rw [List.getElem?_append_right (by rw [hn, Nat.add_mul]; omega), hn, show (i + 1) * n + j - n = i * n + j by rw [Nat.add_mul]; omega]
   exact ih i j (by simpa using hi) hj
def FView {X : Type} (enc : X → List Value) (w : World) (ad : Option Addr) (L : List X) : Prop :=
 0 < L.length → ∃ b off, ad = some ⟨b, off, none⟩ ∧ ∀ j v, (fcells enc L)[j]? = some v → w.cell? ⟨b, off + j, none⟩ = some v
theorem FView.nil {X : Type} {enc : X → List Value} {w : World} {ad : Option Addr} : FView enc w ad [] := fun h => absurd h (by simp)
theorem FView.lt {X : Type} {enc : X → List Value} {n : Nat} (hn : ∀ x, (enc x).length = n) (h0 : 0 < n) {w : World} {ad : Option Addr} {L : List X} (h : FView enc w ad L) : ∀ a, ad = some a → 0 < L.length → a.block < w.heap.size := by
 intro a e hp
 obtain ⟨b, off, e2, hc⟩ := h hp
 rw [e2] at e
 cases e
 have hl : 0 < (fcells enc L).length := by rw [fcells_len hn]; exact Nat.mul_pos hp h0
 exact World.block_lt_of_cell? w _ (hc 0 _ (List.getElem?_eq_getElem hl))
theorem FView.carry {X : Type} {enc : X → List Value} {w w' : World} {ad : Option Addr} {L : List X} (h : FView enc w ad L) (hb : ∀ a, ad = some a → 0 < L.length → w'.heap[a.block]? = w.heap[a.block]?) : FView enc w' ad L :=
 fun hp => by
  obtain ⟨b, off, e, hc⟩ := h hp
  exact ⟨b, off, e, fun j v hv => (World.cell?_of_block (a := ⟨b, off + j, none⟩) (hb ⟨b, off, none⟩ e hp)).trans (hc j v hv)⟩
theorem FView.below {X : Type} {enc : X → List Value} {w w' : World} {ad : Option Addr} {L : List X} {B : Nat} (h : FView enc w ad L) (k : Below B w w') (hb : ∀ a, ad = some a → 0 < L.length → a.block < B) : FView enc w' ad L :=
 h.carry fun a e hp => k.block _ (hb a e hp)
theorem FView.at_ {X : Type} {enc : X → List Value} {n : Nat} (hn : ∀ x, (enc x).length = n) (d : X) {w : World} {b off : Nat} {L : List X} (h : FView enc w (some ⟨b, off, none⟩) L) {i : Nat} (hi : i < L.length) : ∀ j v, (enc (L.getD i d))[j]? = some v → w.cell? ⟨b, off + i * n + j, none⟩ = some v := by
 intro j v hv
 obtain ⟨b', off', e, hc⟩ := h (by omega)
 simp only [Option.some.injEq, Addr.mk.injEq, and_true] at e
 obtain ⟨rfl, rfl⟩ := e
 have hj : j < n := by
  rw [← hn (L.getD i d)]
  exact (List.getElem?_eq_some_iff.1 hv).1
 have := hc (i * n + j) v ((fcells_at hn d L i j hi hj).trans hv)
 rw [Nat.add_assoc]
 exact this
def putAll (w : World) (g : Nat) : Nat → List Value → World
 | _, [] => w
 | o, v :: vs => putAll (w.setCell ⟨g, o, none⟩ v) g (o + 1) vs
def setAll (xs : List Value) : Nat → List Value → List Value
 | _, [] => xs
 | o, v :: vs => setAll (xs.set o v) (o + 1) vs
theorem setAll_at (vs : List Value) : ∀ (xs : List Value) (o j : Nat), o + vs.length ≤ xs.length → (setAll xs o vs)[j]? = if o ≤ j ∧ j < o + vs.length then vs[j - o]? else xs[j]? := by
 induction vs with
 | nil => intro xs o j h; rw [if_neg (by simp)]; rfl
 | cons v vs ih =>
  intro xs o j h
  simp only [setAll, List.length_cons] at h ⊢
  rw [ih (xs.set o v) (o + 1) j (by simp; omega)]
  by_cases h1 : o = j
  ·
   subst h1
   rw [if_neg (by omega), if_pos (by omega), List.getElem?_set_self (by omega)]
   simp
  ·
   by_cases h2 : o + 1 ≤ j ∧ j < o + 1 + vs.length
   ·
    rw [if_pos h2, if_pos (by omega), show j - o = (j - (o + 1)) + 1 by omega, List.getElem?_cons_succ]
   ·
    rw [if_neg h2, if_neg (by omega), List.getElem?_set_ne h1]
theorem setAll_cells {X : Type} {enc : X → List Value} {n : Nat} (hn : ∀ x, (enc x).length = n) (h0 : 0 < n) (d : X) (L : List X) (i : Nat) (hi : i < L.length) (x : X) : setAll (fcells enc L) (i * n) (enc x) = fcells enc (L.set i x) := by
 have hle : i * n + n ≤ L.length * n := by
  have := Nat.mul_le_mul_right n (show i + 1 ≤ L.length from hi)
  rw [Nat.add_mul] at this
  omega
 apply List.ext_getElem?
 intro j
 rw [setAll_at _ _ _ _ (by rw [fcells_len hn, hn]; exact hle), hn]
 by_cases hj : j < L.length * n
 ·
  have e : j = j / n * n + j % n := by rw [Nat.mul_comm]; exact (Nat.div_add_mod j n).symm
  have hq : j / n < L.length := Nat.div_lt_of_lt_mul (by rw [Nat.mul_comm]; exact hj)
  have hr : j % n < n := Nat.mod_lt _ h0
  have r1 : (fcells enc (L.set i x))[j]? = (enc ((L.set i x).getD (j / n) d))[j % n]? := by
   conv => lhs; rw [e]
   exact fcells_at hn d _ _ _ (by simpa using hq) hr
  have r2 : (fcells enc L)[j]? = (enc (L.getD (j / n) d))[j % n]? := by
   conv => lhs; rw [e]
   exact fcells_at hn d _ _ _ hq hr
  rw [r1, r2]
  by_cases hi2 : j / n = i
  ·
   have hjm : i * n + j % n = j := by rw [← hi2]; exact e.symm
   rw [if_pos (by omega), show j - i * n = j % n by omega, hi2]
   simp [List.getD, hi]
  ·
   have hno : ¬ (i * n ≤ j ∧ j < i * n + n) := by
    rintro ⟨a1, a2⟩
    apply hi2
    rw [Nat.div_eq_of_lt_le]
    ·
     exact a1
    ·
     rw [Nat.add_mul]; omega
   rw [if_neg hno]
   simp [List.getD, List.getElem?_set_ne (Ne.symm hi2)]
 ·
  have l1 : (fcells enc L)[j]? = none := List.getElem?_eq_none (by rw [fcells_len hn]; omega)
  have l2 : (fcells enc (L.set i x))[j]? = none := List.getElem?_eq_none (by rw [fcells_len hn]; simp; omega)
  rw [l1, l2, if_neg (by omega)]
def FOwn {X : Type} (enc : X → List Value) (n : Nat) (T : TypeId) (base : Nat) (w : World) (v : Value) (L : List X) : Prop := w.ownsRow base T n v L.length (fcells enc L)
theorem FOwn.keep {X : Type} {enc : X → List Value} {n : Nat} {T : TypeId} {base : Nat} {w w' : World} {v : Value} {L : List X} (h : FOwn enc n T base w v L) (k : ∀ g, v.ownBlock = some g → w'.heap[g]? = w.heap[g]?) : FOwn enc n T base w' v L := by
 obtain ⟨h1, h2⟩ := h
 refine ⟨h1, ?_⟩
 rcases h2 with q | ⟨g, cap, cur, rfl, hb, hg, r⟩
 ·
  exact .inl q
 ·
  exact .inr ⟨g, cap, cur, rfl, hb, (k g rfl).trans hg, r⟩
theorem FOwn.lt {X : Type} {enc : X → List Value} {n : Nat} {T : TypeId} {base : Nat} {w : World} {v : Value} {L : List X} (h : FOwn enc n T base w v L) : ∀ k, v.ownBlock = some k → base ≤ k ∧ k < w.heap.size := World.ownsRow.lt h
theorem FOwn.below {X : Type} {enc : X → List Value} {n : Nat} {T : TypeId} {base B : Nat} {w w' : World} {v : Value} {L : List X} (h : FOwn enc n T base w v L) (k : Below B w w') (hB : ∀ g, v.ownBlock = some g → g < B) : FOwn enc n T base w' v L := h.keep fun g e => k.block g (hB g e)
theorem FOwn.later {X : Type} {enc : X → List Value} {n : Nat} {T : TypeId} {base : Nat} {w w' : World} {v : Value} {L : List X} (h : FOwn enc n T base w v L) (k : Below w.heap.size w w') : FOwn enc n T base w' v L := h.below k fun g e => (h.lt g e).2
theorem FOwn.view {X : Type} {enc : X → List Value} {n : Nat} {T : TypeId} {base : Nat} {w : World} {ad : Option Addr} {len cap : Nat} {L : List X} (h : FOwn enc n T base w (.slice ad len cap) L) : len = L.length ∧ FView enc w ad L := by
 obtain ⟨h1, h2⟩ := h
 rcases h2 with ⟨e, e0⟩ | ⟨g, c, cur, e, hb, hg, hc, hm, hs, ht⟩
 ·
  cases e
  exact ⟨e0.symm, fun hp => absurd hp (by omega)⟩
 ·
  simp only [Value.slice.injEq] at e
  obtain ⟨rfl, rfl, rfl⟩ := e
  refine ⟨rfl, fun hp => ⟨g, 0, rfl, fun j v hv => ?_⟩⟩
  have hj : j < L.length * n := by rw [← h1]; exact (List.getElem?_eq_some_iff.1 hv).1
  have own : w.ownsRow base T n (.slice (some ⟨g, 0, none⟩) L.length cap) L.length (fcells enc L) := ⟨h1, .inr ⟨g, cap, cur, rfl, hb, hg, hc, hm, hs, ht⟩⟩
  rw [Nat.zero_add, own.cellAt j hj]
  exact hv
theorem own_putAll {base : Nat} {T : TypeId} {n g m cap : Nat} (vs : List Value) : ∀ {w : World} {xs : List Value} (o : Nat), w.ownsRow base T n (.slice (some ⟨g, 0, none⟩) m cap) m xs → o + vs.length ≤ m * n → (putAll w g o vs).ownsRow base T n (.slice (some ⟨g, 0, none⟩) m cap) m (setAll xs o vs) := by
 induction vs with
 | nil => intro w xs o h _; exact h
 | cons v vs ih =>
  intro w xs o h hl
  simp only [putAll, setAll, List.length_cons] at hl ⊢
  exact ih (o + 1) (h.stored o v).1 (by omega)
theorem FOwn.set {X : Type} {enc : X → List Value} {n : Nat} (hn : ∀ x, (enc x).length = n) (h0 : 0 < n) {T : TypeId} {base : Nat} {w : World} {g cap : Nat} {L : List X} (h : FOwn enc n T base w (.slice (some ⟨g, 0, none⟩) L.length cap) L) {i : Nat} (hi : i < L.length) (x : X) : FOwn enc n T base (putAll w g (i * n) (enc x)) (.slice (some ⟨g, 0, none⟩) L.length cap) (L.set i x) := by
 have hle : i * n + n ≤ L.length * n := by
  have := Nat.mul_le_mul_right n (show i + 1 ≤ L.length from hi)
  rw [Nat.add_mul] at this
  omega
 have := own_putAll (enc x) (i * n) (show w.ownsRow base T n _ L.length (fcells enc L) from h) (by rw [hn]; exact hle)
 rw [setAll_cells hn h0 x L i hi x] at this
 unfold FOwn
 rw [List.length_set]
 exact this
theorem FOwn.app {X : Type} {enc : X → List Value} {n : Nat} {T : TypeId} {base : Nat} {w : World} {v : Value} {L M : List X} {m : Nat} (h : w.ownsRow base T n v m (fcells enc L ++ fcells enc M)) (hm : m = L.length + M.length) : FOwn enc n T base w v (L ++ M) := by
 unfold FOwn
 rw [fcells_app, List.length_append, ← hm]
 exact h
theorem FOwn.nil {X : Type} {enc : X → List Value} {n : Nat} {T : TypeId} {base : Nat} {w : World} : FOwn enc n T base w (.slice none 0 0) ([] : List X) := ⟨by simp [fcells], .inl ⟨rfl, rfl⟩⟩
theorem heap_putAll {g : Nat} (vs : List Value) : ∀ (w : World) (o k : Nat), k ≠ g → (putAll w g o vs).heap[k]? = w.heap[k]? := by
 induction vs with
 | nil => intro w o k _; rfl
 | cons v vs ih => intro w o k hk; simp only [putAll]; rw [ih _ _ k hk, Below.heap_setCell _ _ _ _ hk]
theorem size_putAll {g : Nat} (vs : List Value) : ∀ (w : World) (o : Nat), (putAll w g o vs).heap.size = w.heap.size := by
 induction vs with
 | nil => intro w o; rfl
 | cons v vs ih => intro w o; simp only [putAll]; rw [ih]; simp
theorem below_putAll {B g : Nat} {a : World} (hB : B ≤ g) (vs : List Value) : ∀ {w : World} (o : Nat), Below B a w → Below B a (putAll w g o vs) := by
 induction vs with
 | nil => intro w o h; exact h
 | cons v vs ih => intro w o h; exact ih (o + 1) (h.setCell hB v)
def FFill {X : Type} (enc : X → List Value) (n : Nat) (T : TypeId) (base : Nat) (w : World) (g : Nat) (L : List X) (k : Nat) : Prop :=
 ∃ xs, w.ownsRow base T n (.slice (some ⟨g, 0, none⟩) L.length L.length) L.length xs ∧ ∀ j, j < k * n → xs[j]? = (fcells enc L)[j]?
theorem FFill.start {X : Type} {enc : X → List Value} {n : Nat} {T : TypeId} {base : Nat} {w : World} {g : Nat} {L : List X} {xs : List Value} (h : w.ownsRow base T n (.slice (some ⟨g, 0, none⟩) L.length L.length) L.length xs) : FFill enc n T base w g L 0 := ⟨xs, h, fun j hj => by omega⟩
theorem FFill.keep {X : Type} {enc : X → List Value} {n : Nat} {T : TypeId} {base : Nat} {w w' : World} {g : Nat} {L : List X} {k : Nat} (h : FFill enc n T base w g L k) (e : w'.heap[g]? = w.heap[g]?) : FFill enc n T base w' g L k := by
 obtain ⟨xs, ⟨h1, h2⟩, h3⟩ := h
 refine ⟨xs, ⟨h1, ?_⟩, h3⟩
 rcases h2 with q | ⟨g', cap, cur, q, hb, hg, r⟩
 ·
  exact .inl q
 ·
  simp only [Value.slice.injEq, Option.some.injEq, Addr.mk.injEq, and_true] at q
  obtain ⟨rfl, q2⟩ := q
  exact .inr ⟨g, cap, cur, by simp [q2], hb, e.trans hg, r⟩
theorem FFill.lt {X : Type} {enc : X → List Value} {n : Nat} {T : TypeId} {base : Nat} {w : World} {g : Nat} {L : List X} {k : Nat} (h : FFill enc n T base w g L k) : base ≤ g ∧ g < w.heap.size := by
 obtain ⟨xs, h1, _⟩ := h
 exact h1.lt g rfl
theorem FFill.cell {X : Type} {enc : X → List Value} {n : Nat} {T : TypeId} {base : Nat} {w : World} {g : Nat} {L : List X} {k : Nat} (h : FFill enc n T base w g L k) (j : Nat) (hj : j < L.length * n) : ∃ u, w.cell? ⟨g, j, none⟩ = some u := by
 obtain ⟨xs, h1, _⟩ := h
 rw [h1.cellAt j hj]
 exact ⟨xs[j]'(by rw [h1.1]; exact hj), List.getElem?_eq_getElem _⟩
theorem FFill.frozen {X : Type} {enc : X → List Value} {n : Nat} {T : TypeId} {base : Nat} {w : World} {g : Nat} {L : List X} {k : Nat} (h : FFill enc n T base w g L k) (j : Nat) : w.frozen? ⟨g, j, none⟩ = false := by
 obtain ⟨xs, h1, _⟩ := h
 exact h1.frozenAt j
theorem mul_le_of_lt {i m n : Nat} (h : i < m) : i * n + n ≤ m * n := by
 have := Nat.mul_le_mul_right n (show i + 1 ≤ m from h)
 rw [Nat.add_mul] at this
 omega
theorem FFill.step {X : Type} {enc : X → List Value} {n : Nat} (hn : ∀ x, (enc x).length = n) (d : X) {T : TypeId} {base : Nat} {w : World} {g : Nat} {L : List X} {k : Nat} (h : FFill enc n T base w g L k) (hk : k < L.length) : FFill enc n T base (putAll w g (k * n) (enc (L.getD k d))) g L (k + 1) := by
 obtain ⟨xs, h1, h2⟩ := h
 have hle := mul_le_of_lt (n := n) hk
 refine ⟨_, own_putAll (enc (L.getD k d)) (k * n) h1 (by rw [hn]; exact hle), fun j hj => ?_⟩
 rw [setAll_at _ _ _ _ (by rw [h1.1, hn]; exact hle), hn]
 rw [Nat.add_mul] at hj
 by_cases q : k * n ≤ j
 ·
  rw [if_pos ⟨q, by omega⟩]
  have := fcells_at hn d L k (j - k * n) hk (by omega)
  rw [show k * n + (j - k * n) = j by omega] at this
  exact this.symm
 ·
  rw [if_neg (by omega)]
  exact h2 j (by omega)
theorem FFill.done {X : Type} {enc : X → List Value} {n : Nat} (hn : ∀ x, (enc x).length = n) {T : TypeId} {base : Nat} {w : World} {g : Nat} {L : List X} (h : FFill enc n T base w g L L.length) : FOwn enc n T base w (.slice (some ⟨g, 0, none⟩) L.length L.length) L := by
 obtain ⟨xs, h1, h2⟩ := h
 have e : xs = fcells enc L := by
  apply List.ext_getElem?
  intro j
  by_cases hj : j < L.length * n
  ·
   exact h2 j hj
  ·
   rw [List.getElem?_eq_none (by rw [h1.1]; omega), List.getElem?_eq_none (by rw [fcells_len hn]; omega)]
 rw [e] at h1
 exact h1
theorem FOwn.cell {X : Type} {enc : X → List Value} {n : Nat} (hn : ∀ x, (enc x).length = n) (d : X) {T : TypeId} {base : Nat} {w : World} {g cap : Nat} {L : List X} (h : FOwn enc n T base w (.slice (some ⟨g, 0, none⟩) L.length cap) L) {i : Nat} (hi : i < L.length) : ∀ j v, (enc (L.getD i d))[j]? = some v → w.cell? ⟨g, i * n + j, none⟩ = some v := by
 intro j v hv
 have := h.view.2.at_ hn d hi j v hv
 rw [Nat.zero_add] at this
 exact this
theorem FOwn.frozen {X : Type} {enc : X → List Value} {n : Nat} {T : TypeId} {base : Nat} {w : World} {g cap : Nat} {L : List X} (h : FOwn enc n T base w (.slice (some ⟨g, 0, none⟩) L.length cap) L) (j : Nat) : w.frozen? ⟨g, j, none⟩ = false := World.ownsRow.frozenAt h j
def markd {X : Type} (mk : Nat → X) (L : List X) (k : Nat) : List X := (List.range k).map mk ++ L.drop k
theorem markd_len {X : Type} {mk : Nat → X} {L : List X} {k : Nat} (h : k ≤ L.length) : (markd mk L k).length = L.length := by simp [markd]; omega
theorem markd_zero {X : Type} {mk : Nat → X} {L : List X} : markd mk L 0 = L := by simp [markd]
theorem markd_all {X : Type} {mk : Nat → X} {L : List X} : markd mk L L.length = (List.range L.length).map mk := by simp [markd]
theorem markd_set {X : Type} {mk : Nat → X} {L : List X} {k : Nat} (h : k < L.length) : (markd mk L k).set k (mk k) = markd mk L (k + 1) := by
 apply List.ext_getElem?
 intro j
 unfold markd
 by_cases h1 : j < k
 ·
  rw [List.getElem?_set_ne (by omega), List.getElem?_append_left (by simp; omega), List.getElem?_append_left (by simp; omega)]
  simp [h1, Nat.lt_succ_of_lt h1]
 ·
  by_cases h2 : j = k
  ·
   subst h2
   rw [List.getElem?_set_self (by simp; omega), List.getElem?_append_left (by simp)]
   simp
  ·
   rw [List.getElem?_set_ne (by omega), List.getElem?_append_right (by simp; omega), List.getElem?_append_right (by simp; omega)]
   simp only [List.length_map, List.length_range, List.getElem?_drop]
   congr 1
   omega
theorem FOwn.base {X : Type} {enc : X → List Value} {n : Nat} {T : TypeId} {base base' : Nat} {w : World} {v : Value} {L : List X} (h : FOwn enc n T base w v L) (hb : base' ≤ base) : FOwn enc n T base' w v L := by
 obtain ⟨h1, h2⟩ := h
 refine ⟨h1, ?_⟩
 rcases h2 with q | ⟨g, cap, cur, e, hg, r⟩
 ·
  exact .inl q
 ·
  exact .inr ⟨g, cap, cur, e, Nat.le_trans hb hg, r⟩
end Go.Proofs.YtnpiljegdiconabGreat
namespace Go.Proofs.YtnpiljegdiconabGreat
open Go.ChangeShapes Go.WideShapes Go.ChangeAt Go.RowKit
open Go.ChangeMaps (open_string shut_string)
set_option linter.unusedVariables false
set_option maxRecDepth 100000
def Pt.nil : Pt := ⟨false, false, 0, 0, 0, 0, 0, 0, 0, 0, false⟩
theorem pOk_nil : pOk Pt.nil = true := by decide
def bOk (id : Int) (L : List Pt) : Bool := decide (1 ≤ id ∧ id ≤ 9) && (decide (1 ≤ L.length ∧ L.length ≤ 4) && L.all pOk)
theorem bOk_all {id : Int} {L : List Pt} (h : bOk id L = true) : (1 ≤ id ∧ id ≤ 9) ∧ (1 ≤ L.length ∧ L.length ≤ 4) ∧ ∀ i, pOk (L.getD i Pt.nil) = true := by
 simp only [bOk, Bool.and_eq_true, decide_eq_true_eq, List.all_eq_true] at h
 refine ⟨h.1, h.2.1, fun i => ?_⟩
 by_cases hi : i < L.length
 ·
  have : L.getD i Pt.nil = L[i] := by simp [List.getD, hi]
  rw [this]
  exact h.2.2 _ (List.getElem_mem hi)
 ·
  have : L.getD i Pt.nil = Pt.nil := by simp [List.getD, List.getElem?_eq_none (by omega : L.length ≤ i)]
  rw [this]
  exact pOk_nil
def cand (id : Int) (x : Pt) : Bool := x.has && (!(x.b == id) && (decide (x.r < id) && (decide (x.c < 20) && decide (x.h < 8))))
def vBetter (x y : Pt) : Bool := vLt x.r x.c x.b x.p y.r y.c y.b y.p
def bestTo (id : Int) (L : List Pt) : Nat → Option Nat
 | 0 => none
 | n + 1 => match bestTo id L n with
  | none => if cand id (L.getD n Pt.nil) then some n else none
  | some k => if cand id (L.getD n Pt.nil) && vBetter (L.getD n Pt.nil) (L.getD k Pt.nil) then some n else some k
theorem bestTo_some {id : Int} {L : List Pt} {n k : Nat} (h : bestTo id L n = some k) : k < n ∧ cand id (L.getD k Pt.nil) = true := by
 induction n generalizing k with
 | zero => cases h
 | succ n ih =>
  simp only [bestTo] at h
  cases hb : bestTo id L n with
  | none =>
   rw [hb] at h
   simp only [] at h
   cases hc : cand id (L.getD n Pt.nil) with
   | false => rw [hc] at h; cases h
   | true =>
    rw [hc] at h
    cases h
    exact ⟨by omega, hc⟩
  | some m =>
   rw [hb] at h
   simp only [] at h
   split at h
   ·
    rename_i q
    cases h
    simp only [Bool.and_eq_true] at q
    exact ⟨by omega, q.1⟩
   ·
    cases h
    obtain ⟨a, b⟩ := ih hb
    exact ⟨by omega, b⟩
def rootO (id : Int) (L : List Pt) : Option Nat := if bOk id L then bestTo id L L.length else none
theorem rootO_some {id : Int} {L : List Pt} {k : Nat} (h : rootO id L = some k) : bOk id L = true ∧ k < L.length ∧ cand id (L.getD k Pt.nil) = true := by
 unfold rootO at h
 cases hb : bOk id L with
 | false => simp [hb] at h
 | true =>
  simp only [hb, if_true] at h
  exact ⟨rfl, bestTo_some h⟩
def ownR (id : Int) (L : List Pt) (port : Int) : Int × Int × Int × Int :=
 if bOk id L && decide (0 ≤ port ∧ port < (L.length : Int)) then (match rootO id L with
  | none => (id, 0, id, port)
  | some k => ((L.getD k Pt.nil).r, (L.getD k Pt.nil).c + 1, id, port)) else (0, 0, 0, 0)
def hopsR (id : Int) (L : List Pt) : Int := match rootO id L with
 | none => 0
 | some k => (L.getD k Pt.nil).h + 1
def roleR (id : Int) (L : List Pt) (i : Nat) : Int :=
 if rootO id L = some i then 1 else if (L.getD i Pt.nil).has && vLt (L.getD i Pt.nil).r (L.getD i Pt.nil).c (L.getD i Pt.nil).b (L.getD i Pt.nil).p (ownR id L i).1 (ownR id L i).2.1 (ownR id L i).2.2.1 (ownR id L i).2.2.2 then 3 else 2
def turnUp (x : Pt) (role : Int) : Pt := if x.up then turnR x role else x
def decideR (id : Int) (L : List Pt) : List Pt := if bOk id L then (List.range L.length).map fun i => turnUp (L.getD i Pt.nil) (roleR id L i) else L
theorem decideR_len (id : Int) (L : List Pt) : (decideR id L).length = L.length := by unfold decideR; split <;> simp
def tickW (x : Pt) : Int := if (x.ro = 1 ∨ x.ro = 2) ∧ 0 < x.wa then x.wa - 1 else x.wa
def tickP (x : Pt) : Pt := ⟨(fadeR x).up, (fadeR x).has, (fadeR x).r, (fadeR x).c, (fadeR x).b, (fadeR x).p, (fadeR x).h, (fadeR x).l, (fadeR x).ro, tickW (fadeR x), raOp (fadeR x).ro (tickW (fadeR x))⟩
theorem fadeR_keeps (x : Pt) : (fadeR x).up = x.up ∧ (fadeR x).ro = x.ro ∧ (fadeR x).wa = x.wa ∧ (fadeR x).op = x.op := by
 unfold fadeR
 split
 ·
  split
  ·
   exact ⟨rfl, rfl, rfl, rfl⟩
  ·
   exact ⟨rfl, rfl, rfl, rfl⟩
 ·
  exact ⟨rfl, rfl, rfl, rfl⟩
theorem pOk_parts {x : Pt} : pOk x = true ↔ ((0 ≤ x.ro ∧ x.ro ≤ 3) ∧ x.up = raUp x.ro ∧ x.op = raOp x.ro x.wa ∧ (0 ≤ x.wa ∧ x.wa ≤ 4) ∧ fitsB x = true) := by
 simp [pOk, raIs]
def ptEnc (x : Pt) : List Value := [.bool x.up, .bool x.has, .int .i64 x.r, .int .i64 x.c, .int .i64 x.b, .int .i64 x.p, .int .i64 x.h, .int .i64 x.l, .int .i64 x.ro, .int .i64 x.wa, .bool x.op]
theorem ptEnc_len (x : Pt) : (ptEnc x).length = 11 := rfl
theorem ptEnc_ones (L : List Pt) : ∀ u ∈ fcells ptEnc L, u.oneCell' = true := by
 induction L with
 | nil => intro u h; cases h
 | cons x L ih =>
  intro u h
  simp only [fcells, ptEnc, List.mem_append, List.mem_cons, List.not_mem_nil, or_false] at h
  rcases h with (rfl | rfl | rfl | rfl | rfl | rfl | rfl | rfl | rfl | rfl | rfl) | h
  ·
   rfl
  ·
   rfl
  ·
   rfl
  ·
   rfl
  ·
   rfl
  ·
   rfl
  ·
   rfl
  ·
   rfl
  ·
   rfl
  ·
   rfl
  ·
   rfl
  ·
   exact ih u h
structure PtAtO (w : World) (b o : Nat) (x : Pt) : Prop where
 c0 : w.cell? ⟨b, o, none⟩ = some (.bool x.up)
 c1 : w.cell? ⟨b, o + 1, none⟩ = some (.bool x.has)
 c2 : w.cell? ⟨b, o + 2, none⟩ = some (.int .i64 x.r)
 c3 : w.cell? ⟨b, o + 3, none⟩ = some (.int .i64 x.c)
 c4 : w.cell? ⟨b, o + 4, none⟩ = some (.int .i64 x.b)
 c5 : w.cell? ⟨b, o + 5, none⟩ = some (.int .i64 x.p)
 c6 : w.cell? ⟨b, o + 6, none⟩ = some (.int .i64 x.h)
 c7 : w.cell? ⟨b, o + 7, none⟩ = some (.int .i64 x.l)
 c8 : w.cell? ⟨b, o + 8, none⟩ = some (.int .i64 x.ro)
 c9 : w.cell? ⟨b, o + 9, none⟩ = some (.int .i64 x.wa)
 c10 : w.cell? ⟨b, o + 10, none⟩ = some (.bool x.op)
theorem ptAtO_of {w : World} {b o : Nat} {x : Pt} (h : ∀ j v, (ptEnc x)[j]? = some v → w.cell? ⟨b, o + j, none⟩ = some v) : PtAtO w b o x := ⟨h 0 _ rfl, h 1 _ rfl, h 2 _ rfl, h 3 _ rfl, h 4 _ rfl, h 5 _ rfl, h 6 _ rfl, h 7 _ rfl, h 8 _ rfl, h 9 _ rfl, h 10 _ rfl⟩
theorem ptPut (w : World) (g o : Nat) (x : Pt) : putAll w g o (ptEnc x) = (((((((((((w.setCell ⟨g, o, none⟩ (.bool x.up)).setCell ⟨g, o + 1, none⟩ (.bool x.has)).setCell ⟨g, o + 2, none⟩ (.int .i64 x.r)).setCell ⟨g, o + 3, none⟩ (.int .i64 x.c)).setCell ⟨g, o + 4, none⟩ (.int .i64 x.b)).setCell ⟨g, o + 5, none⟩ (.int .i64 x.p)).setCell ⟨g, o + 6, none⟩ (.int .i64 x.h)).setCell ⟨g, o + 7, none⟩ (.int .i64 x.l)).setCell ⟨g, o + 8, none⟩ (.int .i64 x.ro)).setCell ⟨g, o + 9, none⟩ (.int .i64 x.wa)).setCell ⟨g, o + 10, none⟩ (.bool x.op)) := rfl
theorem ptInfo : (Tryz.prog.info? 113).map (fun i => (i.zero, i.size, i.bytes)) = some (some (.agg #[.bool false, .bool false, .int .i64 0, .int .i64 0, .int .i64 0, .int .i64 0, .int .i64 0, .int .i64 0, .int .i64 0, .int .i64 0, .bool false]), 11, 80) := by kernel_rfl
structure BrAt (w : World) (q : Nat) (id : Int) (v : Value) : Prop where
 c0 : w.cell? ⟨q, 0, none⟩ = some (.int .i64 id)
 c1 : w.cell? ⟨q, 1, none⟩ = some v
theorem BrAt.keep {w w' : World} {q : Nat} {id : Int} {v : Value} (h : BrAt w q id v) (k : w'.heap[q]? = w.heap[q]?) : BrAt w' q id v :=
 ⟨(World.cell?_of_block (a := ⟨q, 0, none⟩) k).trans h.c0, (World.cell?_of_block (a := ⟨q, 1, none⟩) k).trans h.c1⟩
theorem BrAt.below {w w' : World} {q n : Nat} {id : Int} {v : Value} (h : BrAt w q id v) (k : Below n w w') (hq : q < n) : BrAt w' q id v := h.keep (k.block q hq)
theorem BrAt.lt {w : World} {q : Nat} {id : Int} {v : Value} (h : BrAt w q id v) : q < w.heap.size := World.block_lt_of_cell? w _ h.c0
theorem BrAt.new (w : World) (t : TypeId) (id : Int) (v : Value) : BrAt (w.alloc (Obj.cells #[.int .i64 id, v] t)) w.heap.size id v := by
 refine ⟨?_, ?_⟩ <;> simp [go_sem]
theorem BrAt.alloc {w : World} {q : Nat} {id : Int} {v : Value} (h : BrAt w q id v) (o : Obj) : BrAt (w.alloc o) q id v := h.keep (Below.heap_alloc w o q h.lt)
theorem below_new {w : World} (o : Obj) : Below w.heap.size w (w.alloc o) := (Below.refl _ _).alloc (Nat.le_refl _) _
structure BBox (w : World) (q : Nat) (id : Int) (v : Value) : Prop where
 at_ : BrAt w q id v
 fr : ∀ i, w.frozen? ⟨q, i, none⟩ = false
theorem BBox.keep {w w' : World} {q : Nat} {id : Int} {v : Value} (h : BBox w q id v) (k : w'.heap[q]? = w.heap[q]?) : BBox w' q id v :=
 ⟨h.at_.keep k, fun i => (World.frozen?_of_block (a := ⟨q, i, none⟩) k).trans (h.fr i)⟩
theorem BBox.lt {w : World} {q : Nat} {id : Int} {v : Value} (h : BBox w q id v) : q < w.heap.size := h.at_.lt
theorem BBox.below {w w' : World} {q n : Nat} {id : Int} {v : Value} (h : BBox w q id v) (k : Below n w w') (hq : q < n) : BBox w' q id v := h.keep (k.block q hq)
theorem BBox.new (w : World) (t : TypeId) (id : Int) (v : Value) : BBox (w.alloc (Obj.cells #[.int .i64 id, v] t)) w.heap.size id v := ⟨BrAt.new w t id v, fun i => by simp [go_sem]⟩
theorem BBox.put {w : World} {q : Nat} {id : Int} {v : Value} (h : BBox w q id v) (id' : Int) (v' : Value) : BBox ((w.setCell ⟨q, 0, none⟩ (.int .i64 id')).setCell ⟨q, 1, none⟩ v') q id' v' := by
 have e1 : (w.setCell ⟨q, 0, none⟩ (.int .i64 id')).cell? ⟨q, 1, none⟩ = some v := (pset_else (by decide)).trans h.at_.c1
 refine ⟨⟨(pset_else (by decide)).trans (pset_same h.at_.c0), pset_same e1⟩, fun i => ?_⟩
 rw [World.frozen?_setCell, World.frozen?_setCell]; exact h.fr i
structure Ik where
 k : Int
 q : Int
 r : Int
 c : Int
 b : Int
 p : Int
 h : Int
 up : Bool
structure InAt (w : World) (o : Nat) (x : Ik) : Prop where
 c0 : w.cell? ⟨o, 0, none⟩ = some (.int .i64 x.k)
 c1 : w.cell? ⟨o, 1, none⟩ = some (.int .i64 x.q)
 c2 : w.cell? ⟨o, 2, none⟩ = some (.int .i64 x.r)
 c3 : w.cell? ⟨o, 3, none⟩ = some (.int .i64 x.c)
 c4 : w.cell? ⟨o, 4, none⟩ = some (.int .i64 x.b)
 c5 : w.cell? ⟨o, 5, none⟩ = some (.int .i64 x.p)
 c6 : w.cell? ⟨o, 6, none⟩ = some (.int .i64 x.h)
 c7 : w.cell? ⟨o, 7, none⟩ = some (.bool x.up)
theorem InAt.keep {w w' : World} {o : Nat} {x : Ik} (h : InAt w o x) (k : w'.heap[o]? = w.heap[o]?) : InAt w' o x :=
 ⟨(World.cell?_of_block (a := ⟨o, 0, none⟩) k).trans h.c0, (World.cell?_of_block (a := ⟨o, 1, none⟩) k).trans h.c1, (World.cell?_of_block (a := ⟨o, 2, none⟩) k).trans h.c2, (World.cell?_of_block (a := ⟨o, 3, none⟩) k).trans h.c3, (World.cell?_of_block (a := ⟨o, 4, none⟩) k).trans h.c4, (World.cell?_of_block (a := ⟨o, 5, none⟩) k).trans h.c5, (World.cell?_of_block (a := ⟨o, 6, none⟩) k).trans h.c6, (World.cell?_of_block (a := ⟨o, 7, none⟩) k).trans h.c7⟩
theorem InAt.below {w w' : World} {o n : Nat} {x : Ik} (h : InAt w o x) (k : Below n w w') (ho : o < n) : InAt w' o x := h.keep (k.block o ho)
theorem InAt.lt {w : World} {o : Nat} {x : Ik} (h : InAt w o x) : o < w.heap.size := World.block_lt_of_cell? w _ h.c0
theorem InAt.new (w : World) (t : TypeId) (x : Ik) : InAt (w.alloc (Obj.cells #[.int .i64 x.k, .int .i64 x.q, .int .i64 x.r, .int .i64 x.c, .int .i64 x.b, .int .i64 x.p, .int .i64 x.h, .bool x.up] t)) w.heap.size x := by
 constructor <;> simp [go_sem]
def inOk (x : Ik) : Bool :=
 if x.k = 1 then decide (0 ≤ x.q ∧ x.q ≤ 3) && (vOk x.r x.c x.b x.p && (decide (0 ≤ x.h ∧ x.h ≤ 8) && !x.up))
 else if x.k = 3 then decide (0 ≤ x.q ∧ x.q ≤ 3) && (decide (x.r = 0 ∧ x.c = 0 ∧ x.b = 0 ∧ x.p = 0) && (x.h == 0))
 else if x.k = 2 then decide (x.q = 0 ∧ x.r = 0 ∧ x.c = 0 ∧ x.b = 0 ∧ x.p = 0 ∧ x.h = 0 ∧ x.up = false)
 else false
def arrV (x : Ik) : Value :=
 if x.k = 1 then .iface 148 (.agg #[.int .i64 x.q, .int .i64 x.r, .int .i64 x.c, .int .i64 x.b, .int .i64 x.p, .int .i64 x.h])
 else if x.k = 2 then .iface 150 (.agg #[])
 else if x.k = 3 then .iface 152 (.agg #[.int .i64 x.q, .bool x.up])
 else .nilIface
set_option maxHeartbeats 1000000 in
theorem arrI (x : Ik) (w : World) : Calls Tryz.prog 95 #[.agg #[.int .i64 x.k, .int .i64 x.q, .int .i64 x.r, .int .i64 x.c, .int .i64 x.b, .int .i64 x.p, .int .i64 x.h, .bool x.up]] w fun e w' => e = .returned (arrV x) ∧ Below w.heap.size w w' := by
 obtain ⟨k, q, r, c, b, p, h, up⟩ := x
 dsimp only
 have B0 := below_new (w := w) (Obj.cells #[.int .i64 k, .int .i64 q, .int .i64 r, .int .i64 c, .int .i64 b, .int .i64 p, .int .i64 h, .bool up] 80)
 by_cases h1 : k = 1
 ·
  subst h1
  rw [show arrV ⟨1, q, r, c, b, p, h, up⟩ = .iface 148 (.agg #[.int .i64 q, .int .i64 r, .int .i64 c, .int .i64 b, .int .i64 p, .int .i64 h]) from rfl]
  go_enter Tryz.func95, Tryz.ntmps95
  go_wp2
  go_ret
  exact ⟨rfl, B0⟩
 have d1 : (k == 1) = false := by simpa using h1
 by_cases h2 : k = 2
 ·
  subst h2
  rw [show arrV ⟨2, q, r, c, b, p, h, up⟩ = .iface 150 (.agg #[]) from rfl]
  go_enter Tryz.func95, Tryz.ntmps95
  go_wp2
  go_ret
  exact ⟨rfl, B0⟩
 have d2 : (k == 2) = false := by simpa using h2
 by_cases h3 : k = 3
 ·
  subst h3
  rw [show arrV ⟨3, q, r, c, b, p, h, up⟩ = .iface 152 (.agg #[.int .i64 q, .bool up]) from rfl]
  go_enter Tryz.func95, Tryz.ntmps95
  go_wp2
  go_ret
  exact ⟨rfl, B0⟩
 have d3 : (k == 3) = false := by simpa using h3
 have e : arrV ⟨k, q, r, c, b, p, h, up⟩ = .nilIface := by unfold arrV; rw [if_neg h1, if_neg h2, if_neg h3]
 rw [e]
 go_enter Tryz.func95, Tryz.ntmps95
 go_wp2
 go_ret
 exact ⟨rfl, B0⟩
theorem canBeI (q : Int) (w : World) : Calls Tryz.prog 196 #[.int .i64 q] w fun e w' => e = .returned (.bool (decide (0 ≤ q ∧ q ≤ 3))) ∧ w' = w := by
 by_cases h1 : 0 ≤ q
 ·
  have d1 : decide (0 ≤ q) = true := decide_eq_true h1
  by_cases h2 : q < 4
  ·
   have d2 : decide (q < 4) = true := decide_eq_true h2
   rw [decide_eq_true (show 0 ≤ q ∧ q ≤ 3 by omega)]
   clear h1 h2
   go_enter Tryz.func196, Tryz.ntmps196
   go_wp2
   go_ret
   exact ⟨rfl, rfl⟩
  ·
   have d2 : decide (q < 4) = false := decide_eq_false h2
   rw [decide_eq_false (show ¬ (0 ≤ q ∧ q ≤ 3) by omega)]
   clear h1 h2
   go_enter Tryz.func196, Tryz.ntmps196
   go_wp2
   go_ret
   exact ⟨rfl, rfl⟩
 ·
  have d1 : decide (0 ≤ q) = false := decide_eq_false h1
  rw [decide_eq_false (show ¬ (0 ≤ q ∧ q ≤ 3) by omega)]
  clear h1
  go_enter Tryz.func196, Tryz.ntmps196
  go_wp2
  go_ret
  exact ⟨rfl, rfl⟩
theorem ccFits (q r c b p h : Int) (w : World) : Calls Tryz.prog 194 #[.agg #[.int .i64 q, .int .i64 r, .int .i64 c, .int .i64 b, .int .i64 p, .int .i64 h]] w fun e w' => e = .returned (.bool (decide (0 ≤ q ∧ q ≤ 3) && (vOk r c b p && decide (0 ≤ h ∧ h ≤ 8)))) ∧ Below w.heap.size w w' := by
 obtain ⟨y, hy⟩ := mk_ (w.alloc (Obj.cells #[.int .i64 q, .int .i64 r, .int .i64 c, .int .i64 b, .int .i64 p, .int .i64 h] 148))
 have B0 : Below w.heap.size w y := by rw [hy]; exact below_new _
 have C0 : ∀ i v, (#[.int .i64 q, .int .i64 r, .int .i64 c, .int .i64 b, .int .i64 p, .int .i64 h] : Array Value)[i]? = some v → y.cell? ⟨w.heap.size, i, none⟩ = some v := by
  intro i v h
  rw [hy]
  have hi : i < 6 := (Array.getElem?_eq_some_iff.1 h).1
  rcases (by omega : i = 0 ∨ i = 1 ∨ i = 2 ∨ i = 3 ∨ i = 4 ∨ i = 5) with rfl | rfl | rfl | rfl | rfl | rfl <;> (cases h; simp [go_sem])
 have S0 : w.heap.size < y.heap.size := by rw [hy]; simp
 obtain ⟨R, hR⟩ := mk_ (decide (0 ≤ q ∧ q ≤ 3) && (vOk r c b p && decide (0 ≤ h ∧ h ≤ 8)))
 rw [← hR]
 go_enter Tryz.func194, Tryz.ntmps194
 go_wp2_with fail
 go_at_call 196
 rw [← hy]
 clear hy
 refine (canBeI q y).mono ?_
 rintro e y1 ⟨rfl, rfl⟩
 cases h1 : decide (0 ≤ q ∧ q ≤ 3) with
 | false =>
  have hN : Hid (R = false) := by unfold Hid; rw [hR, h1]; rfl
  clear hR h1
  go_wp2
  go_ret
  exact ⟨by rw [hN.out]; rfl, B0⟩
 | true =>
  have hR2 : Hid (R = (vOk r c b p && decide (0 ≤ h ∧ h ≤ 8))) := by unfold Hid; rw [hR, h1]; rfl
  clear hR h1
  have c1 := C0 1 _ rfl
  have c2 := C0 2 _ rfl
  have c3 := C0 3 _ rfl
  have c4 := C0 4 _ rfl
  go_wp2_with fail
  go_at_call 133
  refine (vOkI r c b p y1).mono ?_
  rintro e y2 ⟨rfl, k2⟩
  have B2 := B0.trans (k2.mono B0.size)
  have c5 : y2.cell? ⟨w.heap.size, 5, none⟩ = some (.int .i64 h) := (World.cell?_of_block (a := ⟨w.heap.size, 5, none⟩) (k2.block _ S0)).trans (C0 5 _ rfl)
  clear c1 c2 c3 c4 C0 k2
  cases h2 : vOk r c b p with
  | false =>
   have hN : Hid (R = false) := by unfold Hid; rw [hR2.out, h2]; rfl
   clear hR2 h2
   go_wp2
   go_ret
   exact ⟨by rw [hN.out]; rfl, B2⟩
  | true =>
   have hR3 : Hid (decide (0 ≤ h ∧ h ≤ 8) = R) := by unfold Hid; rw [hR2.out, h2]; rfl
   clear hR2 h2
   go_wp2_with fail
   go_at_call 134
   refine (hopsFitI h y2).mono ?_
   rintro e y3 ⟨rfl, rfl⟩
   rw [hR3.out]
   go_wp2
   go_ret
   exact ⟨rfl, B2⟩
theorem ccRec (q r c b p h : Int) (w : World) : Calls Tryz.prog 195 #[.agg #[.int .i64 q, .int .i64 r, .int .i64 c, .int .i64 b, .int .i64 p, .int .i64 h]] w fun e w' => e = .returned (.agg #[.int .i64 1, .int .i64 q, .int .i64 r, .int .i64 c, .int .i64 b, .int .i64 p, .int .i64 h, .bool false]) ∧ Below w.heap.size w w' := by
 have B0 := ((Below.refl w.heap.size w).alloc (Nat.le_refl _) (Obj.cells #[.int .i64 q, .int .i64 r, .int .i64 c, .int .i64 b, .int .i64 p, .int .i64 h] 148)).alloc (by simp) (Obj.cells #[.int .i64 1, .int .i64 q, .int .i64 r, .int .i64 c, .int .i64 b, .int .i64 p, .int .i64 h, .bool false] 80)
 go_enter Tryz.func195, Tryz.ntmps195
 go_wp2
 refine bodyPost_ret (v := .agg #[.int .i64 1, .int .i64 q, .int .i64 r, .int .i64 c, .int .i64 b, .int .i64 p, .int .i64 h, .bool false]) (by simp [results, Tryz.results195, go_sem, *]) rfl ⟨rfl, B0⟩
theorem tcFits (w : World) : Calls Tryz.prog 197 #[.agg #[]] w fun e w' => e = .returned (.bool true) ∧ Below w.heap.size w w' := by
 go_enter Tryz.func197, Tryz.ntmps197
 go_wp2
 go_ret
 exact ⟨rfl, below_new _⟩
theorem tcRec (w : World) : Calls Tryz.prog 198 #[.agg #[]] w fun e w' => e = .returned (.agg #[.int .i64 2, .int .i64 0, .int .i64 0, .int .i64 0, .int .i64 0, .int .i64 0, .int .i64 0, .bool false]) ∧ Below w.heap.size w w' := by
 have B0 := ((Below.refl w.heap.size w).alloc (Nat.le_refl _) (Obj.cells #[] 150)).alloc (by simp) (Obj.cells #[.int .i64 2, .int .i64 0, .int .i64 0, .int .i64 0, .int .i64 0, .int .i64 0, .int .i64 0, .bool false] 80)
 go_enter Tryz.func198, Tryz.ntmps198
 go_wp2
 refine bodyPost_ret (v := .agg #[.int .i64 2, .int .i64 0, .int .i64 0, .int .i64 0, .int .i64 0, .int .i64 0, .int .i64 0, .bool false]) (by simp [results, Tryz.results198, go_sem, *]) rfl ⟨rfl, B0⟩
theorem lcFits (q : Int) (up : Bool) (w : World) : Calls Tryz.prog 199 #[.agg #[.int .i64 q, .bool up]] w fun e w' => e = .returned (.bool (decide (0 ≤ q ∧ q ≤ 3))) ∧ Below w.heap.size w w' := by
 have B0 := below_new (w := w) (Obj.cells #[.int .i64 q, .bool up] 152)
 obtain ⟨R, hR⟩ : ∃ R, decide (0 ≤ q ∧ q ≤ 3) = R := ⟨_, rfl⟩
 rw [hR]
 replace hR : Hid _ := hR
 go_enter Tryz.func199, Tryz.ntmps199
 go_wp2_with fail
 go_at_call 196
 refine (canBeI q _).mono ?_
 rintro e y1 ⟨rfl, rfl⟩
 rw [hR.out]
 go_wp2
 go_ret
 exact ⟨rfl, B0⟩
theorem lcRec (q : Int) (up : Bool) (w : World) : Calls Tryz.prog 200 #[.agg #[.int .i64 q, .bool up]] w fun e w' => e = .returned (.agg #[.int .i64 3, .int .i64 q, .int .i64 0, .int .i64 0, .int .i64 0, .int .i64 0, .int .i64 0, .bool up]) ∧ Below w.heap.size w w' := by
 have B0 := ((Below.refl w.heap.size w).alloc (Nat.le_refl _) (Obj.cells #[.int .i64 q, .bool up] 152)).alloc (by simp) (Obj.cells #[.int .i64 3, .int .i64 q, .int .i64 0, .int .i64 0, .int .i64 0, .int .i64 0, .int .i64 0, .bool up] 80)
 go_enter Tryz.func200, Tryz.ntmps200
 go_wp2
 refine bodyPost_ret (v := .agg #[.int .i64 3, .int .i64 q, .int .i64 0, .int .i64 0, .int .i64 0, .int .i64 0, .int .i64 0, .bool up]) (by simp [results, Tryz.results200, go_sem, *]) rfl ⟨rfl, B0⟩
theorem app_at {P : Program} {w : World} {o : Oper} {a : Act} {K : Act → World → Prop} {Q : Exit → Act → World → Prop} (s x : Operand) (t : TypeId) (ho : o.op = .call { callee := .builtin .append, args := #[s, x], argTypes := #[t, t] })
  (base : Nat) (e : TypeId) (i : TypeInfo) (z : Value) (size bytes : Nat) (ht : P.underlying t = some (.slice e)) (hi : P.info? e = some i) (hz : i.zero = some z)
  (hsize : i.size = size) (hby : i.bytes = bytes) (hzs : z.cells.size = size) (hsz : 0 < size)
  (v : Value) (n : Nat) (xs : List Value) (hs : a.eval s = v) (hown : w.ownsRow base e size v n xs)
  (ad : Addr) (m c : Nat) (news : List Value) (hx : a.eval x = .slice (some ad) m c) (hl : news.length = m * size) (hnews : ∀ j u, news[j]? = some u → w.cell? (ad.add j) = some u) (h1 : ∀ u ∈ news, u.oneCell' = true)
  (h63 : n + m ≤ maxLen) (hbytes : (n + m) * bytes ≤ 140737488355328) (hbase : base ≤ w.heap.size)
  (h : ∀ v' w', w'.ownsRow base e size v' (n + m) (xs ++ news) → w.grownBy w' v.ownBlock → (v'.ownBlock = v.ownBlock ∨ v'.ownBlock = some w.heap.size) → K (a.put o.dst v') w') : o.wp P a w K Q := by
 obtain ⟨v', w', hr, h2, h3, h4, h5⟩ := run_append_own_at (P := P) w base t o.type e i z size bytes ht hi hz hsize hby hzs hsz v n xs hown ad m c news hl hnews h1 h63 hbytes hbase
 unfold Oper.wp execOp
 simp only [ho, resolve, invoke, builtin, Sem.run_bind, Sem.run_pure, Result.andThen_ok, List.map_toArray, List.map_cons, List.map_nil, hs, hx, hr]
 exact h v' w' h2 h3 h5
theorem app_none {P : Program} {w : World} {o : Oper} {a : Act} {K : Act → World → Prop} {Q : Exit → Act → World → Prop} (s x : Operand) (t : TypeId) (ho : o.op = .call { callee := .builtin .append, args := #[s, x], argTypes := #[t, t] })
  (base : Nat) (e : TypeId) (i : TypeInfo) (size : Nat) (ht : P.underlying t = some (.slice e)) (hi : P.info? e = some i)
  (v : Value) (n : Nat) (xs : List Value) (hs : a.eval s = v) (hown : w.ownsRow base e size v n xs) (hx : a.eval x = .slice none 0 0)
  (h : K (a.put o.dst v) w) : o.wp P a w K Q := by
 have hrun := run_append_owned_none (P := P) (w := w) base t o.type e i size ht hi v n xs hown
 unfold Oper.wp
 simp [execOp, ho, resolve, invoke, builtin, hs, hx, hrun, Result.andThen]
 exact h
theorem FView.news {X : Type} {enc : X → List Value} {w : World} {a : Addr} {L : List X} (h : FView enc w (some a) L) : ∀ j u, (fcells enc L)[j]? = some u → w.cell? (a.add j) = some u := by
 intro j u hu
 have hp : 0 < L.length := by
  cases L with
  | nil => simp [fcells] at hu
  | cons x r => simp
 obtain ⟨b, off, e, hc⟩ := h hp
 obtain rfl : a = ⟨b, off, none⟩ := by simpa using e
 rw [add_plain]
 exact hc j u hu
theorem FView.none_nil {X : Type} {enc : X → List Value} {w : World} {L : List X} (h : FView enc w none L) : L = [] := by
 cases L with
 | nil => rfl
 | cons a r => obtain ⟨b, off, e, _⟩ := h (by simp); cases e
theorem FOwn.capn {X : Type} {enc : X → List Value} {n : Nat} {T : TypeId} {base : Nat} {w : World} {ad : Option Addr} {len cap : Nat} {L : List X} (h : FOwn enc n T base w (.slice ad len cap) L) : ad = none → cap = 0 := by
 intro e
 rcases h.2 with ⟨q, _⟩ | ⟨g, c, cur, q, _⟩
 ·
  cases q; rfl
 ·
  cases e; simp at q
theorem FOwn.open_ {X : Type} {enc : X → List Value} {n : Nat} {T : TypeId} {base : Nat} {w : World} {v : Value} {L : List X} (h : FOwn enc n T base w v L) : ∃ ad cap, v = .slice ad L.length cap := by
 rcases h.2 with ⟨q, e⟩ | ⟨g, c, cur, q, _⟩
 ·
  exact ⟨none, 0, by rw [q, e]⟩
 ·
  exact ⟨_, _, q⟩
theorem fappO {P : Program} {X : Type} {enc : X → List Value} {n : Nat} (hn : ∀ x, (enc x).length = n) (h1 : ∀ L, ∀ u ∈ fcells enc L, u.oneCell' = true) {w : World} {o : Oper} {a : Act} {K : Act → World → Prop} {Q : Exit → Act → World → Prop} (s x : Operand) (t : TypeId) (ho : o.op = .call { callee := .builtin .append, args := #[s, x], argTypes := #[t, t] })
  (base : Nat) (e : TypeId) (i : TypeInfo) (z : Value) (bytes : Nat) (ht : P.underlying t = some (.slice e)) (hi : P.info? e = some i) (hz : i.zero = some z)
  (hsize : i.size = n) (hby : i.bytes = bytes) (hzs : z.cells.size = n) (hsz : 0 < n) (hb2 : bytes ≤ 1000)
  (v : Value) (M : List X) (hs : a.eval s = v) (hown : FOwn enc n e base w v M)
  (ad : Option Addr) (cap : Nat) (L : List X) (hx : a.eval x = .slice ad L.length cap) (hc : ad = none → cap = 0) (hv : FView enc w ad L)
  (hlen : M.length + L.length ≤ 3000000) (hbase : base ≤ w.heap.size)
  (h : ∀ v' w', FOwn enc n e base w' v' (M ++ L) → w.grownBy w' v.ownBlock → (v'.ownBlock = v.ownBlock ∨ v'.ownBlock = some w.heap.size) → K (a.put o.dst v') w') : o.wp P a w K Q := by
 cases ad with
 | none =>
  obtain rfl := hv.none_nil
  obtain rfl := hc rfl
  exact app_none s x t ho base e i n ht hi v M.length (fcells enc M) hs hown hx (h v w (by simpa using hown) ⟨rfl, rfl, rfl, Nat.le_refl _, fun _ _ _ => rfl⟩ (.inl rfl))
 | some q =>
  have hmul : (M.length + L.length) * bytes ≤ 3000000 * 1000 := Nat.mul_le_mul hlen hb2
  refine app_at s x t ho base e i z n bytes ht hi hz hsize hby hzs hsz v M.length (fcells enc M) hs hown q L.length cap (fcells enc L) hx (fcells_len hn L) hv.news (h1 L) (by unfold maxLen; omega) (by omega) hbase ?_
  intro v' w' o' g' e'
  exact h v' w' (FOwn.app o' rfl) g' e'
theorem fapp {P : Program} {X : Type} {enc : X → List Value} {n : Nat} (hn : ∀ x, (enc x).length = n) (h1 : ∀ L, ∀ u ∈ fcells enc L, u.oneCell' = true) {w : World} {o : Oper} {l : List Value} {ds : List Deferred} {K : Act → World → Prop} {Q : Exit → Act → World → Prop} (dd : Nat) (s x : Operand) (t : TypeId) (hd : o.dst = some dd) (ho : o.op = .call { callee := .builtin .append, args := #[s, x], argTypes := #[t, t] })
  (base : Nat) (e : TypeId) (i : TypeInfo) (z : Value) (bytes : Nat) (ht : P.underlying t = some (.slice e)) (hi : P.info? e = some i) (hz : i.zero = some z)
  (hsize : i.size = n) (hby : i.bytes = bytes) (hzs : z.cells.size = n) (hsz : 0 < n) (hb2 : bytes ≤ 1000)
  (v : Value) (M : List X) (hs : (Act.mk l.toArray ds).eval s = v) (hown : FOwn enc n e base w v M)
  (ad : Option Addr) (cap : Nat) (L : List X) (hx : (Act.mk l.toArray ds).eval x = .slice ad L.length cap) (hc : ad = none → cap = 0) (hv : FView enc w ad L)
  (hlen : M.length + L.length ≤ 3000000) (hbase : base ≤ w.heap.size)
  (h : ∀ v' w', FOwn enc n e base w' v' (M ++ L) → w.grownBy w' v.ownBlock → (v'.ownBlock = v.ownBlock ∨ v'.ownBlock = some w.heap.size) → K ⟨(l.set dd v').toArray, ds⟩ w') : o.wp P ⟨l.toArray, ds⟩ w K Q := by
 have hput : ∀ v', (Act.mk l.toArray ds).put o.dst v' = ⟨(l.set dd v').toArray, ds⟩ := fun v' => by rw [hd]; simp [Act.put]
 exact fappO hn h1 s x t ho base e i z bytes ht hi hz hsize hby hzs hsz hb2 v M hs hown ad cap L hx hc hv hlen hbase (fun v' w' a b c => by rw [hput]; exact h v' w' a b c)
theorem fappL {P : Program} {X : Type} {enc : X → List Value} {n : Nat} (hn : ∀ x, (enc x).length = n) (h1 : ∀ L, ∀ u ∈ fcells enc L, u.oneCell' = true) {w : World} {ops : Array Oper} {rest : List Oper} {o : Oper} {a : Act} {Q : Exit → Act → World → Prop} (hgd : o.guard = none) (s x : Operand) (t : TypeId) (ho : o.op = .call { callee := .builtin .append, args := #[s, x], argTypes := #[t, t] })
  (base : Nat) (e : TypeId) (i : TypeInfo) (z : Value) (bytes : Nat) (ht : P.underlying t = some (.slice e)) (hi : P.info? e = some i) (hz : i.zero = some z)
  (hsize : i.size = n) (hby : i.bytes = bytes) (hzs : z.cells.size = n) (hsz : 0 < n) (hb2 : bytes ≤ 1000)
  (v : Value) (M : List X) (hs : a.eval s = v) (hown : FOwn enc n e base w v M)
  (ad : Option Addr) (cap : Nat) (L : List X) (hx : a.eval x = .slice ad L.length cap) (hc : ad = none → cap = 0) (hv : FView enc w ad L)
  (hlen : M.length + L.length ≤ 3000000) (hbase : base ≤ w.heap.size)
  (h : ∀ v' w', FOwn enc n e base w' v' (M ++ L) → w.grownBy w' v.ownBlock → (v'.ownBlock = v.ownBlock ∨ v'.ownBlock = some w.heap.size) → wpList P ops Q rest (a.put o.dst v') w') : wpList P ops Q (o :: rest) a w := by
 refine wpList_plain hgd fun K hK => ?_
 exact fappO hn h1 s x t ho base e i z bytes ht hi hz hsize hby hzs hsz hb2 v M hs hown ad cap L hx hc hv hlen hbase (fun v' w' a b c => hK _ _ (h v' w' a b c))
theorem heap_newF (w : World) (o : Obj) : (w.alloc o).heap[w.heap.size]? = some o := by
 show (w.heap.push o)[w.heap.size]? = some o
 simp
theorem FOwn.empty {X : Type} {enc : X → List Value} {n : Nat} {T : TypeId} (w : World) : FOwn enc n T w.heap.size (w.alloc (Obj.cells #[] T)) (.slice (some ⟨w.heap.size, 0, none⟩) 0 0) ([] : List X) :=
 ⟨by simp [fcells], .inr ⟨w.heap.size, 0, #[], rfl, Nat.le_refl _, heap_newF w _, Nat.le_refl _, Nat.zero_le _, by simp, by simp [fcells]⟩⟩
def boEnc (x : Bool) : List Value := [.bool x]
theorem boEnc_len (x : Bool) : (boEnc x).length = 1 := rfl
theorem boEnc_ones (L : List Bool) : ∀ u ∈ fcells boEnc L, u.oneCell' = true := by
 induction L with
 | nil => intro u h; cases h
 | cons x L ih =>
  intro u h
  simp only [fcells, boEnc, List.mem_append, List.mem_cons, List.not_mem_nil, or_false] at h
  rcases h with rfl | h
  ·
   rfl
  ·
   exact ih u h
theorem boInfo : (Tryz.prog.info? 4).map (fun i => (i.zero, i.size, i.bytes)) = some (some (.bool false), 1, 1) := by kernel_rfl
theorem FView.oneB (w : World) (t : TypeId) (x : Bool) : FView boEnc (w.alloc (Obj.cells #[.bool x] t)) (some ⟨w.heap.size, 0, none⟩) [x] := by
 intro _
 refine ⟨w.heap.size, 0, rfl, fun j v hv => ?_⟩
 match j, hv with
 | 0, hv => cases hv; simp [go_sem]
 | j + 1, hv => simp [fcells, boEnc] at hv
theorem FView.toB {w : World} {ad : Option Addr} {L : List Bool} (h : FView boEnc w ad L) : ViewB w ad L.length (fun i => L.getD i false) := fun hp => by
 obtain ⟨b, off, e, _⟩ := h hp
 refine ⟨b, off, e, fun i hi => ?_⟩
 subst e
 have := h.at_ boEnc_len false hi 0 _ rfl
 rw [Nat.mul_one, Nat.add_zero] at this
 exact this
def gatesR (L : List Pt) : List Bool := L.map Pt.op
theorem gatesR_len (L : List Pt) : (gatesR L).length = L.length := List.length_map ..
theorem gatesR_at (L : List Pt) {k : Nat} (hk : k < L.length) : (gatesR L).getD k false = (L.getD k Pt.nil).op := by
 unfold gatesR; simp [List.getD, hk]
theorem gatesR_take (L : List Pt) {k : Nat} (hk : k < L.length) : gatesR (L.take (k + 1)) = gatesR (L.take k) ++ [(L.getD k Pt.nil).op] := by
 unfold gatesR
 rw [List.take_add_one, List.map_append]
 have e : L[k]?.toList = [L.getD k Pt.nil] := by simp [List.getD, hk]
 rw [e]; rfl
set_option maxHeartbeats 4000000 in
theorem inOkS (x : Ik) (w : World) : Calls Tryz.prog 74 #[.agg #[.int .i64 x.k, .int .i64 x.q, .int .i64 x.r, .int .i64 x.c, .int .i64 x.b, .int .i64 x.p, .int .i64 x.h, .bool x.up]] w fun e w' => e = .returned (.bool (inOk x)) ∧ Below w.heap.size w w' := by
 obtain ⟨k, q, r, c, b, p, h, up⟩ := x
 dsimp only
 obtain ⟨R, hR⟩ := mk_ (inOk ⟨k, q, r, c, b, p, h, up⟩)
 rw [← hR]
 by_cases h1 : k = 1
 ·
  subst h1
  have hR1 : Hid (R = (decide (0 ≤ q ∧ q ≤ 3) && (vOk r c b p && (decide (0 ≤ h ∧ h ≤ 8) && !up)))) := hR
  clear hR
  have B0 := below_new (w := w) (Obj.cells #[.int .i64 1, .int .i64 q, .int .i64 r, .int .i64 c, .int .i64 b, .int .i64 p, .int .i64 h, .bool up] 80)
  obtain ⟨y, hy⟩ := mk_ (w.alloc (Obj.cells #[.int .i64 1, .int .i64 q, .int .i64 r, .int .i64 c, .int .i64 b, .int .i64 p, .int .i64 h, .bool up] 80))
  rw [← hy] at B0
  have A0 : InAt y w.heap.size ⟨1, q, r, c, b, p, h, up⟩ := by rw [hy]; exact InAt.new w _ ⟨1, q, r, c, b, p, h, up⟩
  have S0 := A0.lt
  go_enter Tryz.func74, Tryz.ntmps74
  go_wp2_with fail
  go_at_call 46
  rw [← hy]
  clear hy
  refine (inB q 0 3 y).mono ?_
  rintro e y1 ⟨rfl, rfl⟩
  obtain ⟨a0, a1, a2, a3, a4, a5, a6, a7⟩ := A0
  have A0 : InAt y1 w.heap.size ⟨1, q, r, c, b, p, h, up⟩ := ⟨a0, a1, a2, a3, a4, a5, a6, a7⟩
  cases hF : decide (0 ≤ q ∧ q ≤ 3) with
  | false =>
   have hN : Hid (R = false) := by unfold Hid; rw [hR1.out, hF]; rfl
   clear hR1 hF
   go_wp2
   go_ret
   exact ⟨by rw [hN.out]; rfl, B0⟩
  | true =>
   have hR2 : Hid (R = (vOk r c b p && (decide (0 ≤ h ∧ h ≤ 8) && !up))) := by unfold Hid; rw [hR1.out, hF]; rfl
   clear hR1 hF
   go_wp2_with fail
   go_at_call 100
   refine (vOkS r c b p y1).mono ?_
   rintro e y2 ⟨rfl, k2⟩
   have B2 := B0.trans (k2.mono B0.size)
   have A2 := A0.below k2 S0
   clear a0 a1 a2 a3 a4 a5 a6 a7 A0 k2
   obtain ⟨a0, a1, a2, a3, a4, a5, a6, a7⟩ := A2
   cases hF : vOk r c b p with
   | false =>
    have hN : Hid (R = false) := by unfold Hid; rw [hR2.out, hF]; rfl
    clear hR2 hF
    go_wp2
    go_ret
    exact ⟨by rw [hN.out]; rfl, B2⟩
   | true =>
    have hR3 : Hid (R = (decide (0 ≤ h ∧ h ≤ 8) && !up)) := by unfold Hid; rw [hR2.out, hF]; rfl
    clear hR2 hF
    go_wp2_with fail
    go_at_call 46
    refine (inB h 0 8 y2).mono ?_
    rintro e y3 ⟨rfl, rfl⟩
    cases hF : decide (0 ≤ h ∧ h ≤ 8) with
    | false =>
     have hN : Hid (R = false) := by unfold Hid; rw [hR3.out, hF]; rfl
     clear hR3 hF
     go_wp2
     go_ret
     exact ⟨by rw [hN.out]; rfl, B2⟩
    | true =>
     have hN : Hid (R = !up) := by unfold Hid; rw [hR3.out, hF]; rfl
     clear hR3 hF
     go_wp2
     go_ret
     exact ⟨by rw [hN.out]; rfl, B2⟩
 have d1 : (k == 1) = false := by simpa using h1
 by_cases h3 : k = 3
 ·
  subst h3
  have hR1 : Hid (R = (decide (0 ≤ q ∧ q ≤ 3) && (decide (r = 0 ∧ c = 0 ∧ b = 0 ∧ p = 0) && (h == 0)))) := hR
  clear hR h1 d1
  have B0 := below_new (w := w) (Obj.cells #[.int .i64 3, .int .i64 q, .int .i64 r, .int .i64 c, .int .i64 b, .int .i64 p, .int .i64 h, .bool up] 80)
  obtain ⟨y, hy⟩ := mk_ (w.alloc (Obj.cells #[.int .i64 3, .int .i64 q, .int .i64 r, .int .i64 c, .int .i64 b, .int .i64 p, .int .i64 h, .bool up] 80))
  rw [← hy] at B0
  have A0 : InAt y w.heap.size ⟨3, q, r, c, b, p, h, up⟩ := by rw [hy]; exact InAt.new w _ ⟨3, q, r, c, b, p, h, up⟩
  have S0 := A0.lt
  go_enter Tryz.func74, Tryz.ntmps74
  go_wp2_with fail
  go_at_call 46
  rw [← hy]
  clear hy
  refine (inB q 0 3 y).mono ?_
  rintro e y1 ⟨rfl, rfl⟩
  obtain ⟨a0, a1, a2, a3, a4, a5, a6, a7⟩ := A0
  cases hF : decide (0 ≤ q ∧ q ≤ 3) with
  | false =>
   have hN : Hid (R = false) := by unfold Hid; rw [hR1.out, hF]; rfl
   clear hR1 hF
   go_wp2
   go_ret
   exact ⟨by rw [hN.out]; rfl, B0⟩
  | true =>
   have hR2 : Hid (R = (decide (r = 0 ∧ c = 0 ∧ b = 0 ∧ p = 0) && (h == 0))) := by unfold Hid; rw [hR1.out, hF]; rfl
   clear hR1 hF
   have eV : ∀ w_ : World, (binOp .eql 78 (.agg #[.int .i64 r, .int .i64 c, .int .i64 b, .int .i64 p]) (.agg #[.int .i64 0, .int .i64 0, .int .i64 0, .int .i64 0])).run Tryz.prog w_ = .ok (.bool (decide (r = 0 ∧ c = 0 ∧ b = 0 ∧ p = 0))) w_ := fun w_ => by
    have := eqV r c b p 0 0 0 0 w_
    go_simp
   cases hF : decide (r = 0 ∧ c = 0 ∧ b = 0 ∧ p = 0) with
   | false =>
    have hN : Hid (R = false) := by unfold Hid; rw [hR2.out, hF]; rfl
    rw [hF] at eV
    clear hR2 hF
    go_wp2
    go_ret
    exact ⟨by rw [hN.out]; rfl, B0⟩
   | true =>
    have hN : Hid (R = (h == 0)) := by unfold Hid; rw [hR2.out, hF]; rfl
    rw [hF] at eV
    clear hR2 hF
    go_wp2
    go_ret
    exact ⟨by rw [hN.out]; rfl, B0⟩
 have d3 : (k == 3) = false := by simpa using h3
 by_cases h2 : k = 2
 ·
  subst h2
  have hN : Hid (R = decide (q = 0 ∧ r = 0 ∧ c = 0 ∧ b = 0 ∧ p = 0 ∧ h = 0 ∧ up = false)) := hR
  clear hR h1 d1 h3 d3
  have eI : ∀ w_ : World, (binOp .eql 80 (.agg #[.int .i64 2, .int .i64 q, .int .i64 r, .int .i64 c, .int .i64 b, .int .i64 p, .int .i64 h, .bool up]) (.agg #[.int .i64 2, .int .i64 0, .int .i64 0, .int .i64 0, .int .i64 0, .int .i64 0, .int .i64 0, .bool false])).run Tryz.prog w_ = .ok (.bool R) w_ := fun w_ => by
   rw [hN.out]
   go_simp
   all_goals ((repeat' split) <;> first | (simp_all; done) | grind)
  clear hN
  have B0 := below_new (w := w) (Obj.cells #[.int .i64 2, .int .i64 q, .int .i64 r, .int .i64 c, .int .i64 b, .int .i64 p, .int .i64 h, .bool up] 80)
  obtain ⟨y, hy⟩ := mk_ (w.alloc (Obj.cells #[.int .i64 2, .int .i64 q, .int .i64 r, .int .i64 c, .int .i64 b, .int .i64 p, .int .i64 h, .bool up] 80))
  rw [← hy] at B0
  have A0 : InAt y w.heap.size ⟨2, q, r, c, b, p, h, up⟩ := by rw [hy]; exact InAt.new w _ ⟨2, q, r, c, b, p, h, up⟩
  have S0 := A0.lt
  go_enter Tryz.func74, Tryz.ntmps74
  go_upto_region 7 with fail
  rw [← hy]
  clear hy
  obtain ⟨a0, a1, a2, a3, a4, a5, a6, a7⟩ := A0
  go_wp2
  go_ret
  exact ⟨rfl, B0⟩
 have d2 : (k == 2) = false := by simpa using h2
 have hN : Hid (R = false) := by unfold Hid; rw [hR]; unfold inOk; rw [if_neg h1, if_neg h3, if_neg h2]
 clear hR h1 h2 h3
 have B0 := below_new (w := w) (Obj.cells #[.int .i64 k, .int .i64 q, .int .i64 r, .int .i64 c, .int .i64 b, .int .i64 p, .int .i64 h, .bool up] 80)
 obtain ⟨y, hy⟩ := mk_ (w.alloc (Obj.cells #[.int .i64 k, .int .i64 q, .int .i64 r, .int .i64 c, .int .i64 b, .int .i64 p, .int .i64 h, .bool up] 80))
 rw [← hy] at B0
 have A0 : InAt y w.heap.size ⟨k, q, r, c, b, p, h, up⟩ := by rw [hy]; exact InAt.new w _ ⟨k, q, r, c, b, p, h, up⟩
 have S0 := A0.lt
 go_enter Tryz.func74, Tryz.ntmps74
 go_wp2
 go_ret
 rw [← hy]
 exact ⟨by rw [hN.out]; rfl, B0⟩
theorem boEq (ad ad' : Option Addr) (cap cap' : Nat) (L : List Bool) (w : World) (h : FView boEnc w ad L) (h' : FView boEnc w ad' L) (hl : L.length ≤ 1048576) :
  Calls Tryz.prog 33 #[.slice ad L.length cap, .slice ad' L.length cap'] w fun e w' => e = .returned (.bool true) ∧ Below w.heap.size w w' := by
 refine (eqBools ad ad' L.length cap cap' _ w h.toB h'.toB hl).mono ?_
 rintro e w' ⟨rfl, n, rfl⟩
 exact ⟨rfl, ⟨rfl, rfl, rfl, Nat.le_refl _, fun _ _ => rfl⟩⟩
set_option maxHeartbeats 4000000 in
theorem gatesS12r (id : Int) (ad : Option Addr) (cap : Nat) (L : List Pt) (w : World) (hv : FView ptEnc w ad L) (hl : L.length ≤ 1048576) :
  Calls Tryz.prog 62 #[.agg #[.int .i64 id, .slice ad L.length cap]] w fun e w' => ∃ a c, e = .returned (.slice a L.length c) ∧ FOwn boEnc 1 4 w.heap.size w' (.slice a L.length c) (gatesR L) ∧ Below w.heap.size w w' := by
 obtain ⟨j0, hj, hj0, hj1, hj2⟩ := info_parts boInfo
 obtain ⟨y, hy⟩ := mk_ (w.alloc (Obj.cells #[.int .i64 id, .slice ad L.length cap] 69))
 have B0 : Below w.heap.size w y := by rw [hy]; exact below_new _
 have A : BrAt y w.heap.size id (.slice ad L.length cap) := by rw [hy]; exact BrAt.new w _ _ _
 have hB := hv.lt ptEnc_len (by omega)
 have hV := hv.below B0 hB
 have hB := hV.lt ptEnc_len (by omega)
 have S0 := A.lt
 clear hv
 obtain ⟨y2, hy2⟩ := mk_ (y.alloc (Obj.cells #[] 4))
 have O0 : FOwn boEnc 1 4 y.heap.size y2 (.slice (some ⟨y.heap.size, 0, none⟩) 0 0) (gatesR (L.take 0)) := by
  rw [hy2]; exact FOwn.empty y
 have B1 : Below y.heap.size y y2 := by rw [hy2]; exact below_new _
 go_enter Tryz.func62, Tryz.ntmps62
 go_upto_region 1 with fail
 rw [← hy]
 clear hy
 go_upto_region 2 with fail
 rw [← hy2]
 clear hy2
 go_wp2
 go_loopw [3, 4] (fun v q wr => ∃ k : Nat, k ≤ L.length ∧ q = .int .i64 (k : Int) ∧ FOwn boEnc 1 4 y.heap.size wr v (gatesR (L.take k)) ∧ Below y.heap.size y wr) (fun _ q _ => L.length - (intOf q).toNat)
 case atStart => exact ⟨0, Nat.zero_le _, rfl, O0, B1⟩
 case round =>
  obtain ⟨k, hk1, rfl, O, kb⟩ := hrel
  clear O0 B1
  have hA := A.below kb S0
  obtain ⟨x1, x2⟩ := hA
  by_cases hlt : k < L.length
  ·
   have hst := gatesR_take L hlt
   obtain ⟨b, off, rfl, _⟩ := hV (by omega)
   obtain ⟨h, hh⟩ : ∃ h, L.getD k Pt.nil = h := ⟨_, rfl⟩
   have hck : PtAtO wr b (off + k * 11) h := by
    rw [← hh]
    exact ptAtO_of ((hV.below kb hB).at_ ptEnc_len Pt.nil hlt)
   rw [hh] at hst
   have hop := hck.c10
   clear hck hh
   obtain ⟨M, hM⟩ : ∃ M, gatesR (L.take k) = M := ⟨_, rfl⟩
   have hMl : M.length ≤ k := by rw [← hM, gatesR_len]; simp; omega
   rw [hM] at O hst
   clear hM
   obtain ⟨ak, ck2, rfl⟩ := O.open_
   replace hst : Hid _ := hst
   have V1 := FView.oneB wr 4 h.op
   have kx : Below wr.heap.size wr (wr.alloc (Obj.cells #[.bool h.op] 4)) := below_new _
   have O4 := O.later kx
   have b4 := kb.trans (kx.mono kb.size)
   have s4 := b4.size
   clear kx
   go_wp2_with (first | (at_builtin; refine fappL boEnc_len boEnc_ones rfl _ _ 26 rfl y.heap.size 4 j0 (.bool false) 1 Tryz.underlying26 hj hj0 hj1 hj2 rfl (by decide) (by decide) (.slice ak M.length ck2) M rfl O4 (some ⟨wr.heap.size, 0, none⟩) 1 [h.op] rfl (fun e => by cases e) V1 ?z0 ?z1 ?_) | go_in)
   case z0 => first | omega | (simp; omega)
   case z1 => first | omega | (simp; omega)
   intro vZ wZ hownZ hgrowZ _
   have hob : ∀ q, (Value.slice ak M.length ck2).ownBlock = some q → y.heap.size ≤ q := fun q e => (O4.lt q e).1
   have bZ : Below y.heap.size y wZ := b4.grown hgrowZ (by exact s4) hob
   clear hgrowZ V1 O4 hob O b4
   go_wp2
   go_roundw
   case rel => exact ⟨k + 1, by omega, by go_num, by rw [hst.out]; exact hownZ, bZ⟩
   case measure => simp [intOf]; omega
  ·
   obtain rfl : k = L.length := by omega
   rw [List.take_length] at O
   obtain ⟨ak, ck2, rfl⟩ := O.open_
   have OZ := O.base B0.size
   rw [gatesR_len] at OZ ⊢
   have bZ := B0.trans (kb.mono B0.size)
   go_wp2
   go_ret
   exact ⟨_, _, rfl, OZ, bZ⟩
theorem gatesS12 (id : Int) (ad : Option Addr) (cap : Nat) (L : List Pt) (w : World) (hv : FView ptEnc w ad L) (hl : L.length ≤ 1048576) :
  Calls Tryz.prog 62 #[.agg #[.int .i64 id, .slice ad L.length cap]] w fun e w' => ∃ a c, e = .returned (.slice a (gatesR L).length c) ∧ FOwn boEnc 1 4 w.heap.size w' (.slice a (gatesR L).length c) (gatesR L) ∧ Below w.heap.size w w' := by
 rw [gatesR_len]
 exact gatesS12r id ad cap L w hv hl
set_option maxHeartbeats 4000000 in
theorem gatesI12r (id : Int) (ad : Option Addr) (cap : Nat) (L : List Pt) (w : World) (hv : FView ptEnc w ad L) (hl : L.length ≤ 1048576) :
  Calls Tryz.prog 66 #[.agg #[.int .i64 id, .slice ad L.length cap]] w fun e w' => ∃ a c, e = .returned (.slice a L.length c) ∧ FOwn boEnc 1 4 w.heap.size w' (.slice a L.length c) (gatesR L) ∧ Below w.heap.size w w' := by
 obtain ⟨i0, hi, hz0, hz1, hz2⟩ := info_parts boInfo
 obtain ⟨y, hy⟩ := mk_ (w.alloc (Obj.cells #[.int .i64 id, .slice ad L.length cap] 69))
 have B0 : Below w.heap.size w y := by rw [hy]; exact below_new _
 have A : BrAt y w.heap.size id (.slice ad L.length cap) := by rw [hy]; exact BrAt.new w _ _ _
 have hB := hv.lt ptEnc_len (by omega)
 have hV := hv.below B0 hB
 have hB := hV.lt ptEnc_len (by omega)
 have S0 := A.lt
 clear hv
 go_enter Tryz.func66, Tryz.ntmps66
 go_upto_region 1 with fail
 rw [← hy]
 clear hy
 have cc := A
 obtain ⟨a0, a1'⟩ := cc
 go_wp2_with (first | (refine wpList_make_full _ rfl _ _ 26 rfl y.heap.size 4 i0 (.bool false) 1 Tryz.underlying26 hi hz0 hz1 .i64 .i64 _ _ L.length rfl rfl rfl rfl ?c1 ?c2 ?c3 ?_))
 case c1 => rw [hz2]; omega
 case c2 => unfold maxLen; omega
 case c3 => exact Nat.le_refl _
 intro w1 hown hgrow
 have hgl : (gatesR L).length = L.length := gatesR_len L
 have F0 : FFill boEnc 1 4 y.heap.size w1 y.heap.size (gatesR L) 0 := FFill.start (by rw [hgl]; exact hown)
 have B1 : Below y.heap.size y w1 := (Below.refl _ _).grown hgrow (Nat.le_refl _) (by simp)
 clear hown hgrow a0 a1'
 have A1 := A.below B1 S0
 have cc := A1
 obtain ⟨a0, a1'⟩ := cc
 go_wp2
 clear a0 a1'
 go_loopw [13] (fun i wr => ∃ k : Nat, k ≤ L.length ∧ i = .int .i64 k ∧ FFill boEnc 1 4 y.heap.size wr y.heap.size (gatesR L) k ∧ Below y.heap.size y wr) (fun i _ => L.length - (intOf i).toNat)
 case atStart => exact ⟨0, Nat.zero_le _, rfl, F0, B1⟩
 case round =>
  obtain ⟨k, hk, rfl, F, B⟩ := hrel
  clear F0 B1 A1
  by_cases hlt : k < L.length
  ·
   obtain ⟨b, off, rfl, _⟩ := hV (by omega)
   obtain ⟨h, hh⟩ : ∃ h, L.getD k Pt.nil = h := ⟨_, rfl⟩
   have hck : PtAtO wr b (off + k * 11) h := by
    rw [← hh]
    exact ptAtO_of ((hV.below B hB).at_ ptEnc_len Pt.nil hlt)
   obtain ⟨c0, c1, c2, c3, c4, c5, c6, c7, c8, c9, c10⟩ := hck
   have hsz := F.lt
   obtain ⟨u, hu⟩ := mk_ (wr.alloc (Obj.cells #[.bool h.up, .bool h.has, .int .i64 h.r, .int .i64 h.c, .int .i64 h.b, .int .i64 h.p, .int .i64 h.h, .int .i64 h.l, .int .i64 h.ro, .int .i64 h.wa, .bool h.op] 113))
   have ku : Below wr.heap.size wr u := by rw [hu]; exact below_new _
   have G := F.keep (ku.block _ hsz.2)
   have B2 := B.trans (ku.mono (Nat.le_of_lt hsz.2))
   have U : PtAt u wr.heap.size h := by rw [hu]; exact ptAt_box wr _ _
   obtain ⟨v0, hv0⟩ := G.cell (k * 1) (by rw [hgl]; omega)
   have f0 := G.frozen (k * 1)
   rw [Nat.mul_one] at hv0 f0
   have G1 := G.step boEnc_len false (by rw [hgl]; exact hlt)
   have B3 := below_putAll (Nat.le_refl _) (boEnc h.op) (k * 1) B2
   rw [gatesR_at L hlt, hh] at G1
   simp only [boEnc, putAll, Nat.mul_one] at G1 B3
   clear F G B B2 hh hsz ku
   go_upto_region 5 with fail
   rw [← hu]
   clear hu c0 c1 c2 c3 c4 c5 c6 c7 c8 c9 c10
   obtain ⟨c0, c1, c2, c3, c4, c5, c6, c7, c8, c9, c10⟩ := U
   go_wp2
   go_roundw
   case rel => exact ⟨k + 1, by omega, by go_num, G1, B3⟩
   case measure => simp [intOf]; omega
  ·
   obtain rfl : k = L.length := by omega
   have OZ : FOwn boEnc 1 4 w.heap.size wr (.slice (some ⟨y.heap.size, 0, none⟩) L.length L.length) (gatesR L) := by
    have := FFill.done boEnc_len (L := gatesR L) (by rw [hgl]; exact F)
    rw [hgl] at this
    exact this.base B0.size
   have bZ := B0.trans (B.mono B0.size)
   go_wp2
   go_ret
   exact ⟨_, _, rfl, OZ, bZ⟩
theorem gatesI12 (id : Int) (ad : Option Addr) (cap : Nat) (L : List Pt) (w : World) (hv : FView ptEnc w ad L) (hl : L.length ≤ 1048576) :
  Calls Tryz.prog 66 #[.agg #[.int .i64 id, .slice ad L.length cap]] w fun e w' => ∃ a c, e = .returned (.slice a (gatesR L).length c) ∧ FOwn boEnc 1 4 w.heap.size w' (.slice a (gatesR L).length c) (gatesR L) ∧ Below w.heap.size w w' := by
 rw [gatesR_len]
 exact gatesI12r id ad cap L w hv hl
end Go.Proofs.YtnpiljegdiconabGreat
