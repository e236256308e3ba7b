import Derived.Laws.AppendOwn
import Derived.Maps.AppendAt
import Derived.Laws.AppendOwnNone
import Derived.Test.YtnpiljegdiconaaGreatQKWPort5
import Derived.Test.YtnpiljegdiconaaGreatQKWPort6
import Derived.Deep.Slices
namespace Go.Proofs.YtnpiljegdiconaaGreat
open Go.ChangeShapes Go.WideShapes Go.ChangeAt Go.RowKit
open Go.ChangeMaps (open_string shut_string)
set_option linter.unusedVariables false
set_option maxRecDepth 100000
def fcells {X : Type} (enc : X → List Value) : List X → List Value
 | [] => []
 | x :: L => enc x ++ fcells enc L
theorem fcells_len {X : Type} {enc : X → List Value} {n : Nat} (hn : ∀ x, (enc x).length = n) (L : List X) : (fcells enc L).length = L.length * n := by
 induction L with
 | nil => simp [fcells]
 | cons x L ih => simp only [fcells, List.length_append, hn, ih, List.length_cons, Nat.add_mul]; omega
theorem fcells_app {X : Type} {enc : X → List Value} (A B : List X) : fcells enc (A ++ B) = fcells enc A ++ fcells enc B := by
 induction A with
 | nil => rfl
 | cons x A ih => simp [fcells, ih]
theorem fcells_at {X : Type} {enc : X → List Value} {n : Nat} (hn : ∀ x, (enc x).length = n) (d : X) (L : List X) : ∀ (i j : Nat), i < L.length → j < n → (fcells enc L)[i * n + j]? = (enc (L.getD i d))[j]? := by
 induction L with
 | nil => intro i j h; simp at h
 | cons x L ih =>
  intro i j hi hj;cases i with
  | zero => simp only [fcells, Nat.zero_mul, Nat.zero_add, List.getD_cons_zero]; rw [List.getElem?_append_left (by rw [hn]; exact hj)]
  | succ i =>
   simp only [fcells, List.getD_cons_succ];rw [List.getElem?_append_right (by rw [hn, Nat.add_mul]; omega), hn, show (i + 1) * n + j - n = i * n + j by rw [Nat.add_mul]; omega];exact ih i j (by simpa using hi) hj
def FView {X : Type} (enc : X → List Value) (w : World) (ad : Option Addr) (L : List X) : Prop :=
 0 < L.length → ∃ b off, ad = some ⟨b, off, none⟩ ∧ ∀ j v, (fcells enc L)[j]? = some v → w.cell? ⟨b, off + j, none⟩ = some v
theorem FView.nil {X : Type} {enc : X → List Value} {w : World} {ad : Option Addr} : FView enc w ad [] := fun h => absurd h (by simp)
theorem FView.lt {X : Type} {enc : X → List Value} {n : Nat} (hn : ∀ x, (enc x).length = n) (h0 : 0 < n) {w : World} {ad : Option Addr} {L : List X} (h : FView enc w ad L) : ∀ a, ad = some a → 0 < L.length → a.block < w.heap.size := by
 intro a e hp;obtain ⟨b, off, e2, hc⟩ := h hp;rw [e2] at e;cases e
 have hl : 0 < (fcells enc L).length := by rw [fcells_len hn]; exact Nat.mul_pos hp h0
 exact World.block_lt_of_cell? w _ (hc 0 _ (List.getElem?_eq_getElem hl))
theorem FView.carry {X : Type} {enc : X → List Value} {w w' : World} {ad : Option Addr} {L : List X} (h : FView enc w ad L) (hb : ∀ a, ad = some a → 0 < L.length → w'.heap[a.block]? = w.heap[a.block]?) : FView enc w' ad L :=
 fun hp => by
  obtain ⟨b, off, e, hc⟩ := h hp
  exact ⟨b, off, e, fun j v hv => (World.cell?_of_block (a := ⟨b, off + j, none⟩) (hb ⟨b, off, none⟩ e hp)).trans (hc j v hv)⟩
theorem FView.below {X : Type} {enc : X → List Value} {w w' : World} {ad : Option Addr} {L : List X} {B : Nat} (h : FView enc w ad L) (k : Below B w w') (hb : ∀ a, ad = some a → 0 < L.length → a.block < B) : FView enc w' ad L :=
 h.carry fun a e hp => k.block _ (hb a e hp)
theorem FView.at_ {X : Type} {enc : X → List Value} {n : Nat} (hn : ∀ x, (enc x).length = n) (d : X) {w : World} {b off : Nat} {L : List X} (h : FView enc w (some ⟨b, off, none⟩) L) {i : Nat} (hi : i < L.length) : ∀ j v, (enc (L.getD i d))[j]? = some v → w.cell? ⟨b, off + i * n + j, none⟩ = some v := by
 intro j v hv;obtain ⟨b', off', e, hc⟩ := h (by omega);simp only [Option.some.injEq, Addr.mk.injEq, and_true] at e;obtain ⟨rfl, rfl⟩ := e;have hj : j < n := by
  rw [← hn (L.getD i d)];exact (List.getElem?_eq_some_iff.1 hv).1
 have := hc (i * n + j) v ((fcells_at hn d L i j hi hj).trans hv);rw [Nat.add_assoc];exact this
def putAll (w : World) (g : Nat) : Nat → List Value → World
 | _, [] => w
 | o, v :: vs => putAll (w.setCell ⟨g, o, none⟩ v) g (o + 1) vs
def setAll (xs : List Value) : Nat → List Value → List Value
 | _, [] => xs
 | o, v :: vs => setAll (xs.set o v) (o + 1) vs
theorem setAll_at (vs : List Value) : ∀ (xs : List Value) (o j : Nat), o + vs.length ≤ xs.length → (setAll xs o vs)[j]? = if o ≤ j ∧ j < o + vs.length then vs[j - o]? else xs[j]? := by
 induction vs with
 | nil => intro xs o j h; rw [if_neg (by simp)]; rfl
 | cons v vs ih =>
  intro xs o j h;simp only [setAll, List.length_cons] at h ⊢;rw [ih (xs.set o v) (o + 1) j (by simp; omega)];by_cases h1 : o = j
  ·
   subst h1;rw [if_neg (by omega), if_pos (by omega), List.getElem?_set_self (by omega)];simp
  by_cases h2 : o + 1 ≤ j ∧ j < o + 1 + vs.length
  ·
   rw [if_pos h2, if_pos (by omega), show j - o = (j - (o + 1)) + 1 by omega, List.getElem?_cons_succ]
  rw [if_neg h2, if_neg (by omega), List.getElem?_set_ne h1]
theorem setAll_cells {X : Type} {enc : X → List Value} {n : Nat} (hn : ∀ x, (enc x).length = n) (h0 : 0 < n) (d : X) (L : List X) (i : Nat) (hi : i < L.length) (x : X) : setAll (fcells enc L) (i * n) (enc x) = fcells enc (L.set i x) := by
 have hle : i * n + n ≤ L.length * n := by
  have := Nat.mul_le_mul_right n (show i + 1 ≤ L.length from hi);rw [Nat.add_mul] at this;omega
 apply List.ext_getElem?
 intro j;rw [setAll_at _ _ _ _ (by rw [fcells_len hn, hn]; exact hle), hn];by_cases hj : j < L.length * n
 ·
  have e : j = j / n * n + j % n := by rw [Nat.mul_comm]; exact (Nat.div_add_mod j n).symm
  have hq : j / n < L.length := Nat.div_lt_of_lt_mul (by rw [Nat.mul_comm]; exact hj);have hr : j % n < n := Nat.mod_lt _ h0;have r1 : (fcells enc (L.set i x))[j]? = (enc ((L.set i x).getD (j / n) d))[j % n]? := by
   conv => lhs; rw [e]
   exact fcells_at hn d _ _ _ (by simpa using hq) hr
  have r2 : (fcells enc L)[j]? = (enc (L.getD (j / n) d))[j % n]? := by
   conv => lhs; rw [e]
   exact fcells_at hn d _ _ _ hq hr
  rw [r1, r2];by_cases hi2 : j / n = i
  ·
   have hjm : i * n + j % n = j := by rw [← hi2]; exact e.symm
   rw [if_pos (by omega), show j - i * n = j % n by omega, hi2];simp [List.getD, hi]
  have hno : ¬ (i * n ≤ j ∧ j < i * n + n) := by
   rintro ⟨a1, a2⟩;apply hi2
   rw [Nat.div_eq_of_lt_le]
   ·
    exact a1
   rw [Nat.add_mul]; omega
  rw [if_neg hno];simp [List.getD, List.getElem?_set_ne (Ne.symm hi2)]
 have l1 : (fcells enc L)[j]? = none := List.getElem?_eq_none (by rw [fcells_len hn]; omega);have l2 : (fcells enc (L.set i x))[j]? = none := List.getElem?_eq_none (by rw [fcells_len hn]; simp; omega);rw [l1, l2, if_neg (by omega)]
def FOwn {X : Type} (enc : X → List Value) (n : Nat) (T : TypeId) (base : Nat) (w : World) (v : Value) (L : List X) : Prop := w.ownsRow base T n v L.length (fcells enc L)
theorem FOwn.keep {X : Type} {enc : X → List Value} {n : Nat} {T : TypeId} {base : Nat} {w w' : World} {v : Value} {L : List X} (h : FOwn enc n T base w v L) (k : ∀ g, v.ownBlock = some g → w'.heap[g]? = w.heap[g]?) : FOwn enc n T base w' v L := by
 obtain ⟨h1, h2⟩ := h;refine ⟨h1, ?_⟩;rcases h2 with q | ⟨g, cap, cur, rfl, hb, hg, r⟩
 ·
  exact .inl q
 exact .inr ⟨g, cap, cur, rfl, hb, (k g rfl).trans hg, r⟩
theorem FOwn.lt {X : Type} {enc : X → List Value} {n : Nat} {T : TypeId} {base : Nat} {w : World} {v : Value} {L : List X} (h : FOwn enc n T base w v L) : ∀ k, v.ownBlock = some k → base ≤ k ∧ k < w.heap.size := World.ownsRow.lt h
theorem FOwn.below {X : Type} {enc : X → List Value} {n : Nat} {T : TypeId} {base B : Nat} {w w' : World} {v : Value} {L : List X} (h : FOwn enc n T base w v L) (k : Below B w w') (hB : ∀ g, v.ownBlock = some g → g < B) : FOwn enc n T base w' v L := h.keep fun g e => k.block g (hB g e)
theorem FOwn.later {X : Type} {enc : X → List Value} {n : Nat} {T : TypeId} {base : Nat} {w w' : World} {v : Value} {L : List X} (h : FOwn enc n T base w v L) (k : Below w.heap.size w w') : FOwn enc n T base w' v L := h.below k fun g e => (h.lt g e).2
theorem FOwn.view {X : Type} {enc : X → List Value} {n : Nat} {T : TypeId} {base : Nat} {w : World} {ad : Option Addr} {len cap : Nat} {L : List X} (h : FOwn enc n T base w (.slice ad len cap) L) : len = L.length ∧ FView enc w ad L := by
 obtain ⟨h1, h2⟩ := h;rcases h2 with ⟨e, e0⟩ | ⟨g, c, cur, e, hb, hg, hc, hm, hs, ht⟩
 ·
  cases e
  exact ⟨e0.symm, fun hp => absurd hp (by omega)⟩
 simp only [Value.slice.injEq] at e;obtain ⟨rfl, rfl, rfl⟩ := e;refine ⟨rfl, fun hp => ⟨g, 0, rfl, fun j v hv => ?_⟩⟩;have hj : j < L.length * n := by rw [← h1]; exact (List.getElem?_eq_some_iff.1 hv).1
 have own : w.ownsRow base T n (.slice (some ⟨g, 0, none⟩) L.length cap) L.length (fcells enc L) := ⟨h1, .inr ⟨g, cap, cur, rfl, hb, hg, hc, hm, hs, ht⟩⟩;rw [Nat.zero_add, own.cellAt j hj];exact hv
theorem own_putAll {base : Nat} {T : TypeId} {n g m cap : Nat} (vs : List Value) : ∀ {w : World} {xs : List Value} (o : Nat), w.ownsRow base T n (.slice (some ⟨g, 0, none⟩) m cap) m xs → o + vs.length ≤ m * n → (putAll w g o vs).ownsRow base T n (.slice (some ⟨g, 0, none⟩) m cap) m (setAll xs o vs) := by
 induction vs with
 | nil => intro w xs o h _; exact h
 | cons v vs ih =>
  intro w xs o h hl;simp only [putAll, setAll, List.length_cons] at hl ⊢;exact ih (o + 1) (h.stored o v).1 (by omega)
theorem FOwn.set {X : Type} {enc : X → List Value} {n : Nat} (hn : ∀ x, (enc x).length = n) (h0 : 0 < n) {T : TypeId} {base : Nat} {w : World} {g cap : Nat} {L : List X} (h : FOwn enc n T base w (.slice (some ⟨g, 0, none⟩) L.length cap) L) {i : Nat} (hi : i < L.length) (x : X) : FOwn enc n T base (putAll w g (i * n) (enc x)) (.slice (some ⟨g, 0, none⟩) L.length cap) (L.set i x) := by
 have hle : i * n + n ≤ L.length * n := by
  have := Nat.mul_le_mul_right n (show i + 1 ≤ L.length from hi);rw [Nat.add_mul] at this;omega
 have := own_putAll (enc x) (i * n) (show w.ownsRow base T n _ L.length (fcells enc L) from h) (by rw [hn]; exact hle);rw [setAll_cells hn h0 x L i hi x] at this;unfold FOwn;rw [List.length_set];exact this
theorem FOwn.app {X : Type} {enc : X → List Value} {n : Nat} {T : TypeId} {base : Nat} {w : World} {v : Value} {L M : List X} {m : Nat} (h : w.ownsRow base T n v m (fcells enc L ++ fcells enc M)) (hm : m = L.length + M.length) : FOwn enc n T base w v (L ++ M) := by
 unfold FOwn;rw [fcells_app, List.length_append, ← hm];exact h
theorem FOwn.nil {X : Type} {enc : X → List Value} {n : Nat} {T : TypeId} {base : Nat} {w : World} : FOwn enc n T base w (.slice none 0 0) ([] : List X) := ⟨by simp [fcells], .inl ⟨rfl, rfl⟩⟩
theorem heap_putAll {g : Nat} (vs : List Value) : ∀ (w : World) (o k : Nat), k ≠ g → (putAll w g o vs).heap[k]? = w.heap[k]? := by
 induction vs with
 | nil => intro w o k _; rfl
 | cons v vs ih => intro w o k hk; simp only [putAll]; rw [ih _ _ k hk, Below.heap_setCell _ _ _ _ hk]
theorem size_putAll {g : Nat} (vs : List Value) : ∀ (w : World) (o : Nat), (putAll w g o vs).heap.size = w.heap.size := by
 induction vs with
 | nil => intro w o; rfl
 | cons v vs ih => intro w o; simp only [putAll]; rw [ih]; simp
theorem below_putAll {B g : Nat} {a : World} (hB : B ≤ g) (vs : List Value) : ∀ {w : World} (o : Nat), Below B a w → Below B a (putAll w g o vs) := by
 induction vs with
 | nil => intro w o h; exact h
 | cons v vs ih => intro w o h; exact ih (o + 1) (h.setCell hB v)
theorem FOwn.cell {X : Type} {enc : X → List Value} {n : Nat} (hn : ∀ x, (enc x).length = n) (d : X) {T : TypeId} {base : Nat} {w : World} {g cap : Nat} {L : List X} (h : FOwn enc n T base w (.slice (some ⟨g, 0, none⟩) L.length cap) L) {i : Nat} (hi : i < L.length) : ∀ j v, (enc (L.getD i d))[j]? = some v → w.cell? ⟨g, i * n + j, none⟩ = some v := by
 intro j v hv;have := h.view.2.at_ hn d hi j v hv;rw [Nat.zero_add] at this;exact this
theorem FOwn.frozen {X : Type} {enc : X → List Value} {n : Nat} {T : TypeId} {base : Nat} {w : World} {g cap : Nat} {L : List X} (h : FOwn enc n T base w (.slice (some ⟨g, 0, none⟩) L.length cap) L) (j : Nat) : w.frozen? ⟨g, j, none⟩ = false := World.ownsRow.frozenAt h j
def markd {X : Type} (mk : Nat → X) (L : List X) (k : Nat) : List X := (List.range k).map mk ++ L.drop k
theorem markd_len {X : Type} {mk : Nat → X} {L : List X} {k : Nat} (h : k ≤ L.length) : (markd mk L k).length = L.length := by simp [markd]; omega
theorem markd_zero {X : Type} {mk : Nat → X} {L : List X} : markd mk L 0 = L := by simp [markd]
theorem markd_all {X : Type} {mk : Nat → X} {L : List X} : markd mk L L.length = (List.range L.length).map mk := by simp [markd]
theorem markd_set {X : Type} {mk : Nat → X} {L : List X} {k : Nat} (h : k < L.length) : (markd mk L k).set k (mk k) = markd mk L (k + 1) := by
 apply List.ext_getElem?
 intro j;unfold markd;by_cases h1 : j < k
 ·
  rw [List.getElem?_set_ne (by omega), List.getElem?_append_left (by simp; omega), List.getElem?_append_left (by simp; omega)];simp [h1, Nat.lt_succ_of_lt h1]
 by_cases h2 : j = k
 ·
  subst h2;rw [List.getElem?_set_self (by simp; omega), List.getElem?_append_left (by simp)];simp
 rw [List.getElem?_set_ne (by omega), List.getElem?_append_right (by simp; omega), List.getElem?_append_right (by simp; omega)];simp only [List.length_map, List.length_range, List.getElem?_drop];congr 1
 omega
theorem FOwn.base {X : Type} {enc : X → List Value} {n : Nat} {T : TypeId} {base base' : Nat} {w : World} {v : Value} {L : List X} (h : FOwn enc n T base w v L) (hb : base' ≤ base) : FOwn enc n T base' w v L := by
 obtain ⟨h1, h2⟩ := h;refine ⟨h1, ?_⟩;rcases h2 with q | ⟨g, cap, cur, e, hg, r⟩
 ·
  exact .inl q
 exact .inr ⟨g, cap, cur, e, Nat.le_trans hb hg, r⟩
theorem app_at {P : Program} {w : World} {o : Oper} {a : Act} {K : Act → World → Prop} {Q : Exit → Act → World → Prop} (s x : Operand) (t : TypeId) (ho : o.op = .call { callee := .builtin .append, args := #[s, x], argTypes := #[t, t] })
  (base : Nat) (e : TypeId) (i : TypeInfo) (z : Value) (size bytes : Nat) (ht : P.underlying t = some (.slice e)) (hi : P.info? e = some i) (hz : i.zero = some z)
  (hsize : i.size = size) (hby : i.bytes = bytes) (hzs : z.cells.size = size) (hsz : 0 < size)
  (v : Value) (n : Nat) (xs : List Value) (hs : a.eval s = v) (hown : w.ownsRow base e size v n xs)
  (ad : Addr) (m c : Nat) (news : List Value) (hx : a.eval x = .slice (some ad) m c) (hl : news.length = m * size) (hnews : ∀ j u, news[j]? = some u → w.cell? (ad.add j) = some u) (h1 : ∀ u ∈ news, u.oneCell' = true)
  (h63 : n + m ≤ maxLen) (hbytes : (n + m) * bytes ≤ 140737488355328) (hbase : base ≤ w.heap.size)
  (h : ∀ v' w', w'.ownsRow base e size v' (n + m) (xs ++ news) → w.grownBy w' v.ownBlock → (v'.ownBlock = v.ownBlock ∨ v'.ownBlock = some w.heap.size) → K (a.put o.dst v') w') : o.wp P a w K Q := by
 obtain ⟨v', w', hr, h2, h3, h4, h5⟩ := run_append_own_at (P := P) w base t o.type e i z size bytes ht hi hz hsize hby hzs hsz v n xs hown ad m c news hl hnews h1 h63 hbytes hbase;unfold Oper.wp execOp;simp only [ho, resolve, invoke, builtin, Sem.run_bind, Sem.run_pure, Result.andThen_ok, List.map_toArray, List.map_cons, List.map_nil, hs, hx, hr];exact h v' w' h2 h3 h5
theorem app_none {P : Program} {w : World} {o : Oper} {a : Act} {K : Act → World → Prop} {Q : Exit → Act → World → Prop} (s x : Operand) (t : TypeId) (ho : o.op = .call { callee := .builtin .append, args := #[s, x], argTypes := #[t, t] })
  (base : Nat) (e : TypeId) (i : TypeInfo) (size : Nat) (ht : P.underlying t = some (.slice e)) (hi : P.info? e = some i)
  (v : Value) (n : Nat) (xs : List Value) (hs : a.eval s = v) (hown : w.ownsRow base e size v n xs) (hx : a.eval x = .slice none 0 0)
  (h : K (a.put o.dst v) w) : o.wp P a w K Q := by
 have hrun := run_append_owned_none (P := P) (w := w) base t o.type e i size ht hi v n xs hown;unfold Oper.wp;simp [execOp, ho, resolve, invoke, builtin, hs, hx, hrun, Result.andThen]
 exact h
theorem FView.news {X : Type} {enc : X → List Value} {w : World} {a : Addr} {L : List X} (h : FView enc w (some a) L) : ∀ j u, (fcells enc L)[j]? = some u → w.cell? (a.add j) = some u := by
 intro j u hu;have hp : 0 < L.length := by
  cases L with
  | nil => simp [fcells] at hu
  | cons x r => simp
 obtain ⟨b, off, e, hc⟩ := h hp;obtain rfl : a = ⟨b, off, none⟩ := by simpa using e
 rw [add_plain];exact hc j u hu
theorem FView.none_nil {X : Type} {enc : X → List Value} {w : World} {L : List X} (h : FView enc w none L) : L = [] := by
 cases L with
 | nil => rfl
 | cons a r => obtain ⟨b, off, e, _⟩ := h (by simp); cases e
theorem FOwn.capn {X : Type} {enc : X → List Value} {n : Nat} {T : TypeId} {base : Nat} {w : World} {ad : Option Addr} {len cap : Nat} {L : List X} (h : FOwn enc n T base w (.slice ad len cap) L) : ad = none → cap = 0 := by
 intro e;rcases h.2 with ⟨q, _⟩ | ⟨g, c, cur, q, _⟩
 ·
  cases q; rfl
 cases e; simp at q
theorem FOwn.open_ {X : Type} {enc : X → List Value} {n : Nat} {T : TypeId} {base : Nat} {w : World} {v : Value} {L : List X} (h : FOwn enc n T base w v L) : ∃ ad cap, v = .slice ad L.length cap := by
 rcases h.2 with ⟨q, e⟩ | ⟨g, c, cur, q, _⟩
 ·
  exact ⟨none, 0, by rw [q, e]⟩
 exact ⟨_, _, q⟩
theorem fappO {P : Program} {X : Type} {enc : X → List Value} {n : Nat} (hn : ∀ x, (enc x).length = n) (h1 : ∀ L, ∀ u ∈ fcells enc L, u.oneCell' = true) {w : World} {o : Oper} {a : Act} {K : Act → World → Prop} {Q : Exit → Act → World → Prop} (s x : Operand) (t : TypeId) (ho : o.op = .call { callee := .builtin .append, args := #[s, x], argTypes := #[t, t] })
  (base : Nat) (e : TypeId) (i : TypeInfo) (z : Value) (bytes : Nat) (ht : P.underlying t = some (.slice e)) (hi : P.info? e = some i) (hz : i.zero = some z)
  (hsize : i.size = n) (hby : i.bytes = bytes) (hzs : z.cells.size = n) (hsz : 0 < n) (hb2 : bytes ≤ 1000)
  (v : Value) (M : List X) (hs : a.eval s = v) (hown : FOwn enc n e base w v M)
  (ad : Option Addr) (cap : Nat) (L : List X) (hx : a.eval x = .slice ad L.length cap) (hc : ad = none → cap = 0) (hv : FView enc w ad L)
  (hlen : M.length + L.length ≤ 3000000) (hbase : base ≤ w.heap.size)
  (h : ∀ v' w', FOwn enc n e base w' v' (M ++ L) → w.grownBy w' v.ownBlock → (v'.ownBlock = v.ownBlock ∨ v'.ownBlock = some w.heap.size) → K (a.put o.dst v') w') : o.wp P a w K Q := by
 cases ad with
 | none =>
  obtain rfl := hv.none_nil;obtain rfl := hc rfl;exact app_none s x t ho base e i n ht hi v M.length (fcells enc M) hs hown hx (h v w (by simpa using hown) ⟨rfl, rfl, rfl, Nat.le_refl _, fun _ _ _ => rfl⟩ (.inl rfl))
 | some q =>
  have hmul : (M.length + L.length) * bytes ≤ 3000000 * 1000 := Nat.mul_le_mul hlen hb2;refine app_at s x t ho base e i z n bytes ht hi hz hsize hby hzs hsz v M.length (fcells enc M) hs hown q L.length cap (fcells enc L) hx (fcells_len hn L) hv.news (h1 L) (by unfold maxLen; omega) (by omega) hbase ?_;intro v' w' o' g' e';exact h v' w' (FOwn.app o' rfl) g' e'
theorem fapp {P : Program} {X : Type} {enc : X → List Value} {n : Nat} (hn : ∀ x, (enc x).length = n) (h1 : ∀ L, ∀ u ∈ fcells enc L, u.oneCell' = true) {w : World} {o : Oper} {l : List Value} {ds : List Deferred} {K : Act → World → Prop} {Q : Exit → Act → World → Prop} (dd : Nat) (s x : Operand) (t : TypeId) (hd : o.dst = some dd) (ho : o.op = .call { callee := .builtin .append, args := #[s, x], argTypes := #[t, t] })
  (base : Nat) (e : TypeId) (i : TypeInfo) (z : Value) (bytes : Nat) (ht : P.underlying t = some (.slice e)) (hi : P.info? e = some i) (hz : i.zero = some z)
  (hsize : i.size = n) (hby : i.bytes = bytes) (hzs : z.cells.size = n) (hsz : 0 < n) (hb2 : bytes ≤ 1000)
  (v : Value) (M : List X) (hs : (Act.mk l.toArray ds).eval s = v) (hown : FOwn enc n e base w v M)
  (ad : Option Addr) (cap : Nat) (L : List X) (hx : (Act.mk l.toArray ds).eval x = .slice ad L.length cap) (hc : ad = none → cap = 0) (hv : FView enc w ad L)
  (hlen : M.length + L.length ≤ 3000000) (hbase : base ≤ w.heap.size)
  (h : ∀ v' w', FOwn enc n e base w' v' (M ++ L) → w.grownBy w' v.ownBlock → (v'.ownBlock = v.ownBlock ∨ v'.ownBlock = some w.heap.size) → K ⟨(l.set dd v').toArray, ds⟩ w') : o.wp P ⟨l.toArray, ds⟩ w K Q := by
 have hput : ∀ v', (Act.mk l.toArray ds).put o.dst v' = ⟨(l.set dd v').toArray, ds⟩ := fun v' => by rw [hd]; simp [Act.put]
 exact fappO hn h1 s x t ho base e i z bytes ht hi hz hsize hby hzs hsz hb2 v M hs hown ad cap L hx hc hv hlen hbase (fun v' w' a b c => by rw [hput]; exact h v' w' a b c)
theorem fappL {P : Program} {X : Type} {enc : X → List Value} {n : Nat} (hn : ∀ x, (enc x).length = n) (h1 : ∀ L, ∀ u ∈ fcells enc L, u.oneCell' = true) {w : World} {ops : Array Oper} {rest : List Oper} {o : Oper} {a : Act} {Q : Exit → Act → World → Prop} (hgd : o.guard = none) (s x : Operand) (t : TypeId) (ho : o.op = .call { callee := .builtin .append, args := #[s, x], argTypes := #[t, t] })
  (base : Nat) (e : TypeId) (i : TypeInfo) (z : Value) (bytes : Nat) (ht : P.underlying t = some (.slice e)) (hi : P.info? e = some i) (hz : i.zero = some z)
  (hsize : i.size = n) (hby : i.bytes = bytes) (hzs : z.cells.size = n) (hsz : 0 < n) (hb2 : bytes ≤ 1000)
  (v : Value) (M : List X) (hs : a.eval s = v) (hown : FOwn enc n e base w v M)
  (ad : Option Addr) (cap : Nat) (L : List X) (hx : a.eval x = .slice ad L.length cap) (hc : ad = none → cap = 0) (hv : FView enc w ad L)
  (hlen : M.length + L.length ≤ 3000000) (hbase : base ≤ w.heap.size)
  (h : ∀ v' w', FOwn enc n e base w' v' (M ++ L) → w.grownBy w' v.ownBlock → (v'.ownBlock = v.ownBlock ∨ v'.ownBlock = some w.heap.size) → wpList P ops Q rest (a.put o.dst v') w') : wpList P ops Q (o :: rest) a w := by
 refine wpList_plain hgd fun K hK => ?_
 exact fappO hn h1 s x t ho base e i z bytes ht hi hz hsize hby hzs hsz hb2 v M hs hown ad cap L hx hc hv hlen hbase (fun v' w' a b c => hK _ _ (h v' w' a b c))
theorem heap_newF (w : World) (o : Obj) : (w.alloc o).heap[w.heap.size]? = some o := by
 show (w.heap.push o)[w.heap.size]? = some o;simp
theorem FOwn.empty {X : Type} {enc : X → List Value} {n : Nat} {T : TypeId} (w : World) : FOwn enc n T w.heap.size (w.alloc (Obj.cells #[] T)) (.slice (some ⟨w.heap.size, 0, none⟩) 0 0) ([] : List X) :=
 ⟨by simp [fcells], .inr ⟨w.heap.size, 0, #[], rfl, Nat.le_refl _, heap_newF w _, Nat.le_refl _, Nat.zero_le _, by simp, by simp [fcells]⟩⟩
theorem region_by {P : Program} {md : Region.Mode} {ops : Array Oper} {Q : Exit → Act → World → Prop} {S : World → Prop} {ds : List Deferred} {k : Nat} (I : Nat → Array Bool → List Value → World → Prop)
  (step : ∀ n listed l W, I (n + 1) listed l W → ∃ rs, Region.ready md ops listed = rs ∧ rs ≠ [] ∧ ∀ i, i ∈ rs → ∀ K : Act → World → Prop, (∀ l' W', S W' → I n (listed.setIfInBounds i true) l' W' → K ⟨l'.toArray, ds⟩ W') → wpOp P ops Q i K ⟨l.toArray, ds⟩ W)
  (fin : ∀ listed l W, I 0 listed l W → wpAnyH P md ops Q S k listed ⟨l.toArray, ds⟩ W) :
  ∀ n listed l W, I n listed l W → wpAnyH P md ops Q S (n + k) listed ⟨l.toArray, ds⟩ W
 | 0, listed, l, W, h => by rw [Nat.zero_add]; exact fin listed l W h
 | n + 1, listed, l, W, h => by
  obtain ⟨rs, hr, hne, hs⟩ := step n listed l W h
  rw [show n + 1 + k = (n + k) + 1 by omega]
  exact wpAnyH_all hr hne (fun i hi => hs i hi _ (fun l' W' hS hI => ⟨hS, region_by I step fin n _ l' W' hI⟩))
theorem FOwn.apart {X Y : Type} {e1 : X → List Value} {e2 : Y → List Value} {n1 n2 : Nat} {T1 T2 : TypeId} {b1 b2 : Nat} {w : World} {v1 v2 : Value} {L1 : List X} {L2 : List Y} (h1 : FOwn e1 n1 T1 b1 w v1 L1) (h2 : FOwn e2 n2 T2 b2 w v2 L2) (hT : T1 ≠ T2) {g : Nat} (e : v1.ownBlock = some g) : v2.ownBlock ≠ some g := by
 intro e2';rcases h1.2 with ⟨q, _⟩ | ⟨g1, c1, u1, q1, _, o1, _⟩
 ·
  rw [q] at e; cases e
 rcases h2.2 with ⟨q, _⟩ | ⟨g2, c2, u2, q2, _, o2, _⟩
 ·
  rw [q] at e2'; cases e2'
 rw [q1] at e;rw [q2] at e2';cases e
 cases e2'
 rw [o1] at o2;simp only [Option.some.injEq, Obj.cells.injEq] at o2;exact hT o2.2.1
end Go.Proofs.YtnpiljegdiconaaGreat
namespace Go.Proofs.YtnpiljegdiconaaGreat
open Go.ChangeShapes Go.WideShapes Go.ChangeAt Go.RowKit
open Go.ChangeMaps (open_string shut_string)
set_option linter.unusedVariables false
set_option maxRecDepth 100000
def Pt.nil : Pt := ⟨false, false, 0, 0, 0, 0, 0, 0, 0, 0, false⟩
theorem pOk_nil : pOk Pt.nil = true := by decide
def bOk (id : Int) (L : List Pt) : Bool := decide (1 ≤ id ∧ id ≤ 9) && (decide (1 ≤ L.length ∧ L.length ≤ 4) && L.all pOk)
theorem bOk_all {id : Int} {L : List Pt} (h : bOk id L = true) : (1 ≤ id ∧ id ≤ 9) ∧ (1 ≤ L.length ∧ L.length ≤ 4) ∧ ∀ i, pOk (L.getD i Pt.nil) = true := by
 simp only [bOk, Bool.and_eq_true, decide_eq_true_eq, List.all_eq_true] at h;refine ⟨h.1, h.2.1, fun i => ?_⟩;by_cases hi : i < L.length
 ·
  have : L.getD i Pt.nil = L[i] := by simp [List.getD, hi]
  rw [this];exact h.2.2 _ (List.getElem_mem hi)
 have : L.getD i Pt.nil = Pt.nil := by simp [List.getD, List.getElem?_eq_none (by omega : L.length ≤ i)]
 rw [this];exact pOk_nil
def cand (id : Int) (x : Pt) : Bool := x.has && (!(x.b == id) && (decide (x.r < id) && (decide (x.c < 20) && decide (x.h < 8))))
def vBetter (x y : Pt) : Bool := vLt x.r x.c x.b x.p y.r y.c y.b y.p
def bestTo (id : Int) (L : List Pt) : Nat → Option Nat
 | 0 => none
 | n + 1 => match bestTo id L n with
  | none => if cand id (L.getD n Pt.nil) then some n else none
  | some k => if cand id (L.getD n Pt.nil) && vBetter (L.getD n Pt.nil) (L.getD k Pt.nil) then some n else some k
theorem bestTo_some {id : Int} {L : List Pt} {n k : Nat} (h : bestTo id L n = some k) : k < n ∧ cand id (L.getD k Pt.nil) = true := by
 induction n generalizing k with
 | zero => cases h
 | succ n ih =>
  simp only [bestTo] at h;cases hb : bestTo id L n with
  | none =>
   rw [hb] at h;simp only [] at h;cases hc : cand id (L.getD n Pt.nil) with
   | false => rw [hc] at h; cases h
   | true =>
    rw [hc] at h;cases h
    exact ⟨by omega, hc⟩
  | some m =>
   rw [hb] at h;simp only [] at h;split at h
   ·
    rename_i q
    cases h
    simp only [Bool.and_eq_true] at q;exact ⟨by omega, q.1⟩
   cases h
   obtain ⟨a, b⟩ := ih hb;exact ⟨by omega, b⟩
def rootO (id : Int) (L : List Pt) : Option Nat := if bOk id L then bestTo id L L.length else none
theorem rootO_some {id : Int} {L : List Pt} {k : Nat} (h : rootO id L = some k) : bOk id L = true ∧ k < L.length ∧ cand id (L.getD k Pt.nil) = true := by
 unfold rootO at h;cases hb : bOk id L with
 | false => simp [hb] at h
 | true =>
  simp only [hb, if_true] at h;exact ⟨rfl, bestTo_some h⟩
def ownR (id : Int) (L : List Pt) (port : Int) : Int × Int × Int × Int :=
 if bOk id L && decide (0 ≤ port ∧ port < (L.length : Int)) then (match rootO id L with
  | none => (id, 0, id, port)
  | some k => ((L.getD k Pt.nil).r, (L.getD k Pt.nil).c + 1, id, port)) else (0, 0, 0, 0)
def hopsR (id : Int) (L : List Pt) : Int := match rootO id L with
 | none => 0
 | some k => (L.getD k Pt.nil).h + 1
def roleR (id : Int) (L : List Pt) (i : Nat) : Int :=
 if rootO id L = some i then 1 else if (L.getD i Pt.nil).has && vLt (L.getD i Pt.nil).r (L.getD i Pt.nil).c (L.getD i Pt.nil).b (L.getD i Pt.nil).p (ownR id L i).1 (ownR id L i).2.1 (ownR id L i).2.2.1 (ownR id L i).2.2.2 then 3 else 2
def turnUp (x : Pt) (role : Int) : Pt := if x.up then turnR x role else x
def decideR (id : Int) (L : List Pt) : List Pt := if bOk id L then (List.range L.length).map fun i => turnUp (L.getD i Pt.nil) (roleR id L i) else L
theorem decideR_len (id : Int) (L : List Pt) : (decideR id L).length = L.length := by unfold decideR; split <;> simp
def tickW (x : Pt) : Int := if (x.ro = 1 ∨ x.ro = 2) ∧ 0 < x.wa then x.wa - 1 else x.wa
def tickP (x : Pt) : Pt := ⟨(fadeR x).up, (fadeR x).has, (fadeR x).r, (fadeR x).c, (fadeR x).b, (fadeR x).p, (fadeR x).h, (fadeR x).l, (fadeR x).ro, tickW (fadeR x), raOp (fadeR x).ro (tickW (fadeR x))⟩
theorem fadeR_keeps (x : Pt) : (fadeR x).up = x.up ∧ (fadeR x).ro = x.ro ∧ (fadeR x).wa = x.wa ∧ (fadeR x).op = x.op := by
 unfold fadeR;split
 ·
  split
  ·
   exact ⟨rfl, rfl, rfl, rfl⟩
  exact ⟨rfl, rfl, rfl, rfl⟩
 exact ⟨rfl, rfl, rfl, rfl⟩
theorem pOk_parts {x : Pt} : pOk x = true ↔ ((0 ≤ x.ro ∧ x.ro ≤ 3) ∧ x.up = raUp x.ro ∧ x.op = raOp x.ro x.wa ∧ (0 ≤ x.wa ∧ x.wa ≤ 4) ∧ fitsB x = true) := by
 simp [pOk, raIs]
def ptEnc (x : Pt) : List Value := [.bool x.up, .bool x.has, .int .i64 x.r, .int .i64 x.c, .int .i64 x.b, .int .i64 x.p, .int .i64 x.h, .int .i64 x.l, .int .i64 x.ro, .int .i64 x.wa, .bool x.op]
theorem ptEnc_len (x : Pt) : (ptEnc x).length = 11 := rfl
theorem ptEnc_ones (L : List Pt) : ∀ u ∈ fcells ptEnc L, u.oneCell' = true := by
 induction L with
 | nil => intro u h; cases h
 | cons x L ih =>
  intro u h;simp only [fcells, ptEnc, List.mem_append, List.mem_cons, List.not_mem_nil, or_false] at h;rcases h with (rfl | rfl | rfl | rfl | rfl | rfl | rfl | rfl | rfl | rfl | rfl) | h
  ·
   rfl
  ·
   rfl
  ·
   rfl
  ·
   rfl
  ·
   rfl
  ·
   rfl
  ·
   rfl
  ·
   rfl
  ·
   rfl
  ·
   rfl
  ·
   rfl
  exact ih u h
structure PtAtO (w : World) (b o : Nat) (x : Pt) : Prop where
 c0 : w.cell? ⟨b, o, none⟩ = some (.bool x.up)
 c1 : w.cell? ⟨b, o + 1, none⟩ = some (.bool x.has)
 c2 : w.cell? ⟨b, o + 2, none⟩ = some (.int .i64 x.r)
 c3 : w.cell? ⟨b, o + 3, none⟩ = some (.int .i64 x.c)
 c4 : w.cell? ⟨b, o + 4, none⟩ = some (.int .i64 x.b)
 c5 : w.cell? ⟨b, o + 5, none⟩ = some (.int .i64 x.p)
 c6 : w.cell? ⟨b, o + 6, none⟩ = some (.int .i64 x.h)
 c7 : w.cell? ⟨b, o + 7, none⟩ = some (.int .i64 x.l)
 c8 : w.cell? ⟨b, o + 8, none⟩ = some (.int .i64 x.ro)
 c9 : w.cell? ⟨b, o + 9, none⟩ = some (.int .i64 x.wa)
 c10 : w.cell? ⟨b, o + 10, none⟩ = some (.bool x.op)
theorem ptAtO_of {w : World} {b o : Nat} {x : Pt} (h : ∀ j v, (ptEnc x)[j]? = some v → w.cell? ⟨b, o + j, none⟩ = some v) : PtAtO w b o x := ⟨h 0 _ rfl, h 1 _ rfl, h 2 _ rfl, h 3 _ rfl, h 4 _ rfl, h 5 _ rfl, h 6 _ rfl, h 7 _ rfl, h 8 _ rfl, h 9 _ rfl, h 10 _ rfl⟩
theorem ptPut (w : World) (g o : Nat) (x : Pt) : putAll w g o (ptEnc x) = (((((((((((w.setCell ⟨g, o, none⟩ (.bool x.up)).setCell ⟨g, o + 1, none⟩ (.bool x.has)).setCell ⟨g, o + 2, none⟩ (.int .i64 x.r)).setCell ⟨g, o + 3, none⟩ (.int .i64 x.c)).setCell ⟨g, o + 4, none⟩ (.int .i64 x.b)).setCell ⟨g, o + 5, none⟩ (.int .i64 x.p)).setCell ⟨g, o + 6, none⟩ (.int .i64 x.h)).setCell ⟨g, o + 7, none⟩ (.int .i64 x.l)).setCell ⟨g, o + 8, none⟩ (.int .i64 x.ro)).setCell ⟨g, o + 9, none⟩ (.int .i64 x.wa)).setCell ⟨g, o + 10, none⟩ (.bool x.op)) := rfl
theorem ptInfo : (Tryz.prog.info? 109).map (fun i => (i.zero, i.size, i.bytes)) = some (some (.agg #[.bool false, .bool false, .int .i64 0, .int .i64 0, .int .i64 0, .int .i64 0, .int .i64 0, .int .i64 0, .int .i64 0, .int .i64 0, .bool false]), 11, 80) := by kernel_rfl
structure BrAt (w : World) (q : Nat) (id : Int) (v : Value) : Prop where
 c0 : w.cell? ⟨q, 0, none⟩ = some (.int .i64 id)
 c1 : w.cell? ⟨q, 1, none⟩ = some v
theorem BrAt.keep {w w' : World} {q : Nat} {id : Int} {v : Value} (h : BrAt w q id v) (k : w'.heap[q]? = w.heap[q]?) : BrAt w' q id v :=
 ⟨(World.cell?_of_block (a := ⟨q, 0, none⟩) k).trans h.c0, (World.cell?_of_block (a := ⟨q, 1, none⟩) k).trans h.c1⟩
theorem BrAt.below {w w' : World} {q n : Nat} {id : Int} {v : Value} (h : BrAt w q id v) (k : Below n w w') (hq : q < n) : BrAt w' q id v := h.keep (k.block q hq)
theorem BrAt.lt {w : World} {q : Nat} {id : Int} {v : Value} (h : BrAt w q id v) : q < w.heap.size := World.block_lt_of_cell? w _ h.c0
theorem BrAt.new (w : World) (t : TypeId) (id : Int) (v : Value) : BrAt (w.alloc (Obj.cells #[.int .i64 id, v] t)) w.heap.size id v := by
 refine ⟨?_, ?_⟩ <;> simp [go_sem]
theorem BrAt.alloc {w : World} {q : Nat} {id : Int} {v : Value} (h : BrAt w q id v) (o : Obj) : BrAt (w.alloc o) q id v := h.keep (Below.heap_alloc w o q h.lt)
theorem below_new {w : World} (o : Obj) : Below w.heap.size w (w.alloc o) := (Below.refl _ _).alloc (Nat.le_refl _) _
structure BBox (w : World) (q : Nat) (id : Int) (v : Value) : Prop where
 at_ : BrAt w q id v
 fr : ∀ i, w.frozen? ⟨q, i, none⟩ = false
theorem BBox.keep {w w' : World} {q : Nat} {id : Int} {v : Value} (h : BBox w q id v) (k : w'.heap[q]? = w.heap[q]?) : BBox w' q id v :=
 ⟨h.at_.keep k, fun i => (World.frozen?_of_block (a := ⟨q, i, none⟩) k).trans (h.fr i)⟩
theorem BBox.lt {w : World} {q : Nat} {id : Int} {v : Value} (h : BBox w q id v) : q < w.heap.size := h.at_.lt
theorem BBox.below {w w' : World} {q n : Nat} {id : Int} {v : Value} (h : BBox w q id v) (k : Below n w w') (hq : q < n) : BBox w' q id v := h.keep (k.block q hq)
theorem BBox.new (w : World) (t : TypeId) (id : Int) (v : Value) : BBox (w.alloc (Obj.cells #[.int .i64 id, v] t)) w.heap.size id v := ⟨BrAt.new w t id v, fun i => by simp [go_sem]⟩
theorem BBox.put {w : World} {q : Nat} {id : Int} {v : Value} (h : BBox w q id v) (id' : Int) (v' : Value) : BBox ((w.setCell ⟨q, 0, none⟩ (.int .i64 id')).setCell ⟨q, 1, none⟩ v') q id' v' := by
 have e1 : (w.setCell ⟨q, 0, none⟩ (.int .i64 id')).cell? ⟨q, 1, none⟩ = some v := (pset_else (by decide)).trans h.at_.c1;refine ⟨⟨(pset_else (by decide)).trans (pset_same h.at_.c0), pset_same e1⟩, fun i => ?_⟩;rw [World.frozen?_setCell, World.frozen?_setCell]; exact h.fr i
theorem pall_no {L : List Pt} {k : Nat} (h : k < L.length) (hq : pOk (L.getD k Pt.nil) = false) : L.all pOk = false := by
 rw [List.all_eq_false];exact ⟨L[k], List.getElem_mem h, by rw [show L.getD k Pt.nil = L[k] by simp [List.getD, h]] at hq; simp [hq]⟩
theorem pall_yes {L : List Pt} (h : ∀ j, j < L.length → pOk (L.getD j Pt.nil) = true) : L.all pOk = true := by
 rw [List.all_eq_true];intro x hx;obtain ⟨i, hi, rfl⟩ := List.getElem_of_mem hx;have := h i hi;rwa [show L.getD i Pt.nil = L[i] by simp [List.getD, hi]] at this
set_option maxHeartbeats 1000000 in
theorem bOkS (id : Int) (ad : Option Addr) (cap : Nat) (L : List Pt) (w : World) (hv : FView ptEnc w ad L) (hl : L.length ≤ 1048576) :
  Calls Tryz.prog 81 #[.agg #[.int .i64 id, .slice ad L.length cap]] w fun e w' => e = .returned (.bool (bOk id L)) ∧ Below w.heap.size w w' := by
 have hB := hv.lt ptEnc_len (by omega);obtain ⟨y, hy⟩ : ∃ y, y = w.alloc (Obj.cells #[.int .i64 id, .slice ad L.length cap] 56) := ⟨_, rfl⟩;have B0 : Below w.heap.size w y := by rw [hy]; exact below_new _
 have A0 : BrAt y w.heap.size id (.slice ad L.length cap) := by rw [hy]; exact BrAt.new w _ _ _
 have S0 := A0.lt;have hv := hv.below B0 hB;have hB := hv.lt ptEnc_len (by omega);obtain ⟨R, hR⟩ : ∃ R, R = bOk id L := ⟨_, rfl⟩;rw [← hR];replace hR : Hid _ := hR;go_enter Tryz.func81, Tryz.ntmps81
 go_wp2
 rw [← hy];clear hy;go_loopw [3] (fun i wr => ∃ k : Nat, i = .int .i64 (k : Int) ∧ k ≤ L.length ∧ Hid (∀ j, j < k → pOk (L.getD j Pt.nil) = true) ∧ Below y.heap.size y wr) (fun i _ => L.length - (intOf i).toNat)
 case atStart => exact ⟨0, rfl, Nat.zero_le _, fun j hj => absurd hj (by omega), Below.refl _ _⟩
 case round =>
  obtain ⟨k, rfl, hk, hF, hb⟩ := hrel;obtain ⟨a0, a1⟩ := A0.below hb S0;by_cases hlt : k < L.length
  ·
   obtain ⟨b, off, rfl, _⟩ := hv (by omega);obtain ⟨h, hh⟩ : ∃ h, L.getD k Pt.nil = h := ⟨_, rfl⟩;have hck : PtAtO wr b (off + k * 11) h := by
    rw [← hh];exact ptAtO_of ((hv.below hb hB).at_ ptEnc_len Pt.nil hlt)
   obtain ⟨c0, c1, c2, c3, c4, c5, c6, c7, c8, c9, c10⟩ := hck;replace hh : Hid _ := hh;clear hB hv;go_wp2_with fail
   go_at_call 142
   refine (pOkS h wr).mono ?_;rintro e w3 ⟨rfl, k3⟩;have b3 := hb.trans (k3.mono hb.size);by_cases hq : pOk h = true
   ·
    rw [hq];go_wp2
    go_roundw
    case rel =>
     refine ⟨k + 1, by go_num, by omega, fun j hj => ?_, b3⟩;by_cases e : j = k
     ·
      rw [e, hh.out]; exact hq
     exact hF.out j (by omega)
    case measure => simp [intOf]; omega
   have hq' : pOk h = false := by simpa using hq
   rw [hq'];have hC : Hid (R = false) := by
    unfold Hid; rw [hR.out, bOk, pall_no hlt (by rw [hh.out]; exact hq')]; simp
   clear hR;go_wp2
   go_ret
   exact ⟨by rw [hC.out]; rfl, B0.trans (b3.mono B0.size)⟩
  obtain rfl : k = L.length := by omega
  have hP := pall_yes hF.out;have B1 := B0.trans (hb.mono B0.size);by_cases h1 : 1 ≤ id ∧ id ≤ 9
  ·
   have d1 : decide (1 ≤ id ∧ id ≤ 9) = true := decide_eq_true h1;have hC : Hid (R = decide (1 ≤ (L.length : Int) ∧ (L.length : Int) ≤ 4)) := by
    unfold Hid; rw [hR.out, bOk, hP, d1, Bool.true_and, Bool.and_true]; exact decide_eq_decide.2 (by omega)
   clear hR hP h1;go_wp2_with fail
   go_at_call 65
   refine (inB id 1 9 wr).mono ?_;rintro e w4 ⟨rfl, rfl⟩;rw [d1];go_wp2_with fail
   go_at_call 65
   refine (inB L.length 1 4 w4).mono ?_;rintro e w5 ⟨rfl, rfl⟩;rw [← hC.out];go_wp2
   go_ret
   exact ⟨rfl, B1⟩
  have d1 : decide (1 ≤ id ∧ id ≤ 9) = false := decide_eq_false h1;have hC : Hid (R = false) := by
   unfold Hid; rw [hR.out, bOk, d1]; simp
  clear hR hP h1;go_wp2_with fail
  go_at_call 65
  refine (inB id 1 9 wr).mono ?_;rintro e w4 ⟨rfl, rfl⟩;rw [d1];go_wp2
  go_ret
  exact ⟨by rw [hC.out]; rfl, B1⟩
theorem cand_up {id : Int} {x : Pt} (h : pOk x = true) : (x.up && cand id x) = cand id x := by
 cases hh : x.has
 ·
  simp [cand, hh]
 rw [(pOk_has h hh).1]; rfl
theorem and255 (n : Int) : bits .and .i64 n 255 = n % 256 := by
 have h255 : (BitVec.ofInt 64 255).toNat = 2 ^ 8 - 1 := by decide
 have key : (BitVec.ofInt 64 n &&& BitVec.ofInt 64 255).toNat = (n % ((2 ^ 64 : Nat) : Int)).toNat % 2 ^ 8 := by
  rw [BitVec.toNat_and, BitVec.toNat_ofInt, h255, Nat.and_two_pow_sub_one_eq_mod]
 show IntKind.i64.wrap ((BitVec.ofInt 64 n &&& BitVec.ofInt 64 255).toNat : Nat) = n % 256;rw [key, IntKind.wrap_i64];omega
def Cur (w : World) (cb : Nat) (ad : Option Addr) (len cap : Nat) : Prop :=
 ∃ i h : Int, 0 ≤ i ∧ i ≤ len ∧ w.heap[cb]? = some (.cells #[.slice ad len cap, .int .i64 i, .int .i64 h] 143 (0, 0))
theorem Cur.carry {w w' : World} {cb : Nat} {ad : Option Addr} {len cap : Nat} (h : Cur w cb ad len cap) (e : w'.heap[cb]? = w.heap[cb]?) : Cur w' cb ad len cap := by
 obtain ⟨i, h, a, b, c⟩ := h;exact ⟨i, h, a, b, e.trans c⟩
theorem Cur.lt {w : World} {cb : Nat} {ad : Option Addr} {len cap : Nat} (h : Cur w cb ad len cap) : cb < w.heap.size := by
 obtain ⟨_, _, _, _, c⟩ := h;exact (Array.getElem?_eq_some_iff.1 c).1
theorem cu_trans {a b c : World} {r : Option Nat} (h : a.grownBy b r) (k : b.grownBy c r) : a.grownBy c r :=
 ⟨k.os.trans h.os, k.tape.trans h.tape, k.output.trans h.output, Nat.le_trans h.size k.size, fun j hj hne => (k.block j (Nat.lt_of_lt_of_le hj h.size) hne).trans (h.block j hj hne)⟩
theorem grown_refl (a : World) (r : Option Nat) : a.grownBy a r := ⟨rfl, rfl, rfl, Nat.le_refl _, fun _ _ _ => rfl⟩
theorem grown_drewN {a b : World} {r : Option Nat} (h : a.grownBy b r) (n : Nat) : a.grownBy (b.drewN n) r := ⟨h.os, h.tape, h.output, h.size, h.block⟩
theorem cu_set {a b : World} {g : Nat} (h : a.grownBy b (some g)) (o : Nat) (v : Value) : a.grownBy (b.setCell ⟨g, o, none⟩ v) (some g) :=
 ⟨h.os, h.tape, h.output, by simpa using h.size, fun j hj hne => (Below.heap_setCell _ _ _ _ (fun e => hne (by rw [e]))).trans (h.block j hj hne)⟩
set_option maxHeartbeats 2000000 in
theorem drawByte (cb : Nat) (ad : Option Addr) (len cap : Nat) (f : Nat → Int) (w : World) (hc : Cur w cb ad len cap) (hv : View w ad len f) (hne : ∀ a, ad = some a → 0 < len → a.block ≠ cb) (hl : len ≤ 1048576) (hf : ∀ i, 0 ≤ f i ∧ f i ≤ 255) :
  Calls Tryz.prog 133 #[.pointer (some ⟨cb, 0, none⟩)] w fun e w' => ∃ x, e = .returned (.int .i64 x) ∧ 0 ≤ x ∧ x ≤ 255 ∧ Cur w' cb ad len cap ∧ w.grownBy w' (some cb) := by
 obtain ⟨i, h, hi0, hi1, hh⟩ := hc;have hcell := fun j => cell_of_row w cb j _ _ _ hh
 have c0 : w.cell? ⟨cb, 0, none⟩ = some (.slice ad len cap) := by rw [hcell 0]; rfl
 have c1 : w.cell? ⟨cb, 1, none⟩ = some (.int .i64 i) := by rw [hcell 1]; rfl
 have c2 : w.cell? ⟨cb, 2, none⟩ = some (.int .i64 h) := by rw [hcell 2]; rfl
 have z1 : w.frozen? ⟨cb, 1, none⟩ = false := frozen_of_row w cb 1 _ _ hh;have z2 : w.frozen? ⟨cb, 2, none⟩ = false := frozen_of_row w cb 2 _ _ hh;clear hcell;have h255 : ∀ n : Int, bits BinOp.and IntKind.i64 n 255 = n % 256 := and255;by_cases hlt : i < len
 ·
  obtain ⟨b, off, rfl, hcv⟩ := hv (by omega);have hbn : b ≠ cb := hne _ rfl (by omega);obtain ⟨k, rfl⟩ : ∃ k : Nat, i = k := ⟨i.toNat, by omega⟩;have hck := hcv k (by omega);have hfk := hf k;have hdl : decide ((k : Int) < (len : Int)) = true := by simp; omega
  go_enter Tryz.func133, Tryz.ntmps133
  go_wp2
  generalize wrap64 (wrap64 (h * 6364136223846793005) + 1442695040888963407) = h'
  have hh1 : (w.setCell ⟨cb, 2, none⟩ (.int .i64 h')).heap[cb]? = some (.cells #[.slice (some ⟨b, off, none⟩) len cap, .int .i64 k, .int .i64 h'] 143 (0, 0)) := heap_setCell_same w cb 2 _ _ _ hh;have hg1 : w.grownBy (w.setCell ⟨cb, 2, none⟩ (.int .i64 h')) (some cb) := cu_set (grown_refl w _) 2 _;have hk1 : (w.setCell ⟨cb, 2, none⟩ (.int .i64 h')).cell? ⟨b, off + k, none⟩ = some (.int .u8 (f k)) := by
   rw [World.cell?_setCell_other _ _ _ _ (fun e => hbn (by injection e with e1; exact e1.symm))];exact hck
  generalize w.setCell ⟨cb, 2, none⟩ (.int .i64 h') = w1 at *
  have d0 : w1.cell? ⟨cb, 0, none⟩ = some (.slice (some ⟨b, off, none⟩) len cap) := by rw [cell_of_row w1 cb 0 _ _ _ hh1]; rfl
  have d1 : w1.cell? ⟨cb, 1, none⟩ = some (.int .i64 k) := by rw [cell_of_row w1 cb 1 _ _ _ hh1]; rfl
  have d2 : w1.cell? ⟨cb, 2, none⟩ = some (.int .i64 h') := by rw [cell_of_row w1 cb 2 _ _ _ hh1]; rfl
  have y1 : w1.frozen? ⟨cb, 1, none⟩ = false := frozen_of_row w1 cb 1 _ _ hh1;clear c0 c1 c2 z1 z2 hh hck hcv;go_quiet (fail)
  go_wp2
  go_quiet (fail)
  go_wp2
  go_quiet (fail)
  go_wp2
  go_ret
  exact ⟨_, rfl, by omega, by omega, ⟨(k : Int) + 1, h', by omega, by omega, heap_setCell_same w1 cb 1 _ _ _ hh1⟩, grown_drewN (cu_set hg1 1 _) _⟩
 have hdl : decide (i < (len : Int)) = false := by simp; omega
 go_enter Tryz.func133, Tryz.ntmps133
 go_wp2
 generalize wrap64 (wrap64 (h * 6364136223846793005) + 1442695040888963407) = h'
 have hh1 : (w.setCell ⟨cb, 2, none⟩ (.int .i64 h')).heap[cb]? = some (.cells #[.slice ad len cap, .int .i64 i, .int .i64 h'] 143 (0, 0)) := heap_setCell_same w cb 2 _ _ _ hh;have hg1 : w.grownBy (w.setCell ⟨cb, 2, none⟩ (.int .i64 h')) (some cb) := cu_set (grown_refl w _) 2 _;generalize w.setCell ⟨cb, 2, none⟩ (.int .i64 h') = w1 at *
 have d0 : w1.cell? ⟨cb, 0, none⟩ = some (.slice ad len cap) := by rw [cell_of_row w1 cb 0 _ _ _ hh1]; rfl
 have d1 : w1.cell? ⟨cb, 1, none⟩ = some (.int .i64 i) := by rw [cell_of_row w1 cb 1 _ _ _ hh1]; rfl
 have d2 : w1.cell? ⟨cb, 2, none⟩ = some (.int .i64 h') := by rw [cell_of_row w1 cb 2 _ _ _ hh1]; rfl
 clear c0 c1 c2 z1 z2 hh hv hne;go_quiet (fail)
 go_wp2
 go_quiet (fail)
 go_wp2
 go_ret
 exact ⟨_, rfl, by omega, by omega, ⟨i, h', by omega, by omega, hh1⟩, grown_drewN (grown_drewN hg1 _) _⟩
structure Src (w : World) (cb : Nat) (ad : Option Addr) (len cap : Nat) (f : Nat → Int) : Prop where
 cur : Cur w cb ad len cap
 view : View w ad len f
 ne : ∀ a, ad = some a → 0 < len → a.block ≠ cb
 small : len ≤ 1048576
 bytes : ∀ i, 0 ≤ f i ∧ f i ≤ 255
theorem Src.grown {w w' : World} {cb : Nat} {ad : Option Addr} {len cap : Nat} {f : Nat → Int} (h : Src w cb ad len cap f) (hc : Cur w' cb ad len cap) (hg : w.grownBy w' (some cb)) : Src w' cb ad len cap f :=
 ⟨hc, h.view.carry (fun a e hp => hg.block _ (by obtain ⟨b, off, e2, hcv⟩ := h.view hp; have := World.block_lt_of_cell? w _ (hcv 0 hp); rw [e2] at e; cases e; exact this) (by have := h.ne a e hp; simpa using this)), h.ne, h.small, h.bytes⟩
theorem Src.later {w w' : World} {cb : Nat} {ad : Option Addr} {len cap : Nat} {f : Nat → Int} (h : Src w cb ad len cap f) (hb : Below w.heap.size w w') : Src w' cb ad len cap f :=
 ⟨h.cur.carry (hb.block _ h.cur.lt), h.view.carry (fun a e hp => hb.block _ (by obtain ⟨b, off, e2, hcv⟩ := h.view hp; have := World.block_lt_of_cell? w _ (hcv 0 hp); rw [e2] at e; cases e; exact this)), h.ne, h.small, h.bytes⟩
theorem drawByte' {cb : Nat} {ad : Option Addr} {len cap : Nat} {f : Nat → Int} {w : World} (hs : Src w cb ad len cap f) :
  Calls Tryz.prog 133 #[.pointer (some ⟨cb, 0, none⟩)] w fun e w' => ∃ x, e = .returned (.int .i64 x) ∧ 0 ≤ x ∧ x ≤ 255 ∧ Src w' cb ad len cap f ∧ w.grownBy w' (some cb) := by
 refine (drawByte cb ad len cap f w hs.cur hs.view hs.ne hs.small hs.bytes).mono ?_;rintro e w' ⟨x, rfl, h0, h1, hc, hg⟩;exact ⟨x, rfl, h0, h1, hs.grown hc hg, hg⟩
set_option maxHeartbeats 1000000 in
theorem drawBelow {cb : Nat} {ad : Option Addr} {len cap : Nat} {f : Nat → Int} {w : World} (hs : Src w cb ad len cap f) (n : Int) (h0 : 0 < n) (h1 : n ≤ 256) :
  Calls Tryz.prog 76 #[.pointer (some ⟨cb, 0, none⟩), .int .i64 n] w fun e w' => ∃ x, e = .returned (.int .i64 x) ∧ 0 ≤ x ∧ x < n ∧ Src w' cb ad len cap f ∧ w.grownBy w' (some cb) := by
 have hd0 : decide (n ≤ 0) = false := by simp; omega
 have hd1 : decide (n ≤ 256) = true := by simp; omega
 go_enter Tryz.func76, Tryz.ntmps76
 go_wp2_with fail
 go_at_call 133
 refine (drawByte' hs).mono ?_;rintro e w' ⟨x, rfl, hx0, hx1, hs', hg⟩;have hne : (n == 0) = false := by rw [beq_eq_false_iff_ne]; omega
 have hm0 := Int.emod_nonneg x (by omega : n ≠ 0);have hm1 := Int.emod_lt_of_pos x h0;have htm : x.tmod n = x % n := Int.tmod_eq_emod_of_nonneg hx0;go_wp2
 go_ret
 exact ⟨_, rfl, hm0, hm1, hs', hg⟩
theorem Cur.new {w : World} {ad : Option Addr} {len cap : Nat} {h : Int} : Cur (w.alloc (.cells #[.slice ad len cap, .int .i64 0, .int .i64 h] 143)) w.heap.size ad len cap :=
 ⟨0, h, by omega, by omega, heap_alloc_new w _⟩
set_option maxHeartbeats 1000000 in
theorem drawNew (ad : Option Addr) (len cap : Nat) (f : Nat → Int) (w : World) (hv : View w ad len f) (hB : ∀ a, ad = some a → 0 < len → a.block < w.heap.size) (hl : len ≤ 1048576) (hf : ∀ i, 0 ≤ f i ∧ f i ≤ 255) :
  Calls Tryz.prog 52 #[.slice ad len cap] w fun e w' => e = .returned (.pointer (some ⟨w.heap.size, 0, none⟩)) ∧ Src w' w.heap.size ad len cap f ∧ Below w.heap.size w w' ∧ w'.heap.size = w.heap.size + 1 := by
 go_enter Tryz.func52, Tryz.ntmps52
 go_wp2
 go_loop [3, 4] (fun x i => ∃ (k : Nat) (h : Int), k ≤ len ∧ i = .int .i64 k ∧ x = .int .i64 h) (fun _ i => len - (intOf i).toNat)
 case atStart => exact ⟨0, _, Nat.zero_le _, rfl, rfl⟩
 case round =>
  obtain ⟨k, h, hk, rfl, rfl⟩ := hrel;by_cases hlt : k < len ∧ k < 4000
  ·
   obtain ⟨b, off, rfl, hc⟩ := hv (by omega);have hck := hc k hlt.1;have hfk := hf k;have hd0 : decide ((k : Int) < (len : Int)) = true := by simp; omega
   have hd1 : decide ((k : Int) < 4000) = true := by simp; omega
   have hk1 : k < len := hlt.1;clear hlt;go_wp2
   go_round
   case rel => exact ⟨k + 1, _, by omega, by go_num, rfl⟩
   case measure => simp [intOf]; omega
  have fin : ∀ h : Int, Src (w.alloc (.cells #[.slice ad len cap, .int .i64 0, .int .i64 h] 143)) w.heap.size ad len cap f := fun h =>
   ⟨Cur.new, hv.carry (fun a e hp => ((Below.refl w.heap.size w).alloc (Nat.le_refl _) _).block _ (hB a e hp)), fun a e hp => Nat.ne_of_lt (hB a e hp), hl, hf⟩
  by_cases hk2 : k < len
  ·
   have hd0 : decide ((k : Int) < (len : Int)) = true := by simp; omega
   have hd1 : decide ((k : Int) < 4000) = false := by simp; omega
   clear hlt;go_wp2
   go_ret
   exact ⟨rfl, fin h, (Below.refl _ _).alloc (Nat.le_refl _) _, by simp⟩
  have hd0 : decide ((k : Int) < (len : Int)) = false := by simp; omega
  clear hlt;go_wp2
  go_ret
  exact ⟨rfl, fin h, (Below.refl _ _).alloc (Nat.le_refl _) _, by simp⟩
set_option maxHeartbeats 1000000 in
theorem pickInt {cb : Nat} {ad : Option Addr} {len cap : Nat} {f : Nat → Int} {w : World} (hs : Src w cb ad len cap f) (b n c : Nat) (g : Nat → Int) (hb : b ≠ cb) (h0 : 0 < n) (h1 : n ≤ 256) (hg : ∀ i, i < n → w.cell? ⟨b, i, none⟩ = some (.int .i64 (g i))) :
  Calls Tryz.prog 66 #[.pointer (some ⟨cb, 0, none⟩), .slice (some ⟨b, 0, none⟩) n c] w fun e w' => ∃ i, i < n ∧ e = .returned (.int .i64 (g i)) ∧ Src w' cb ad len cap f ∧ w.grownBy w' (some cb) := by
 go_enter Tryz.func66, Tryz.ntmps66
 go_wp2_with fail
 go_at_call 76
 refine (drawBelow hs n (by omega) (by omega)).mono ?_;rintro e w' ⟨x, rfl, hx0, hx1, hs', hgr⟩;obtain ⟨i, rfl⟩ : ∃ i : Nat, x = i := ⟨x.toNat, by omega⟩;have hi : i < n := by omega
 have hci : w'.cell? ⟨b, i, none⟩ = some (.int .i64 (g i)) := (World.cell?_of_block (a := ⟨b, i, none⟩) (hgr.block b (World.block_lt_of_cell? w _ (hg i hi)) (by simpa using hb))).trans (hg i hi);clear hg;go_wp2
 go_ret
 exact ⟨i, hi, rfl, hs', hgr⟩
open Classical in
theorem pickIntP {cb : Nat} {ad : Option Addr} {len cap : Nat} {f : Nat → Int} {w : World} (hs : Src w cb ad len cap f) (P : Int → Prop) (b n c : Nat) (hb : b ≠ cb) (h0 : 0 < n) (h1 : n ≤ 256) (hg : ∀ i, i < n → ∃ y, w.cell? ⟨b, i, none⟩ = some (.int .i64 y) ∧ P y) :
  Calls Tryz.prog 66 #[.pointer (some ⟨cb, 0, none⟩), .slice (some ⟨b, 0, none⟩) n c] w fun e w' => ∃ y, e = .returned (.int .i64 y) ∧ P y ∧ Src w' cb ad len cap f ∧ w.grownBy w' (some cb) := by
 refine (pickInt hs b n c (fun i => if h : i < n then (hg i h).choose else 0) hb h0 h1 (fun i hi => by simp only [dif_pos hi]; exact (hg i hi).choose_spec.1)).mono ?_;rintro e w' ⟨i, hi, rfl, hs', hgr⟩;exact ⟨_, rfl, by simp only [dif_pos hi]; exact (hg i hi).choose_spec.2, hs', hgr⟩
theorem lit_at (w : World) (a : Array Value) (E i : Nat) {v : Value} (h : a[i]? = some v) : (w.alloc (.cells a E)).cell? ⟨w.heap.size, i, none⟩ = some v :=
 (cell_of_row _ w.heap.size i _ _ _ (heap_alloc_new w _)).trans h
structure Code0 (w : World) (ad : Option Addr) (len : Nat) (f : Nat → Int) : Prop where
 view : View w ad len f
 lt : ∀ a, ad = some a → 0 < len → a.block < w.heap.size
 small : len ≤ 1048576
 bytes : ∀ i, 0 ≤ f i ∧ f i ≤ 255
theorem Code0.later {w w' : World} {ad : Option Addr} {len : Nat} {f : Nat → Int} (h : Code0 w ad len f) {B : Nat} (hb : Below B w w') (hB : w.heap.size ≤ B) : Code0 w' ad len f :=
 ⟨h.view.carry (fun a e hp => hb.block _ (Nat.lt_of_lt_of_le (h.lt a e hp) hB)), fun a e hp => Nat.lt_of_lt_of_le (h.lt a e hp) hb.size, h.small, h.bytes⟩
theorem drawOnce {cb : Nat} {ad : Option Addr} {len cap : Nat} {f : Nat → Int} {w : World} (hs : Src w cb ad len cap f) (n : Int) (h0 : 0 < n) (h1 : n ≤ 256) :
  Calls Tryz.prog 54 #[.pointer (some ⟨cb, 0, none⟩), .int .i64 n] w fun e w' => ∃ b : Bool, e = .returned (.bool b) ∧ Src w' cb ad len cap f ∧ w.grownBy w' (some cb) := by
 go_enter Tryz.func54, Tryz.ntmps54
 go_wp2_with fail
 go_at_call 76
 refine (drawBelow hs n h0 h1).mono ?_;rintro e w' ⟨x, rfl, hx0, hx1, hs', hg⟩;go_wp2
 go_ret
 exact ⟨_, rfl, hs', hg⟩
end Go.Proofs.YtnpiljegdiconaaGreat
