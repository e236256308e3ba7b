import Derived.Laws.AppendOwn
import Derived.Maps.AppendAt
import Derived.Laws.AppendOwnNone
import Derived.Test.YtjmnaeeknomiaaaGreatDoorRM2
namespace Go.Proofs.YtjmnaeeknomiaaaGreatDoor
open Go.ChangeShapes Go.WideShapes Go.ChangeAt Go.RowKit
open Go.ChangeMaps (open_string shut_string)
set_option linter.unusedVariables false
set_option maxRecDepth 100000
set_option maxHeartbeats 32000000
set_option linter.unusedSimpArgs false
open Go.Proofs.Tryz
attribute [local go_sem] ji ja
def AT {X : Type} (enc : X → List Value) : List X → List Value
 | [] => []
 | x :: L => enc x ++ AT enc L
theorem Ev {X : Type} {enc : X → List Value} {n : Nat} (hn : ∀ x, (enc x).length = n) (L : List X) : (AT enc L).length = L.length * n := by
 induction L with
 | nil => simp [AT]
 | cons x L ih => simp only [AT, List.length_append, hn, ih, List.length_cons, Nat.add_mul]; omega
theorem Fo {X : Type} {enc : X → List Value} (A B : List X) : AT enc (A ++ B) = AT enc A ++ AT enc B := by
 induction A with
 | nil => rfl
 | cons x A ih => simp [AT, ih]
theorem F6 {X : Type} {enc : X → List Value} {n : Nat} (hn : ∀ x, (enc x).length = n) (d : X) (L : List X) : ∀ (i j : Nat), i < L.length → j < n → (AT enc L)[i * n + j]? = (enc (L.getD i d))[j]? := by
 induction L with
 | nil => intro i j h; simp at h
 | cons x L ih =>
  intro i j hi hj;cases i with
  | zero => simp only [AT, Nat.zero_mul, Nat.zero_add, List.getD_cons_zero]; rw [List.getElem?_append_left (by rw [hn]; exact hj)]
  | succ i =>
   simp only [AT, List.getD_cons_succ];rw [List.getElem?_append_right (by rw [hn, Nat.add_mul]; omega), hn, show (i + 1) * n + j - n = i * n + j by rw [Nat.add_mul]; omega];exact ih i j (by simpa using hi) hj
def AI {X : Type} (enc : X → List Value) (w : World) (ad : Option Addr) (L : List X) : Prop :=
 0 < L.length → ∃ b off, ad = some (ja b off) ∧ ∀ j v, (AT enc L)[j]? = some v → w.cell? ⟨b, off + j, none⟩ = some v
theorem AI.nil {X : Type} {enc : X → List Value} {w : World} {ad : Option Addr} : AI enc w ad [] := fun h => absurd h (by simp)
theorem AI.lt {X : Type} {enc : X → List Value} {n : Nat} (hn : ∀ x, (enc x).length = n) (h0 : 0 < n) {w : World} {ad : Option Addr} {L : List X} (h : AI enc w ad L) : ∀ a, ad = some a → 0 < L.length → a.block < w.heap.size := by
 intro a e hp;obtain ⟨b, off, e2, hc⟩ := h hp;rw [e2] at e;cases e
 have hl : 0 < (AT enc L).length := by rw [Ev hn]; exact Nat.mul_pos hp h0
 exact World.block_lt_of_cell? w _ (hc 0 _ (List.getElem?_eq_getElem hl))
theorem AI.carry {X : Type} {enc : X → List Value} {w w' : World} {ad : Option Addr} {L : List X} (h : AI enc w ad L) (hb : ∀ a, ad = some a → 0 < L.length → w'.heap[a.block]? = w.heap[a.block]?) : AI enc w' ad L :=
 fun hp => by
  obtain ⟨b, off, e, hc⟩ := h hp
  exact ⟨b, off, e, fun j v hv => (World.cell?_of_block (a := ⟨b, off + j, none⟩) (hb (ja b off) e hp)).trans (hc j v hv)⟩
theorem AI.below {X : Type} {enc : X → List Value} {w w' : World} {ad : Option Addr} {L : List X} {B : Nat} (h : AI enc w ad L) (k : Below B w w') (hb : ∀ a, ad = some a → 0 < L.length → a.block < B) : AI enc w' ad L :=
 h.carry fun a e hp => k.block _ (hb a e hp)
theorem AI.at_ {X : Type} {enc : X → List Value} {n : Nat} (hn : ∀ x, (enc x).length = n) (d : X) {w : World} {b off : Nat} {L : List X} (h : AI enc w (some (ja b off)) L) {i : Nat} (hi : i < L.length) : ∀ j v, (enc (L.getD i d))[j]? = some v → w.cell? ⟨b, off + i * n + j, none⟩ = some v := by
 intro j v hv;obtain ⟨b', off', e, hc⟩ := h (by omega);simp only [Option.some.injEq, Addr.mk.injEq, and_true] at e;obtain ⟨rfl, rfl⟩ := e;have hj : j < n := by
  rw [← hn (L.getD i d)];exact (List.getElem?_eq_some_iff.1 hv).1
 have := hc (i * n + j) v ((F6 hn d L i j hi hj).trans hv);rw [Nat.add_assoc];exact this
def Cg (w : World) (g : Nat) : Nat → List Value → World
 | _, [] => w
 | o, v :: vs => Cg (w.setCell (ja g o) v) g (o + 1) vs
def FY (xs : List Value) : Nat → List Value → List Value
 | _, [] => xs
 | o, v :: vs => FY (xs.set o v) (o + 1) vs
theorem JI (vs : List Value) : ∀ (xs : List Value) (o j : Nat), o + vs.length ≤ xs.length → (FY xs o vs)[j]? = if o ≤ j ∧ j < o + vs.length then vs[j - o]? else xs[j]? := by
 induction vs with
 | nil => intro xs o j h; rw [if_neg (by simp)]; rfl
 | cons v vs ih =>
  intro xs o j h;simp only [FY, List.length_cons] at h ⊢;rw [ih (xs.set o v) (o + 1) j (by simp; omega)];by_cases h1 : o = j
  ·
   subst h1;rw [if_neg (by omega), if_pos (by omega), List.getElem?_set_self (by omega)];simp
  by_cases h2 : o + 1 ≤ j ∧ j < o + 1 + vs.length
  ·
   rw [if_pos h2, if_pos (by omega), show j - o = (j - (o + 1)) + 1 by omega, List.getElem?_cons_succ]
  rw [if_neg h2, if_neg (by omega), List.getElem?_set_ne h1]
theorem HH {X : Type} {enc : X → List Value} {n : Nat} (hn : ∀ x, (enc x).length = n) (h0 : 0 < n) (d : X) (L : List X) (i : Nat) (hi : i < L.length) (x : X) : FY (AT enc L) (i * n) (enc x) = AT enc (L.set i x) := by
 have hle : i * n + n ≤ L.length * n := by
  have := Nat.mul_le_mul_right n (show i + 1 ≤ L.length from hi);rw [Nat.add_mul] at this;omega
 apply List.ext_getElem?
 intro j;rw [JI _ _ _ _ (by rw [Ev hn, hn]; exact hle), hn];by_cases hj : j < L.length * n
 ·
  have e : j = j / n * n + j % n := by rw [Nat.mul_comm]; exact (Nat.div_add_mod j n).symm
  have hq : j / n < L.length := Nat.div_lt_of_lt_mul (by rw [Nat.mul_comm]; exact hj);have hr : j % n < n := Nat.mod_lt _ h0;have r1 : (AT enc (L.set i x))[j]? = (enc ((L.set i x).getD (j / n) d))[j % n]? := by
   conv => lhs; rw [e]
   exact F6 hn d _ _ _ (by simpa using hq) hr
  have r2 : (AT enc L)[j]? = (enc (L.getD (j / n) d))[j % n]? := by
   conv => lhs; rw [e]
   exact F6 hn d _ _ _ hq hr
  rw [r1, r2];by_cases hi2 : j / n = i
  ·
   have hjm : i * n + j % n = j := by rw [← hi2]; exact e.symm
   rw [if_pos (by omega), show j - i * n = j % n by omega, hi2];simp [List.getD, hi]
  have hno : ¬ (i * n ≤ j ∧ j < i * n + n) := by
   rintro ⟨a1, a2⟩;apply hi2
   rw [Nat.div_eq_of_lt_le]
   ·
    exact a1
   rw [Nat.add_mul]; omega
  rw [if_neg hno];simp [List.getD, List.getElem?_set_ne (Ne.symm hi2)]
 have l1 : (AT enc L)[j]? = none := List.getElem?_eq_none (by rw [Ev hn]; omega);have l2 : (AT enc (L.set i x))[j]? = none := List.getElem?_eq_none (by rw [Ev hn]; simp; omega);rw [l1, l2, if_neg (by omega)]
def AA {X : Type} (enc : X → List Value) (n : Nat) (T : TypeId) (base : Nat) (w : World) (v : Value) (L : List X) : Prop := w.ownsRow base T n v L.length (AT enc L)
theorem AA.keep {X : Type} {enc : X → List Value} {n : Nat} {T : TypeId} {base : Nat} {w w' : World} {v : Value} {L : List X} (h : AA enc n T base w v L) (k : ∀ g, v.ownBlock = some g → w'.heap[g]? = w.heap[g]?) : AA enc n T base w' v L := by
 obtain ⟨h1, h2⟩ := h;refine ⟨h1, ?_⟩;rcases h2 with q | ⟨g, cap, cur, rfl, hb, hg, r⟩
 ·
  exact .inl q
 exact .inr ⟨g, cap, cur, rfl, hb, (k g rfl).trans hg, r⟩
theorem AA.lt {X : Type} {enc : X → List Value} {n : Nat} {T : TypeId} {base : Nat} {w : World} {v : Value} {L : List X} (h : AA enc n T base w v L) : ∀ k, v.ownBlock = some k → base ≤ k ∧ k < w.heap.size := World.ownsRow.lt h
theorem AA.below {X : Type} {enc : X → List Value} {n : Nat} {T : TypeId} {base B : Nat} {w w' : World} {v : Value} {L : List X} (h : AA enc n T base w v L) (k : Below B w w') (hB : ∀ g, v.ownBlock = some g → g < B) : AA enc n T base w' v L := h.keep fun g e => k.block g (hB g e)
theorem AA.later {X : Type} {enc : X → List Value} {n : Nat} {T : TypeId} {base : Nat} {w w' : World} {v : Value} {L : List X} (h : AA enc n T base w v L) (k : Bw w w') : AA enc n T base w' v L := h.below k fun g e => (h.lt g e).2
theorem AA.view {X : Type} {enc : X → List Value} {n : Nat} {T : TypeId} {base : Nat} {w : World} {ad : Option Addr} {len cap : Nat} {L : List X} (h : AA enc n T base w (.slice ad len cap) L) : len = L.length ∧ AI enc w ad L := by
 obtain ⟨h1, h2⟩ := h;rcases h2 with ⟨e, e0⟩ | ⟨g, c, cur, e, hb, hg, hc, hm, hs, ht⟩
 ·
  cases e
  exact ⟨e0.symm, fun hp => absurd hp (by omega)⟩
 simp only [Value.slice.injEq] at e;obtain ⟨rfl, rfl, rfl⟩ := e;refine ⟨rfl, fun hp => ⟨g, 0, rfl, fun j v hv => ?_⟩⟩;have hj : j < L.length * n := by rw [← h1]; exact (List.getElem?_eq_some_iff.1 hv).1
 have own : w.ownsRow base T n (.slice (some (ja g 0)) L.length cap) L.length (AT enc L) := ⟨h1, .inr ⟨g, cap, cur, rfl, hb, hg, hc, hm, hs, ht⟩⟩;rw [Nat.zero_add, own.cellAt j hj];exact hv
theorem I9 {base : Nat} {T : TypeId} {n g m cap : Nat} (vs : List Value) : ∀ {w : World} {xs : List Value} (o : Nat), w.ownsRow base T n (.slice (some (ja g 0)) m cap) m xs → o + vs.length ≤ m * n → (Cg w g o vs).ownsRow base T n (.slice (some (ja g 0)) m cap) m (FY xs o vs) := by
 induction vs with
 | nil => intro w xs o h _; exact h
 | cons v vs ih =>
  intro w xs o h hl;simp only [Cg, FY, List.length_cons] at hl ⊢;exact ih (o + 1) (h.stored o v).1 (by omega)
theorem AA.set {X : Type} {enc : X → List Value} {n : Nat} (hn : ∀ x, (enc x).length = n) (h0 : 0 < n) {T : TypeId} {base : Nat} {w : World} {g cap : Nat} {L : List X} (h : AA enc n T base w (.slice (some (ja g 0)) L.length cap) L) {i : Nat} (hi : i < L.length) (x : X) : AA enc n T base (Cg w g (i * n) (enc x)) (.slice (some (ja g 0)) L.length cap) (L.set i x) := by
 have hle : i * n + n ≤ L.length * n := by
  have := Nat.mul_le_mul_right n (show i + 1 ≤ L.length from hi);rw [Nat.add_mul] at this;omega
 have := I9 (enc x) (i * n) (show w.ownsRow base T n _ L.length (AT enc L) from h) (by rw [hn]; exact hle);rw [HH hn h0 x L i hi x] at this;unfold AA;rw [List.length_set];exact this
theorem AA.app {X : Type} {enc : X → List Value} {n : Nat} {T : TypeId} {base : Nat} {w : World} {v : Value} {L M : List X} {m : Nat} (h : w.ownsRow base T n v m (AT enc L ++ AT enc M)) (hm : m = L.length + M.length) : AA enc n T base w v (L ++ M) := by
 unfold AA;rw [Fo, List.length_append, ← hm];exact h
theorem AA.nil {X : Type} {enc : X → List Value} {n : Nat} {T : TypeId} {base : Nat} {w : World} : AA enc n T base w (.slice none 0 0) ([] : List X) := ⟨by simp [AT], .inl ⟨rfl, rfl⟩⟩
theorem DH {g : Nat} (vs : List Value) : ∀ (w : World) (o k : Nat), k ≠ g → (Cg w g o vs).heap[k]? = w.heap[k]? := by
 induction vs with
 | nil => intro w o k _; rfl
 | cons v vs ih => intro w o k hk; simp only [Cg]; rw [ih _ _ k hk, AE hk]
theorem Iz {g : Nat} (vs : List Value) : ∀ (w : World) (o : Nat), (Cg w g o vs).heap.size = w.heap.size := by
 induction vs with
 | nil => intro w o; rfl
 | cons v vs ih => intro w o; simp only [Cg]; rw [ih]; simp
theorem Dp {B g : Nat} {a : World} (hB : B ≤ g) (vs : List Value) : ∀ {w : World} (o : Nat), Below B a w → Below B a (Cg w g o vs) := by
 induction vs with
 | nil => intro w o h; exact h
 | cons v vs ih => intro w o h; exact ih (o + 1) (h.setCell hB v)
theorem AA.cell {X : Type} {enc : X → List Value} {n : Nat} (hn : ∀ x, (enc x).length = n) (d : X) {T : TypeId} {base : Nat} {w : World} {g cap : Nat} {L : List X} (h : AA enc n T base w (.slice (some (ja g 0)) L.length cap) L) {i : Nat} (hi : i < L.length) : ∀ j v, (enc (L.getD i d))[j]? = some v → w.cell? ⟨g, i * n + j, none⟩ = some v := by
 intro j v hv;have := h.view.2.at_ hn d hi j v hv;rw [Nat.zero_add] at this;exact this
theorem AA.frozen {X : Type} {enc : X → List Value} {n : Nat} {T : TypeId} {base : Nat} {w : World} {g cap : Nat} {L : List X} (h : AA enc n T base w (.slice (some (ja g 0)) L.length cap) L) (j : Nat) : w.frozen? (ja g j) = false := World.ownsRow.frozenAt h j
def Bk {X : Type} (mk : Nat → X) (L : List X) (k : Nat) : List X := (List.range k).map mk ++ L.drop k
theorem F5 {X : Type} {mk : Nat → X} {L : List X} {k : Nat} (h : k ≤ L.length) : (Bk mk L k).length = L.length := by simp [Bk]; omega
theorem HM {X : Type} {mk : Nat → X} {L : List X} : Bk mk L 0 = L := by simp [Bk]
theorem HY {X : Type} {mk : Nat → X} {L : List X} : Bk mk L L.length = (List.range L.length).map mk := by simp [Bk]
theorem F1 {X : Type} {mk : Nat → X} {L : List X} {k : Nat} (h : k < L.length) : (Bk mk L k).set k (mk k) = Bk mk L (k + 1) := by
 apply List.ext_getElem?
 intro j;unfold Bk;by_cases h1 : j < k
 ·
  rw [List.getElem?_set_ne (by omega), List.getElem?_append_left (by simp; omega), List.getElem?_append_left (by simp; omega)];simp [h1, Nat.lt_succ_of_lt h1]
 by_cases h2 : j = k
 ·
  subst h2;rw [List.getElem?_set_self (by simp; omega), List.getElem?_append_left (by simp)];simp
 rw [List.getElem?_set_ne (by omega), List.getElem?_append_right (by simp; omega), List.getElem?_append_right (by simp; omega)];simp only [List.length_map, List.length_range, List.getElem?_drop];congr 1
 omega
theorem AA.base {X : Type} {enc : X → List Value} {n : Nat} {T : TypeId} {base base' : Nat} {w : World} {v : Value} {L : List X} (h : AA enc n T base w v L) (hb : base' ≤ base) : AA enc n T base' w v L := by
 obtain ⟨h1, h2⟩ := h;refine ⟨h1, ?_⟩;rcases h2 with q | ⟨g, cap, cur, e, hg, r⟩
 ·
  exact .inl q
 exact .inr ⟨g, cap, cur, e, Nat.le_trans hb hg, r⟩
theorem IT {P : Program} {w : World} {o : Oper} {a : Act} {K : Act → World → Prop} {Q : Exit → Act → World → Prop} (s x : Operand) (t : TypeId) (ho : o.op = .call { callee := .builtin .append, args := #[s, x], argTypes := #[t, t] })
  (base : Nat) (e : TypeId) (i : TypeInfo) (z : Value) (size bytes : Nat) (ht : P.underlying t = some (.slice e)) (hi : P.info? e = some i) (hz : i.zero = some z)
  (hsize : i.size = size) (hby : i.bytes = bytes) (hzs : z.cells.size = size) (hsz : 0 < size)
  (v : Value) (n : Nat) (xs : List Value) (hs : a.eval s = v) (hown : w.ownsRow base e size v n xs)
  (ad : Addr) (m c : Nat) (news : List Value) (hx : a.eval x = .slice (some ad) m c) (hl : news.length = m * size) (hnews : ∀ j u, news[j]? = some u → w.cell? (ad.add j) = some u) (h1 : ∀ u ∈ news, u.oneCell' = true)
  (h63 : n + m ≤ maxLen) (hbytes : (n + m) * bytes ≤ 140737488355328) (hbase : base ≤ w.heap.size)
  (h : ∀ v' w', w'.ownsRow base e size v' (n + m) (xs ++ news) → w.grownBy w' v.ownBlock → (v'.ownBlock = v.ownBlock ∨ v'.ownBlock = some w.heap.size) → K (a.put o.dst v') w') : o.wp P a w K Q := by
 obtain ⟨v', w', hr, h2, h3, h4, h5⟩ := run_append_own_at (P := P) w base t o.type e i z size bytes ht hi hz hsize hby hzs hsz v n xs hown ad m c news hl hnews h1 h63 hbytes hbase;unfold Oper.wp execOp;simp only [ho, resolve, invoke, builtin, Sem.run_bind, Sem.run_pure, Result.andThen_ok, List.map_toArray, List.map_cons, List.map_nil, hs, hx, hr];exact h v' w' h2 h3 h5
theorem Hx {P : Program} {w : World} {o : Oper} {a : Act} {K : Act → World → Prop} {Q : Exit → Act → World → Prop} (s x : Operand) (t : TypeId) (ho : o.op = .call { callee := .builtin .append, args := #[s, x], argTypes := #[t, t] })
  (base : Nat) (e : TypeId) (i : TypeInfo) (size : Nat) (ht : P.underlying t = some (.slice e)) (hi : P.info? e = some i)
  (v : Value) (n : Nat) (xs : List Value) (hs : a.eval s = v) (hown : w.ownsRow base e size v n xs) (hx : a.eval x = .slice none 0 0)
  (h : K (a.put o.dst v) w) : o.wp P a w K Q := by
 have hrun := run_append_owned_none (P := P) (w := w) base t o.type e i size ht hi v n xs hown;unfold Oper.wp;simp [execOp, ho, resolve, invoke, builtin, hs, hx, hrun, Result.andThen]
 exact h
theorem AI.news {X : Type} {enc : X → List Value} {w : World} {a : Addr} {L : List X} (h : AI enc w (some a) L) : ∀ j u, (AT enc L)[j]? = some u → w.cell? (a.add j) = some u := by
 intro j u hu;have hp : 0 < L.length := by
  cases L with
  | nil => simp [AT] at hu
  | cons x r => simp
 obtain ⟨b, off, e, hc⟩ := h hp;obtain rfl : a = (ja b off) := by simpa using e
 rw [add_plain];exact hc j u hu
theorem AI.none_nil {X : Type} {enc : X → List Value} {w : World} {L : List X} (h : AI enc w none L) : L = [] := by
 cases L with
 | nil => rfl
 | cons a r => obtain ⟨b, off, e, _⟩ := h (by simp); cases e
theorem AA.capn {X : Type} {enc : X → List Value} {n : Nat} {T : TypeId} {base : Nat} {w : World} {ad : Option Addr} {len cap : Nat} {L : List X} (h : AA enc n T base w (.slice ad len cap) L) : ad = none → cap = 0 := by
 intro e;rcases h.2 with ⟨q, _⟩ | ⟨g, c, cur, q, _⟩
 ·
  cases q; rfl
 cases e; simp at q
theorem AA.open_ {X : Type} {enc : X → List Value} {n : Nat} {T : TypeId} {base : Nat} {w : World} {v : Value} {L : List X} (h : AA enc n T base w v L) : ∃ ad cap, v = .slice ad L.length cap := by
 rcases h.2 with ⟨q, e⟩ | ⟨g, c, cur, q, _⟩
 ·
  exact ⟨none, 0, by rw [q, e]⟩
 exact ⟨_, _, q⟩
theorem Ic {P : Program} {X : Type} {enc : X → List Value} {n : Nat} (hn : ∀ x, (enc x).length = n) (h1 : ∀ L, ∀ u ∈ AT enc L, u.oneCell' = true) {w : World} {o : Oper} {a : Act} {K : Act → World → Prop} {Q : Exit → Act → World → Prop} (s x : Operand) (t : TypeId) (ho : o.op = .call { callee := .builtin .append, args := #[s, x], argTypes := #[t, t] })
  (base : Nat) (e : TypeId) (i : TypeInfo) (z : Value) (bytes : Nat) (ht : P.underlying t = some (.slice e)) (hi : P.info? e = some i) (hz : i.zero = some z)
  (hsize : i.size = n) (hby : i.bytes = bytes) (hzs : z.cells.size = n) (hsz : 0 < n) (hb2 : bytes ≤ 1000)
  (v : Value) (M : List X) (hs : a.eval s = v) (hown : AA enc n e base w v M)
  (ad : Option Addr) (cap : Nat) (L : List X) (hx : a.eval x = .slice ad L.length cap) (hc : ad = none → cap = 0) (hv : AI enc w ad L)
  (hlen : M.length + L.length ≤ 3000000) (hbase : base ≤ w.heap.size)
  (h : ∀ v' w', AA enc n e base w' v' (M ++ L) → w.grownBy w' v.ownBlock → (v'.ownBlock = v.ownBlock ∨ v'.ownBlock = some w.heap.size) → K (a.put o.dst v') w') : o.wp P a w K Q := by
 cases ad with
 | none =>
  obtain rfl := hv.none_nil;obtain rfl := hc rfl;exact Hx s x t ho base e i n ht hi v M.length (AT enc M) hs hown hx (h v w (by simpa using hown) ⟨rfl, rfl, rfl, Nat.le_refl _, fun _ _ _ => rfl⟩ (.inl rfl))
 | some q =>
  have hmul : (M.length + L.length) * bytes ≤ 3000000 * 1000 := Nat.mul_le_mul hlen hb2;refine IT s x t ho base e i z n bytes ht hi hz hsize hby hzs hsz v M.length (AT enc M) hs hown q L.length cap (AT enc L) hx (Ev hn L) hv.news (h1 L) (by unfold maxLen; omega) (by omega) hbase ?_;intro v' w' o' g' e';exact h v' w' (AA.app o' rfl) g' e'
theorem CC {P : Program} {X : Type} {enc : X → List Value} {n : Nat} (hn : ∀ x, (enc x).length = n) (h1 : ∀ L, ∀ u ∈ AT enc L, u.oneCell' = true) {w : World} {o : Oper} {l : List Value} {ds : List Deferred} {K : Act → World → Prop} {Q : Exit → Act → World → Prop} (dd : Nat) (s x : Operand) (t : TypeId) (hd : o.dst = some dd) (ho : o.op = .call { callee := .builtin .append, args := #[s, x], argTypes := #[t, t] })
  (base : Nat) (e : TypeId) (i : TypeInfo) (z : Value) (bytes : Nat) (ht : P.underlying t = some (.slice e)) (hi : P.info? e = some i) (hz : i.zero = some z)
  (hsize : i.size = n) (hby : i.bytes = bytes) (hzs : z.cells.size = n) (hsz : 0 < n) (hb2 : bytes ≤ 1000)
  (v : Value) (M : List X) (hs : (Act.mk l.toArray ds).eval s = v) (hown : AA enc n e base w v M)
  (ad : Option Addr) (cap : Nat) (L : List X) (hx : (Act.mk l.toArray ds).eval x = .slice ad L.length cap) (hc : ad = none → cap = 0) (hv : AI enc w ad L)
  (hlen : M.length + L.length ≤ 3000000) (hbase : base ≤ w.heap.size)
  (h : ∀ v' w', AA enc n e base w' v' (M ++ L) → w.grownBy w' v.ownBlock → (v'.ownBlock = v.ownBlock ∨ v'.ownBlock = some w.heap.size) → K ⟨(l.set dd v').toArray, ds⟩ w') : o.wp P ⟨l.toArray, ds⟩ w K Q := by
 have hput : ∀ v', (Act.mk l.toArray ds).put o.dst v' = ⟨(l.set dd v').toArray, ds⟩ := fun v' => by rw [hd]; simp [Act.put]
 exact Ic hn h1 s x t ho base e i z bytes ht hi hz hsize hby hzs hsz hb2 v M hs hown ad cap L hx hc hv hlen hbase (fun v' w' a b c => by rw [hput]; exact h v' w' a b c)
theorem En {P : Program} {X : Type} {enc : X → List Value} {n : Nat} (hn : ∀ x, (enc x).length = n) (h1 : ∀ L, ∀ u ∈ AT enc L, u.oneCell' = true) {w : World} {ops : Array Oper} {rest : List Oper} {o : Oper} {a : Act} {Q : Exit → Act → World → Prop} (hgd : o.guard = none) (s x : Operand) (t : TypeId) (ho : o.op = .call { callee := .builtin .append, args := #[s, x], argTypes := #[t, t] })
  (base : Nat) (e : TypeId) (i : TypeInfo) (z : Value) (bytes : Nat) (ht : P.underlying t = some (.slice e)) (hi : P.info? e = some i) (hz : i.zero = some z)
  (hsize : i.size = n) (hby : i.bytes = bytes) (hzs : z.cells.size = n) (hsz : 0 < n) (hb2 : bytes ≤ 1000)
  (v : Value) (M : List X) (hs : a.eval s = v) (hown : AA enc n e base w v M)
  (ad : Option Addr) (cap : Nat) (L : List X) (hx : a.eval x = .slice ad L.length cap) (hc : ad = none → cap = 0) (hv : AI enc w ad L)
  (hlen : M.length + L.length ≤ 3000000) (hbase : base ≤ w.heap.size)
  (h : ∀ v' w', AA enc n e base w' v' (M ++ L) → w.grownBy w' v.ownBlock → (v'.ownBlock = v.ownBlock ∨ v'.ownBlock = some w.heap.size) → wpList P ops Q rest (a.put o.dst v') w') : wpList P ops Q (o :: rest) a w := by
 refine wpList_plain hgd fun K hK => ?_
 exact Ic hn h1 s x t ho base e i z bytes ht hi hz hsize hby hzs hsz hb2 v M hs hown ad cap L hx hc hv hlen hbase (fun v' w' a b c => hK _ _ (h v' w' a b c))
theorem Cl (w : World) (o : Obj) : (w.alloc o).heap[w.heap.size]? = some o := by
 show (w.heap.push o)[w.heap.size]? = some o;simp
theorem AA.empty {X : Type} {enc : X → List Value} {n : Nat} {T : TypeId} (w : World) : AA enc n T w.heap.size (w.alloc (Obj.cells #[] T)) (.slice (some (ja w.heap.size 0)) 0 0) ([] : List X) :=
 ⟨by simp [AT], .inr ⟨w.heap.size, 0, #[], rfl, Nat.le_refl _, Cl w _, Nat.le_refl _, Nat.zero_le _, by simp, by simp [AT]⟩⟩
end Go.Proofs.YtjmnaeeknomiaaaGreatDoor
namespace Go.Proofs.YtjmnaeeknomiaaaGreatDoor
open Go.ChangeShapes Go.WideShapes Go.ChangeAt Go.RowKit
open Go.ChangeMaps (open_string shut_string)
set_option linter.unusedVariables false
set_option maxRecDepth 100000
set_option maxHeartbeats 32000000
set_option linter.unusedSimpArgs false
open Go.Proofs.Tryz
attribute [local go_sem] ji ja
theorem LE (n : Int) : bits .and .i64 n 255 = n % 256 := by
 have h255 : (BitVec.ofInt 64 255).toNat = 2 ^ 8 - 1 := by decide
 have key : (BitVec.ofInt 64 n &&& BitVec.ofInt 64 255).toNat = (n % ((2 ^ 64 : Nat) : Int)).toNat % 2 ^ 8 := by
  rw [BitVec.toNat_and, BitVec.toNat_ofInt, h255, Nat.and_two_pow_sub_one_eq_mod]
 show IntKind.i64.wrap ((BitVec.ofInt 64 n &&& BitVec.ofInt 64 255).toNat : Nat) = n % 256;rw [key, IntKind.wrap_i64];omega
def ED (w : World) (cb : Nat) (ad : Option Addr) (len cap : Nat) : Prop :=
 ∃ i h : Int, 0 ≤ i ∧ i ≤ len ∧ w.heap[cb]? = some (.cells #[.slice ad len cap, ji i, ji h] 128 (0, 0))
theorem ED.carry {w w' : World} {cb : Nat} {ad : Option Addr} {len cap : Nat} (h : ED w cb ad len cap) (e : w'.heap[cb]? = w.heap[cb]?) : ED w' cb ad len cap := by
 obtain ⟨i, h, a, b, c⟩ := h;exact ⟨i, h, a, b, e.trans c⟩
theorem ED.lt {w : World} {cb : Nat} {ad : Option Addr} {len cap : Nat} (h : ED w cb ad len cap) : cb < w.heap.size := by
 obtain ⟨_, _, _, _, c⟩ := h;exact (Array.getElem?_eq_some_iff.1 c).1
theorem Hv {a b c : World} {r : Option Nat} (h : a.grownBy b r) (k : b.grownBy c r) : a.grownBy c r :=
 ⟨k.os.trans h.os, k.tape.trans h.tape, k.output.trans h.output, Nat.le_trans h.size k.size, fun j hj hne => (k.block j (Nat.lt_of_lt_of_le hj h.size) hne).trans (h.block j hj hne)⟩
theorem Gb (a : World) (r : Option Nat) : a.grownBy a r := ⟨rfl, rfl, rfl, Nat.le_refl _, fun _ _ _ => rfl⟩
theorem GV {a b : World} {r : Option Nat} (h : a.grownBy b r) (n : Nat) : a.grownBy (b.drewN n) r := ⟨h.os, h.tape, h.output, h.size, h.block⟩
theorem Gy {a b : World} {g : Nat} (h : a.grownBy b (some g)) (o : Nat) (v : Value) : a.grownBy (b.setCell (ja g o) v) (some g) :=
 ⟨h.os, h.tape, h.output, by simpa using h.size, fun j hj hne => (AE (fun e => hne (by rw [e]))).trans (h.block j hj hne)⟩
theorem J1 (cb : Nat) (ad : Option Addr) (len cap : Nat) (f : Nat → Int) (w : World) (hc : ED w cb ad len cap) (hv : E5 w ad len f) (hne : ∀ a, ad = some a → 0 < len → a.block ≠ cb) (hl : len ≤ 1048576) (hf : ∀ i, 0 ≤ f i ∧ f i ≤ 255) :
  Calls prog 97 #[.pointer (some (ja cb 0))] w fun e w' => ∃ x, e = .returned (ji x) ∧ 0 ≤ x ∧ x ≤ 255 ∧ ED w' cb ad len cap ∧ w.grownBy w' (some cb) := by
 obtain ⟨i, h, hi0, hi1, hh⟩ := hc;have hcell := fun j => cell_of_row w cb j _ _ _ hh
 have c0 : w.cell? (ja cb 0) = some (.slice ad len cap) := by rw [hcell 0]; rfl
 have c1 : w.cell? (ja cb 1) = some (ji i) := by rw [hcell 1]; rfl
 have c2 : w.cell? (ja cb 2) = some (ji h) := by rw [hcell 2]; rfl
 have z1 : w.frozen? (ja cb 1) = false := frozen_of_row w cb 1 _ _ hh;have z2 : w.frozen? (ja cb 2) = false := frozen_of_row w cb 2 _ _ hh;clear hcell;have h255 : ∀ n : Int, bits BinOp.and IntKind.i64 n 255 = n % 256 := LE;by_cases hlt : i < len
 ·
  obtain ⟨b, off, rfl, hcv⟩ := hv (by omega);have hbn : b ≠ cb := hne _ rfl (by omega);obtain ⟨k, rfl⟩ : ∃ k : Nat, i = k := ⟨i.toNat, by omega⟩;have hck := hcv k (by omega);have hfk := hf k;have hdl : decide ((k : Int) < (len : Int)) = true := by simp; omega
  go_enter func97, ntmps97
  go_wp2
  generalize wrap64 (wrap64 (h * 6364136223846793005) + 1442695040888963407) = h'
  have hh1 : (w.setCell (ja cb 2) (ji h')).heap[cb]? = some (.cells #[.slice (some (ja b off)) len cap, ji k, ji h'] 128 (0, 0)) := heap_setCell_same w cb 2 _ _ _ hh;have hg1 : w.grownBy (w.setCell (ja cb 2) (ji h')) (some cb) := Gy (Gb w _) 2 _;have hk1 : (w.setCell (ja cb 2) (ji h')).cell? ⟨b, off + k, none⟩ = some (.int .u8 (f k)) := by
   rw [World.cell?_setCell_other _ _ _ _ (fun e => hbn (by injection e with e1; exact e1.symm))];exact hck
  generalize w.setCell (ja cb 2) (ji h') = w1 at *
  have d0 : w1.cell? (ja cb 0) = some (.slice (some (ja b off)) len cap) := by rw [cell_of_row w1 cb 0 _ _ _ hh1]; rfl
  have d1 : w1.cell? (ja cb 1) = some (ji k) := by rw [cell_of_row w1 cb 1 _ _ _ hh1]; rfl
  have d2 : w1.cell? (ja cb 2) = some (ji h') := by rw [cell_of_row w1 cb 2 _ _ _ hh1]; rfl
  have y1 : w1.frozen? (ja cb 1) = false := frozen_of_row w1 cb 1 _ _ hh1;clear c0 c1 c2 z1 z2 hh hck hcv;go_quiet (fail)
  go_wp2
  go_quiet (fail)
  go_wp2
  go_quiet (fail)
  go_wp2
  go_ret
  exact ⟨_, rfl, by omega, by omega, ⟨(k : Int) + 1, h', by omega, by omega, heap_setCell_same w1 cb 1 _ _ _ hh1⟩, GV (Gy hg1 1 _) _⟩
 have hdl : decide (i < (len : Int)) = false := by simp; omega
 go_enter func97, ntmps97
 go_wp2
 generalize wrap64 (wrap64 (h * 6364136223846793005) + 1442695040888963407) = h'
 have hh1 : (w.setCell (ja cb 2) (ji h')).heap[cb]? = some (.cells #[.slice ad len cap, ji i, ji h'] 128 (0, 0)) := heap_setCell_same w cb 2 _ _ _ hh;have hg1 : w.grownBy (w.setCell (ja cb 2) (ji h')) (some cb) := Gy (Gb w _) 2 _;generalize w.setCell (ja cb 2) (ji h') = w1 at *
 have d0 : w1.cell? (ja cb 0) = some (.slice ad len cap) := by rw [cell_of_row w1 cb 0 _ _ _ hh1]; rfl
 have d1 : w1.cell? (ja cb 1) = some (ji i) := by rw [cell_of_row w1 cb 1 _ _ _ hh1]; rfl
 have d2 : w1.cell? (ja cb 2) = some (ji h') := by rw [cell_of_row w1 cb 2 _ _ _ hh1]; rfl
 clear c0 c1 c2 z1 z2 hh hv hne;go_quiet (fail)
 go_wp2
 go_quiet (fail)
 go_wp2
 go_ret
 exact ⟨_, rfl, by omega, by omega, ⟨i, h', by omega, by omega, hh1⟩, GV (GV hg1 _) _⟩
structure At (w : World) (cb : Nat) (ad : Option Addr) (len cap : Nat) (f : Nat → Int) : Prop where
 cur : ED w cb ad len cap
 view : E5 w ad len f
 ne : ∀ a, ad = some a → 0 < len → a.block ≠ cb
 small : len ≤ 1048576
 bytes : ∀ i, 0 ≤ f i ∧ f i ≤ 255
theorem At.grown {w w' : World} {cb : Nat} {ad : Option Addr} {len cap : Nat} {f : Nat → Int} (h : At w cb ad len cap f) (hc : ED w' cb ad len cap) (hg : w.grownBy w' (some cb)) : At w' cb ad len cap f :=
 ⟨hc, h.view.carry (fun a e hp => hg.block _ (by obtain ⟨b, off, e2, hcv⟩ := h.view hp; have := World.block_lt_of_cell? w _ (hcv 0 hp); rw [e2] at e; cases e; exact this) (by have := h.ne a e hp; simpa using this)), h.ne, h.small, h.bytes⟩
theorem JS {cb : Nat} {ad : Option Addr} {len cap : Nat} {f : Nat → Int} {w : World} (hs : At w cb ad len cap f) :
  Calls prog 97 #[.pointer (some (ja cb 0))] w fun e w' => ∃ x, e = .returned (ji x) ∧ 0 ≤ x ∧ x ≤ 255 ∧ At w' cb ad len cap f ∧ w.grownBy w' (some cb) := by
 refine (J1 cb ad len cap f w hs.cur hs.view hs.ne hs.small hs.bytes).mono ?_;rintro e w' ⟨x, rfl, h0, h1, hc, hg⟩;exact ⟨x, rfl, h0, h1, hs.grown hc hg, hg⟩
theorem BD {cb : Nat} {ad : Option Addr} {len cap : Nat} {f : Nat → Int} {w : World} (hs : At w cb ad len cap f) (n : Int) (h0 : 0 < n) (h1 : n ≤ 256) :
  Calls prog 56 #[.pointer (some (ja cb 0)), ji n] w fun e w' => ∃ x, e = .returned (ji x) ∧ 0 ≤ x ∧ x < n ∧ At w' cb ad len cap f ∧ w.grownBy w' (some cb) := by
 have hd0 : decide (n ≤ 0) = false := by simp; omega
 have hd1 : decide (n ≤ 256) = true := by simp; omega
 go_enter func56, ntmps56
 go_wp2_with fail
 go_at_call 97
 refine (JS hs).mono ?_;rintro e w' ⟨x, rfl, hx0, hx1, hs', hg⟩;have hne : (n == 0) = false := by rw [beq_eq_false_iff_ne]; omega
 have hm0 := Int.emod_nonneg x (by omega : n ≠ 0);have hm1 := Int.emod_lt_of_pos x h0;have htm : x.tmod n = x % n := Int.tmod_eq_emod_of_nonneg hx0;go_wp2
 go_ret
 exact ⟨_, rfl, hm0, hm1, hs', hg⟩
theorem H3 {cb : Nat} {ad : Option Addr} {len cap : Nat} {f : Nat → Int} {w : World} (hs : At w cb ad len cap f) (b n c : Nat) (g : Nat → Int) (hb : b ≠ cb) (h0 : 0 < n) (h1 : n ≤ 256) (hg : ∀ i, i < n → w.cell? (ja b i) = some (ji (g i))) :
  Calls prog 47 #[.pointer (some (ja cb 0)), .slice (some (ja b 0)) n c] w fun e w' => ∃ i, i < n ∧ e = .returned (ji (g i)) ∧ At w' cb ad len cap f ∧ w.grownBy w' (some cb) := by
 go_enter func47, ntmps47
 go_wp2_with fail
 go_at_call 56
 refine (BD hs n (by omega) (by omega)).mono ?_;rintro e w' ⟨x, rfl, hx0, hx1, hs', hgr⟩;obtain ⟨i, rfl⟩ : ∃ i : Nat, x = i := ⟨x.toNat, by omega⟩;have hi : i < n := by omega
 have hci : w'.cell? (ja b i) = some (ji (g i)) := (World.cell?_of_block (a := (ja b i)) (hgr.block b (World.block_lt_of_cell? w _ (hg i hi)) (by simpa using hb))).trans (hg i hi);clear hg;go_wp2
 go_ret
 exact ⟨i, hi, rfl, hs', hgr⟩
open Classical in
theorem Dq {cb : Nat} {ad : Option Addr} {len cap : Nat} {f : Nat → Int} {w : World} (hs : At w cb ad len cap f) (P : Int → Prop) (b n c : Nat) (hb : b ≠ cb) (h0 : 0 < n) (h1 : n ≤ 256) (hg : ∀ i, i < n → ∃ y, w.cell? (ja b i) = some (ji y) ∧ P y) :
  Calls prog 47 #[.pointer (some (ja cb 0)), .slice (some (ja b 0)) n c] w fun e w' => ∃ y, e = .returned (ji y) ∧ P y ∧ At w' cb ad len cap f ∧ w.grownBy w' (some cb) := by
 refine (H3 hs b n c (fun i => if h : i < n then (hg i h).choose else 0) hb h0 h1 (fun i hi => by simp only [dif_pos hi]; exact (hg i hi).choose_spec.1)).mono ?_;rintro e w' ⟨i, hi, rfl, hs', hgr⟩;exact ⟨_, rfl, by simp only [dif_pos hi]; exact (hg i hi).choose_spec.2, hs', hgr⟩
theorem CQ (w : World) (a : Array Value) (E i : Nat) {v : Value} (h : a[i]? = some v) : (w.alloc (.cells a E)).cell? (ja w.heap.size i) = some v :=
 (cell_of_row _ w.heap.size i _ _ _ (heap_alloc_new w _)).trans h
theorem FV {cb : Nat} {ad : Option Addr} {len cap : Nat} {f : Nat → Int} {w : World} (hs : At w cb ad len cap f) (n : Int) (h0 : 0 < n) (h1 : n ≤ 256) :
  Calls prog 52 #[.pointer (some (ja cb 0)), ji n] w fun e w' => ∃ b : Bool, e = .returned (.bool b) ∧ At w' cb ad len cap f ∧ w.grownBy w' (some cb) := by
 go_enter func52, ntmps52
 go_wp2_with fail
 go_at_call 56
 refine (BD hs n h0 h1).mono ?_;rintro e w' ⟨x, rfl, hx0, hx1, hs', hg⟩;go_wp2
 go_ret
 exact ⟨_, rfl, hs', hg⟩
def AX (w : World) (q : Nat) (r c b p : Int) : Prop := DC w q r c b p ∧ ∀ i, w.frozen? (ja q i) = false
theorem AX.keep {w w' : World} {q : Nat} {r c b p : Int} (h : AX w q r c b p) (k : w'.heap[q]? = w.heap[q]?) : AX w' q r c b p :=
 ⟨⟨(World.cell?_of_block (a := (ja q 0)) k).trans h.1.1, (World.cell?_of_block (a := (ja q 1)) k).trans h.1.2.1, (World.cell?_of_block (a := (ja q 2)) k).trans h.1.2.2.1, (World.cell?_of_block (a := (ja q 3)) k).trans h.1.2.2.2⟩, fun i => (World.frozen?_of_block (a := (ja q i)) k).trans (h.2 i)⟩
theorem AX.lt {w : World} {q : Nat} {r c b p : Int} (h : AX w q r c b p) : q < w.heap.size := World.block_lt_of_cell? w _ h.1.1
theorem AX.new (w : World) (t : TypeId) (r c b p : Int) : AX (w.alloc (Obj.cells #[ji r, ji c, ji b, ji p] t)) w.heap.size r c b p :=
 ⟨Gd w t r c b p, fun i => by simp [go_sem]⟩
theorem AX.alloc {w : World} {q : Nat} {r c b p : Int} (h : AX w q r c b p) (o : Obj) : AX (w.alloc o) q r c b p := h.keep (Below.heap_alloc w o q h.lt)
theorem AX.grown {w w' : World} {q cb : Nat} {r c b p : Int} (h : AX w q r c b p) (g : w.grownBy w' (some cb)) (hne : q ≠ cb) : AX w' q r c b p := h.keep (g.block q h.lt (by simpa using hne))
theorem AX.other {w : World} {q q' i : Nat} {r c b p : Int} {v : Value} (h : AX w q r c b p) (hne : q ≠ q') : AX (w.setCell ⟨q', i, none⟩ v) q r c b p := h.keep (AE hne)
theorem GC {w : World} {q i : Nat} {u v : Value} (h : w.cell? (ja q i) = some u) : (w.setCell (ja q i) v).cell? (ja q i) = some v := HG ⟨_, h⟩
theorem EF {w : World} {q i j : Nat} {v : Value} (h : i ≠ j) : (w.setCell (ja q i) v).cell? (ja q j) = w.cell? (ja q j) := GX (Ne.symm h)
theorem AX.set0 {w : World} {q : Nat} {r c b p : Int} (x : Int) (h : AX w q r c b p) : AX (w.setCell (ja q 0) (ji x)) q x c b p :=
 ⟨⟨GC h.1.1, (EF (by decide)).trans h.1.2.1, (EF (by decide)).trans h.1.2.2.1, (EF (by decide)).trans h.1.2.2.2⟩, fun i => by rw [World.frozen?_setCell]; exact h.2 i⟩
theorem AX.set1 {w : World} {q : Nat} {r c b p : Int} (x : Int) (h : AX w q r c b p) : AX (w.setCell (ja q 1) (ji x)) q r x b p :=
 ⟨⟨(EF (by decide)).trans h.1.1, GC h.1.2.1, (EF (by decide)).trans h.1.2.2.1, (EF (by decide)).trans h.1.2.2.2⟩, fun i => by rw [World.frozen?_setCell]; exact h.2 i⟩
theorem AX.set2 {w : World} {q : Nat} {r c b p : Int} (x : Int) (h : AX w q r c b p) : AX (w.setCell (ja q 2) (ji x)) q r c x p :=
 ⟨⟨(EF (by decide)).trans h.1.1, (EF (by decide)).trans h.1.2.1, GC h.1.2.2.1, (EF (by decide)).trans h.1.2.2.2⟩, fun i => by rw [World.frozen?_setCell]; exact h.2 i⟩
theorem AX.set3 {w : World} {q : Nat} {r c b p : Int} (x : Int) (h : AX w q r c b p) : AX (w.setCell (ja q 3) (ji x)) q r c b x :=
 ⟨⟨(EF (by decide)).trans h.1.1, (EF (by decide)).trans h.1.2.1, (EF (by decide)).trans h.1.2.2.1, GC h.1.2.2.2⟩, fun i => by rw [World.frozen?_setCell]; exact h.2 i⟩
theorem AX.put {w : World} {q : Nat} {r c b p : Int} (r2 c2 b2 p2 : Int) (h : AX w q r c b p) : AX ((((w.setCell (ja q 0) (ji r2)).setCell (ja q 1) (ji c2)).setCell (ja q 2) (ji b2)).setCell (ja q 3) (ji p2)) q r2 c2 b2 p2 := (((h.set0 r2).set1 c2).set2 b2).set3 p2
structure DV (w : World) (cb : Nat) (ad : Option Addr) (len cap : Nat) (y : World) : Prop where
 cur : ED y cb ad len cap
 gr : w.grownBy y (some cb)
theorem DV.src {w y : World} {cb : Nat} {ad : Option Addr} {len cap : Nat} {f : Nat → Int} (h : DV w cb ad len cap y) (hs : At w cb ad len cap f) : At y cb ad len cap f := hs.grown h.cur h.gr
theorem DV.start {w : World} {cb : Nat} {ad : Option Addr} {len cap : Nat} {f : Nat → Int} (hs : At w cb ad len cap f) : DV w cb ad len cap w := ⟨hs.cur, Gb _ _⟩
theorem DV.step {w y z : World} {cb : Nat} {ad : Option Addr} {len cap : Nat} {f : Nat → Int} (h : DV w cb ad len cap y) (hs : At z cb ad len cap f) (g : y.grownBy z (some cb)) : DV w cb ad len cap z := ⟨hs.cur, Hv h.gr g⟩
theorem DV.alloc {w y : World} {cb : Nat} {ad : Option Addr} {len cap : Nat} (h : DV w cb ad len cap y) (o : Obj) : DV w cb ad len cap (y.alloc o) :=
 ⟨h.cur.carry (Below.heap_alloc y o cb h.cur.lt), h.gr.os, h.gr.tape, h.gr.output, by have := h.gr.size; simp; omega, fun k hk hn => (Below.heap_alloc y o k (by have := h.gr.size; omega)).trans (h.gr.block k hk hn)⟩
theorem DV.set {w y : World} {cb : Nat} {ad : Option Addr} {len cap : Nat} {N i : Nat} (h : DV w cb ad len cap y) (hN : w.heap.size ≤ N) (hcb : cb < w.heap.size) (v : Value) : DV w cb ad len cap (y.setCell (ja N i) v) :=
 ⟨h.cur.carry (AE (by show cb ≠ N; omega)), h.gr.os, h.gr.tape, h.gr.output, by have := h.gr.size; simp; omega, fun k hk hn => (AE (by show k ≠ N; omega)).trans (h.gr.block k hk hn)⟩
theorem DV.drew {w y : World} {cb : Nat} {ad : Option Addr} {len cap : Nat} (h : DV w cb ad len cap y) : DV w cb ad len cap y.drew := ⟨h.cur, h.gr.os, h.gr.tape, h.gr.output, h.gr.size, h.gr.block⟩
def V4 (r c b p : Int) : Prop := (-1 ≤ r ∧ r ≤ 100) ∧ (-1 ≤ c ∧ c ≤ 100) ∧ (-1 ≤ b ∧ b ≤ 100) ∧ (-1 ≤ p ∧ p ≤ 100)
def If (w : World) (cb : Nat) (ad : Option Addr) (len cap : Nat) (f : Nat → Int) (e : Ending) (w' : World) : Prop := ∃ r c b p, e = .returned (.agg #[ji r, ji c, ji b, ji p]) ∧ V4 r c b p ∧ At w' cb ad len cap f ∧ w.grownBy w' (some cb)
theorem Iy {P : Program} {reg : Code} {K : Act → World → Prop} {Q : Exit → Act → World → Prop} {l : List Value} {ds : List Deferred} {W : World} (R : List Value → List Value → World → Prop) (h1 : ∀ l' W', R l l' W' → K ⟨l'.toArray, ds⟩ W') (h2 : ∀ K2 : Act → World → Prop, Hid (∀ l' W', R l l' W' → K2 ⟨l'.toArray, ds⟩ W') → Code.wp P reg (Exit.then K2 Q) ⟨l.toArray, ds⟩ W) : Code.wp P reg (Exit.then K Q) ⟨l.toArray, ds⟩ W := h2 K h1
theorem GL {cb : Nat} {ad : Option Addr} {len cap : Nat} {f : Nat → Int} (w : World) (hs : At w cb ad len cap f) (hcb : cb < w.heap.size) :
  Calls prog 80 #[.pointer (some (ja cb 0))] w fun e w' => If w cb ad len cap f e w' := by
 obtain ⟨R, hRe⟩ := AC w.heap.size;have hR : w.heap.size ≤ R := by omega
 have hRc : R ≠ cb := by omega
 obtain ⟨x0, hx0⟩ := AC (w.alloc (Obj.cells #[ji 0, ji 0, ji 0, ji 0] 25));have D0 : DV w cb ad len cap x0 := by rw [hx0]; exact (DV.start hs).alloc _
 have Q0 : AX x0 R 0 0 0 0 := by rw [hx0, hRe]; exact AX.new w _ _ _ _ _
 go_enter func80, ntmps80
 go_wp2_with fail
 go_at_call 56
 rw [← hx0, ← hRe];clear hx0 hRe;refine (BD (D0.src hs) 4 (by omega) (by omega)).mono ?_;rintro e y1 ⟨r, rfl, r0, r1, s1, g1⟩;have D1 := D0.step s1 g1;have Q1 := Q0.grown g1 hRc;go_wp2_with fail
 go_at_call 56
 refine (BD s1 4 (by omega) (by omega)).mono ?_;rintro e y2 ⟨p, rfl, p0, p1, s2, g2⟩;have D2 := D1.step s2 g2;have Q2 := Q1.grown g2 hRc;clear D0 Q0 D1 Q1 s1 g1 g2;obtain ⟨N, hNe⟩ := AC y2.heap.size;have hN : w.heap.size ≤ N := by have := D2.gr.size; omega
 have hNc : N ≠ cb := by omega
 have hRN : R ≠ N := by have := Q2.lt; omega
 obtain ⟨x3, hx3⟩ := AC (y2.alloc (Obj.cells #[ji (1 + r), ji 0, ji 0, ji p] 25));have D3 : DV w cb ad len cap x3 := by rw [hx3]; exact D2.alloc _
 have Q3 : AX x3 R 0 0 0 0 := by rw [hx3]; exact Q2.alloc _
 have V3 : AX x3 N (1 + r) 0 0 p := by rw [hx3, hNe]; exact AX.new y2 _ _ _ _ _
 go_wp2
 rw [← hx3, ← hNe];clear hx3 hNe D2 Q2;refine Iy (fun l l' W' => ∃ (u : Int) (us : List Value), 0 ≤ u ∧ u < 3 ∧ us.length = 6 ∧ l' = l.take 10 ++ us ++ l.drop 16 ∧ AX W' N (1 + r) 0 (1 + r + u) p ∧ AX W' R 0 0 0 0 ∧ DV w cb ad len cap W') ?_ ?_;rotate_left
 ·
  intro K2 hT;refine wp_region_held (S := fun Y => (∃ z, AX Y N (1 + r) 0 z p) ∧ AX Y R 0 0 0 0 ∧ DV w cb ad len cap Y) (by kernel_rfl) ?_;change wpAnyH _ _ _ _ _ _ _ _ (World.drew _);have hb0 : (∃ z, AX x3.drew N (1 + r) 0 z p) ∧ AX x3.drew R 0 0 0 0 ∧ DV w cb ad len cap x3.drew := ⟨⟨_, V3⟩, Q3, D3.drew⟩;obtain ⟨y0, hy0⟩ := AC x3.drew;rw [← hy0] at hb0 ⊢;clear hy0;refine tw 0 10 (.pointer (some (ja N 0))) ?_;refine tw 1 11 (ji (1 + r)) ?_ (hy := by intro Y hSw; obtain ⟨⟨_, ⟨C1, C2, C3, C4⟩, _⟩, _, _⟩ := hSw; go_simp);refine tw 2 12 (.pointer (some (ja cb 0))) ?_;refine wpAnyH_all (rs := [3]) (by kernel_rfl) (by simp) ?_;intro i hi; obtain rfl : i = 3 := by simpa using hi
  refine wpOp_step rfl (fun K hK => ?_);rw [if_pos (by kernel_rfl)];go_simp
  go_at_call 56
  refine (BD (hb0.2.2.src hs) 3 (by omega) (by omega)).mono ?_;rintro e y1 ⟨u, rfl, u0, u1, s3, g3⟩;have hwr : IntKind.i64.wrap (1 + r + u) = 1 + r + u := by rw [IntKind.wrap_i64]; omega
  obtain ⟨⟨z0, hz0⟩, hq0, hd0⟩ := hb0;have hb1 : (∃ z, AX y1 N (1 + r) 0 z p) ∧ AX y1 R 0 0 0 0 ∧ DV w cb ad len cap y1 := ⟨⟨_, hz0.grown g3 hNc⟩, hq0.grown g3 hRc, hd0.step s3 g3⟩;refine hK _ _ ⟨hb1, ?_⟩;clear hK K hi;refine tw 4 14 (ji (1 + r + u)) ?_;refine tw 5 15 (.pointer (some (ja N 2))) ?_;refine wpAnyH_all (rs := [6]) (by kernel_rfl) (by simp) ?_;intro i hi; obtain rfl : i = 6 := by simpa using hi
  refine wpOp_step rfl (fun K hK => ?_);rw [if_pos (by kernel_rfl)];obtain ⟨⟨z1, hz1⟩, hq1, hd1⟩ := hb1;have c3 := hz1.1.2.2.1;have f3 := hz1.2 2;go_simp
  clear c3 f3;obtain ⟨x4, hx4⟩ := AC (y1.setCell (ja N 2) (ji (1 + r + u)));have V4' : AX x4 N (1 + r) 0 (1 + r + u) p := by rw [hx4]; exact hz1.set2 _
  have Q4 : AX x4 R 0 0 0 0 := by rw [hx4]; exact hq1.other hRN
  have D4 : DV w cb ad len cap x4 := by rw [hx4]; exact hd1.set hN hcb _
  rw [← hx4];clear hx4;refine hK _ _ ⟨⟨⟨_, V4'⟩, Q4, D4⟩, ?_⟩;clear hK K hi;refine Ag ?_;exact hT.out _ _ ⟨u, [.pointer (some (ja N 0)), ji (1 + r), .pointer (some (ja cb 0)), ji u, ji (1 + r + u), .pointer (some (ja N 2))], u0, u1, rfl, by kernel_rfl, V4', Q4, D4⟩
 rintro l' x4 ⟨u, us, u0, u1, hul, rfl, V4', Q4, D4⟩;obtain ⟨u10, us, rfl⟩ : ∃ a b, us = a :: b := List.exists_cons_of_length_eq_add_one hul;replace hul := Nat.succ.inj hul;obtain ⟨u11, us, rfl⟩ : ∃ a b, us = a :: b := List.exists_cons_of_length_eq_add_one hul;replace hul := Nat.succ.inj hul;obtain ⟨u12, us, rfl⟩ : ∃ a b, us = a :: b := List.exists_cons_of_length_eq_add_one hul;replace hul := Nat.succ.inj hul;obtain ⟨u13, us, rfl⟩ : ∃ a b, us = a :: b := List.exists_cons_of_length_eq_add_one hul;replace hul := Nat.succ.inj hul;obtain ⟨u14, us, rfl⟩ : ∃ a b, us = a :: b := List.exists_cons_of_length_eq_add_one hul;replace hul := Nat.succ.inj hul;obtain ⟨u15, us, rfl⟩ : ∃ a b, us = a :: b := List.exists_cons_of_length_eq_add_one hul;replace hul := Nat.succ.inj hul;obtain rfl : us = [] := List.eq_nil_of_length_eq_zero hul;clear hul;simp only [List.take, List.drop, List.cons_append, List.nil_append];have VV := V4';obtain ⟨⟨c1, c2, c3, c4⟩, ff⟩ := V4';by_cases hu : 0 < u
 ·
  have hd : decide (1 + r < 1 + r + u) = true := by simp; omega
  go_wp2_with fail
  go_at_call 56
  refine (BD (D4.src hs) 3 (by omega) (by omega)).mono ?_;rintro e y5 ⟨t, rfl, t0, t1, s5, g5⟩;have D5 := D4.step s5 g5;have Q5 := Q4.grown g5 hRc;have V5 := VV.grown g5 hNc;clear c1 c2 c3 c4 ff;obtain ⟨x6, hx6⟩ := AC (y5.setCell (ja N 1) (ji (1 + t)));have D6 : DV w cb ad len cap x6 := by rw [hx6]; exact D5.set hN hcb _
  have Q6 : AX x6 R 0 0 0 0 := by rw [hx6]; exact Q5.other hRN
  have V6 : AX x6 N (1 + r) (1 + t) (1 + r + u) p := by rw [hx6]; exact V5.set1 _
  have V6' := V6;obtain ⟨⟨c1, c2, c3, c4⟩, ff⟩ := V5;have f1 := ff 1;have Q6' := Q6;obtain ⟨⟨d1, d2, d3, d4⟩, gg⟩ := Q6;have g0 := gg 0;have g1 := gg 1;have g2 := gg 2;have g3 := gg 3;obtain ⟨⟨h1, h2, h3, h4⟩, hh⟩ := V6;rw [hx6] at h1 h2 h3 h4 d1 d2 d3 d4 g0 g1 g2 g3;go_wp2
  rw [← hx6];obtain ⟨z, hz⟩ := AC ((((x6.setCell (ja R 0) (ji (1 + r))).setCell (ja R 1) (ji (1 + t))).setCell (ja R 2) (ji (1 + r + u))).setCell (ja R 3) (ji (p)));have Z := Q6'.put (1 + r) (1 + t) (1 + r + u) (p);rw [← hz] at Z ⊢;have DZ : DV w cb ad len cap z := by rw [hz]; exact (((D6.set hR hcb _).set hR hcb _).set hR hcb _).set hR hcb _
  clear hz;obtain ⟨⟨e1, e2, e3, e4⟩, _⟩ := Z;exact bodyPost_ret (v := .agg #[ji (1 + r), ji (1 + t), ji (1 + r + u), ji (p)]) (by simp only [results, results80]; simp [go_sem, e1, e2, e3, e4]) rfl ⟨_, _, _, _, rfl, ⟨by omega, by omega, by omega, by omega⟩, DZ.src hs, DZ.gr⟩
 have hd : decide (1 + r < 1 + r + u) = false := by simp; omega
 have Q4' := Q4;obtain ⟨⟨d1, d2, d3, d4⟩, gg⟩ := Q4;have g0 := gg 0;have g1 := gg 1;have g2 := gg 2;have g3 := gg 3;go_wp2
 obtain ⟨z, hz⟩ := AC ((((x4.setCell (ja R 0) (ji (1 + r))).setCell (ja R 1) (ji (0))).setCell (ja R 2) (ji (1 + r + u))).setCell (ja R 3) (ji (p)));have Z := Q4'.put (1 + r) (0) (1 + r + u) (p);rw [← hz] at Z ⊢;have DZ : DV w cb ad len cap z := by rw [hz]; exact (((D4.set hR hcb _).set hR hcb _).set hR hcb _).set hR hcb _
 clear hz;obtain ⟨⟨e1, e2, e3, e4⟩, _⟩ := Z;exact bodyPost_ret (v := .agg #[ji (1 + r), ji (0), ji (1 + r + u), ji (p)]) (by simp only [results, results80]; simp [go_sem, e1, e2, e3, e4]) rfl ⟨_, _, _, _, rfl, ⟨by omega, by omega, by omega, by omega⟩, DZ.src hs, DZ.gr⟩
theorem IP {cb : Nat} {ad : Option Addr} {len cap : Nat} {f : Nat → Int} (w : World) (hs : At w cb ad len cap f) (hcb : cb < w.heap.size) :
  Calls prog 78 #[.pointer (some (ja cb 0))] w fun e w' => If w cb ad len cap f e w' := by
 obtain ⟨R, hRe⟩ := AC w.heap.size;have hR : w.heap.size ≤ R := by omega
 have hRc : R ≠ cb := by omega
 obtain ⟨x0, hx0⟩ := AC (w.alloc (Obj.cells #[ji 0, ji 0, ji 0, ji 0] 25));have D0 : DV w cb ad len cap x0 := by rw [hx0]; exact (DV.start hs).alloc _
 have Q0 : AX x0 R 0 0 0 0 := by rw [hx0, hRe]; exact AX.new w _ _ _ _ _
 have h0 : cb < x0.heap.size := by have := D0.gr.size; omega
 go_enter func78, ntmps78
 go_wp2_with fail
 go_at_call 80
 rw [← hx0, ← hRe];clear hx0 hRe;refine (GL x0 (D0.src hs) h0).mono ?_;rintro e y1 ⟨r, c, b, p, rfl, ⟨hr, hc, hb, hp⟩, s1, g1⟩;have D1 := D0.step s1 g1;have Q1 := Q0.grown g1 hRc;clear D0 Q0 s1 g1 h0;obtain ⟨N, hNe⟩ := AC y1.heap.size;have hN : w.heap.size ≤ N := by have := D1.gr.size; omega
 have hNc : N ≠ cb := by omega
 have hRN : R ≠ N := by have := Q1.lt; omega
 obtain ⟨x2, hx2⟩ := AC (y1.alloc (Obj.cells #[ji r, ji c, ji b, ji p] 25));have D2 : DV w cb ad len cap x2 := by rw [hx2]; exact D1.alloc _
 have Q2 : AX x2 R 0 0 0 0 := by rw [hx2]; exact Q1.alloc _
 have V2 : AX x2 N r c b p := by rw [hx2, hNe]; exact AX.new y1 _ _ _ _ _
 go_wp2_with fail
 go_at_call 56
 rw [← hx2, ← hNe];clear hx2 hNe D1 Q1;refine (BD (D2.src hs) 10 (by omega) (by omega)).mono ?_;rintro e y3 ⟨k, rfl, k0, k1, s3, g3⟩;have D3 := D2.step s3 g3;have Q3 := Q2.grown g3 hRc;have V3 := V2.grown g3 hNc;clear D2 Q2 V2 s3 g3;obtain ⟨B, hBe⟩ := AC y3.heap.size;have hBc : B ≠ cb := by have := D3.gr.size; omega
 by_cases hk0 : k = 0
 ·
  subst hk0;obtain ⟨x4, hx4⟩ := AC (y3.alloc (Obj.cells #[ji 0, ji 9, ji 10] 3));have D4 : DV w cb ad len cap x4 := by rw [hx4]; exact D3.alloc _
  have Q4 : AX x4 R 0 0 0 0 := by rw [hx4]; exact Q3.alloc _
  have V4' : AX x4 N r c b p := by rw [hx4]; exact V3.alloc _
  have hg : ∀ i, i < 3 → ∃ y, x4.cell? (ja B i) = some (ji y) ∧ (-1 ≤ y ∧ y ≤ 100) := by
   intro i hi;rw [hx4, hBe];obtain rfl | rfl | rfl : i = 0 ∨ i = 1 ∨ i = 2 := by omega
   ·
    exact ⟨_, CQ y3 _ _ 0 rfl, by omega⟩
   ·
    exact ⟨_, CQ y3 _ _ 1 rfl, by omega⟩
   exact ⟨_, CQ y3 _ _ 2 rfl, by omega⟩
  go_wp2_with fail
  go_at_call 47
  rw [← hx4, ← hBe];clear hx4 hBe D3 Q3 V3;refine (Dq (D4.src hs) (fun y => -1 ≤ y ∧ y ≤ 100) B 3 3 hBc (by omega) (by omega) hg).mono ?_;rintro e y5 ⟨v, rfl, hv, s5, g5⟩;have D5 := D4.step s5 g5;have Q5 := Q4.grown g5 hRc;have V5 := V4'.grown g5 hNc;clear hg D4 Q4 V4' s5 g5;obtain ⟨x6, hx6⟩ := AC (y5.setCell (ja N 0) (ji v));have D6 : DV w cb ad len cap x6 := by rw [hx6]; exact D5.set hN hcb _
  have Q6 : AX x6 R 0 0 0 0 := by rw [hx6]; exact Q5.other hRN
  have V6 : AX x6 N v c b p := by rw [hx6]; exact V5.set0 _
  obtain ⟨⟨c1, c2, c3, c4⟩, ff⟩ := V5;have f1 := ff 0;have Q6' := Q6;obtain ⟨⟨d1, d2, d3, d4⟩, gg⟩ := Q6;have g0 := gg 0;have g1 := gg 1;have g2 := gg 2;have g3 := gg 3;obtain ⟨⟨h1, h2, h3, h4⟩, hh⟩ := V6;rw [hx6] at h1 h2 h3 h4 d1 d2 d3 d4 g0 g1 g2 g3;go_wp2
  rw [← hx6];obtain ⟨z, hz⟩ := AC ((((x6.setCell (ja R 0) (ji (v))).setCell (ja R 1) (ji (c))).setCell (ja R 2) (ji (b))).setCell (ja R 3) (ji (p)));have Z := Q6'.put (v) (c) (b) (p);rw [← hz] at Z ⊢;have DZ : DV w cb ad len cap z := by rw [hz]; exact (((D6.set hR hcb _).set hR hcb _).set hR hcb _).set hR hcb _
  clear hz;obtain ⟨⟨e1, e2, e3, e4⟩, _⟩ := Z;exact bodyPost_ret (v := .agg #[ji (v), ji (c), ji (b), ji (p)]) (by simp only [results, results78]; simp [go_sem, e1, e2, e3, e4]) rfl ⟨_, _, _, _, rfl, ⟨by omega, by omega, by omega, by omega⟩, DZ.src hs, DZ.gr⟩
 have e0 : (k == 0) = false := by simp; omega
 by_cases hk1 : k = 1
 ·
  subst hk1;obtain ⟨x4, hx4⟩ := AC (y3.alloc (Obj.cells #[ji (-1), ji 0, ji 20, ji 21] 3));have D4 : DV w cb ad len cap x4 := by rw [hx4]; exact D3.alloc _
  have Q4 : AX x4 R 0 0 0 0 := by rw [hx4]; exact Q3.alloc _
  have V4' : AX x4 N r c b p := by rw [hx4]; exact V3.alloc _
  have hg : ∀ i, i < 4 → ∃ y, x4.cell? (ja B i) = some (ji y) ∧ (-1 ≤ y ∧ y ≤ 100) := by
   intro i hi;rw [hx4, hBe];obtain rfl | rfl | rfl | rfl : i = 0 ∨ i = 1 ∨ i = 2 ∨ i = 3 := by omega
   ·
    exact ⟨_, CQ y3 _ _ 0 rfl, by omega⟩
   ·
    exact ⟨_, CQ y3 _ _ 1 rfl, by omega⟩
   ·
    exact ⟨_, CQ y3 _ _ 2 rfl, by omega⟩
   exact ⟨_, CQ y3 _ _ 3 rfl, by omega⟩
  go_wp2_with fail
  go_at_call 47
  rw [← hx4, ← hBe];clear hx4 hBe D3 Q3 V3;refine (Dq (D4.src hs) (fun y => -1 ≤ y ∧ y ≤ 100) B 4 4 hBc (by omega) (by omega) hg).mono ?_;rintro e y5 ⟨v, rfl, hv, s5, g5⟩;have D5 := D4.step s5 g5;have Q5 := Q4.grown g5 hRc;have V5 := V4'.grown g5 hNc;clear hg D4 Q4 V4' s5 g5;obtain ⟨x6, hx6⟩ := AC (y5.setCell (ja N 1) (ji v));have D6 : DV w cb ad len cap x6 := by rw [hx6]; exact D5.set hN hcb _
  have Q6 : AX x6 R 0 0 0 0 := by rw [hx6]; exact Q5.other hRN
  have V6 : AX x6 N r v b p := by rw [hx6]; exact V5.set1 _
  obtain ⟨⟨c1, c2, c3, c4⟩, ff⟩ := V5;have f1 := ff 1;have Q6' := Q6;obtain ⟨⟨d1, d2, d3, d4⟩, gg⟩ := Q6;have g0 := gg 0;have g1 := gg 1;have g2 := gg 2;have g3 := gg 3;obtain ⟨⟨h1, h2, h3, h4⟩, hh⟩ := V6;rw [hx6] at h1 h2 h3 h4 d1 d2 d3 d4 g0 g1 g2 g3;go_wp2
  rw [← hx6];obtain ⟨z, hz⟩ := AC ((((x6.setCell (ja R 0) (ji (r))).setCell (ja R 1) (ji (v))).setCell (ja R 2) (ji (b))).setCell (ja R 3) (ji (p)));have Z := Q6'.put (r) (v) (b) (p);rw [← hz] at Z ⊢;have DZ : DV w cb ad len cap z := by rw [hz]; exact (((D6.set hR hcb _).set hR hcb _).set hR hcb _).set hR hcb _
  clear hz;obtain ⟨⟨e1, e2, e3, e4⟩, _⟩ := Z;exact bodyPost_ret (v := .agg #[ji (r), ji (v), ji (b), ji (p)]) (by simp only [results, results78]; simp [go_sem, e1, e2, e3, e4]) rfl ⟨_, _, _, _, rfl, ⟨by omega, by omega, by omega, by omega⟩, DZ.src hs, DZ.gr⟩
 have e1 : (k == 1) = false := by simp; omega
 by_cases hk2 : k = 2
 ·
  subst hk2;obtain ⟨x4, hx4⟩ := AC (y3.alloc (Obj.cells #[ji 0, ji 9, ji 10] 3));have D4 : DV w cb ad len cap x4 := by rw [hx4]; exact D3.alloc _
  have Q4 : AX x4 R 0 0 0 0 := by rw [hx4]; exact Q3.alloc _
  have V4' : AX x4 N r c b p := by rw [hx4]; exact V3.alloc _
  have hg : ∀ i, i < 3 → ∃ y, x4.cell? (ja B i) = some (ji y) ∧ (-1 ≤ y ∧ y ≤ 100) := by
   intro i hi;rw [hx4, hBe];obtain rfl | rfl | rfl : i = 0 ∨ i = 1 ∨ i = 2 := by omega
   ·
    exact ⟨_, CQ y3 _ _ 0 rfl, by omega⟩
   ·
    exact ⟨_, CQ y3 _ _ 1 rfl, by omega⟩
   exact ⟨_, CQ y3 _ _ 2 rfl, by omega⟩
  go_wp2_with fail
  go_at_call 47
  rw [← hx4, ← hBe];clear hx4 hBe D3 Q3 V3;refine (Dq (D4.src hs) (fun y => -1 ≤ y ∧ y ≤ 100) B 3 3 hBc (by omega) (by omega) hg).mono ?_;rintro e y5 ⟨v, rfl, hv, s5, g5⟩;have D5 := D4.step s5 g5;have Q5 := Q4.grown g5 hRc;have V5 := V4'.grown g5 hNc;clear hg D4 Q4 V4' s5 g5;obtain ⟨x6, hx6⟩ := AC (y5.setCell (ja N 2) (ji v));have D6 : DV w cb ad len cap x6 := by rw [hx6]; exact D5.set hN hcb _
  have Q6 : AX x6 R 0 0 0 0 := by rw [hx6]; exact Q5.other hRN
  have V6 : AX x6 N r c v p := by rw [hx6]; exact V5.set2 _
  obtain ⟨⟨c1, c2, c3, c4⟩, ff⟩ := V5;have f1 := ff 2;have Q6' := Q6;obtain ⟨⟨d1, d2, d3, d4⟩, gg⟩ := Q6;have g0 := gg 0;have g1 := gg 1;have g2 := gg 2;have g3 := gg 3;obtain ⟨⟨h1, h2, h3, h4⟩, hh⟩ := V6;rw [hx6] at h1 h2 h3 h4 d1 d2 d3 d4 g0 g1 g2 g3;go_wp2
  rw [← hx6];obtain ⟨z, hz⟩ := AC ((((x6.setCell (ja R 0) (ji (r))).setCell (ja R 1) (ji (c))).setCell (ja R 2) (ji (v))).setCell (ja R 3) (ji (p)));have Z := Q6'.put (r) (c) (v) (p);rw [← hz] at Z ⊢;have DZ : DV w cb ad len cap z := by rw [hz]; exact (((D6.set hR hcb _).set hR hcb _).set hR hcb _).set hR hcb _
  clear hz;obtain ⟨⟨e1, e2, e3, e4⟩, _⟩ := Z;exact bodyPost_ret (v := .agg #[ji (r), ji (c), ji (v), ji (p)]) (by simp only [results, results78]; simp [go_sem, e1, e2, e3, e4]) rfl ⟨_, _, _, _, rfl, ⟨by omega, by omega, by omega, by omega⟩, DZ.src hs, DZ.gr⟩
 have e2 : (k == 2) = false := by simp; omega
 by_cases hk3 : k = 3
 ·
  subst hk3;obtain ⟨x4, hx4⟩ := AC (y3.alloc (Obj.cells #[ji (-1), ji 3, ji 4] 3));have D4 : DV w cb ad len cap x4 := by rw [hx4]; exact D3.alloc _
  have Q4 : AX x4 R 0 0 0 0 := by rw [hx4]; exact Q3.alloc _
  have V4' : AX x4 N r c b p := by rw [hx4]; exact V3.alloc _
  have hg : ∀ i, i < 3 → ∃ y, x4.cell? (ja B i) = some (ji y) ∧ (-1 ≤ y ∧ y ≤ 100) := by
   intro i hi;rw [hx4, hBe];obtain rfl | rfl | rfl : i = 0 ∨ i = 1 ∨ i = 2 := by omega
   ·
    exact ⟨_, CQ y3 _ _ 0 rfl, by omega⟩
   ·
    exact ⟨_, CQ y3 _ _ 1 rfl, by omega⟩
   exact ⟨_, CQ y3 _ _ 2 rfl, by omega⟩
  go_wp2_with fail
  go_at_call 47
  rw [← hx4, ← hBe];clear hx4 hBe D3 Q3 V3;refine (Dq (D4.src hs) (fun y => -1 ≤ y ∧ y ≤ 100) B 3 3 hBc (by omega) (by omega) hg).mono ?_;rintro e y5 ⟨v, rfl, hv, s5, g5⟩;have D5 := D4.step s5 g5;have Q5 := Q4.grown g5 hRc;have V5 := V4'.grown g5 hNc;clear hg D4 Q4 V4' s5 g5;obtain ⟨x6, hx6⟩ := AC (y5.setCell (ja N 3) (ji v));have D6 : DV w cb ad len cap x6 := by rw [hx6]; exact D5.set hN hcb _
  have Q6 : AX x6 R 0 0 0 0 := by rw [hx6]; exact Q5.other hRN
  have V6 : AX x6 N r c b v := by rw [hx6]; exact V5.set3 _
  obtain ⟨⟨c1, c2, c3, c4⟩, ff⟩ := V5;have f1 := ff 3;have Q6' := Q6;obtain ⟨⟨d1, d2, d3, d4⟩, gg⟩ := Q6;have g0 := gg 0;have g1 := gg 1;have g2 := gg 2;have g3 := gg 3;obtain ⟨⟨h1, h2, h3, h4⟩, hh⟩ := V6;rw [hx6] at h1 h2 h3 h4 d1 d2 d3 d4 g0 g1 g2 g3;go_wp2
  rw [← hx6];obtain ⟨z, hz⟩ := AC ((((x6.setCell (ja R 0) (ji (r))).setCell (ja R 1) (ji (c))).setCell (ja R 2) (ji (b))).setCell (ja R 3) (ji (v)));have Z := Q6'.put (r) (c) (b) (v);rw [← hz] at Z ⊢;have DZ : DV w cb ad len cap z := by rw [hz]; exact (((D6.set hR hcb _).set hR hcb _).set hR hcb _).set hR hcb _
  clear hz;obtain ⟨⟨e1, e2, e3, e4⟩, _⟩ := Z;exact bodyPost_ret (v := .agg #[ji (r), ji (c), ji (b), ji (v)]) (by simp only [results, results78]; simp [go_sem, e1, e2, e3, e4]) rfl ⟨_, _, _, _, rfl, ⟨by omega, by omega, by omega, by omega⟩, DZ.src hs, DZ.gr⟩
 have e3 : (k == 3) = false := by simp; omega
 clear hBc;have Q3' := Q3;obtain ⟨⟨d1, d2, d3, d4⟩, gg⟩ := Q3;have g0 := gg 0;have g1 := gg 1;have g2 := gg 2;have g3 := gg 3;obtain ⟨⟨h1, h2, h3, h4⟩, hh⟩ := V3;clear hk0 hk1 hk2 hk3;go_wp2
 obtain ⟨z, hz⟩ := AC ((((y3.setCell (ja R 0) (ji (r))).setCell (ja R 1) (ji (c))).setCell (ja R 2) (ji (b))).setCell (ja R 3) (ji (p)));have Z := Q3'.put (r) (c) (b) (p);rw [← hz] at Z ⊢;have DZ : DV w cb ad len cap z := by rw [hz]; exact (((D3.set hR hcb _).set hR hcb _).set hR hcb _).set hR hcb _
 clear hz;obtain ⟨⟨e1, e2, e3, e4⟩, _⟩ := Z;exact bodyPost_ret (v := .agg #[ji (r), ji (c), ji (b), ji (p)]) (by simp only [results, results78]; simp [go_sem, e1, e2, e3, e4]) rfl ⟨_, _, _, _, rfl, ⟨by omega, by omega, by omega, by omega⟩, DZ.src hs, DZ.gr⟩
theorem EQ {w y : World} {cb : Nat} {ad : Option Addr} {len cap N : Nat} (h : DV w cb ad len cap y) (hN : w.heap.size ≤ N) (hcb : cb < w.heap.size) (v0 v1 v2 v3 v4 v5 v6 v7 v8 v9 : Value) : DV w cb ad len cap ((((((((((y.setCell (ja N 0) v0).setCell (ja N 1) v1).setCell (ja N 2) v2).setCell (ja N 3) v3).setCell (ja N 4) v4).setCell (ja N 5) v5).setCell (ja N 6) v6).setCell (ja N 7) v7).setCell (ja N 8) v8).setCell (ja N 9) v9) :=
 ((((((((((h.set hN hcb _).set hN hcb _).set hN hcb _).set hN hcb _).set hN hcb _).set hN hcb _).set hN hcb _).set hN hcb _).set hN hcb _).set hN hcb _)
end Go.Proofs.YtjmnaeeknomiaaaGreatDoor
namespace Go.Proofs.YtjmnaeeknomiaaaGreatDoor
open Go.ChangeShapes Go.WideShapes Go.ChangeAt Go.RowKit
open Go.ChangeMaps (open_string shut_string)
set_option linter.unusedVariables false
set_option maxRecDepth 100000
set_option maxHeartbeats 32000000
set_option linter.unusedSimpArgs false
open Go.Proofs.Tryz
theorem HW {P : Program} {md : Region.Mode} {ops : Array Oper} {Q : Exit → Act → World → Prop} {S : World → Prop} {ds : List Deferred} {k : Nat} (I : Nat → Array Bool → List Value → World → Prop)
  (step : ∀ n listed l W, I (n + 1) listed l W → ∃ rs, Region.ready md ops listed = rs ∧ rs ≠ [] ∧ ∀ i, i ∈ rs → ∀ K : Act → World → Prop, (∀ l' W', S W' → I n (listed.setIfInBounds i true) l' W' → K ⟨l'.toArray, ds⟩ W') → wpOp P ops Q i K ⟨l.toArray, ds⟩ W)
  (fin : ∀ listed l W, I 0 listed l W → wpAnyH P md ops Q S k listed ⟨l.toArray, ds⟩ W) :
  ∀ n listed l W, I n listed l W → wpAnyH P md ops Q S (n + k) listed ⟨l.toArray, ds⟩ W
 | 0, listed, l, W, h => by rw [Nat.zero_add]; exact fin listed l W h
 | n + 1, listed, l, W, h => by
  obtain ⟨rs, hr, hne, hs⟩ := step n listed l W h
  rw [show n + 1 + k = (n + k) + 1 by omega]
  exact wpAnyH_all hr hne (fun i hi => hs i hi _ (fun l' W' hS hI => ⟨hS, HW I step fin n _ l' W' hI⟩))
theorem AA.apart {X Y : Type} {e1 : X → List Value} {e2 : Y → List Value} {n1 n2 : Nat} {T1 T2 : TypeId} {b1 b2 : Nat} {w : World} {v1 v2 : Value} {L1 : List X} {L2 : List Y} (h1 : AA e1 n1 T1 b1 w v1 L1) (h2 : AA e2 n2 T2 b2 w v2 L2) (hT : T1 ≠ T2) {g : Nat} (e : v1.ownBlock = some g) : v2.ownBlock ≠ some g := by
 intro e2';rcases h1.2 with ⟨q, _⟩ | ⟨g1, c1, u1, q1, _, o1, _⟩
 ·
  rw [q] at e; cases e
 rcases h2.2 with ⟨q, _⟩ | ⟨g2, c2, u2, q2, _, o2, _⟩
 ·
  rw [q] at e2'; cases e2'
 rw [q1] at e;rw [q2] at e2';cases e
 cases e2'
 rw [o1] at o2;simp only [Option.some.injEq, Obj.cells.injEq] at o2;exact hT o2.2.1
end Go.Proofs.YtjmnaeeknomiaaaGreatDoor
