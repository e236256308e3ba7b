/- What l5Copy is making. -/
import Derived.Test.YtifndemkkaelaaaGreatRows
import Derived.WalkKit
import Derived.ProofKit
import Derived.OpenShut
import Derived.ShutString
import Derived.ChangeOld
import Derived.Below
import Derived.Deep.QuietTactic
import Derived.BigQuiet
import Derived.WalkSmall
import Derived.Laws.OwnMore
import Derived.WalkSpells
import Derived.WalkLawsBesides
import Derived.Laws.AppendOwnNone
import Derived.Laws.CopyOwn
import Derived.Maps.AppendAt
import Derived.Test.YtifndemkkaelaaaGreatZl13
namespace Go.Proofs.YtifndemkkaelaaaGreat
open Go.ChangeShapes Go.WideShapes Go.ChangeAt Go.RowKit
open Go.ChangeMaps (open_string shut_string)
set_option linter.unusedVariables false
set_option maxRecDepth 100000

theorem app_bools {w : World} {o : Oper} {l : List Value} {ds : List Deferred} {K : Act → World → Prop} {Q : Exit → Act → World → Prop} (d : Nat) (s x : Operand) (hd : o.dst = some d) (ho : o.op = .call { callee := .builtin .append, args := #[s, x], argTypes := #[24, 24] }) (base : Nat) (v : Value) (hs : (Act.mk l.toArray ds).eval s = v) (hown : w.ownsRow base 4 1 v 0 []) (ad : Option Addr) (cap : Nat) (L : List Bool) (hx : (Act.mk l.toArray ds).eval x = .slice ad L.length cap) (hv : ViewB w ad L.length (fun i => L.getD i false)) (hnil : ad = none → cap = 0) (hm : L.length ≤ 1048576) (hbase : base ≤ w.heap.size)
    (h : ∀ v' w', w'.ownsRow base 4 1 v' L.length (L.map Value.bool) → w.grownBy w' v.ownBlock → (v'.ownBlock = v.ownBlock ∨ v'.ownBlock = some w.heap.size) → K ⟨(l.set d v').toArray, ds⟩ w') : o.wp Tryz.prog ⟨l.toArray, ds⟩ w K Q := by
  have hput : ∀ v', (Act.mk l.toArray ds).put o.dst v' = ⟨(l.set d v').toArray, ds⟩ := fun v' => by rw [hd]; simp [Act.put]
  obtain ⟨i1, hj, hy0, hy1, hy2⟩ := info_parts Tryz.infoB'
  cases ad with
  | none =>
    have hL : L = [] := by
      cases L with
      | nil => rfl
      | cons a r => obtain ⟨b, off, e, _⟩ := hv (by simp); cases e
    subst hL
    obtain rfl := hnil rfl
    exact app_none s x 24 ho base 4 i1 1 Tryz.underlying24 hj v 0 [] hs hown hx (by rw [hput]; exact h v w hown (⟨rfl, rfl, rfl, Nat.le_refl _, fun _ _ _ => rfl⟩) (.inl rfl))
  | some q =>
    refine app_at s x 24 ho base 4 i1 (.bool false) 1 1 Tryz.underlying24 hj hy0 hy1 hy2 rfl (by decide) v 0 [] hs hown q L.length cap (L.map Value.bool) hx (by simp) (viewB_add hv) (bools_ones L) (by unfold maxLen; omega) (by omega) hbase ?_
    intro v' w' o' g' e'
    rw [hput]
    exact h v' w' (by simpa using o') g' e'
theorem app_ints {w : World} {o : Oper} {l : List Value} {ds : List Deferred} {K : Act → World → Prop} {Q : Exit → Act → World → Prop} (d : Nat) (s x : Operand) (hd : o.dst = some d) (ho : o.op = .call { callee := .builtin .append, args := #[s, x], argTypes := #[48, 48] }) (base : Nat) (v : Value) (hs : (Act.mk l.toArray ds).eval s = v) (hown : w.ownsRow base 3 1 v 0 []) (ad : Option Addr) (cap : Nat) (L : List Int) (hx : (Act.mk l.toArray ds).eval x = .slice ad L.length cap) (hv : ViewI w ad L.length (fun i => L.getD i 0)) (hnil : ad = none → cap = 0) (hm : L.length ≤ 1048576) (hbase : base ≤ w.heap.size)
    (h : ∀ v' w', w'.ownsRow base 3 1 v' L.length (L.map (Value.int .i64)) → w.grownBy w' v.ownBlock → (v'.ownBlock = v.ownBlock ∨ v'.ownBlock = some w.heap.size) → K ⟨(l.set d v').toArray, ds⟩ w') : o.wp Tryz.prog ⟨l.toArray, ds⟩ w K Q := by
  have hput : ∀ v', (Act.mk l.toArray ds).put o.dst v' = ⟨(l.set d v').toArray, ds⟩ := fun v' => by rw [hd]; simp [Act.put]
  obtain ⟨i1, hj, hy0, hy1, hy2⟩ := info_parts Tryz.infoI'
  cases ad with
  | none =>
    have hL : L = [] := by
      cases L with
      | nil => rfl
      | cons a r => obtain ⟨b, off, e, _⟩ := hv (by simp); cases e
    subst hL
    obtain rfl := hnil rfl
    exact app_none s x 48 ho base 3 i1 1 Tryz.underlying48 hj v 0 [] hs hown hx (by rw [hput]; exact h v w hown (⟨rfl, rfl, rfl, Nat.le_refl _, fun _ _ _ => rfl⟩) (.inl rfl))
  | some q =>
    refine app_at s x 48 ho base 3 i1 (.int .i64 0) 1 8 Tryz.underlying48 hj hy0 hy1 hy2 rfl (by decide) v 0 [] hs hown q L.length cap (L.map (Value.int .i64)) hx (by simp) (viewI_add hv) (ints_ones L) (by unfold maxLen; omega) (by omega) hbase ?_
    intro v' w' o' g' e'
    rw [hput]
    exact h v' w' (by simpa using o') g' e'
theorem app_heards {w : World} {o : Oper} {l : List Value} {ds : List Deferred} {K : Act → World → Prop} {Q : Exit → Act → World → Prop} (d : Nat) (s x : Operand) (hd : o.dst = some d) (ho : o.op = .call { callee := .builtin .append, args := #[s, x], argTypes := #[26, 26] }) (base : Nat) (v : Value) (hs : (Act.mk l.toArray ds).eval s = v) (hown : w.ownsRow base 97 4 v 0 []) (ad : Option Addr) (cap : Nat) (L : List Hd) (hx : (Act.mk l.toArray ds).eval x = .slice ad L.length cap) (hv : HView w ad L) (hnil : ad = none → cap = 0) (hm : L.length ≤ 1048576) (hbase : base ≤ w.heap.size)
    (h : ∀ v' w', w'.ownsRow base 97 4 v' L.length (hcells L) → w.grownBy w' v.ownBlock → (v'.ownBlock = v.ownBlock ∨ v'.ownBlock = some w.heap.size) → K ⟨(l.set d v').toArray, ds⟩ w') : o.wp Tryz.prog ⟨l.toArray, ds⟩ w K Q := by
  have hput : ∀ v', (Act.mk l.toArray ds).put o.dst v' = ⟨(l.set d v').toArray, ds⟩ := fun v' => by rw [hd]; simp [Act.put]
  obtain ⟨i1, hj, hy0, hy1, hy2⟩ := info_parts Tryz.info97'
  cases ad with
  | none =>
    have hL : L = [] := by
      cases L with
      | nil => rfl
      | cons a r => obtain ⟨b, off, e, _⟩ := hv (by simp); cases e
    subst hL
    obtain rfl := hnil rfl
    exact app_none s x 26 ho base 97 i1 4 Tryz.underlying26 hj v 0 [] hs hown hx (by rw [hput]; exact h v w hown (⟨rfl, rfl, rfl, Nat.le_refl _, fun _ _ _ => rfl⟩) (.inl rfl))
  | some q =>
    refine app_at s x 26 ho base 97 i1 (.agg #[.int .i64 0, .int .i64 0, .int .i64 0, .int .i64 0]) 4 32 Tryz.underlying26 hj hy0 hy1 hy2 rfl (by decide) v 0 [] hs hown q L.length cap (hcells L) hx (hcells_len L) (hview_add hv) (hcells_ones L) (by unfold maxLen; omega) (by omega) hbase ?_
    intro v' w' o' g' e'
    rw [hput]
    exact h v' w' (by simpa using o') g' e'
theorem app_atL {P : Program} {w : World} {o : Oper} {l : List Value} {ds : List Deferred} {K : Act → World → Prop} {Q : Exit → Act → World → Prop} (dd : Nat) (s x : Operand) (t : TypeId) (hd : o.dst = some dd) (ho : o.op = .call { callee := .builtin .append, args := #[s, x], argTypes := #[t, t] })
    (base : Nat) (e : TypeId) (i : TypeInfo) (z : Value) (size bytes : Nat) (ht : P.underlying t = some (.slice e)) (hi : P.info? e = some i) (hz : i.zero = some z)
    (hsize : i.size = size) (hby : i.bytes = bytes) (hzs : z.cells.size = size) (hsz : 0 < size)
    (v : Value) (n : Nat) (xs : List Value) (hs : (Act.mk l.toArray ds).eval s = v) (hown : w.ownsRow base e size v n xs)
    (ad : Addr) (m c : Nat) (news : List Value) (hx : (Act.mk l.toArray ds).eval x = .slice (some ad) m c) (hl : news.length = m * size) (hnews : ∀ j u, news[j]? = some u → w.cell? (ad.add j) = some u) (h1 : ∀ u ∈ news, u.oneCell' = true)
    (h63 : n + m ≤ maxLen) (hbytes : (n + m) * bytes ≤ 140737488355328) (hbase : base ≤ w.heap.size)
    (h : ∀ v' w', w'.ownsRow base e size v' (n + m) (xs ++ news) → w.grownBy w' v.ownBlock → (v'.ownBlock = v.ownBlock ∨ v'.ownBlock = some w.heap.size) → K ⟨(l.set dd v').toArray, ds⟩ w') : o.wp P ⟨l.toArray, ds⟩ w K Q := by
  have hput : ∀ v', (Act.mk l.toArray ds).put o.dst v' = ⟨(l.set dd v').toArray, ds⟩ := fun v' => by rw [hd]; simp [Act.put]
  exact app_at s x t ho base e i z size bytes ht hi hz hsize hby hzs hsz v n xs hs hown ad m c news hx hl hnews h1 h63 hbytes hbase (fun v' w' a b c => by rw [hput]; exact h v' w' a b c)
structure L5 (x0 : World) (vb : Option (Value × List Bool)) (vh : Option (Value × List Hd)) (n9 : Option Nat) (y : World) : Prop where
  bel : Below x0.heap.size x0 y
  b : ∀ v L, vb = some (v, L) → y.ownsRow x0.heap.size 4 1 v L.length (L.map Value.bool)
  h : ∀ v L, vh = some (v, L) → y.ownsRow x0.heap.size 97 4 v L.length (hcells L)
  c : ∀ n, n9 = some n → CdAt y n none 0 0 none 0 0 none 0 0 ∧ (∀ i, y.frozen? ⟨n, i, none⟩ = false) ∧ x0.heap.size ≤ n
  bh : ∀ v L v' L' j, vb = some (v, L) → vh = some (v', L') → v.ownBlock = some j → v'.ownBlock ≠ some j
  bc : ∀ v L n, vb = some (v, L) → n9 = some n → v.ownBlock ≠ some n
  hc : ∀ v L n, vh = some (v, L) → n9 = some n → v.ownBlock ≠ some n
theorem L5.alloc {x0 : World} {vb : Option (Value × List Bool)} {vh : Option (Value × List Hd)} {n9 : Option Nat} {y : World} (h : L5 x0 vb vh n9 y) (o : Obj) : L5 x0 vb vh n9 (y.alloc o) := by
  have k := below_box y o
  exact ⟨h.bel.trans (k.mono h.bel.size), fun v L e => own_below2 (h.b v L e) k (Nat.le_refl _), fun v L e => own_below2 (h.h v L e) k (Nat.le_refl _), fun n e => ⟨(h.c n e).1.below k (h.c n e).1.lt, fz_below (h.c n e).2.1 k (h.c n e).1.lt, (h.c n e).2.2⟩, h.bh, h.bc, h.hc⟩
theorem L5.op0 {x0 : World} {vh : Option (Value × List Hd)} {n9 : Option Nat} {y : World} (h : L5 x0 none vh n9 y) : L5 x0 (some (.slice (some ⟨y.heap.size, 0, none⟩) 0 0, [])) vh n9 (y.alloc (.cells #[] 4)) := by
  have q := h.alloc (.cells #[] 4)
  refine ⟨q.bel, fun v L e => ?_, q.h, q.c, fun v L v' L' j e e' ej => ?_, fun v L n e e' => ?_, q.hc⟩
  · cases e; exact own_base' (row_empty y 4 1) h.bel.size
  · cases e
    intro c
    have := (own_lt (h.h v' L' e') j c).2
    have : y.heap.size = j := by simpa [Value.ownBlock] using ej
    omega
  · cases e
    intro c
    have : y.heap.size = n := by simpa [Value.ownBlock] using c
    have := (h.c n e').1.lt
    omega
theorem L5.op4 {x0 : World} {vb : Option (Value × List Bool)} {n9 : Option Nat} {y : World} (h : L5 x0 vb none n9 y) : L5 x0 vb (some (.slice (some ⟨y.heap.size, 0, none⟩) 0 0, [])) n9 (y.alloc (.cells #[] 97)) := by
  have q := h.alloc (.cells #[] 97)
  refine ⟨q.bel, q.b, fun v L e => ?_, q.c, fun v L v' L' j e e' ej => ?_, q.bc, fun v L n e e' => ?_⟩
  · cases e; exact own_base' (row_empty y 97 4) h.bel.size
  · cases e'
    intro c
    have := (own_lt (h.b v L e) j ej).2
    have : y.heap.size = j := by simpa [Value.ownBlock] using c
    omega
  · cases e
    intro c
    have : y.heap.size = n := by simpa [Value.ownBlock] using c
    have := (h.c n e').1.lt
    omega
theorem L5.op9 {x0 : World} {vb : Option (Value × List Bool)} {vh : Option (Value × List Hd)} {y : World} (h : L5 x0 vb vh none y) : L5 x0 vb vh (some y.heap.size) (y.alloc (.cells #[.slice none 0 0, .slice none 0 0, .slice none 0 0] 28)) := by
  have q := h.alloc (.cells #[.slice none 0 0, .slice none 0 0, .slice none 0 0] 28)
  refine ⟨q.bel, q.b, q.h, fun n e => ?_, q.bh, fun v L n e e' c => ?_, fun v L n e e' c => ?_⟩
  · cases e
    exact ⟨CdAt.box _ _ _ _ _ _ _ _ _ _ _, fun i => by simp [go_sem], h.bel.size⟩
  · cases e'; have := (own_lt (h.b v L e) _ c).2; omega
  · cases e'; have := (own_lt (h.h v L e) _ c).2; omega
theorem L5.op3 {x0 : World} {v v' : Value} {O : List Bool} {vh : Option (Value × List Hd)} {n9 : Option Nat} {y y' : World} (h : L5 x0 (some (v, [])) vh n9 y) (o : y'.ownsRow x0.heap.size 4 1 v' O.length (O.map Value.bool)) (g : y.grownBy y' v.ownBlock) (e : v'.ownBlock = v.ownBlock ∨ v'.ownBlock = some y.heap.size) : L5 x0 (some (v', O)) vh n9 y' := by
  have hv := h.b v [] rfl
  have hlt := own_lt hv
  refine ⟨h.bel.grown g h.bel.size (fun j q => (hlt j q).1), fun u L q => ?_, fun u L q => own_grown2 (h.h u L q) g (fun j a b => h.bh v [] u L j rfl q b a), fun n q => ?_, fun u L u' L' j q q' ej c => ?_, fun u L n q q' c => ?_, h.hc⟩
  · cases q; exact o
  · have hb : y'.heap[n]? = y.heap[n]? := g.block n (h.c n q).1.lt (fun c => h.bc v [] n rfl q c.symm)
    exact ⟨(h.c n q).1.same hb, fun i => (World.frozen?_of_block (a := ⟨n, i, none⟩) hb).trans ((h.c n q).2.1 i), (h.c n q).2.2⟩
  · cases q
    have hl := (own_lt (h.h u' L' q') j c).2
    rcases e with e | e
    · exact h.bh v [] u' L' j rfl q' (e ▸ ej) c
    · rw [e] at ej; simp at ej; omega
  · cases q
    have hl := (h.c n q').1.lt
    rcases e with e | e
    · exact h.bc v [] n rfl q' (e ▸ c)
    · rw [e] at c; simp at c; omega
theorem L5.op7 {x0 : World} {v v' : Value} {T : List Hd} {vb : Option (Value × List Bool)} {n9 : Option Nat} {y y' : World} (h : L5 x0 vb (some (v, [])) n9 y) (o : y'.ownsRow x0.heap.size 97 4 v' T.length (hcells T)) (g : y.grownBy y' v.ownBlock) (e : v'.ownBlock = v.ownBlock ∨ v'.ownBlock = some y.heap.size) : L5 x0 vb (some (v', T)) n9 y' := by
  have hv := h.h v [] rfl
  have hlt := own_lt hv
  refine ⟨h.bel.grown g h.bel.size (fun j q => (hlt j q).1), fun u L q => own_grown2 (h.b u L q) g (fun j a b => h.bh u L v [] j q rfl a b), fun u L q => ?_, fun n q => ?_, fun u L u' L' j q q' ej c => ?_, h.bc, fun u L n q q' c => ?_⟩
  · cases q; exact o
  · have hb : y'.heap[n]? = y.heap[n]? := g.block n (h.c n q).1.lt (fun c => h.hc v [] n rfl q c.symm)
    exact ⟨(h.c n q).1.same hb, fun i => (World.frozen?_of_block (a := ⟨n, i, none⟩) hb).trans ((h.c n q).2.1 i), (h.c n q).2.2⟩
  · cases q'
    have hl := (own_lt (h.b u L q) j ej).2
    rcases e with e | e
    · exact h.bh u L v [] j q rfl ej (e ▸ c)
    · rw [e] at c; simp at c; omega
  · cases q
    have hl := (h.c n q').1.lt
    rcases e with e | e
    · exact h.hc v [] n rfl q' (e ▸ c)
    · rw [e] at c; simp at c; omega
structure L5L (x0 : World) (base N9 : Nat) (aO : Option Addr) (O : List Bool) (kO : Nat) (aM : Option Addr) (nM kM : Nat) (aT : Option Addr) (T : List Hd) (kT : Nat) (v : Value) (Ns : List Mb) (y : World) : Prop where
  bel : Below x0.heap.size x0 y
  bs : base ≤ y.heap.size
  n9 : x0.heap.size ≤ N9 ∧ N9 < base
  at9 : CdAt y N9 aO O.length kO aM nM kM aT T.length kT
  fz : ∀ i, y.frozen? ⟨N9, i, none⟩ = false
  vO : ViewB y aO O.length (fun i => O.getD i false)
  rO : Room y aO O.length
  iO : ∀ x, aO = some x → x0.heap.size ≤ x.block ∧ x.block < base ∧ x.block ≠ N9
  vT : HView y aT T
  rT : HRoom y aT T.length
  iT : ∀ x, aT = some x → x0.heap.size ≤ x.block ∧ x.block < base ∧ x.block ≠ N9
  apart : ∀ x z, aO = some x → aT = some z → x.block ≠ z.block
  mc : MC base y v Ns
theorem L5.fill {x0 : World} {aO : Option Addr} {O : List Bool} {kO : Nat} {aT : Option Addr} {T : List Hd} {kT N9 : Nat} {y : World} (h : L5 x0 (some (.slice aO O.length kO, O)) (some (.slice aT T.length kT, T)) (some N9) y) :
    L5L x0 y.heap.size N9 aO O kO none 0 0 aT T kT (.slice none 0 0) [] (((y.setCell ⟨N9, 0, none⟩ (.slice aO O.length kO)).setCell ⟨N9, 1, none⟩ (.slice none 0 0)).setCell ⟨N9, 2, none⟩ (.slice aT T.length kT)) := by
  obtain ⟨c, f, hn⟩ := h.c N9 rfl
  obtain ⟨c1, c2, c3⟩ := c
  have hl : N9 < y.heap.size := World.block_lt_of_cell? y _ c1
  obtain ⟨_, ad, cap, e, vO, rO, iO⟩ := own_viewB (h.b _ _ rfl)
  cases e
  obtain ⟨ad', cap', e, vT, rT, iT⟩ := hown_view (show HOwn y x0.heap.size (.slice aT T.length kT) T from h.h _ _ rfl)
  cases e
  have nO : ∀ x, aO = some x → x.block ≠ N9 := fun x e c => h.bc _ _ N9 rfl rfl (by rw [← c]; exact (iO x e).2.2)
  have nT : ∀ x, aT = some x → x.block ≠ N9 := fun x e c => h.hc _ _ N9 rfl rfl (by rw [← c]; exact (iT x e).2.2)
  refine ⟨((h.bel.setCell hn _).setCell hn _).setCell hn _, by simp, ⟨hn, hl⟩, ⟨?_, ?_, ?_⟩, fun i => by simpa using f i, vO.carry (fun x e _ => heap_set3 (nO x e)), rO.carry (fun x e _ => heap_set3 (nO x e)), fun x e => ⟨(iO x e).1, (iO x e).2.1, nO x e⟩, vT.carry (fun x e _ => heap_set3 (nT x e)), rT.carry (fun x e _ => heap_set3 (nT x e)), fun x e => ⟨(iT x e).1, (iT x e).2.1, nT x e⟩, fun x z e e' c => h.bh _ _ _ _ x.block rfl rfl (iO x e).2.2 (by rw [c]; exact (iT z e').2.2), MC.start _ _⟩
  · rw [cell_set_ne (by omega), cell_set_ne (by omega)]; exact cell_set_same ⟨_, c1⟩
  · rw [cell_set_ne (by omega)]; exact cell_set_same ⟨_, (cell_set_ne (by omega)).trans c2⟩
  · exact cell_set_same ⟨_, (cell_set_ne (by omega)).trans ((cell_set_ne (by omega)).trans c3)⟩
theorem L5L.keep {x0 : World} {base N9 : Nat} {aO : Option Addr} {O : List Bool} {kO : Nat} {aM : Option Addr} {nM kM : Nat} {aT : Option Addr} {T : List Hd} {kT : Nat} {v v' : Value} {Ns Ns' : List Mb} {y y' : World} (h : L5L x0 base N9 aO O kO aM nM kM aT T kT v Ns y) (k : ∀ j, j < base → y'.heap[j]? = y.heap[j]?) (b : Below x0.heap.size x0 y') (hs : base ≤ y'.heap.size) (mc : MC base y' v' Ns') : L5L x0 base N9 aO O kO aM nM kM aT T kT v' Ns' y' :=
  ⟨b, hs, h.n9, h.at9.same (k _ h.n9.2), fun i => (World.frozen?_of_block (a := ⟨N9, i, none⟩) (k _ h.n9.2)).trans (h.fz i), h.vO.carry (fun x e _ => k _ (h.iO x e).2.1), h.rO.carry (fun x e _ => k _ (h.iO x e).2.1), h.iO, h.vT.carry (fun x e _ => k _ (h.iT x e).2.1), h.rT.carry (fun x e _ => k _ (h.iT x e).2.1), h.iT, h.apart, mc⟩
theorem L5L.later {x0 : World} {base N9 : Nat} {aO : Option Addr} {O : List Bool} {kO : Nat} {aM : Option Addr} {nM kM : Nat} {aT : Option Addr} {T : List Hd} {kT : Nat} {v : Value} {Ns : List Mb} {y y' : World} (h : L5L x0 base N9 aO O kO aM nM kM aT T kT v Ns y) (k : Below y.heap.size y y') : L5L x0 base N9 aO O kO aM nM kM aT T kT v Ns y' :=
  h.keep (fun j hj => k.block _ (Nat.lt_of_lt_of_le hj h.bs)) (h.bel.trans (k.mono h.bel.size)) (Nat.le_trans h.bs k.size) (h.mc.later k (Nat.le_refl _))
theorem L5L.drew {x0 : World} {base N9 : Nat} {aO : Option Addr} {O : List Bool} {kO : Nat} {aM : Option Addr} {nM kM : Nat} {aT : Option Addr} {T : List Hd} {kT : Nat} {v : Value} {Ns : List Mb} {y : World} (h : L5L x0 base N9 aO O kO aM nM kM aT T kT v Ns y) : L5L x0 base N9 aO O kO aM nM kM aT T kT v Ns y.drew := h.later (Below.refl _ _).drew
theorem L5L.store {x0 : World} {base N9 : Nat} {aO : Option Addr} {O : List Bool} {kO : Nat} {aM : Option Addr} {nM kM : Nat} {aT : Option Addr} {T : List Hd} {kT : Nat} {v : Value} {Ns : List Mb} {y : World} (h : L5L x0 base N9 aO O kO aM nM kM aT T kT v Ns y) (a : Option Addr) (n k : Nat) : L5L x0 base N9 aO O kO a n k aT T kT v Ns (y.setCell ⟨N9, 1, none⟩ (.slice a n k)) := by
  have e : ∀ j, j ≠ N9 → (y.setCell ⟨N9, 1, none⟩ (.slice a n k)).heap[j]? = y.heap[j]? := fun j hj => Below.heap_setCell _ _ _ _ hj
  obtain ⟨c1, c2, c3⟩ := h.at9
  have hn := h.n9
  exact ⟨h.bel.setCell hn.1 _, by simpa using h.bs, hn, ⟨(cell_set_ne (by omega)).trans c1, cell_set_same ⟨_, c2⟩, (cell_set_ne (by omega)).trans c3⟩, fun i => by simpa using h.fz i, h.vO.carry (fun x q _ => e _ (h.iO x q).2.2), h.rO.carry (fun x q _ => e _ (h.iO x q).2.2), h.iO, h.vT.carry (fun x q _ => e _ (h.iT x q).2.2), h.rT.carry (fun x q _ => e _ (h.iT x q).2.2), h.iT, h.apart, h.mc.same (fun j h1 h2 => e j (by omega)) (by simp)⟩
theorem L5L.push {x0 : World} {base N9 : Nat} {aO : Option Addr} {O : List Bool} {kO : Nat} {aM : Option Addr} {nM kM : Nat} {aT : Option Addr} {T : List Hd} {kT : Nat} {v v' : Value} {Ns : List Mb} {y y1 y2 : World} {m : Mb} (h : L5L x0 base N9 aO O kO aM nM kM aT T kT v Ns y) (k1 : Below y.heap.size y y1) (hv : MbL y1 m) (hr : Room y1 m.ad m.L.length) (hn : m.ad = none → m.cap = 0) (hm : ∀ x, m.ad = some x → 0 < m.L.length → y.heap.size ≤ x.block ∧ x.block < y1.heap.size)
    (own : y2.ownsRow base 50 2 v' (Ns.length + 1) (mcells Ns ++ [.int .i64 m.o, .slice m.ad m.L.length m.cap])) (g : y1.grownBy y2 v.ownBlock) (hv' : v'.ownBlock = v.ownBlock ∨ v'.ownBlock = some y1.heap.size) : L5L x0 base N9 aO O kO aM nM kM aT T kT v' (Ns ++ [m]) y2 := by
  have h1 := h.later k1
  have hg := own_lt h.mc.own
  have hb := Nat.le_trans h.n9.1 (Nat.le_of_lt h.n9.2)
  exact h1.keep (fun j hj => g.block j (Nat.lt_of_lt_of_le hj h1.bs) (fun e => by have := (hg j e.symm).1; omega)) (h1.bel.grown g h1.bel.size (fun j e => Nat.le_trans hb (hg j e).1)) (Nat.le_trans h1.bs g.size) (h.mc.push (B := 0) k1 hv hr hn hm h.bs own g hv')
theorem join_region {P : Program} {reg : Code} {K : Act → World → Prop} {Q : Exit → Act → World → Prop} {l : List Value} {ds : List Deferred} {W : World} (R : List Value → List Value → World → Prop) (h1 : ∀ l' W', R l l' W' → K ⟨l'.toArray, ds⟩ W') (h2 : ∀ K2 : Act → World → Prop, Hid (∀ l' W', R l l' W' → K2 ⟨l'.toArray, ds⟩ W') → Code.wp P reg (Exit.then K2 Q) ⟨l.toArray, ds⟩ W) : Code.wp P reg (Exit.then K Q) ⟨l.toArray, ds⟩ W := h2 K h1

end Go.Proofs.YtifndemkkaelaaaGreat
