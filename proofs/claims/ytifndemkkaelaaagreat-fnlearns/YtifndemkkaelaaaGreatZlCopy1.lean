/- Appends in a region, slices.Clone, lists of members that a call makes. -/
import Derived.Test.YtifndemkkaelaaaGreatRows
import Derived.WalkKit
import Derived.ProofKit
import Derived.OpenShut
import Derived.ShutString
import Derived.ChangeOld
import Derived.Below
import Derived.Deep.QuietTactic
import Derived.BigQuiet
import Derived.WalkSmall
import Derived.Laws.OwnMore
import Derived.WalkSpells
import Derived.WalkLawsBesides
import Derived.Laws.AppendOwnNone
import Derived.Laws.CopyOwn
import Derived.Maps.AppendAt
import Derived.Lib.SliceRun
import Derived.Test.YtifndemkkaelaaaGreatZl7
import Derived.Test.YtifndemkkaelaaaGreatZl11
namespace Go.Proofs.YtifndemkkaelaaaGreat
open Go.ChangeShapes Go.WideShapes Go.ChangeAt Go.RowKit
open Go.ChangeMaps (open_string shut_string)
set_option linter.unusedVariables false
set_option maxRecDepth 100000

theorem app_at {P : Program} {w : World} {o : Oper} {a : Act} {K : Act → World → Prop} {Q : Exit → Act → World → Prop} (s x : Operand) (t : TypeId) (ho : o.op = .call { callee := .builtin .append, args := #[s, x], argTypes := #[t, t] })
    (base : Nat) (e : TypeId) (i : TypeInfo) (z : Value) (size bytes : Nat) (ht : P.underlying t = some (.slice e)) (hi : P.info? e = some i) (hz : i.zero = some z)
    (hsize : i.size = size) (hby : i.bytes = bytes) (hzs : z.cells.size = size) (hsz : 0 < size)
    (v : Value) (n : Nat) (xs : List Value) (hs : a.eval s = v) (hown : w.ownsRow base e size v n xs)
    (ad : Addr) (m c : Nat) (news : List Value) (hx : a.eval x = .slice (some ad) m c) (hl : news.length = m * size) (hnews : ∀ j u, news[j]? = some u → w.cell? (ad.add j) = some u) (h1 : ∀ u ∈ news, u.oneCell' = true)
    (h63 : n + m ≤ maxLen) (hbytes : (n + m) * bytes ≤ 140737488355328) (hbase : base ≤ w.heap.size)
    (h : ∀ v' w', w'.ownsRow base e size v' (n + m) (xs ++ news) → w.grownBy w' v.ownBlock → (v'.ownBlock = v.ownBlock ∨ v'.ownBlock = some w.heap.size) → K (a.put o.dst v') w') : o.wp P a w K Q := by
  obtain ⟨v', w', hr, h2, h3, h4, h5⟩ := run_append_own_at (P := P) w base t o.type e i z size bytes ht hi hz hsize hby hzs hsz v n xs hown ad m c news hl hnews h1 h63 hbytes hbase
  unfold Oper.wp execOp
  simp only [ho, resolve, invoke, builtin, Sem.run_bind, Sem.run_pure, Result.andThen_ok, List.map_toArray, List.map_cons, List.map_nil, hs, hx, hr]
  exact h v' w' h2 h3 h5
theorem app_none {P : Program} {w : World} {o : Oper} {a : Act} {K : Act → World → Prop} {Q : Exit → Act → World → Prop} (s x : Operand) (t : TypeId) (ho : o.op = .call { callee := .builtin .append, args := #[s, x], argTypes := #[t, t] })
    (base : Nat) (e : TypeId) (i : TypeInfo) (size : Nat) (ht : P.underlying t = some (.slice e)) (hi : P.info? e = some i)
    (v : Value) (n : Nat) (xs : List Value) (hs : a.eval s = v) (hown : w.ownsRow base e size v n xs) (hx : a.eval x = .slice none 0 0)
    (h : K (a.put o.dst v) w) : o.wp P a w K Q := by
  have hrun := run_append_owned_none (P := P) (w := w) base t o.type e i size ht hi v n xs hown
  unfold Oper.wp
  simp [execOp, ho, resolve, invoke, builtin, hs, hx, hrun, Result.andThen]
  exact h
theorem own_same {w w' : World} {base E k n : Nat} {v : Value} {xs : List Value} (h : w.ownsRow base E k v n xs) (e : ∀ g, v.ownBlock = some g → w'.heap[g]? = w.heap[g]?) : w'.ownsRow base E k v n xs := by
  refine ⟨h.1, ?_⟩
  rcases h.2 with h0 | ⟨g, cap, cur, rfl, hb, hg, hr⟩
  · exact .inl h0
  · exact .inr ⟨g, cap, cur, rfl, hb, (e g rfl).trans hg, hr⟩
theorem own_lt {w : World} {base E k n : Nat} {v : Value} {xs : List Value} (h : w.ownsRow base E k v n xs) : ∀ g, v.ownBlock = some g → base ≤ g ∧ g < w.heap.size := fun g e => by
  rcases h.2 with ⟨rfl, _⟩ | ⟨g', cap, cur, rfl, hb, hg, hr⟩
  · cases e
  · have e2 : g' = g := by simpa [Value.ownBlock] using e
    subst e2
    exact ⟨hb, (Array.getElem?_eq_some_iff.1 hg).1⟩
theorem own_below2 {w w' : World} {base E k n B : Nat} {v : Value} {xs : List Value} (h : w.ownsRow base E k v n xs) (bl : Below B w w') (hB : w.heap.size ≤ B) : w'.ownsRow base E k v n xs :=
  own_same h fun g e => bl.block _ (Nat.lt_of_lt_of_le (own_lt h g e).2 hB)
theorem own_grown2 {w w' : World} {base E k n : Nat} {v u : Value} {xs : List Value} (h : w.ownsRow base E k v n xs) (g : w.grownBy w' u.ownBlock) (hn : ∀ j, v.ownBlock = some j → u.ownBlock ≠ some j) : w'.ownsRow base E k v n xs :=
  own_same h fun j e => g.block j (own_lt h j e).2 (fun q => hn j e q.symm)
theorem grown_below2 {w w' : World} {u : Value} {B : Nat} (g : w.grownBy w' u.ownBlock) (hu : ∀ j, u.ownBlock = some j → B ≤ j) (hs : B ≤ w.heap.size) : Below B w w' := (Below.refl _ _).grown g hs hu
theorem row_empty (w : World) (E k : Nat) : (w.alloc (.cells #[] E)).ownsRow w.heap.size E k (.slice (some ⟨w.heap.size, 0, none⟩) 0 0) 0 [] :=
  ⟨by simp, .inr ⟨w.heap.size, 0, #[], rfl, Nat.le_refl _, heap_new w _, Nat.le_refl _, Nat.zero_le _, by simp, by simp⟩⟩
theorem own_viewB {w : World} {base E n : Nat} {v : Value} {L : List Bool} (h : w.ownsRow base E 1 v n (L.map Value.bool)) :
    n = L.length ∧ ∃ ad cap, v = .slice ad n cap ∧ ViewB w ad n (fun i => L.getD i false) ∧ Room w ad n ∧ ∀ a, ad = some a → base ≤ a.block ∧ a.block < w.heap.size ∧ v.ownBlock = some a.block := by
  have hn : n = L.length := by have := h.1; simp at this; omega
  refine ⟨hn, ?_⟩
  rcases h.2 with ⟨rfl, h0⟩ | ⟨g, cap, cur, rfl, hb, hg, hnc, hcm, hcs, htk⟩
  · exact ⟨none, 0, by rw [h0], fun hp => absurd hp (by omega), fun hp => absurd hp (by omega), fun a e => by simp at e⟩
  · have hc : ∀ i, i < n → w.cell? ⟨g, i, none⟩ = some (.bool (L.getD i false)) := fun i hi => by
      rw [h.cellAt i (by omega), List.getElem?_map, List.getElem?_eq_getElem (by omega)]
      simp [List.getD, List.getElem?_eq_getElem (by omega : i < L.length)]
    refine ⟨some ⟨g, 0, none⟩, cap, rfl, ViewB.mk0 hc, fun _ => ⟨g, 0, rfl, fun i hi => ?_⟩, fun a e => ?_⟩
    · rw [Nat.zero_add]
      exact ⟨⟨_, hc i hi⟩, h.frozenAt i⟩
    · obtain rfl : (⟨g, 0, none⟩ : Addr) = a := by simpa using e
      exact ⟨hb, (Array.getElem?_eq_some_iff.1 hg).1, rfl⟩
theorem own_viewN {w : World} {base E n : Nat} {v : Value} {L : List Int} (h : w.ownsRow base E 1 v n (L.map (Value.int .i64))) :
    n = L.length ∧ ∃ ad cap, v = .slice ad n cap ∧ ViewI w ad n (fun i => L.getD i 0) ∧ Room w ad n ∧ (∀ a, ad = some a → base ≤ a.block ∧ a.block < w.heap.size ∧ v.ownBlock = some a.block) ∧ (ad = none → cap = 0) := by
  have hn : n = L.length := by have := h.1; simp at this; omega
  refine ⟨hn, ?_⟩
  rcases h.2 with ⟨rfl, h0⟩ | ⟨g, cap, cur, rfl, hb, hg, hnc, hcm, hcs, htk⟩
  · exact ⟨none, 0, by rw [h0], fun hp => absurd hp (by omega), fun hp => absurd hp (by omega), fun a e => by simp at e, fun _ => rfl⟩
  · have hc : ∀ i, i < n → w.cell? ⟨g, i, none⟩ = some (.int .i64 (L.getD i 0)) := fun i hi => by
      rw [h.cellAt i (by omega), List.getElem?_map, List.getElem?_eq_getElem (by omega)]
      simp [List.getD, List.getElem?_eq_getElem (by omega : i < L.length)]
    refine ⟨some ⟨g, 0, none⟩, cap, rfl, ViewI.mk0 hc, fun _ => ⟨g, 0, rfl, fun i hi => ?_⟩, fun a e => ?_, fun e => by cases e⟩
    · rw [Nat.zero_add]
      exact ⟨⟨_, hc i hi⟩, h.frozenAt i⟩
    · obtain rfl : (⟨g, 0, none⟩ : Addr) = a := by simpa using e
      exact ⟨hb, (Array.getElem?_eq_some_iff.1 hg).1, rfl⟩
theorem viewB_add {w : World} {x : Addr} {L : List Bool} (hv : ViewB w (some x) L.length (fun i => L.getD i false)) : ∀ j u, (L.map Value.bool)[j]? = some u → w.cell? (x.add j) = some u := by
  intro j u hj
  have hjl : j < L.length := by have := (List.getElem?_eq_some_iff.1 hj).1; simpa using this
  obtain ⟨b, off, e, hc⟩ := hv (by omega)
  cases e
  rw [Go.WideShapes.add_plain, hc j hjl]
  rw [List.getElem?_map, List.getElem?_eq_getElem hjl] at hj
  simpa [List.getD, List.getElem?_eq_getElem hjl] using hj
theorem viewI_add {w : World} {x : Addr} {L : List Int} (hv : ViewI w (some x) L.length (fun i => L.getD i 0)) : ∀ j u, (L.map (Value.int .i64))[j]? = some u → w.cell? (x.add j) = some u := by
  intro j u hj
  have hjl : j < L.length := by have := (List.getElem?_eq_some_iff.1 hj).1; simpa using this
  obtain ⟨b, off, e, hc⟩ := hv (by omega)
  cases e
  rw [Go.WideShapes.add_plain, hc j hjl]
  rw [List.getElem?_map, List.getElem?_eq_getElem hjl] at hj
  simpa [List.getD, List.getElem?_eq_getElem hjl] using hj
theorem hview_add {w : World} {x : Addr} {L : List Hd} (hv : HView w (some x) L) : ∀ j u, (hcells L)[j]? = some u → w.cell? (x.add j) = some u := by
  intro j u hj
  have hjl : j < L.length * 4 := by have := (List.getElem?_eq_some_iff.1 hj).1; rw [hcells_len] at this; exact this
  obtain ⟨b, off, e, hc⟩ := hv (by omega)
  cases e
  rw [Go.WideShapes.add_plain]
  obtain ⟨c1, c2, c3, c4⟩ := hc (j / 4) (by omega)
  obtain ⟨q1, q2, q3, q4⟩ := hcells_at (L := L) (i := j / 4) (by omega)
  rcases (by omega : j = j / 4 * 4 ∨ j = j / 4 * 4 + 1 ∨ j = j / 4 * 4 + 2 ∨ j = j / 4 * 4 + 3) with e | e | e | e
  · rw [← e] at q1 c1; rw [q1] at hj; rw [← hj]; exact c1
  · rw [← e] at q2; rw [Nat.add_assoc, ← e] at c2; rw [q2] at hj; rw [← hj]; exact c2
  · rw [← e] at q3; rw [Nat.add_assoc, ← e] at c3; rw [q3] at hj; rw [← hj]; exact c3
  · rw [← e] at q4; rw [Nat.add_assoc, ← e] at c4; rw [q4] at hj; rw [← hj]; exact c4
theorem hcells_ones : ∀ (L : List Hd), ∀ u ∈ hcells L, u.oneCell' = true
  | [], u, h => by cases h
  | x :: L, u, h => by
    simp only [hcells, List.mem_cons] at h
    rcases h with rfl | rfl | rfl | rfl | h
    · rfl
    · rfl
    · rfl
    · rfl
    · exact hcells_ones L u h
theorem bools_ones (L : List Bool) : ∀ u ∈ L.map Value.bool, u.oneCell' = true := fun u hu => by
  obtain ⟨y, _, rfl⟩ := List.mem_map.1 hu
  rfl
theorem ints_ones (L : List Int) : ∀ u ∈ L.map (Value.int .i64), u.oneCell' = true := fun u hu => by
  obtain ⟨y, _, rfl⟩ := List.mem_map.1 hu
  rfl
set_option maxHeartbeats 2000000 in
theorem cloneB0 (ad : Option Addr) (len cap : Nat) (cs : List Value) (w : World) (hcs : Hid (cs.length = len * 1)) (hone : ∀ u ∈ cs, u.oneCell' = true) (h0 : ad = none → len = 0) (hv : ∀ x, ad = some x → ∀ j u, cs[j]? = some u → w.cell? (x.add j) = some u) (hm : len ≤ 1048576) :
    Calls Tryz.prog 88 #[.slice ad len cap] w fun e w' => ∃ v, e = .returned v ∧ w'.ownsRow w.heap.size 4 1 v len cs ∧ Below w.heap.size w w' := by
  obtain ⟨i1, hj, hy0, hy1, hy2⟩ := info_parts Tryz.infoB'
  cases ad with
  | none =>
    obtain rfl := h0 rfl
    have hL : cs = [] := List.eq_nil_of_length_eq_zero (by rw [hcs.out])
    subst hL
    have hEq : ∀ (y : World) (c : Nat), (binOp .eql 24 (.slice none 0 c) (.slice none 0 0)).run Tryz.prog y = .ok (.bool true) y := fun y c => Go.Lib.run_eql_slice_nil y 24 4 none 0 c 0 0 Tryz.underlying24
    go_enter Tryz.func88, Tryz.ntmps88
    go_wp2
    go_ret
    exact ⟨_, rfl, ⟨rfl, .inl ⟨rfl, rfl⟩⟩, Below.refl _ _⟩
  | some a =>
    have hnw : ∀ j u, cs[j]? = some u → (w.alloc (Obj.cells #[] 4)).cell? (a.add j) = some u := fun j u hj => by
      have h1 := hv a rfl j u hj
      have hlt : (a.add j).block < w.heap.size := World.block_lt_of_cell? w _ h1
      exact ((below_box w _).cell (p := a.add j) hlt).trans h1
    have hEq : ∀ (y : World), (binOp .eql 24 (.slice (some a) len cap) (.slice none 0 0)).run Tryz.prog y = .ok (.bool false) y := fun y => Go.Lib.run_eql_slice_nil y 24 4 (some a) len cap 0 0 Tryz.underlying24
    go_enter Tryz.func88, Tryz.ntmps88
    go_wp2_with (first | (at_builtin; refine wpList_append_own_at _ rfl _ _ 24 rfl w.heap.size 4 i1 (.bool false) 1 1 Tryz.underlying24 hj hy0 hy1 hy2 rfl (by decide) _ _ _ rfl (row_empty w 4 1) a len cap cs rfl ?z0 ?z1 ?z2 ?z3 ?z4 ?z5 ?_) | go_in)
    case z0 => exact hcs.out
    case z1 => exact hnw
    case z2 => exact hone
    case z3 => unfold maxLen; omega
    case z4 => omega
    case z5 => simp
    intro vZ wZ hownZ hgrowZ _ _
    have ownZ : wZ.ownsRow w.heap.size 4 1 vZ len cs := by simpa using hownZ
    have BZ : Below w.heap.size w wZ := (below_box w _).grown hgrowZ (by simp) (fun j e => (own_lt (row_empty w 4 1) j e).1)
    clear hownZ hgrowZ hnw
    go_wp2
    go_ret
    exact ⟨_, rfl, ownZ, BZ⟩
set_option maxHeartbeats 2000000 in
theorem cloneN0 (ad : Option Addr) (len cap : Nat) (cs : List Value) (w : World) (hcs : Hid (cs.length = len * 1)) (hone : ∀ u ∈ cs, u.oneCell' = true) (h0 : ad = none → len = 0) (hv : ∀ x, ad = some x → ∀ j u, cs[j]? = some u → w.cell? (x.add j) = some u) (hm : len ≤ 1048576) :
    Calls Tryz.prog 119 #[.slice ad len cap] w fun e w' => ∃ v, e = .returned v ∧ w'.ownsRow w.heap.size 3 1 v len cs ∧ Below w.heap.size w w' := by
  obtain ⟨i1, hj, hy0, hy1, hy2⟩ := info_parts Tryz.infoI'
  cases ad with
  | none =>
    obtain rfl := h0 rfl
    have hL : cs = [] := List.eq_nil_of_length_eq_zero (by rw [hcs.out])
    subst hL
    have hEq : ∀ (y : World) (c : Nat), (binOp .eql 48 (.slice none 0 c) (.slice none 0 0)).run Tryz.prog y = .ok (.bool true) y := fun y c => Go.Lib.run_eql_slice_nil y 48 3 none 0 c 0 0 Tryz.underlying48
    go_enter Tryz.func119, Tryz.ntmps119
    go_wp2
    go_ret
    exact ⟨_, rfl, ⟨rfl, .inl ⟨rfl, rfl⟩⟩, Below.refl _ _⟩
  | some a =>
    have hnw : ∀ j u, cs[j]? = some u → (w.alloc (Obj.cells #[] 3)).cell? (a.add j) = some u := fun j u hj => by
      have h1 := hv a rfl j u hj
      have hlt : (a.add j).block < w.heap.size := World.block_lt_of_cell? w _ h1
      exact ((below_box w _).cell (p := a.add j) hlt).trans h1
    have hEq : ∀ (y : World), (binOp .eql 48 (.slice (some a) len cap) (.slice none 0 0)).run Tryz.prog y = .ok (.bool false) y := fun y => Go.Lib.run_eql_slice_nil y 48 3 (some a) len cap 0 0 Tryz.underlying48
    go_enter Tryz.func119, Tryz.ntmps119
    go_wp2_with (first | (at_builtin; refine wpList_append_own_at _ rfl _ _ 48 rfl w.heap.size 3 i1 (.int .i64 0) 1 8 Tryz.underlying48 hj hy0 hy1 hy2 rfl (by decide) _ _ _ rfl (row_empty w 3 1) a len cap cs rfl ?z0 ?z1 ?z2 ?z3 ?z4 ?z5 ?_) | go_in)
    case z0 => exact hcs.out
    case z1 => exact hnw
    case z2 => exact hone
    case z3 => unfold maxLen; omega
    case z4 => omega
    case z5 => simp
    intro vZ wZ hownZ hgrowZ _ _
    have ownZ : wZ.ownsRow w.heap.size 3 1 vZ len cs := by simpa using hownZ
    have BZ : Below w.heap.size w wZ := (below_box w _).grown hgrowZ (by simp) (fun j e => (own_lt (row_empty w 3 1) j e).1)
    clear hownZ hgrowZ hnw
    go_wp2
    go_ret
    exact ⟨_, rfl, ownZ, BZ⟩
set_option maxHeartbeats 2000000 in
theorem cloneG0 (ad : Option Addr) (len cap : Nat) (cs : List Value) (w : World) (hcs : Hid (cs.length = len * 4)) (hone : ∀ u ∈ cs, u.oneCell' = true) (h0 : ad = none → len = 0) (hv : ∀ x, ad = some x → ∀ j u, cs[j]? = some u → w.cell? (x.add j) = some u) (hm : len ≤ 1048576) :
    Calls Tryz.prog 90 #[.slice ad len cap] w fun e w' => ∃ v, e = .returned v ∧ w'.ownsRow w.heap.size 97 4 v len cs ∧ Below w.heap.size w w' := by
  obtain ⟨i1, hj, hy0, hy1, hy2⟩ := info_parts Tryz.info97'
  cases ad with
  | none =>
    obtain rfl := h0 rfl
    have hL : cs = [] := List.eq_nil_of_length_eq_zero (by rw [hcs.out])
    subst hL
    have hEq : ∀ (y : World) (c : Nat), (binOp .eql 26 (.slice none 0 c) (.slice none 0 0)).run Tryz.prog y = .ok (.bool true) y := fun y c => Go.Lib.run_eql_slice_nil y 26 97 none 0 c 0 0 Tryz.underlying26
    go_enter Tryz.func90, Tryz.ntmps90
    go_wp2
    go_ret
    exact ⟨_, rfl, ⟨rfl, .inl ⟨rfl, rfl⟩⟩, Below.refl _ _⟩
  | some a =>
    have hnw : ∀ j u, cs[j]? = some u → (w.alloc (Obj.cells #[] 97)).cell? (a.add j) = some u := fun j u hj => by
      have h1 := hv a rfl j u hj
      have hlt : (a.add j).block < w.heap.size := World.block_lt_of_cell? w _ h1
      exact ((below_box w _).cell (p := a.add j) hlt).trans h1
    have hEq : ∀ (y : World), (binOp .eql 26 (.slice (some a) len cap) (.slice none 0 0)).run Tryz.prog y = .ok (.bool false) y := fun y => Go.Lib.run_eql_slice_nil y 26 97 (some a) len cap 0 0 Tryz.underlying26
    go_enter Tryz.func90, Tryz.ntmps90
    go_wp2_with (first | (at_builtin; refine wpList_append_own_at _ rfl _ _ 26 rfl w.heap.size 97 i1 (.agg #[.int .i64 0, .int .i64 0, .int .i64 0, .int .i64 0]) 4 32 Tryz.underlying26 hj hy0 hy1 hy2 rfl (by decide) _ _ _ rfl (row_empty w 97 4) a len cap cs rfl ?z0 ?z1 ?z2 ?z3 ?z4 ?z5 ?_) | go_in)
    case z0 => exact hcs.out
    case z1 => exact hnw
    case z2 => exact hone
    case z3 => unfold maxLen; omega
    case z4 => omega
    case z5 => simp
    intro vZ wZ hownZ hgrowZ _ _
    have ownZ : wZ.ownsRow w.heap.size 97 4 vZ len cs := by simpa using hownZ
    have BZ : Below w.heap.size w wZ := (below_box w _).grown hgrowZ (by simp) (fun j e => (own_lt (row_empty w 97 4) j e).1)
    clear hownZ hgrowZ hnw
    go_wp2
    go_ret
    exact ⟨_, rfl, ownZ, BZ⟩
theorem cloneBools (ad : Option Addr) (cap : Nat) (L : List Bool) (w : World) (hv : ViewB w ad L.length (fun i => L.getD i false)) (hm : L.length ≤ 1048576) :
    Calls Tryz.prog 88 #[.slice ad L.length cap] w fun e w' => ∃ v, e = .returned v ∧ w'.ownsRow w.heap.size 4 1 v L.length (L.map Value.bool) ∧ Below w.heap.size w w' :=
  cloneB0 ad L.length cap (L.map Value.bool) w (by unfold Hid; simp) (bools_ones L) (fun e => by
    rcases Nat.eq_zero_or_pos L.length with h | h
    · exact h
    · obtain ⟨b, off, e2, _⟩ := hv h; rw [e] at e2; cases e2) (fun x e => by rw [e] at hv; exact viewB_add hv) hm
theorem cloneInts (ad : Option Addr) (cap : Nat) (L : List Int) (w : World) (hv : ViewI w ad L.length (fun i => L.getD i 0)) (hm : L.length ≤ 1048576) :
    Calls Tryz.prog 119 #[.slice ad L.length cap] w fun e w' => ∃ v, e = .returned v ∧ w'.ownsRow w.heap.size 3 1 v L.length (L.map (Value.int .i64)) ∧ Below w.heap.size w w' :=
  cloneN0 ad L.length cap (L.map (Value.int .i64)) w (by unfold Hid; simp) (ints_ones L) (fun e => by
    rcases Nat.eq_zero_or_pos L.length with h | h
    · exact h
    · obtain ⟨b, off, e2, _⟩ := hv h; rw [e] at e2; cases e2) (fun x e => by rw [e] at hv; exact viewI_add hv) hm
theorem cloneHs (ad : Option Addr) (cap : Nat) (L : List Hd) (w : World) (hv : HView w ad L) (hm : L.length ≤ 1048576) :
    Calls Tryz.prog 90 #[.slice ad L.length cap] w fun e w' => ∃ v, e = .returned v ∧ HOwn w' w.heap.size v L ∧ Below w.heap.size w w' :=
  cloneG0 ad L.length cap (hcells L) w (hcells_len L) (hcells_ones L) (fun e => by
    rcases Nat.eq_zero_or_pos L.length with h | h
    · exact h
    · obtain ⟨b, off, e2, _⟩ := hv h; rw [e] at e2; cases e2) (fun x e => by rw [e] at hv; exact hview_add hv) hm
def mcells : List Mb → List Value
  | [] => []
  | m :: L => [.int .i64 m.o, .slice m.ad m.L.length m.cap] ++ mcells L
theorem mcells_len (L : List Mb) : (mcells L).length = L.length * 2 := by
  induction L with
  | nil => rfl
  | cons m L ih => simp [mcells, ih]; omega
theorem mcells_app (A B : List Mb) : mcells (A ++ B) = mcells A ++ mcells B := by
  induction A with
  | nil => rfl
  | cons m A ih => simp [mcells, ih]
theorem mcells_at {L : List Mb} : ∀ {i : Nat}, i < L.length → (mcells L)[i * 2]? = some (.int .i64 (L.getD i Mb.nil).o) ∧ (mcells L)[i * 2 + 1]? = some (.slice (L.getD i Mb.nil).ad (L.getD i Mb.nil).L.length (L.getD i Mb.nil).cap) := by
  induction L with
  | nil => intro i h; simp at h
  | cons m L ih =>
    intro i h
    cases i with
    | zero => exact ⟨rfl, rfl⟩
    | succ i =>
      obtain ⟨h1, h2⟩ := ih (i := i) (by simpa using h)
      have e1 : (i + 1) * 2 = i * 2 + 1 + 1 := by omega
      refine ⟨?_, ?_⟩
      · rw [e1]; simpa [mcells] using h1
      · rw [e1]; simpa [mcells] using h2
structure MC (base : Nat) (w : World) (v : Value) (Ns : List Mb) : Prop where
  own : w.ownsRow base 50 2 v Ns.length (mcells Ns)
  nest : ∀ i, i < Ns.length → MbL w (Ns.getD i Mb.nil)
  nil0 : ∀ i, i < Ns.length → (Ns.getD i Mb.nil).ad = none → (Ns.getD i Mb.nil).cap = 0
  rooms : ∀ i, i < Ns.length → Room w (Ns.getD i Mb.nil).ad (Ns.getD i Mb.nil).L.length
  inn : ∀ i, i < Ns.length → ∀ x, (Ns.getD i Mb.nil).ad = some x → 0 < (Ns.getD i Mb.nil).L.length → base ≤ x.block ∧ x.block < w.heap.size
  apart : ∀ i, i < Ns.length → ∀ x, (Ns.getD i Mb.nil).ad = some x → 0 < (Ns.getD i Mb.nil).L.length → v.ownBlock ≠ some x.block
  aparts : ∀ i j, i < j → j < Ns.length → ∀ x y, (Ns.getD i Mb.nil).ad = some x → (Ns.getD j Mb.nil).ad = some y → 0 < (Ns.getD i Mb.nil).L.length → 0 < (Ns.getD j Mb.nil).L.length → x.block ≠ y.block
theorem MC.later {base B : Nat} {w w' : World} {v : Value} {Ns : List Mb} (h : MC base w v Ns) (k : Below B w w') (hB : w.heap.size ≤ B) : MC base w' v Ns := by
  have e : ∀ i, i < Ns.length → ∀ x, (Ns.getD i Mb.nil).ad = some x → 0 < (Ns.getD i Mb.nil).L.length → w'.heap[x.block]? = w.heap[x.block]? := fun i hi x q p => k.block _ (Nat.lt_of_lt_of_le (h.inn i hi x q p).2 hB)
  exact ⟨own_below2 h.own k hB, fun i hi => ViewI.carry (h.nest i hi) (e i hi), h.nil0, fun i hi => (h.rooms i hi).carry (e i hi), fun i hi x q p => ⟨(h.inn i hi x q p).1, Nat.lt_of_lt_of_le (h.inn i hi x q p).2 k.size⟩, h.apart, h.aparts⟩
theorem MC.same {base : Nat} {w w' : World} {v : Value} {Ns : List Mb} (h : MC base w v Ns) (k : ∀ j, base ≤ j → j < w.heap.size → w'.heap[j]? = w.heap[j]?) (hs : w.heap.size ≤ w'.heap.size) : MC base w' v Ns := by
  have e : ∀ i, i < Ns.length → ∀ x, (Ns.getD i Mb.nil).ad = some x → 0 < (Ns.getD i Mb.nil).L.length → w'.heap[x.block]? = w.heap[x.block]? := fun i hi x q p => k _ (h.inn i hi x q p).1 (h.inn i hi x q p).2
  exact ⟨own_same h.own (fun g q => k g (own_lt h.own g q).1 (own_lt h.own g q).2), fun i hi => ViewI.carry (h.nest i hi) (e i hi), h.nil0, fun i hi => (h.rooms i hi).carry (e i hi), fun i hi x q p => ⟨(h.inn i hi x q p).1, Nat.lt_of_lt_of_le (h.inn i hi x q p).2 hs⟩, h.apart, h.aparts⟩
theorem getD_app_lt {α : Type} {A B : List α} {i : Nat} {z : α} (h : i < A.length) : (A ++ B).getD i z = A.getD i z := by
  simp [List.getD, List.getElem?_append_left h]
theorem getD_app_len {α : Type} {A : List α} {b z : α} : (A ++ [b]).getD A.length z = b := by
  simp [List.getD]
theorem MC.push {base B : Nat} {w w1 w2 : World} {v v' : Value} {Ns : List Mb} {m : Mb} (h : MC base w v Ns) (k1 : Below w.heap.size w w1) (hv : MbL w1 m) (hr : Room w1 m.ad m.L.length) (hn : m.ad = none → m.cap = 0) (hm : ∀ x, m.ad = some x → 0 < m.L.length → w.heap.size ≤ x.block ∧ x.block < w1.heap.size) (hb : base ≤ w.heap.size)
    (own : w2.ownsRow base 50 2 v' (Ns.length + 1) (mcells Ns ++ [.int .i64 m.o, .slice m.ad m.L.length m.cap])) (g : w1.grownBy w2 v.ownBlock) (hv' : v'.ownBlock = v.ownBlock ∨ v'.ownBlock = some w1.heap.size) : MC base w2 v' (Ns ++ [m]) := by
  have h1 := h.later k1 (Nat.le_refl _)
  have z1 := k1.size
  have hvl : ∀ j, v.ownBlock = some j → j < w.heap.size := fun j e => (own_lt h.own j e).2
  have e1 : ∀ i, i < Ns.length → ∀ x, (Ns.getD i Mb.nil).ad = some x → 0 < (Ns.getD i Mb.nil).L.length → w2.heap[x.block]? = w1.heap[x.block]? := fun i hi x q p => g.block _ (h1.inn i hi x q p).2 (fun e => h.apart i hi x q p e.symm)
  have e2 : ∀ x, m.ad = some x → 0 < m.L.length → w2.heap[x.block]? = w1.heap[x.block]? := fun x q p => g.block _ (hm x q p).2 (fun e => by have := hvl _ e.symm; have := (hm x q p).1; omega)
  have hl : (Ns ++ [m]).length = Ns.length + 1 := by simp
  have hg : ∀ i, i < (Ns ++ [m]).length → (i < Ns.length ∧ (Ns ++ [m]).getD i Mb.nil = Ns.getD i Mb.nil) ∨ (i = Ns.length ∧ (Ns ++ [m]).getD i Mb.nil = m) := fun i hi => by
    rw [hl] at hi
    rcases Nat.lt_or_ge i Ns.length with q | q
    · exact .inl ⟨q, getD_app_lt q⟩
    · obtain rfl : i = Ns.length := by omega
      exact .inr ⟨rfl, getD_app_len⟩
  refine ⟨by rw [hl, mcells_app]; exact own, fun i hi => ?_, fun i hi => ?_, fun i hi => ?_, fun i hi x => ?_, fun i hi x => ?_, fun i j hij hj x y => ?_⟩
  · rcases hg i hi with ⟨q, e⟩ | ⟨q, e⟩ <;> rw [e]
    · exact ViewI.carry (h1.nest i q) (e1 i q)
    · exact ViewI.carry hv e2
  · rcases hg i hi with ⟨q, e⟩ | ⟨q, e⟩ <;> rw [e]
    · exact h1.nil0 i q
    · exact hn
  · rcases hg i hi with ⟨q, e⟩ | ⟨q, e⟩ <;> rw [e]
    · exact (h1.rooms i q).carry (e1 i q)
    · exact hr.carry e2
  · have gs := g.size
    rcases hg i hi with ⟨q, e⟩ | ⟨q, e⟩ <;> rw [e]
    · intro a p; have := h1.inn i q x a p; omega
    · intro a p; have := hm x a p; omega
  · rcases hg i hi with ⟨q, e⟩ | ⟨q, e⟩ <;> rw [e]
    · intro a p
      have u := h.inn i q x a p
      rcases hv' with r | r <;> rw [r]
      · exact h.apart i q x a p
      · intro c; simp at c; omega
    · intro a p
      have u := hm x a p
      rcases hv' with r | r <;> rw [r]
      · intro c; have := hvl _ c; omega
      · intro c; simp at c; omega
  · rcases hg j hj with ⟨q, e⟩ | ⟨q, e⟩ <;> rw [e]
    · rw [getD_app_lt (by omega)]; exact h.aparts i j hij q x y
    · rw [getD_app_lt (by omega)]
      intro a b p r
      have := h.inn i (by omega) x a p
      have := hm y b r
      omega
theorem MC.start (base : Nat) (w : World) : MC base w (.slice none 0 0) [] :=
  ⟨⟨rfl, .inl ⟨rfl, rfl⟩⟩, fun i hi => absurd hi (by simp), fun i hi => absurd hi (by simp), fun i hi => absurd hi (by simp), fun i hi => absurd hi (by simp), fun i hi => absurd hi (by simp), fun i j _ hi => absurd hi (by simp)⟩
theorem MC.done {base : Nat} {w : World} {v : Value} {Ns : List Mb} (h : MC base w v Ns) : ∃ ad cap fp, v = .slice ad Ns.length cap ∧ MbW w ad Ns fp ∧ (∀ x ∈ fp, base ≤ x ∧ x < w.heap.size) := by
  have hfp : ∃ fp : List Nat, (∀ x ∈ fp, base ≤ x ∧ x < w.heap.size) ∧ (∀ g, v.ownBlock = some g → g ∈ fp) ∧ ∀ i, i < Ns.length → ∀ x, (Ns.getD i Mb.nil).ad = some x → 0 < (Ns.getD i Mb.nil).L.length → x.block ∈ fp := by
    refine ⟨(List.range w.heap.size).filter (fun x => decide (base ≤ x)), fun x hx => ?_, fun g e => ?_, fun i hi x q p => ?_⟩
    · simp at hx; omega
    · have := own_lt h.own g e; simp; omega
    · have := h.inn i hi x q p; simp; omega
  obtain ⟨fp, f1, f2, f3⟩ := hfp
  rcases h.own.2 with ⟨rfl, h0⟩ | ⟨g, cap, cur, rfl, hb, hg, hnc, hcm, hcs, htk⟩
  · obtain rfl : Ns = [] := List.eq_nil_of_length_eq_zero h0
    exact ⟨none, 0, fp, rfl, ⟨⟨fun p => absurd p (by simp), fun i hi => absurd hi (by simp), fun i hi => absurd hi (by simp)⟩, fun p => absurd p (by simp), fun i hi => absurd hi (by simp), fun x e => (by cases e), fun i hi => absurd hi (by simp), fun i hi => absurd hi (by simp), fun i j _ hi => absurd hi (by simp)⟩, f1⟩
  · refine ⟨some ⟨g, 0, none⟩, cap, fp, rfl, ⟨⟨fun _ => ⟨g, 0, rfl, fun i hi => ?_⟩, h.nest, h.nil0⟩, fun _ => ⟨g, 0, rfl, fun i hi => ?_⟩, h.rooms, fun x e _ => (by cases e; exact f2 g rfl), f3, fun i hi x y e q p => (by cases e; exact fun c => h.apart i hi y q p (by rw [c]; rfl)), h.aparts⟩, f1⟩
    · obtain ⟨m1, m2⟩ := mcells_at hi
      refine ⟨?_, ?_⟩
      · rw [Nat.zero_add, h.own.cellAt (i * 2) (by omega)]; exact m1
      · rw [Nat.zero_add, h.own.cellAt (i * 2 + 1) (by omega)]; exact m2
    · rw [Nat.zero_add]
      refine ⟨?_, h.own.frozenAt i⟩
      rw [h.own.cellAt i (by omega)]
      exact ⟨_, List.getElem?_eq_getElem (by rw [mcells_len]; exact hi)⟩

end Go.Proofs.YtifndemkkaelaaaGreat
