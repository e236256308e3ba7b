/- impl.heardNow, walked. slices.Clone and impl.Hear, of a table, walked. -/
import Derived.Test.YtifndemkkaelaaaGreatRows
import Derived.WalkKit
import Derived.ProofKit
import Derived.OpenShut
import Derived.ShutString
import Derived.ChangeOld
import Derived.Below
import Derived.Deep.QuietTactic
import Derived.BigQuiet
import Derived.WalkSmall
import Derived.Laws.OwnMore
import Derived.WalkSpells
import Derived.Maps.RangeWalk
import Derived.Maps.OwnSet
import Derived.Maps.AppendAt
import Derived.Test.YtifndemkkaelaaaGreatZl25
import Derived.Test.YtifndemkkaelaaaGreatZl11
import Derived.Lib.SliceRun
import Derived.Test.YtifndemkkaelaaaGreatZlHear3
import Derived.Test.YtifndemkkaelaaaGreatZl6
namespace Go.Proofs.YtifndemkkaelaaaGreat
open Go.ChangeShapes Go.WideShapes Go.ChangeAt Go.RowKit
open Go.ChangeMaps (open_string shut_string)
set_option linter.unusedVariables false
set_option maxRecDepth 100000

def goneN (x h : Hd) : Bool := h.same x
set_option maxHeartbeats 1000000 in
theorem closN (h x : Hd) (q : Nat) (w : World) (c : HAt w q 0 x) : Calls Tryz.prog 123 #[.agg #[.int .i64 h.a, .int .i64 h.v, .int .i64 h.p, .int .i64 h.l], .pointer (some ⟨q, 0, none⟩)] w fun e w' => e = .returned (.bool (goneN x h)) ∧ Below w.heap.size w w' := by
  have hq : q < w.heap.size := World.block_lt_of_cell? w _ c.1
  obtain ⟨c1, c2, c3, c4⟩ : HAt (w.alloc (Obj.cells #[.int .i64 h.a, .int .i64 h.v, .int .i64 h.p, .int .i64 h.l] 97)) q 0 x := c.of_block ((below_box w _).block _ hq)
  simp only [Nat.zero_add] at c1 c2 c3 c4
  go_enter Tryz.func123, Tryz.ntmps123
  go_wp2_with fail
  go_at_call 124
  refine (cmpH h x _).mono ?_
  rintro e w1 ⟨rfl, k1⟩
  have hz : Hid (decide (h.cmp x = 0) = goneN x h) := cmp_zero h x
  go_wp2
  go_ret
  exact ⟨by rw [← hz.out]; rfl, (below_box w _).trans (k1.mono (by simp))⟩
set_option maxHeartbeats 2000000 in
theorem dropN (b n : Nat) (D0 : DataW Unit) (L : List Hd) (x0 : Hd) (q0 : Nat) (w : World) (hown : w.ownsMap Tryz.prog 3 hdR b n D0) (hK0 : Keeps D0 L (fun _ => True)) (hq0 : q0 ≠ b) (hc0 : HAt w q0 0 x0) :
    Calls Tryz.prog 102 #[.map (some b), .func (Fn.func 123) #[] #[.pointer (some ⟨q0, 0, none⟩)]] w fun e w' => e = .returned (.tuple #[]) ∧ ∃ D, w'.ownsMap Tryz.prog 3 hdR b n D ∧ Keeps D L (fun i => goneN x0 (L.getD i Hd.nil) = false) ∧ w.grownBy w' (some b) := by
  have hbl := hown.lt
  go_enter Tryz.func102, Tryz.ntmps102
  go_wp2_with (first
    | (at_range; refine wpList_range_own _ rfl _ 127 rfl 3 97 law3 Tryz.underlying127 hdR b n D0 rfl hown ?_; intro w0 hrg0 hg0 hs0; go_frame)
    | go_in)
  go_loopw [4] (fun _ wr => ∃ (D : DataW Unit) (left : Lit → Bool) (cnt : Nat), wr.ranges Tryz.prog 3 hdR b w.heap.size n D left cnt ∧ Keeps D L (fun i => goneN x0 (L.getD i Hd.nil) = false ∨ left (key i) = true) ∧ w.grownBy wr (some b)) (fun _ wr => wr.rangeLeft b w.heap.size)
  case atStart => exact ⟨D0, _, _, hrg0, hK0.congr (fun i hi => ⟨fun _ => .inr ((hK0.1 _).2 ⟨i, hi, trivial, rfl⟩), fun _ => trivial⟩), hg0.but _⟩
  case round =>
    obtain ⟨D, left, cnt, hrg, hK, hgw⟩ := hrel
    clear hrg0 hg0 hs0
    go_wp2_with (first
      | (at_next; refine wpList_next_ranges _ rfl _ rfl 3 law3 hdR (fun x : Int => Value.int .i64 x) (fun h : Hd => Value.agg #[.int .i64 h.a, .int .i64 h.v, .int .i64 h.p, .int .i64 h.l]) (fun k kl e => keyInv e) (fun v y e => valInv e) b w.heap.size n D left cnt rfl hrg ?_ ?_)
      | go_in)
    · intro _ hl0
      go_wp2
      go_end0
      exact ⟨rfl, D, hrg.owns, hK.congr (fun i hi => ⟨fun q => q.resolve_right (by rw [hl0]; simp), .inl⟩), hgw⟩
    · intro x h kl yd yp w1 cnt1 hkey hlk hv hat hrg1 hlt hg1 hs1 hen
      obtain ⟨hwx, rfl⟩ := keyIs hkey
      obtain ⟨i, hi, rfl, hhi⟩ := hK.came (y := (yd, yp)) hv hat
      have hgw1 := hgw.andThen hg1 (fun j hj => by cases hj; exact Or.inl (Nat.le_refl _))
      have hsz1 := hgw1.size
      have hq1 : HAt (w1.alloc (Obj.cells #[.int .i64 h.a, .int .i64 h.v, .int .i64 h.p, .int .i64 h.l] 97)) q0 0 x0 := by
        have hql : q0 < w.heap.size := World.block_lt_of_cell? w _ hc0.1
        have e1 : w1.heap[q0]? = w.heap[q0]? := hgw1.block q0 hql (by simp; omega)
        exact (hc0.of_block e1).of_block ((below_box w1 _).block _ (by omega))
      clear hat hv hkey hg1 hgw
      cases hgn : goneN x0 h with
      | true =>
        have hK2 := hK.struck hlk (g := fun i => goneN x0 (L.getD i Hd.nil) = false) (by rw [hhi, hgn]; simp)
        clear hK hhi
        go_wp2_with fail
        go_at_call 123
        refine (closN h x0 q0 (w1.alloc (Obj.cells #[.int .i64 h.a, .int .i64 h.v, .int .i64 h.p, .int .i64 h.l] 97)) hq1).mono ?_
        rintro e w2 ⟨rfl, k2⟩
        rw [hgn]
        clear hgn
        have hrg2 := ((hrg1.alloc (Obj.cells #[.int .i64 h.a, .int .i64 h.v, .int .i64 h.p, .int .i64 h.l] 97)).kept (below_grown k2 none) (by simp) (by simp))
        have hgw2 := (hgw1.andThen (World.grownBy_alloc w1 (Obj.cells #[.int .i64 h.a, .int .i64 h.v, .int .i64 h.p, .int .i64 h.l] 97) none) (fun j hj => by cases hj)).andThen (below_grown k2 none) (fun j hj => by cases hj)
        clear hgw1 k2
        go_wp2_with (first
          | (at_delete; refine wpList_delete_ranges _ rfl _ _ 127 3 rfl 97 law3 Tryz.underlying127 hdR b w.heap.size n D _ cnt1 rfl hrg2 _ _ rfl (Go.Maps.keyOf_int_mk Tryz.underlying3 hwx) ?_; intro w3 cnt3 hrg3 hle hturn; go_frame)
          | go_in)
        rw [Go.Maps.strike_twice] at hrg3
        go_roundw
        case rel => exact ⟨_, _, cnt3, hrg3, hK2, hgw2.andThen hturn.grown (fun j hj => by cases hj; exact Or.inr rfl)⟩
        case measure => rw [hrg3.left_eq, hrg.left_eq]; omega
      | false =>
        have hK2 := hK.stays (i := i) (g := fun i => goneN x0 (L.getD i Hd.nil) = false) (by rw [hhi, hgn])
        clear hK hhi
        go_wp2_with fail
        go_at_call 123
        refine (closN h x0 q0 (w1.alloc (Obj.cells #[.int .i64 h.a, .int .i64 h.v, .int .i64 h.p, .int .i64 h.l] 97)) hq1).mono ?_
        rintro e w2 ⟨rfl, k2⟩
        rw [hgn]
        clear hgn
        have hrg2 := ((hrg1.alloc (Obj.cells #[.int .i64 h.a, .int .i64 h.v, .int .i64 h.p, .int .i64 h.l] 97)).kept (below_grown k2 none) (by simp) (by simp))
        have hgw2 := (hgw1.andThen (World.grownBy_alloc w1 (Obj.cells #[.int .i64 h.a, .int .i64 h.v, .int .i64 h.p, .int .i64 h.l] 97) none) (fun j hj => by cases hj)).andThen (below_grown k2 none) (fun j hj => by cases hj)
        clear hgw1 k2
        go_wp2
        go_roundw
        case rel => exact ⟨_, _, cnt1, hrg2, hK2, hgw2⟩
        case measure => rw [hrg2.left_eq, hrg.left_eq]; omega
theorem Keeps.add {D : DataW Unit} {L : List Hd} {x : Hd} {p : Nat → Prop} (h : Keeps D L p) (hD : Go.Maps.IsMap D) : Keeps (D.put (key L.length) (hdD x)) (L ++ [x]) (fun i => i = L.length ∨ (i < L.length ∧ p i)) := by
  refine ⟨fun kl => ?_, fun i h1 h2 z => ?_⟩
  · by_cases e : kl = key L.length
    · subst e
      rw [Go.Maps.has_put_same hD (show WideAt.IsKeyLit (key L.length) from trivial)]
      exact ⟨fun _ => ⟨L.length, by simp, .inl rfl, rfl⟩, fun _ => rfl⟩
    · rw [Go.Maps.has_put_other e, h.1]
      constructor
      · rintro ⟨i, h1, h2, rfl⟩
        exact ⟨i, by simp; omega, .inr ⟨h1, h2⟩, rfl⟩
      · rintro ⟨i, h1, h2, rfl⟩
        rcases h2 with rfl | ⟨h2, h3⟩
        · exact absurd rfl e
        · exact ⟨i, h2, h3, rfl⟩
  · by_cases e : i = L.length
    · subst e
      rw [Go.Maps.atKey_put_same hD (show WideAt.IsKeyLit (key L.length) from trivial)]
      simp [List.getD]
    · rw [Go.Maps.atKey_put_other (fun q => e (key_inj q))]
      rcases h2 with h2 | ⟨h2, h3⟩
      · exact absurd h2 e
      · rw [h.2 i h2 h3 z]
        simp [List.getD, List.getElem?_append_left h2]
theorem picked_add (L : List Hd) (x : Hd) (q : Hd → Bool) : picked (L ++ [x]) (fun i => decide (i = L.length) || q ((L ++ [x]).getD i Hd.nil)) = L.filter q ++ [x] := by
  unfold picked placesP
  rw [List.length_append, List.length_singleton, List.range_succ, List.filter_append, List.map_append]
  have e1 : [L.length].filter (fun i => decide (i = L.length) || q ((L ++ [x]).getD i Hd.nil)) = [L.length] := by simp
  rw [e1]
  have e2 : (List.range L.length).filter (fun i => decide (i = L.length) || q ((L ++ [x]).getD i Hd.nil)) = (List.range L.length).filter (fun i => q (L.getD i Hd.nil)) := by
    refine List.filter_congr fun i hi => ?_
    have hi := List.mem_range.1 hi
    have : decide (i = L.length) = false := decide_eq_false (by omega)
    rw [this]
    simp [List.getD, List.getElem?_append_left hi]
  rw [e2]
  have e3 : ((List.range L.length).filter (fun i => q (L.getD i Hd.nil))).map (fun i => (L ++ [x]).getD i Hd.nil) = ((List.range L.length).filter (fun i => q (L.getD i Hd.nil))).map (fun i => L.getD i Hd.nil) := by
    refine List.map_congr_left fun i hi => ?_
    have hi := List.mem_range.1 (List.mem_filter.1 hi).1
    simp [List.getD, List.getElem?_append_left hi]
  rw [e3]
  have := picked_filter L q
  unfold picked placesP at this
  rw [this]
  simp [List.getD]
set_option maxHeartbeats 2000000 in
theorem heardNow (ad : Option Addr) (cap : Nat) (L : List Hd) (x : Hd) (w : World) (hv : HView w ad L) (hm : L.length ≤ 1000) (hB : HIs ad L (· < w.heap.size)) :
    Calls Tryz.prog 94 #[.slice ad L.length cap, .agg #[.int .i64 x.a, .int .i64 x.v, .int .i64 x.p, .int .i64 x.l]] w fun e w' => ∃ v N, e = .returned v ∧ HOwn w' w.heap.size v N ∧ (L.filter (fun h => !(h.same x)) ++ [x]).Perm N ∧ N.Pairwise (fun x y => y.bef x = false) ∧ Below w.heap.size w w' := by
  have hmx : L.length ≤ maxLen := by unfold maxLen; omega
  obtain ⟨w0, hx⟩ : ∃ y, y = w.alloc (Obj.cells #[.int .i64 x.a, .int .i64 x.v, .int .i64 x.p, .int .i64 x.l] 97) := ⟨_, rfl⟩
  have b0 : Below w.heap.size w w0 := by rw [hx]; exact below_box w _
  have t0 : w0.heap.size = w.heap.size + 1 := by rw [hx]; simp
  have c0 : HAt w0 w.heap.size 0 x := by rw [hx]; refine ⟨?_, ?_, ?_, ?_⟩ <;> simp [go_sem]
  go_enter Tryz.func94, Tryz.ntmps94
  go_wp2_with fail
  go_at_call 101
  rw [← hx]
  clear hx
  refine (placesOf ad cap L w0 (hv.below hB b0) hmx (hB.le b0.size)).mono ?_
  rintro e w1 ⟨rfl, D, o1, K1, b1⟩
  rw [t0] at b1 o1 ⊢
  have t1 := o1.lt
  have c1 : HAt w1 w.heap.size 0 x := c0.of_block (b1.block _ (by omega))
  have B1 : Below w.heap.size w w1 := b0.trans (b1.mono (by omega))
  clear t0 b0 b1 c0
  go_wp2_with fail
  go_at_call 102
  refine (dropN (w.heap.size + 1) L.length D L x w.heap.size w1 o1 K1 (by omega) c1).mono ?_
  rintro e w2 ⟨rfl, D2, o2, K2, g2⟩
  have s2 := g2.size
  have b2 : Below w.heap.size w w2 := B1.grown g2 (by omega) (fun j hj => by cases hj; omega)
  have c2 : HAt w2 w.heap.size 0 x := c1.of_block (g2.block _ (by omega) (by simp))
  have K3 : Keeps (D2.put (key L.length) (hdD x)) (L ++ [x]) (fun i => (decide (i = L.length) || !(goneN x ((L ++ [x]).getD i Hd.nil))) = true) := by
    refine (K2.add o2.isMap).congr fun i hi => ?_
    by_cases e : i = L.length
    · simp [e]
    · have hi' : i < L.length := by simp at hi; omega
      have : decide (i = L.length) = false := decide_eq_false e
      rw [this]
      simp [e, hi', List.getD, List.getElem?_append_left hi']
  have hwk := wf_nat (k := L.length) (n := L.length) (Nat.le_refl _) (by unfold maxLen at hmx; omega)
  obtain ⟨q1, q2, q3, q4⟩ := c2
  simp only [Nat.zero_add] at q1 q2 q3 q4
  clear o1 K1 g2 K2 c1
  go_wp2_with (first
    | (at_mapUpdate; refine wpList_mapUpdate_own _ rfl _ _ _ 127 rfl 3 97 law3 Tryz.underlying127 hdR (w.heap.size + 1) L.length D2 rfl o2 (by unfold maxLen; omega) _ _ (key L.length) rfl rfl (Go.Maps.keyOf_int_mk Tryz.underlying3 hwk) (hdD x) [] (hdR_mk x) ?_)
    | go_in)
  intro w3 o3 g3
  have s3 := g3.size
  have b3 : Below w.heap.size w w3 := b2.grown g3 (by omega) (fun j hj => by cases hj; omega)
  clear o2 g3 q1 q2 q3 q4
  go_wp2_with fail
  go_at_call 104
  refine (told (w.heap.size + 1) (L.length + 1) (D2.put (key L.length) (hdD x)) (L ++ [x]) (fun i => decide (i = L.length) || !(goneN x ((L ++ [x]).getD i Hd.nil))) w3 o3 K3 (by omega) (by simp; unfold maxLen; omega)).mono ?_
  rintro e w4 ⟨v, rfl, o4, b4⟩
  rw [picked_add L x (fun h => !(goneN x h))] at o4
  have s4 := b4.size
  have B4 := b3.trans (b4.mono (by omega))
  obtain ⟨M, hM⟩ : ∃ M, L.filter (fun h => !(goneN x h)) ++ [x] = M := ⟨_, rfl⟩
  rw [hM] at o4
  have hM' : Hid (L.filter (fun h => !(h.same x)) ++ [x] = M) := hM
  have hMl : M.length ≤ 1001 := by rw [← hM, List.length_append]; have := List.length_filter_le (fun h => !(goneN x h)) L; simp; omega
  have hMp : 0 < M.length := by rw [← hM]; simp
  clear o3 K3 hM
  go_wp2_with fail
  go_at_call 125
  refine (sortF w3.heap.size v M w4 o4 hMp (by omega)).mono ?_
  rintro e w5 ⟨rfl, N, o5, hp, hw, g5⟩
  have B5 : Below w.heap.size w w5 := B4.grown g5 (by omega) (fun j hj => by have := own_ge o4 j hj; omega)
  clear g5 o4
  go_wp2
  go_ret
  exact ⟨v, N, rfl, own_base' o5 (by omega), by rw [hM'.out]; exact hp, hw, B5⟩

end Go.Proofs.YtifndemkkaelaaaGreat
namespace Go.Proofs.YtifndemkkaelaaaGreat
open Go.ChangeShapes Go.WideShapes Go.ChangeAt Go.RowKit
open Go.ChangeMaps (open_string shut_string)
set_option linter.unusedVariables false
set_option maxRecDepth 100000

theorem hview_cells {w : World} {x : Addr} {L : List Hd} (hv : HView w (some x) L) : ∀ j u, (hcells L)[j]? = some u → w.cell? (x.add j) = some u := by
  intro j u hj
  have hjl : j < L.length * 4 := by have := (List.getElem?_eq_some_iff.1 hj).1; rw [hcells_len] at this; exact this
  obtain ⟨b, off, e, hc⟩ := hv (by omega)
  cases e
  rw [Go.WideShapes.add_plain]
  obtain ⟨c1, c2, c3, c4⟩ := hc (j / 4) (by omega)
  rw [hcells_get L j hjl] at hj
  rcases (by omega : j = j / 4 * 4 ∨ j = j / 4 * 4 + 1 ∨ j = j / 4 * 4 + 2 ∨ j = j / 4 * 4 + 3) with e | e | e | e
  · rw [show j % 4 = 0 by omega] at hj
    simp only [encH, List.getElem?_cons_zero, Option.some.injEq] at hj
    rw [← hj]; conv => lhs; rw [e]
    exact c1
  · rw [show j % 4 = 1 by omega] at hj
    simp only [encH, List.getElem?_cons_succ, List.getElem?_cons_zero, Option.some.injEq] at hj
    rw [← hj]; conv => lhs; rw [e, ← Nat.add_assoc]
    exact c2
  · rw [show j % 4 = 2 by omega] at hj
    simp only [encH, List.getElem?_cons_succ, List.getElem?_cons_zero, Option.some.injEq] at hj
    rw [← hj]; conv => lhs; rw [e, ← Nat.add_assoc]
    exact c3
  · rw [show j % 4 = 3 by omega] at hj
    simp only [encH, List.getElem?_cons_succ, List.getElem?_cons_zero, Option.some.injEq] at hj
    rw [← hj]; conv => lhs; rw [e, ← Nat.add_assoc]
    exact c4
set_option maxHeartbeats 2000000 in
theorem cloneH (ad : Option Addr) (cap : Nat) (L : List Hd) (w : World) (hv : HView w ad L) (hm : L.length ≤ 1000) (hB : HIs ad L (· < w.heap.size)) :
    Calls Tryz.prog 90 #[.slice ad L.length cap] w fun e w' => ∃ v, e = .returned v ∧ HOwn w' w.heap.size v L ∧ Below w.heap.size w w' := by
  obtain ⟨i1, hj, hy0, hy1, hy2⟩ := info_parts Tryz.info97'
  cases ad with
  | none =>
    have hL : L = [] := by
      cases L with
      | nil => rfl
      | cons a r => obtain ⟨b, off, e, _⟩ := hv (by simp); cases e
    subst hL
    have hEq : ∀ (y : World) (c : Nat), (binOp .eql 26 (.slice none 0 c) (.slice none 0 0)).run Tryz.prog y = .ok (.bool true) y := fun y c => Go.Lib.run_eql_slice_nil y 26 97 none 0 c 0 0 Tryz.underlying26
    simp only [List.length_nil]
    go_enter Tryz.func90, Tryz.ntmps90
    go_wp2
    go_ret
    exact ⟨_, rfl, hown_nil _ _, Below.refl _ _⟩
  | some a =>
    have hv1 : HView (w.alloc (Obj.cells #[] 97)) (some a) L := hv.below hB (below_box w _)
    have hnw := hview_cells hv1
    have hLh : Hid ((hcells L).length = L.length * 4) := hcells_len L
    have hEq : ∀ (y : World), (binOp .eql 26 (.slice (some a) L.length cap) (.slice none 0 0)).run Tryz.prog y = .ok (.bool false) y := fun y => Go.Lib.run_eql_slice_nil y 26 97 (some a) L.length cap 0 0 Tryz.underlying26
    go_enter Tryz.func90, Tryz.ntmps90
    go_wp2_with (first | (at_builtin; refine wpList_append_own_at _ rfl _ _ 26 rfl w.heap.size 97 i1 (.agg #[.int .i64 0, .int .i64 0, .int .i64 0, .int .i64 0]) 4 32 Tryz.underlying26 hj hy0 hy1 hy2 rfl (by decide) _ _ _ rfl (hown_empty w) a L.length cap (hcells L) rfl ?z0 ?z1 ?z2 ?z3 ?z4 ?z5 ?_) | go_in)
    case z0 => exact hLh.out
    case z1 => exact hnw
    case z2 => exact hcells_one L
    case z3 => simp; unfold maxLen; omega
    case z4 => simp; omega
    case z5 => simp
    intro vZ wZ hownZ hgrowZ _ _
    have ownZ : HOwn wZ w.heap.size vZ L := by simpa [HOwn, hcells] using hownZ
    have BZ : Below w.heap.size w wZ := (below_box w _).grown hgrowZ (by simp) (fun j e => own_ge (hown_empty w) j e)
    clear hownZ hgrowZ hnw
    go_wp2
    go_ret
    exact ⟨_, rfl, ownZ, BZ⟩
set_option maxHeartbeats 2000000 in
theorem hearIX (ad : Option Addr) (cap : Nat) (L : List Hd) (a v p : Int) (w : World) (hv : HView w ad L) (hT : TOk L) (hB : HIs ad L (· < w.heap.size)) :
    Calls Tryz.prog 42 #[.slice ad L.length cap, .int .i64 a, .int .i64 v, .int .i64 p] w fun e w' => ∃ vv, e = .returned vv ∧ HOwn w' w.heap.size vv (hearR L ⟨a, v, p, 20⟩) ∧ Below w.heap.size w w' := by
  have hm : L.length ≤ 1000 := by have := hT.1; omega
  have hmx : L.length ≤ maxLen := by unfold maxLen; omega
  have hord : Hid (ordB L = true) := ordB_yes hT.2.2
  have hstr := str_of_tok hT
  clear hT
  go_enter Tryz.func42, Tryz.ntmps42
  go_wp2_with fail
  go_at_call 94
  refine (heardNow ad cap L ⟨a, v, p, 20⟩ w hv hm hB).mono ?_
  rintro e w1 ⟨vN, N, rfl, oN, hp, hw, b1⟩
  have hN := sorted_insS hstr hp hw
  have hNl : N.length ≤ 1001 := by
    have e1 := hp.length_eq
    rw [List.length_append] at e1
    have := List.length_filter_le (fun h : Hd => !(h.same ⟨a, v, p, 20⟩)) L
    simp at e1
    omega
  have hNh : Hid (N = insS (⟨a, v, p, 20⟩ : Hd) false L) := hN
  clear hp hw hN hstr
  go_wp2_with fail
  go_at_call 95
  refine (inOrd ad cap L w1 (hv.below hB b1) hmx (hB.le b1.size)).mono ?_
  rintro e w2 ⟨rfl, b2⟩
  rw [hord.out]
  have B2 := b1.trans (b2.mono b1.size)
  have oN2 := own_grow oN (below_grown b2 none) (fun j e => by cases e)
  obtain ⟨adN, capN, rfl, vN2, _, mN⟩ := hown_view oN2
  clear oN
  go_wp2_with fail
  go_at_call 93
  refine (okI adN capN N w2 vN2 (by unfold maxLen; omega) (fun a e _ => (mN a e).2.1)).mono ?_
  rintro e w3 ⟨rfl, b3⟩
  have B3 := B2.trans (b3.mono B2.size)
  have oN3 := own_grow oN2 (below_grown b3 none) (fun j e => by cases e)
  cases hok : tokB N with
  | true =>
    have hR : Hid (hearR L (⟨a, v, p, 20⟩ : Hd) = N) := by unfold Hid hearR; rw [← hNh.out, if_pos hok]
    clear hok
    go_wp2
    go_ret
    exact ⟨_, rfl, by rw [hR.out]; exact oN3, B3⟩
  | false =>
    have hR : Hid (hearR L (⟨a, v, p, 20⟩ : Hd) = L) := by unfold Hid hearR; rw [← hNh.out, if_neg (by rw [hok]; simp)]
    clear hok
    go_wp2_with fail
    go_at_call 90
    refine (cloneH ad cap L w3 (hv.below hB B3) hm (hB.le B3.size)).mono ?_
    rintro e w4 ⟨vC, rfl, oC, b4⟩
    go_wp2
    go_ret
    exact ⟨_, rfl, by rw [hR.out]; exact own_base' oC B3.size, B3.trans (b4.mono B3.size)⟩

end Go.Proofs.YtifndemkkaelaaaGreat
