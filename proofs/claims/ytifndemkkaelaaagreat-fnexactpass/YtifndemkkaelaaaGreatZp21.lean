/- What leaves the map. Places, sorted. -/
import Derived.Test.YtifndemkkaelaaaGreatRows
import Derived.WalkKit
import Derived.ProofKit
import Derived.OpenShut
import Derived.ShutString
import Derived.ChangeOld
import Derived.Below
import Derived.Deep.QuietTactic
import Derived.BigQuiet
import Derived.WalkSmall
import Derived.Laws.OwnMore
import Derived.WalkSpells
import Derived.Maps.RangeWalk
import Derived.Maps.OwnSet
import Derived.Test.YtifndemkkaelaaaGreatZp20
import Derived.Sort.OwnSortedInts
namespace Go.Proofs.YtifndemkkaelaaaGreat
open Go.ChangeShapes Go.WideShapes Go.ChangeAt Go.RowKit
open Go.ChangeMaps (open_string shut_string)
set_option linter.unusedVariables false

theorem below_grown {w w' : World} (b : Below w.heap.size w w') (row : Option Nat) : w.grownBy w' row := ⟨b.os, b.tape, b.output, b.size, fun k hk _ => b.block k hk⟩
theorem keyInv {k : Value} {kl : Lit} (e : keyOf Tryz.prog 3 k = some kl) : ∃ x : Int, k = Value.int .i64 x := by
  obtain ⟨x, rfl, _⟩ := Go.Maps.keyOf_int_inv Tryz.underlying3 e
  exact ⟨x, rfl⟩
theorem valInv {v : Value} {y : DataW Unit × List MemPlace} (e : hdR v = some y) : ∃ h : Hd, v = Value.agg #[.int .i64 h.a, .int .i64 h.v, .int .i64 h.p, .int .i64 h.l] := by
  obtain ⟨h, rfl, _⟩ := hdR_inv e
  exact ⟨h, rfl⟩
theorem keyIs {x : Int} {kl : Lit} (e : keyOf Tryz.prog 3 (Value.int .i64 x) = some kl) : (Lit.int .i64 x).wf = true ∧ kl = .int .i64 x := by
  obtain ⟨x', ex, rfl, hwx⟩ := Go.Maps.keyOf_int_inv Tryz.underlying3 e
  cases ex
  exact ⟨hwx, rfl⟩
/-- What came in the round is one of the list. -/
theorem Keeps.came {D : DataW Unit} {L : List Hd} {p : Nat → Prop} {x : Int} {h : Hd} {y : DataW Unit × List MemPlace} (hK : Keeps D L p) (hv : hdR (Value.agg #[.int .i64 h.a, .int .i64 h.v, .int .i64 h.p, .int .i64 h.l]) = some y) (hat : ∀ z, D.atKey (.int .i64 x) z = y.1) : ∃ i, i < L.length ∧ x = (i : Int) ∧ L.getD i Hd.nil = h := by
  have hy : y = (hdD h, []) := by
    have := hdR_mk h
    unfold Hd.agg at this
    rw [this] at hv
    cases hv
    rfl
  subst hy
  obtain ⟨i, hi, hp, e⟩ := (hK.1 _).1 (Go.Maps.has_true_of_atKey hat)
  have ex : x = (i : Int) := by unfold key at e; simpa using e
  subst ex
  exact ⟨i, hi, rfl, (hdD_inj ((hat (.map [])).symm.trans (hK.2 i hi hp (.map [])))).symm⟩
theorem same_key {i j : Nat} : (key i).sameKey (key j) = decide (i = j) := by
  by_cases e : i = j
  · subst e; simp [key, Lit.sameKey]
  · rw [Go.Maps.sameKey_ne (fun q => e (key_inj q))]; simp [e]
theorem Keeps.struck {D : DataW Unit} {L : List Hd} {g : Nat → Prop} {left : Lit → Bool} {i : Nat} (h : Keeps D L (fun j => g j ∨ left (key j) = true)) (hl : left (.int .i64 (i : Int)) = true) (hg : ¬ g i) : Keeps (D.del (.int .i64 (i : Int))) L (fun j => g j ∨ (left (key j) && !(key j).sameKey (.int .i64 (i : Int))) = true) := by
  have hk : (Lit.int .i64 (i : Int)) = key i := rfl
  rw [hk] at hl ⊢
  refine ⟨fun kl => ?_, fun j h1 h2 z => ?_⟩
  · by_cases e : kl = key i
    · subst e
      rw [Go.Maps.has_del_same]
      constructor
      · intro q; cases q
      · rintro ⟨j, h1, h2, h3⟩
        obtain rfl := key_inj h3
        have h2' : g i ∨ (left (key i) && !(key i).sameKey (key i)) = true := h2
        rw [same_key] at h2'
        simp [hg] at h2'
    · rw [Go.Maps.has_del_other e, h.1]
      constructor
      · rintro ⟨j, h1, h2, rfl⟩
        refine ⟨j, h1, ?_, rfl⟩
        have hne : j ≠ i := fun q => e (by rw [q])
        show g j ∨ (left (key j) && !(key j).sameKey (key i)) = true
        rw [same_key]
        simpa [hne] using h2
      · rintro ⟨j, h1, h2, rfl⟩
        refine ⟨j, h1, ?_, rfl⟩
        have hne : j ≠ i := fun q => e (by rw [q])
        have h2' : g j ∨ (left (key j) && !(key j).sameKey (key i)) = true := h2
        rw [same_key] at h2'
        simpa [hne] using h2'
  · have h2' : g j ∨ (left (key j) && !(key j).sameKey (key i)) = true := h2
    rw [same_key] at h2'
    have hne : j ≠ i := by
      rintro rfl
      simp [hg] at h2'
    rw [Go.Maps.atKey_del_other (fun q => hne (key_inj q))]
    exact h.2 j h1 (by simpa [hne] using h2') z
theorem Keeps.stays {D : DataW Unit} {L : List Hd} {g : Nat → Prop} {left : Lit → Bool} {i : Nat} (h : Keeps D L (fun j => g j ∨ left (key j) = true)) (hg : g i) : Keeps D L (fun j => g j ∨ (left (key j) && !(key j).sameKey (.int .i64 (i : Int))) = true) := by
  have hk : (Lit.int .i64 (i : Int)) = key i := rfl
  rw [hk]
  refine h.congr fun j hj => ?_
  rw [same_key]
  by_cases e : j = i
  · subst e; simp [hg]
  · simp [e]
def goneA (h : Hd) : Bool := decide (h.l ≤ 1)
def goneF (n : Int) (h : Hd) : Bool := h.p == n
theorem closF (h : Hd) (n : Int) (q : Nat) (w : World) (c : w.cell? ⟨q, 0, none⟩ = some (.int .i64 n)) : Calls Tryz.prog 103 #[.agg #[.int .i64 h.a, .int .i64 h.v, .int .i64 h.p, .int .i64 h.l], .pointer (some ⟨q, 0, none⟩)] w fun e w' => e = .returned (.bool (goneF n h)) ∧ Below w.heap.size w w' := by
  have hq : q < w.heap.size := World.block_lt_of_cell? w _ c
  have c1 : (w.alloc (Obj.cells #[.int .i64 h.a, .int .i64 h.v, .int .i64 h.p, .int .i64 h.l] 97)).cell? ⟨q, 0, none⟩ = some (.int .i64 n) := ((below_box w _).cell (p := ⟨q, 0, none⟩) hq).trans c
  go_enter Tryz.func103, Tryz.ntmps103
  go_wp2
  go_ret
  exact ⟨rfl, below_box w _⟩
set_option maxHeartbeats 2000000 in
theorem dropF (b n : Nat) (D0 : DataW Unit) (L : List Hd) (n0 : Int) (q0 : Nat) (w : World) (hown : w.ownsMap Tryz.prog 3 hdR b n D0) (hK0 : Keeps D0 L (fun _ => True)) (hq0 : q0 ≠ b) (hc0 : w.cell? ⟨q0, 0, none⟩ = some (.int .i64 n0)) :
    Calls Tryz.prog 102 #[.map (some b), .func (Fn.func 103) #[] #[.pointer (some ⟨q0, 0, none⟩)]] w fun e w' => e = .returned (.tuple #[]) ∧ ∃ D, w'.ownsMap Tryz.prog 3 hdR b n D ∧ Keeps D L (fun i => goneF n0 (L.getD i Hd.nil) = false) ∧ w.grownBy w' (some b) := by
  have hbl := hown.lt
  go_enter Tryz.func102, Tryz.ntmps102
  go_wp2_with (first
    | (at_range; refine wpList_range_own _ rfl _ 127 rfl 3 97 law3 Tryz.underlying127 hdR b n D0 rfl hown ?_; intro w0 hrg0 hg0 hs0; go_frame)
    | go_in)
  go_loopw [4] (fun _ wr => ∃ (D : DataW Unit) (left : Lit → Bool) (cnt : Nat), wr.ranges Tryz.prog 3 hdR b w.heap.size n D left cnt ∧ Keeps D L (fun i => goneF n0 (L.getD i Hd.nil) = false ∨ left (key i) = true) ∧ w.grownBy wr (some b)) (fun _ wr => wr.rangeLeft b w.heap.size)
  case atStart => exact ⟨D0, _, _, hrg0, hK0.congr (fun i hi => ⟨fun _ => .inr ((hK0.1 _).2 ⟨i, hi, trivial, rfl⟩), fun _ => trivial⟩), hg0.but _⟩
  case round =>
    obtain ⟨D, left, cnt, hrg, hK, hgw⟩ := hrel
    clear hrg0 hg0 hs0
    go_wp2_with (first
      | (at_next; refine wpList_next_ranges _ rfl _ rfl 3 law3 hdR (fun x : Int => Value.int .i64 x) (fun h : Hd => Value.agg #[.int .i64 h.a, .int .i64 h.v, .int .i64 h.p, .int .i64 h.l]) (fun k kl e => keyInv e) (fun v y e => valInv e) b w.heap.size n D left cnt rfl hrg ?_ ?_)
      | go_in)
    · intro _ hl0
      go_wp2
      go_end0
      exact ⟨rfl, D, hrg.owns, hK.congr (fun i hi => ⟨fun q => q.resolve_right (by rw [hl0]; simp), .inl⟩), hgw⟩
    · intro x h kl yd yp w1 cnt1 hkey hlk hv hat hrg1 hlt hg1 hs1 hen
      obtain ⟨hwx, rfl⟩ := keyIs hkey
      obtain ⟨i, hi, rfl, hhi⟩ := hK.came (y := (yd, yp)) hv hat
      have hgw1 := hgw.andThen hg1 (fun j hj => by cases hj; exact Or.inl (Nat.le_refl _))
      have hsz1 := hgw1.size
      have hq1 : (w1.alloc (Obj.cells #[.int .i64 h.a, .int .i64 h.v, .int .i64 h.p, .int .i64 h.l] 97)).cell? ⟨q0, 0, none⟩ = some (.int .i64 n0) := by
        have hql : q0 < w.heap.size := World.block_lt_of_cell? w _ hc0
        have e1 : w1.heap[q0]? = w.heap[q0]? := hgw1.block q0 hql (by simp; omega)
        exact ((below_box w1 _).cell (p := ⟨q0, 0, none⟩) (by show q0 < _; omega)).trans ((World.cell?_of_block (a := ⟨q0, 0, none⟩) e1).trans hc0)
      clear hat hv hkey hg1 hgw
      cases hgn : goneF n0 h with
      | true =>
        have hK2 := hK.struck hlk (g := fun i => goneF n0 (L.getD i Hd.nil) = false) (by rw [hhi, hgn]; simp)
        clear hK hhi
        go_wp2_with fail
        go_at_call 103
        refine (closF h n0 q0 (w1.alloc (Obj.cells #[.int .i64 h.a, .int .i64 h.v, .int .i64 h.p, .int .i64 h.l] 97)) hq1).mono ?_
        rintro e w2 ⟨rfl, k2⟩
        rw [hgn]
        clear hgn
        have hrg2 := ((hrg1.alloc (Obj.cells #[.int .i64 h.a, .int .i64 h.v, .int .i64 h.p, .int .i64 h.l] 97)).kept (below_grown k2 none) (by simp) (by simp))
        have hgw2 := (hgw1.andThen (World.grownBy_alloc w1 (Obj.cells #[.int .i64 h.a, .int .i64 h.v, .int .i64 h.p, .int .i64 h.l] 97) none) (fun j hj => by cases hj)).andThen (below_grown k2 none) (fun j hj => by cases hj)
        clear hgw1 k2
        go_wp2_with (first
          | (at_delete; refine wpList_delete_ranges _ rfl _ _ 127 3 rfl 97 law3 Tryz.underlying127 hdR b w.heap.size n D _ cnt1 rfl hrg2 _ _ rfl (Go.Maps.keyOf_int_mk Tryz.underlying3 hwx) ?_; intro w3 cnt3 hrg3 hle hturn; go_frame)
          | go_in)
        rw [Go.Maps.strike_twice] at hrg3
        go_roundw
        case rel => exact ⟨_, _, cnt3, hrg3, hK2, hgw2.andThen hturn.grown (fun j hj => by cases hj; exact Or.inr rfl)⟩
        case measure => rw [hrg3.left_eq, hrg.left_eq]; omega
      | false =>
        have hK2 := hK.stays (i := i) (g := fun i => goneF n0 (L.getD i Hd.nil) = false) (by rw [hhi, hgn])
        clear hK hhi
        go_wp2_with fail
        go_at_call 103
        refine (closF h n0 q0 (w1.alloc (Obj.cells #[.int .i64 h.a, .int .i64 h.v, .int .i64 h.p, .int .i64 h.l] 97)) hq1).mono ?_
        rintro e w2 ⟨rfl, k2⟩
        rw [hgn]
        clear hgn
        have hrg2 := ((hrg1.alloc (Obj.cells #[.int .i64 h.a, .int .i64 h.v, .int .i64 h.p, .int .i64 h.l] 97)).kept (below_grown k2 none) (by simp) (by simp))
        have hgw2 := (hgw1.andThen (World.grownBy_alloc w1 (Obj.cells #[.int .i64 h.a, .int .i64 h.v, .int .i64 h.p, .int .i64 h.l] 97) none) (fun j hj => by cases hj)).andThen (below_grown k2 none) (fun j hj => by cases hj)
        clear hgw1 k2
        go_wp2
        go_roundw
        case rel => exact ⟨_, _, cnt1, hrg2, hK2, hgw2⟩
        case measure => rw [hrg2.left_eq, hrg.left_eq]; omega

end Go.Proofs.YtifndemkkaelaaaGreat
namespace Go.Proofs.YtifndemkkaelaaaGreat
open Go.ChangeShapes Go.WideShapes Go.ChangeAt Go.RowKit
open Go.ChangeMaps (open_string shut_string)
set_option linter.unusedVariables false

theorem len64_0 (w : World) : Calls Tryz.prog 149 #[.int .u64 0] w fun e w' => e = .returned (.int .i64 0) ∧ w' = w := by
  go_enter Tryz.func149, Tryz.ntmps149
  go_wp2
  go_ret
  exact ⟨congrArg (fun n => Ending.returned (Value.int .i64 n)) (by kernel_rfl : wrap64 (wrap64 (Lib.len8 0)) = 0), rfl⟩
theorem len_0 (w : World) : Calls Tryz.prog 137 #[.int .u64 0] w fun e w' => e = .returned (.int .i64 0) ∧ w' = w := by
  go_enter Tryz.func137, Tryz.ntmps137
  go_wp2_with (first | (go_at_call 149; refine (len64_0 _).mono ?_; rintro e w' ⟨rfl, rfl⟩) | go_in)
  go_ret
  exact ⟨rfl, rfl⟩
theorem ins_0 (w : World) : Calls Tryz.prog 150 #[.slice none 0 0, .int .i64 0, .int .i64 0] w fun e w' => e = .returned (.tuple #[]) ∧ w' = w := by
  go_enter Tryz.func150, Tryz.ntmps150
  go_wp2
  refine wp_loop_rounds 1 ?_
  rw [rounds_succ]
  go_wp2
  go_end0
  exact ⟨rfl, rfl⟩
theorem pdq_0 (w : World) : Calls Tryz.prog 138 #[.slice none 0 0, .int .i64 0, .int .i64 0, .int .i64 0] w fun e w' => e = .returned (.tuple #[]) ∧ w' = w := by
  go_enter Tryz.func138, Tryz.ntmps138
  go_wp2
  refine wp_loop_rounds 1 ?_
  rw [rounds_succ]
  go_wp2_with (first | (go_at_call 150; refine (ins_0 _).mono ?_; rintro e w' ⟨rfl, rfl⟩) | go_in)
  (try simp only [Exit.inBlock, Exit.then]); refine bodyPost_ret (results_none rfl _ _ _) rfl ?_
  exact ⟨rfl, rfl⟩
theorem sort_0 (w : World) : Calls Tryz.prog 128 #[.slice none 0 0] w fun e w' => e = .returned (.tuple #[]) ∧ w' = w := by
  go_enter Tryz.func128, Tryz.ntmps128
  go_wp2_with (first | (go_at_call 137; refine (len_0 _).mono ?_; rintro e w' ⟨rfl, rfl⟩) | (go_at_call 138; refine (pdq_0 _).mono ?_; rintro e w' ⟨rfl, rfl⟩) | go_in)
  go_end0
  exact ⟨rfl, rfl⟩
def leI (x y : Int) : Bool := decide (x ≤ y)
open Go.Sort in
theorem sortI (base : Nat) (v : Value) (ks : List Int) (w : World) (hown : w.ownsRow base 3 1 v ks.length (ks.map (Value.int .i64))) (hl : ks.length ≤ 1048576) :
    Calls Tryz.prog 128 #[v] w fun e w' => e = .returned (.tuple #[]) ∧ w'.ownsRow base 3 1 v ks.length ((ks.mergeSort leI).map (Value.int .i64)) ∧ w.grownBy w' v.ownBlock := by
  rcases hown.2 with ⟨rfl, h0⟩ | ⟨g, cap, cur, rfl, hb, hh, hnc, hcm, hcs, htk⟩
  · have hk : ks = [] := List.eq_nil_of_length_eq_zero h0
    subst hk
    refine (sort_0 w).mono ?_
    rintro e w' ⟨rfl, rfl⟩
    exact ⟨rfl, by simpa using hown, ⟨rfl, rfl, rfl, Nat.le_refl _, fun _ _ _ => rfl⟩⟩
  · have hH : Holds (Value.int .i64) w g 0 ks.toArray := holds_of_blockI hh (by simpa using htk)
    refine (Tryz.slices_Sort_int g 0 cap ks w hH (Array.getElem?_eq_some_iff.1 hh).1 (by omega)).mono ?_
    rintro e w' ⟨rfl, n, os, rfl⟩
    refine ⟨rfl, ownsRow_sortedI (by simp) hb hh hnc hcm hcs, grownBy_sortedI _⟩
/-- Two lists that rise strictly and have the same members are one. -/
theorem eq_of_rising : ∀ {l m : List Int}, l.Pairwise (· < ·) → m.Pairwise (· < ·) → (∀ x, x ∈ l ↔ x ∈ m) → l = m
  | [], [], _, _, _ => rfl
  | [], y :: m, _, _, h => by simpa using (h y).2 (by simp)
  | x :: l, [], _, _, h => by simpa using (h x).1 (by simp)
  | x :: l, y :: m, hl, hm, h => by
    obtain ⟨hx, hl'⟩ := List.pairwise_cons.1 hl
    obtain ⟨hy, hm'⟩ := List.pairwise_cons.1 hm
    have hxy : x = y := by
      rcases List.mem_cons.1 ((h x).1 (by simp)) with e | e
      · exact e
      · rcases List.mem_cons.1 ((h y).2 (by simp)) with e' | e'
        · exact e'.symm
        · have h1 := hy x e
          have h2 := hx y e'
          omega
    subst hxy
    refine congrArg (x :: ·) (eq_of_rising hl' hm' fun z => ?_)
    constructor
    · intro hz
      rcases List.mem_cons.1 ((h z).1 (by simp [hz])) with e | e
      · subst e; exact absurd (hx z hz) (by omega)
      · exact e
    · intro hz
      rcases List.mem_cons.1 ((h z).2 (by simp [hz])) with e | e
      · subst e; exact absurd (hy z hz) (by omega)
      · exact e
theorem rising_sorted {ks : List Int} (h : ks.Nodup) : (ks.mergeSort leI).Pairwise (· < ·) := by
  have h1 : (ks.mergeSort leI).Pairwise (fun x y => leI x y = true) := List.pairwise_mergeSort (fun a b c => by simp [leI]; omega) (fun a b => by simp [leI]; omega) ks
  have h2 : (ks.mergeSort leI).Nodup := (List.mergeSort_perm ks leI).nodup_iff.2 h
  refine (h1.and h2).imp ?_
  intro a b ⟨h3, h4⟩
  simp [leI] at h3
  omega
/-- The places of which p holds. -/
def placesP (n : Nat) (p : Nat → Bool) : List Nat := (List.range n).filter p
theorem rising_places (n : Nat) (p : Nat → Bool) : ((placesP n p).map (fun i : Nat => (i : Int))).Pairwise (· < ·) := by
  rw [List.pairwise_map]
  refine List.Pairwise.imp (R := (· < ·)) (fun h => by omega) ?_
  exact (List.pairwise_lt_range).filter _
theorem sorted_places {ks : List Int} {n : Nat} {p : Nat → Bool} (hn : ks.Nodup) (hm : ∀ x, x ∈ ks ↔ ∃ i, i < n ∧ p i = true ∧ x = (i : Int)) : ks.mergeSort leI = (placesP n p).map (fun i : Nat => (i : Int)) :=
  eq_of_rising (rising_sorted hn) (rising_places n p) fun x => by
    rw [List.mem_mergeSort, hm, List.mem_map]
    constructor
    · rintro ⟨i, h1, h2, rfl⟩
      exact ⟨i, by simp [placesP, h1, h2], rfl⟩
    · rintro ⟨i, h1, rfl⟩
      simp [placesP] at h1
      exact ⟨i, h1.1, h1.2, rfl⟩

end Go.Proofs.YtifndemkkaelaaaGreat
