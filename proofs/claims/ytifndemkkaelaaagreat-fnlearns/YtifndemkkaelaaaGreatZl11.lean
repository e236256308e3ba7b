/- Places, sorted. What is told of the map. Both Forget, and spec.Age, walked. -/
import Derived.Test.YtifndemkkaelaaaGreatRows
import Derived.WalkKit
import Derived.ProofKit
import Derived.OpenShut
import Derived.ShutString
import Derived.ChangeOld
import Derived.Below
import Derived.Deep.QuietTactic
import Derived.BigQuiet
import Derived.WalkSmall
import Derived.Laws.OwnMore
import Derived.WalkSpells
import Derived.Sort.OwnSortedInts
import Derived.Test.YtifndemkkaelaaaGreatZl10
import Derived.Maps.AppendAt
namespace Go.Proofs.YtifndemkkaelaaaGreat
open Go.ChangeShapes Go.WideShapes Go.ChangeAt Go.RowKit
open Go.ChangeMaps (open_string shut_string)
set_option linter.unusedVariables false

theorem len64_0 (w : World) : Calls Tryz.prog 149 #[.int .u64 0] w fun e w' => e = .returned (.int .i64 0) ∧ w' = w := by
  go_enter Tryz.func149, Tryz.ntmps149
  go_wp2
  go_ret
  exact ⟨congrArg (fun n => Ending.returned (Value.int .i64 n)) (by kernel_rfl : wrap64 (wrap64 (Lib.len8 0)) = 0), rfl⟩
theorem len_0 (w : World) : Calls Tryz.prog 137 #[.int .u64 0] w fun e w' => e = .returned (.int .i64 0) ∧ w' = w := by
  go_enter Tryz.func137, Tryz.ntmps137
  go_wp2_with (first | (go_at_call 149; refine (len64_0 _).mono ?_; rintro e w' ⟨rfl, rfl⟩) | go_in)
  go_ret
  exact ⟨rfl, rfl⟩
theorem ins_0 (w : World) : Calls Tryz.prog 150 #[.slice none 0 0, .int .i64 0, .int .i64 0] w fun e w' => e = .returned (.tuple #[]) ∧ w' = w := by
  go_enter Tryz.func150, Tryz.ntmps150
  go_wp2
  refine wp_loop_rounds 1 ?_
  rw [rounds_succ]
  go_wp2
  go_end0
  exact ⟨rfl, rfl⟩
theorem pdq_0 (w : World) : Calls Tryz.prog 138 #[.slice none 0 0, .int .i64 0, .int .i64 0, .int .i64 0] w fun e w' => e = .returned (.tuple #[]) ∧ w' = w := by
  go_enter Tryz.func138, Tryz.ntmps138
  go_wp2
  refine wp_loop_rounds 1 ?_
  rw [rounds_succ]
  go_wp2_with (first | (go_at_call 150; refine (ins_0 _).mono ?_; rintro e w' ⟨rfl, rfl⟩) | go_in)
  (try simp only [Exit.inBlock, Exit.then]); refine bodyPost_ret (results_none rfl _ _ _) rfl ?_
  exact ⟨rfl, rfl⟩
theorem sort_0 (w : World) : Calls Tryz.prog 128 #[.slice none 0 0] w fun e w' => e = .returned (.tuple #[]) ∧ w' = w := by
  go_enter Tryz.func128, Tryz.ntmps128
  go_wp2_with (first | (go_at_call 137; refine (len_0 _).mono ?_; rintro e w' ⟨rfl, rfl⟩) | (go_at_call 138; refine (pdq_0 _).mono ?_; rintro e w' ⟨rfl, rfl⟩) | go_in)
  go_end0
  exact ⟨rfl, rfl⟩
def leI (x y : Int) : Bool := decide (x ≤ y)
open Go.Sort in
theorem sortI (base : Nat) (v : Value) (ks : List Int) (w : World) (hown : w.ownsRow base 3 1 v ks.length (ks.map (Value.int .i64))) (hl : ks.length ≤ 1048576) :
    Calls Tryz.prog 128 #[v] w fun e w' => e = .returned (.tuple #[]) ∧ w'.ownsRow base 3 1 v ks.length ((ks.mergeSort leI).map (Value.int .i64)) ∧ w.grownBy w' v.ownBlock := by
  rcases hown.2 with ⟨rfl, h0⟩ | ⟨g, cap, cur, rfl, hb, hh, hnc, hcm, hcs, htk⟩
  · have hk : ks = [] := List.eq_nil_of_length_eq_zero h0
    subst hk
    refine (sort_0 w).mono ?_
    rintro e w' ⟨rfl, rfl⟩
    exact ⟨rfl, by simpa using hown, ⟨rfl, rfl, rfl, Nat.le_refl _, fun _ _ _ => rfl⟩⟩
  · have hH : Holds (Value.int .i64) w g 0 ks.toArray := holds_of_blockI hh (by simpa using htk)
    refine (Tryz.slices_Sort_int g 0 cap ks w hH (Array.getElem?_eq_some_iff.1 hh).1 (by omega)).mono ?_
    rintro e w' ⟨rfl, n, os, rfl⟩
    refine ⟨rfl, ownsRow_sortedI (by simp) hb hh hnc hcm hcs, grownBy_sortedI _⟩
theorem eq_of_rising : ∀ {l m : List Int}, l.Pairwise (· < ·) → m.Pairwise (· < ·) → (∀ x, x ∈ l ↔ x ∈ m) → l = m
  | [], [], _, _, _ => rfl
  | [], y :: m, _, _, h => by simpa using (h y).2 (by simp)
  | x :: l, [], _, _, h => by simpa using (h x).1 (by simp)
  | x :: l, y :: m, hl, hm, h => by
    obtain ⟨hx, hl'⟩ := List.pairwise_cons.1 hl
    obtain ⟨hy, hm'⟩ := List.pairwise_cons.1 hm
    have hxy : x = y := by
      rcases List.mem_cons.1 ((h x).1 (by simp)) with e | e
      · exact e
      · rcases List.mem_cons.1 ((h y).2 (by simp)) with e' | e'
        · exact e'.symm
        · have h1 := hy x e
          have h2 := hx y e'
          omega
    subst hxy
    refine congrArg (x :: ·) (eq_of_rising hl' hm' fun z => ?_)
    constructor
    · intro hz
      rcases List.mem_cons.1 ((h z).1 (by simp [hz])) with e | e
      · subst e; exact absurd (hx z hz) (by omega)
      · exact e
    · intro hz
      rcases List.mem_cons.1 ((h z).2 (by simp [hz])) with e | e
      · subst e; exact absurd (hy z hz) (by omega)
      · exact e
theorem rising_sorted {ks : List Int} (h : ks.Nodup) : (ks.mergeSort leI).Pairwise (· < ·) := by
  have h1 : (ks.mergeSort leI).Pairwise (fun x y => leI x y = true) := List.pairwise_mergeSort (fun a b c => by simp [leI]; omega) (fun a b => by simp [leI]; omega) ks
  have h2 : (ks.mergeSort leI).Nodup := (List.mergeSort_perm ks leI).nodup_iff.2 h
  refine (h1.and h2).imp ?_
  intro a b ⟨h3, h4⟩
  simp [leI] at h3
  omega
def placesP (n : Nat) (p : Nat → Bool) : List Nat := (List.range n).filter p
theorem rising_places (n : Nat) (p : Nat → Bool) : ((placesP n p).map (fun i : Nat => (i : Int))).Pairwise (· < ·) := by
  rw [List.pairwise_map]
  refine List.Pairwise.imp (R := (· < ·)) (fun h => by omega) ?_
  exact (List.pairwise_lt_range).filter _
theorem sorted_places {ks : List Int} {n : Nat} {p : Nat → Bool} (hn : ks.Nodup) (hm : ∀ x, x ∈ ks ↔ ∃ i, i < n ∧ p i = true ∧ x = (i : Int)) : ks.mergeSort leI = (placesP n p).map (fun i : Nat => (i : Int)) :=
  eq_of_rising (rising_sorted hn) (rising_places n p) fun x => by
    rw [List.mem_mergeSort, hm, List.mem_map]
    constructor
    · rintro ⟨i, h1, h2, rfl⟩
      exact ⟨i, by simp [placesP, h1, h2], rfl⟩
    · rintro ⟨i, h1, rfl⟩
      simp [placesP] at h1
      exact ⟨i, h1.1, h1.2, rfl⟩

end Go.Proofs.YtifndemkkaelaaaGreat
namespace Go.Proofs.YtifndemkkaelaaaGreat
open Go.ChangeShapes Go.WideShapes Go.ChangeAt Go.RowKit
open Go.ChangeMaps (open_string shut_string)
set_option linter.unusedVariables false

def hcells : List Hd → List Value
  | [] => []
  | h :: t => .int .i64 h.a :: .int .i64 h.v :: .int .i64 h.p :: .int .i64 h.l :: hcells t
theorem hcells_len (L : List Hd) : (hcells L).length = L.length * 4 := by
  induction L with
  | nil => rfl
  | cons h t ih => simp [hcells, ih]; omega
theorem hcells_app (A B : List Hd) : hcells (A ++ B) = hcells A ++ hcells B := by
  induction A with
  | nil => rfl
  | cons h t ih => simp [hcells, ih]
theorem hcells_at {L : List Hd} : ∀ {i : Nat}, i < L.length → (hcells L)[i * 4]? = some (.int .i64 (L.getD i Hd.nil).a) ∧ (hcells L)[i * 4 + 1]? = some (.int .i64 (L.getD i Hd.nil).v) ∧ (hcells L)[i * 4 + 2]? = some (.int .i64 (L.getD i Hd.nil).p) ∧ (hcells L)[i * 4 + 3]? = some (.int .i64 (L.getD i Hd.nil).l) := by
  induction L with
  | nil => intro i hi; simp at hi
  | cons h t ih =>
    intro i hi
    cases i with
    | zero => simp [hcells]
    | succ j =>
      have e : (j + 1) * 4 = j * 4 + 4 := by omega
      have e1 : (j + 1) * 4 + 1 = (j * 4 + 1) + 4 := by omega
      have e2 : (j + 1) * 4 + 2 = (j * 4 + 2) + 4 := by omega
      have e3 : (j + 1) * 4 + 3 = (j * 4 + 3) + 4 := by omega
      rw [e1, e2, e3, e]
      simpa [hcells] using ih (i := j) (by simpa using hi)
abbrev HOwn (w : World) (base : Nat) (v : Value) (M : List Hd) : Prop := w.ownsRow base 97 4 v M.length (hcells M)
theorem hown_view {w : World} {base : Nat} {v : Value} {M : List Hd} (h : HOwn w base v M) : ∃ ad cap, v = .slice ad M.length cap ∧ HView w ad M ∧ HRoom w ad M.length ∧ ∀ a, ad = some a → base ≤ a.block ∧ a.block < w.heap.size ∧ v.ownBlock = some a.block := by
  rcases h.2 with ⟨rfl, h0⟩ | ⟨g, cap, cur, rfl, hb, hg, hnc, hcm, hcs, htk⟩
  · refine ⟨none, 0, by rw [h0], fun hp => absurd hp (by omega), fun hp => absurd hp (by omega), fun a e => by simp at e⟩
  · refine ⟨some ⟨g, 0, none⟩, cap, rfl, fun hp => ⟨g, 0, rfl, fun i hi => ?_⟩, fun hp => ⟨g, 0, rfl, fun i hi => ?_⟩, fun a e => ?_⟩
    · obtain ⟨c1, c2, c3, c4⟩ := hcells_at hi
      rw [Nat.zero_add]
      exact ⟨(h.cellAt _ (by omega)).trans c1, (h.cellAt _ (by omega)).trans c2, (h.cellAt _ (by omega)).trans c3, (h.cellAt _ (by omega)).trans c4⟩
    · rw [Nat.zero_add]
      have hl := hcells_len M
      refine ⟨⟨(hcells M)[i]'(by omega), ?_⟩, h.frozenAt i⟩
      rw [h.cellAt i (by omega)]
      exact List.getElem?_eq_getElem (by omega)
    · obtain rfl : (⟨g, 0, none⟩ : Addr) = a := by simpa using e
      exact ⟨hb, (Array.getElem?_eq_some_iff.1 hg).1, rfl⟩
theorem hown_nil (w : World) (base : Nat) : HOwn w base (.slice none 0 0) [] := ⟨rfl, .inl ⟨rfl, rfl⟩⟩
theorem iown_nil (w : World) (base : Nat) : w.ownsRow base 3 1 (.slice none 0 0) ([] : List Int).length (([] : List Int).map (Value.int .i64)) := ⟨rfl, .inl ⟨rfl, rfl⟩⟩
theorem own_grow {w w' : World} {base E k n : Nat} {v : Value} {xs : List Value} {row : Option Nat} (h : w.ownsRow base E k v n xs) (hg : w.grownBy w' row) (hr : ∀ j, row = some j → j < base) : w'.ownsRow base E k v n xs := by
  refine ⟨h.1, ?_⟩
  rcases h.2 with h | ⟨g, cap, cur, e, hb, hh, r⟩
  · exact .inl h
  · exact .inr ⟨g, cap, cur, e, hb, (hg.block g (Array.getElem?_eq_some_iff.1 hh).1 (fun q => by have := hr g q.symm; omega)).trans hh, r⟩
def Col (L : List Hd) (p : Nat → Bool) (left : Lit → Bool) (ks : List Int) : Prop :=
  ks.Nodup ∧ ∀ x, x ∈ ks ↔ ∃ i, i < L.length ∧ p i = true ∧ x = ((i : Nat) : Int) ∧ left (key i) = false
theorem Col.step {L : List Hd} {p : Nat → Bool} {left : Lit → Bool} {ks : List Int} {i : Nat} (h : Col L p left ks) (hi : i < L.length) (hp : p i = true) (hl : left (.int .i64 (i : Int)) = true) : Col L p (fun z => left z && !z.sameKey (.int .i64 (i : Int))) (ks ++ [(i : Int)]) := by
  have hk : (Lit.int .i64 (i : Int)) = key i := rfl
  rw [hk] at hl ⊢
  refine ⟨?_, fun x => ?_⟩
  · rw [List.nodup_append]
    refine ⟨h.1, by simp, fun a ha b hb => ?_⟩
    rintro rfl
    obtain ⟨j, _, _, e, hf⟩ := (h.2 a).1 ha
    simp at hb
    have : j = i := by omega
    subst this
    rw [hl] at hf
    cases hf
  · rw [List.mem_append, h.2]
    constructor
    · rintro (⟨j, h1, h2, h3, h4⟩ | hx)
      · exact ⟨j, h1, h2, h3, by simp [h4]⟩
      · simp at hx
        exact ⟨i, hi, hp, hx, by simp [same_key]⟩
    · rintro ⟨j, h1, h2, h3, h4⟩
      by_cases e : j = i
      · subst e; exact .inr (by simp [h3])
      · left
        have h4' : (left (key j) && !(key j).sameKey (key i)) = false := h4
        rw [same_key] at h4'
        exact ⟨j, h1, h2, h3, by simpa [e] using h4'⟩
theorem Keeps.at {D : DataW Unit} {L : List Hd} {p : Nat → Prop} (hK : Keeps D L p) {i : Nat} (hi : i < L.length) (hp : p i) (z : DataW Unit) : D.atKey (.int .i64 (i : Int)) z = hdD (L.getD i Hd.nil) := hK.2 i hi hp z
theorem wpList_lookup_hd (w : World) {ops : Array Oper} {rest : List Oper} {o : Oper} {a : Act} {Q : Exit → Act → World → Prop}
    (hg : o.guard = none) (m x : Operand) (t : TypeId) (hop : o.op = Op.lookup t m x false)
    (ht : Tryz.prog.underlying t = some (.map 3 97)) (hz : (zeroValue 97).run Tryz.prog w = .ok (.agg #[.int .i64 0, .int .i64 0, .int .i64 0, .int .i64 0]) w) (b n : Nat) (D : DataW Unit)
    (hm : a.eval m = .map (some b)) (hown : w.ownsMap Tryz.prog 3 hdR b n D) (key : Value) (kl : Lit) (hx : a.eval x = key) (hkey : keyOf Tryz.prog 3 key = some kl)
    (hK : ∀ h : Hd, D.atKey kl (hdD Hd.nil) = hdD h → wpList Tryz.prog ops Q rest (a.put o.dst (.agg #[.int .i64 h.a, .int .i64 h.v, .int .i64 h.p, .int .i64 h.l])) w) :
    wpList Tryz.prog ops Q (o :: rest) a w := by
  refine wpList_plain hg fun K' hK' => ?_
  obtain ⟨v, ps, hrun, hv⟩ := hown.lookup law3 ht hz (zd := hdD Hd.nil) (zp := []) (hdR_mk Hd.nil) hkey
  obtain ⟨h, rfl, e⟩ := hdR_inv hv
  unfold Oper.wp
  simp [execOp, hop, hm, hx, hrun, Result.andThen]
  exact hK' _ _ (hK h (by simpa using congrArg Prod.fst e))
theorem zeroH (w : World) : (zeroValue 97).run Tryz.prog w = .ok (.agg #[.int .i64 0, .int .i64 0, .int .i64 0, .int .i64 0]) w := by kernel_rfl
theorem Tryz.info3' : (Tryz.prog.info? 3).map (fun i => (i.zero, i.size, i.bytes)) = some (some (.int .i64 0), 1, 8) := by kernel_rfl
def picked (L : List Hd) (p : Nat → Bool) : List Hd := (placesP L.length p).map (fun i => L.getD i Hd.nil)
theorem cells4 (w : World) (h : Hd) (t : TypeId) : ∀ j u, ([.int .i64 h.a, .int .i64 h.v, .int .i64 h.p, .int .i64 h.l] : List Value)[j]? = some u → (w.alloc (Obj.cells #[.int .i64 h.a, .int .i64 h.v, .int .i64 h.p, .int .i64 h.l] t)).cell? ((⟨w.heap.size, 0, none⟩ : Addr).add j) = some u := by
  intro j u hj
  match j, hj with
  | 0, hj => simp at hj; subst hj; simp [Addr.add, go_sem]
  | 1, hj => simp at hj; subst hj; simp [Addr.add, go_sem]
  | 2, hj => simp at hj; subst hj; simp [Addr.add, go_sem]
  | 3, hj => simp at hj; subst hj; simp [Addr.add, go_sem]
  | (n + 4), hj => simp at hj
theorem cells1 (w : World) (x : Int) (t : TypeId) : ∀ j u, ([.int .i64 x] : List Value)[j]? = some u → (w.alloc (Obj.cells #[.int .i64 x] t)).cell? ((⟨w.heap.size, 0, none⟩ : Addr).add j) = some u := by
  intro j u hj
  match j, hj with
  | 0, hj => simp at hj; subst hj; simp [Addr.add, go_sem]
  | (n + 1), hj => simp at hj
theorem own_ge {w : World} {base E k n : Nat} {v : Value} {xs : List Value} (h : w.ownsRow base E k v n xs) : ∀ j, v.ownBlock = some j → base ≤ j := by
  intro j e
  rcases h.2 with ⟨rfl, _⟩ | ⟨g, cap, cur, rfl, hb, _⟩
  · simp [Value.ownBlock] at e
  · simp [Value.ownBlock] at e; omega
theorem own_base' {w : World} {base base' E k n : Nat} {v : Value} {xs : List Value} (h : w.ownsRow base E k v n xs) (hb : base' ≤ base) : w.ownsRow base' E k v n xs := by
  refine ⟨h.1, ?_⟩
  rcases h.2 with h | ⟨g, cap, cur, e, hg, r⟩
  · exact .inl h
  · exact .inr ⟨g, cap, cur, e, by omega, r⟩
theorem iown_view {w : World} {base : Nat} {v : Value} {xs : List Int} (h : w.ownsRow base 3 1 v xs.length (xs.map (Value.int .i64))) : ∃ ad cap, v = .slice ad xs.length cap ∧ (0 < xs.length → ∃ g, ad = some ⟨g, 0, none⟩ ∧ g < w.heap.size ∧ base ≤ g ∧ ∀ j, j < xs.length → w.cell? ⟨g, j, none⟩ = some (.int .i64 (xs.getD j 0))) := by
  rcases h.2 with ⟨rfl, h0⟩ | ⟨g, cap, cur, rfl, hb, hg, hnc, hcm, hcs, htk⟩
  · exact ⟨none, 0, by rw [h0], fun hp => absurd hp (by omega)⟩
  · refine ⟨some ⟨g, 0, none⟩, cap, rfl, fun _ => ⟨g, rfl, (Array.getElem?_eq_some_iff.1 hg).1, hb, fun j hj => ?_⟩⟩
    rw [h.cellAt j (by omega)]
    simp [List.getD, List.getElem?_eq_getElem hj]
set_option maxHeartbeats 4000000 in
theorem told (b n : Nat) (D : DataW Unit) (L : List Hd) (p : Nat → Bool) (w : World) (hown : w.ownsMap Tryz.prog 3 hdR b n D) (hK : Keeps D L (fun i => p i = true)) (hn : n ≤ 1048576) (hL : L.length ≤ maxLen) :
    Calls Tryz.prog 104 #[.map (some b)] w fun e w' => ∃ v, e = .returned v ∧ HOwn w' w.heap.size v (picked L p) ∧ Below w.heap.size w w' := by
  have hbl := hown.lt
  obtain ⟨i0, hi, hz0, hz1, hz2⟩ := info_parts Tryz.info3'
  obtain ⟨i1, hj, hy0, hy1, hy2⟩ := info_parts Tryz.info97'
  go_enter Tryz.func104, Tryz.ntmps104
  go_wp2_with (first
    | (at_range; refine wpList_range_own _ rfl _ 127 rfl 3 97 law3 Tryz.underlying127 hdR b n D rfl hown ?_; intro w0 hrg0 hg0 hs0; go_frame)
    | go_in)
  have hz9 : w.heap.size + 1 ≤ w0.heap.size := by omega
  clear hs0
  go_loopw [3, 4] (fun o _ wr => ∃ (left : Lit → Bool) (cnt : Nat) (ks : List Int), wr.ranges Tryz.prog 3 hdR b w.heap.size n D left cnt ∧ wr.ownsRow (w.heap.size + 1) 3 1 o ks.length (ks.map (Value.int .i64)) ∧ Col L p left ks ∧ ks.length + cnt ≤ n ∧ Below w.heap.size w wr ∧ w.heap.size + 1 ≤ wr.heap.size) (fun _ _ wr => wr.rangeLeft b w.heap.size)
  case atStart => exact ⟨_, _, [], hrg0, iown_nil _ _, ⟨by simp, fun x => ⟨fun h => by simp at h, fun ⟨i, h1, h2, _, h4⟩ => by rw [(hK.1 _).2 ⟨i, h1, h2, rfl⟩] at h4; cases h4⟩⟩, by simpa using hown.size_le, (Below.refl _ _).grown hg0 (Nat.le_refl _) (by simp), hz9⟩
  case round =>
    obtain ⟨left, cnt, ks, hrg, hks, hC, hcn, hb, hsz⟩ := hrel
    clear hrg0 hg0 hz9
    go_wp2_with (first
      | (at_next; refine wpList_next_ranges _ rfl _ rfl 3 law3 hdR (fun x : Int => Value.int .i64 x) (fun h : Hd => Value.agg #[.int .i64 h.a, .int .i64 h.v, .int .i64 h.p, .int .i64 h.l]) (fun k kl e => keyInv e) (fun v y e => valInv e) b w.heap.size n D left cnt rfl hrg ?_ ?_)
      | go_in)
    · intro _ hl0
      have hT : ks.mergeSort leI = (placesP L.length p).map (fun i : Nat => (i : Int)) := sorted_places hC.1 fun x => (hC.2 x).trans ⟨fun ⟨i, h1, h2, h3, _⟩ => ⟨i, h1, h2, h3⟩, fun ⟨i, h1, h2, h3⟩ => ⟨i, h1, h2, h3, hl0 _⟩⟩
      have hkl : ks.length = ((placesP L.length p).map (fun i : Nat => (i : Int))).length := by rw [← hT]; simp
      have hO := hrg.owns
      have hbl2 : b < wr.heap.size := by omega
      obtain ⟨T, hTe⟩ : ∃ T, Hid (placesP L.length p = T) := ⟨_, rfl⟩
      rw [hTe.out] at hT hkl
      have hkn : ks.length ≤ n := by omega
      clear hrg hC hl0 hcn
      go_wp2_with fail
      go_at_call 128
      refine (sortI (w.heap.size + 1) _ ks wr hks (by omega)).mono ?_
      rintro e w2 ⟨rfl, hs2, hg2⟩
      rw [hT, hkl] at hs2
      have hne := Go.row_ne_low hks (b := b) (by omega)
      have hge := own_ge hks
      have hO2 := hO.kept hg2 hne
      have hB2 : Below w.heap.size w w2 := hb.grown hg2 (by omega) (fun j hj => by have := hge j hj; omega)
      have hw2 : w.heap.size + 1 ≤ w2.heap.size := by have := hg2.size; omega
      clear hks hO hg2 hne hge hT hb
      obtain ⟨adO, capO, rfl, hOv⟩ := iown_view hs2
      have hTn : T.length ≤ n := by simp at hkl; omega
      have hTl : (T.map (fun i : Nat => (i : Int))).length = T.length := by simp
      rw [hTl] at hOv ⊢
      clear hs2 hkl hkn hTl
      have hTm : Hid (∀ i ∈ T, i < L.length ∧ p i = true) := by rw [← hTe.out]; intro i hi; simpa [placesP] using hi
      go_wp2
      go_loopw [5, 22] (fun l i wr => ∃ k : Nat, i = .int .i64 (k : Int) ∧ k ≤ T.length ∧ HOwn wr w2.heap.size l ((T.take k).map (fun i => L.getD i Hd.nil)) ∧ Below w2.heap.size w2 wr) (fun _ i _ => T.length - (intOf i).toNat)
      case atStart => exact ⟨0, rfl, Nat.zero_le _, hown_nil _ _, Below.refl _ _⟩
      case round =>
        obtain ⟨k, rfl, hk, hl, hb⟩ := hrel
        by_cases hlt : k < T.length
        · obtain ⟨g, rfl, hg1, hg2, hgc⟩ := hOv (by omega)
          obtain ⟨i, hie⟩ : ∃ i, Hid (T.getD k 0 = i) := ⟨_, rfl⟩
          have him : i ∈ T := by rw [← hie.out]; simp [List.getD, List.getElem?_eq_getElem hlt]
          obtain ⟨hiL, hip⟩ := hTm.out i him
          have hcell : wr.cell? ⟨g, k, none⟩ = some (.int .i64 (i : Int)) := by
            have h1 := (hb.cell (p := ⟨g, k, none⟩) (by show g < _; omega)).trans (hgc k hlt)
            rw [h1, ← hie.out]
            simp [List.getD, List.getElem?_eq_getElem hlt]
          have hownr := hO2.kept (below_grown hb none) (by simp)
          have hwi : (Lit.int .i64 (i : Int)).wf = true := by
            have hm := hL
            exact wf_nat (Nat.le_of_lt hiL) (by unfold maxLen at hm; omega)
          have hpre : ((T.take k).map (fun i => L.getD i Hd.nil)).length = k := by simp; omega
          obtain ⟨pre, hpe⟩ : ∃ pre, Hid ((T.take k).map (fun i => L.getD i Hd.nil) = pre) := ⟨_, rfl⟩
          rw [hpe.out] at hl hpre
          have hbs := hb.size
          have hprH : Hid (pre.length = k) := hpre
          clear hgc him hpre
          go_wp2_with (first
            | (at_lookup; refine wpList_lookup_hd _ rfl _ _ 127 rfl Tryz.underlying127 (zeroH _) b n D rfl hownr _ _ rfl (Go.Maps.keyOf_int_mk Tryz.underlying3 hwi) ?_; intro h hat)
            | (at_builtin; refine wpList_append_own_at _ rfl _ _ 26 rfl w2.heap.size 97 i1 (.agg #[.int .i64 0, .int .i64 0, .int .i64 0, .int .i64 0]) 4 32 Tryz.underlying26 hj hy0 hy1 hy2 rfl (by decide) _ _ _ rfl (hl.alloc _) ⟨wr.heap.size, 0, none⟩ 1 1 [.int .i64 h.a, .int .i64 h.v, .int .i64 h.p, .int .i64 h.l] rfl rfl ?d1 ?d2 ?d3 ?d4 ?d5 ?_)
            | go_in)
          case d1 => exact cells4 wr h _
          case d2 => intro u hu; simp at hu; rcases hu with rfl | rfl | rfl | rfl <;> rfl
          case d3 => have := hprH.out; unfold maxLen; omega
          case d4 => have := hprH.out; omega
          case d5 => simp; omega
          intro v' w3 hown3 hgrow3 _ _
          have hhe : h = L.getD i Hd.nil := hdD_inj (hat.symm.trans (hK.at hiL hip _))
          have hnew : (T.take (k + 1)).map (fun i => L.getD i Hd.nil) = pre ++ [h] := by
            rw [← hpe.out, List.take_succ_eq_append_getElem hlt, List.map_append, hhe, ← hie.out]
            simp [List.getD, List.getElem?_eq_getElem hlt]
          have hown4 : HOwn w3 w2.heap.size v' ((T.take (k + 1)).map (fun i => L.getD i Hd.nil)) := by
            rw [hnew]
            unfold HOwn
            rw [hcells_app, List.length_append]
            exact hown3
          have hge := own_ge hl
          have hb4 : Below w2.heap.size w2 w3 := (hb.alloc hbs _).grown hgrow3 (by simp; omega) hge
          clear hown3 hgrow3 hat hhe hnew
          go_wp2
          go_roundw
          case rel => exact ⟨k + 1, by go_num, by omega, hown4, hb4⟩
          case measure => simp [intOf]; omega
        · obtain rfl : k = T.length := by omega
          have hfin : HOwn wr w.heap.size u5 (picked L p) := by
            have e : (T.take T.length).map (fun i => L.getD i Hd.nil) = picked L p := by rw [List.take_length, ← hTe.out]; rfl
            rw [e] at hl
            exact own_base' hl (by omega)
          go_wp2
          go_ret
          exact ⟨_, rfl, hfin, hB2.trans (hb.mono (by omega))⟩
    · intro x h kl yd yp w1 cnt1 hkey hlk hv hat hrg1 hlt hg1 hs1 hen
      obtain ⟨hwx, rfl⟩ := keyIs hkey
      have hh := (hK.1 _).1 (Go.Maps.has_true_of_atKey (y := yd) hat)
      obtain ⟨i, hi', hp, hki⟩ := hh
      obtain rfl : x = (i : Int) := by unfold key at hki; simpa using hki
      have hC1 := hC.step hi' hp hlk
      have hks1 := own_grow hks hg1 (fun j hj => by cases hj; omega)
      have hb1 : Below w.heap.size w w1 := hb.grown hg1 (by omega) (fun j hj => by cases hj; exact Nat.le_refl _)
      have hsz1 : w.heap.size + 1 ≤ w1.heap.size := by omega
      clear hs1 hat hv hkey hg1 hki hks hb hC
      go_wp2_with (first | (at_builtin; refine wpList_append_own_at _ rfl _ _ 48 rfl (w.heap.size + 1) 3 i0 (.int .i64 0) 1 8 Tryz.underlying48 hi hz0 hz1 hz2 rfl (by decide) _ _ _ rfl (hks1.alloc _) ⟨w1.heap.size, 0, none⟩ 1 1 [.int .i64 (i : Int)] rfl rfl ?c1 ?c2 ?c3 ?c4 ?c5 ?_) | go_in)
      case c1 => exact cells1 w1 _ _
      case c2 => intro u hu; simp at hu; subst hu; rfl
      case c3 => unfold maxLen; omega
      case c4 => omega
      case c5 => simp; omega
      intro v' w3 hown3 hgrow3 _ _
      have hge := own_ge hks1
      have hrg3 := (hrg1.alloc (Obj.cells #[.int .i64 (i : Int)] 3)).kept hgrow3 (Go.row_ne_low hks1 (by omega)) (Go.row_ne_low hks1 (by omega))
      have hb3 : Below w.heap.size w w3 := (hb1.alloc (by omega) _).grown hgrow3 (by simp; omega) (fun j hj => by have := hge j hj; omega)
      have hs3 := hgrow3.size
      have hs4 : w.heap.size + 1 ≤ w3.heap.size := by simp at hs3; omega
      have hown4 : w3.ownsRow (w.heap.size + 1) 3 1 v' (ks ++ [(i : Int)]).length ((ks ++ [(i : Int)]).map (Value.int .i64)) := by
        rw [List.length_append, List.map_append]
        exact hown3
      clear hown3 hgrow3 hge hs3
      go_wp2
      go_roundw
      case rel => exact ⟨_, cnt1, _, hrg3, hown4, hC1, by simp; omega, hb3, hs4⟩
      case measure => rw [hrg3.left_eq, hrg.left_eq]; omega

end Go.Proofs.YtifndemkkaelaaaGreat
namespace Go.Proofs.YtifndemkkaelaaaGreat
open Go.ChangeShapes Go.WideShapes Go.ChangeAt Go.RowKit
open Go.ChangeMaps (open_string shut_string)
set_option linter.unusedVariables false

def Hd.older (h : Hd) : Hd := ⟨h.a, h.v, h.p, wrap64 (h.l - 1)⟩
def aged (L : List Hd) : List Hd := (L.filter fun h => !goneA h).map Hd.older
def forgot (n : Int) (L : List Hd) : List Hd := L.filter fun h => !goneF n h
theorem aged_app (A B : List Hd) : aged (A ++ B) = aged A ++ aged B := by simp [aged]
theorem aged_len (L : List Hd) : (aged L).length ≤ L.length := by simpa [aged] using List.length_filter_le (fun h => !goneA h) L
theorem forgot_len (n : Int) (L : List Hd) : (forgot n L).length ≤ L.length := by simpa [forgot] using List.length_filter_le (fun h => !goneF n h) L
theorem take_step {L : List Hd} {k : Nat} {h : Hd} (hk : k < L.length) (hh : L.getD k Hd.nil = h) : L.take (k + 1) = L.take k ++ [h] := by
  rw [List.take_succ_eq_append_getElem hk]
  simp [List.getD, List.getElem?_eq_getElem hk] at hh
  rw [hh]
theorem heap_new (w : World) (o : Obj) : (w.alloc o).heap[w.heap.size]? = some o := by
  show (w.heap.push o)[w.heap.size]? = some o
  simp
theorem cells4' (w : World) (h : Hd) (t : TypeId) (n : Nat) (hn : n = w.heap.size) : ∀ j u, ([.int .i64 h.a, .int .i64 h.v, .int .i64 h.p, .int .i64 h.l] : List Value)[j]? = some u → (w.alloc (Obj.cells #[.int .i64 h.a, .int .i64 h.v, .int .i64 h.p, .int .i64 h.l] t)).cell? ((⟨n, 0, none⟩ : Addr).add j) = some u := by
  subst hn
  exact cells4 w h t
theorem hown_empty (w : World) : HOwn (w.alloc (.cells #[] 97)) w.heap.size (.slice (some ⟨w.heap.size, 0, none⟩) 0 0) [] :=
  ⟨rfl, .inr ⟨w.heap.size, 0, #[], rfl, Nat.le_refl _, heap_new w _, Nat.le_refl _, Nat.zero_le _, rfl, rfl⟩⟩
theorem picked_filter (L : List Hd) (q : Hd → Bool) : picked L (fun i => q (L.getD i Hd.nil)) = L.filter q := by
  have e : (List.range L.length).map (fun i => L.getD i Hd.nil) = L := by
    apply List.ext_getElem (by simp)
    intro i h1 h2
    simp [List.getD, List.getElem?_eq_getElem h2]
  unfold picked placesP
  conv => rhs; rw [← e, List.filter_map]
  rfl
def HRes (base : Nat) (M : List Hd) (e : Ending) (w' : World) : Prop :=
  ∃ ad cap, e = .returned (.slice ad M.length cap) ∧ HView w' ad M ∧ HRoom w' ad M.length ∧ ∀ a, ad = some a → base ≤ a.block ∧ a.block < w'.heap.size
theorem HOwn.res {w : World} {base : Nat} {v : Value} {M : List Hd} (h : HOwn w base v M) : HRes base M (.returned v) w := by
  obtain ⟨ad, cap, rfl, v, r, m⟩ := hown_view h
  exact ⟨ad, cap, rfl, v, r, fun a e => ⟨(m a e).1, (m a e).2.1⟩⟩
set_option maxHeartbeats 2000000 in
theorem forgI (ad : Option Addr) (cap : Nat) (L : List Hd) (n : Int) (w : World) (hv : HView w ad L) (hm : L.length ≤ 1048576) (hB : HIs ad L (· < w.heap.size)) :
    Calls Tryz.prog 50 #[.slice ad L.length cap, .int .i64 n] w fun e w' => HRes w.heap.size (forgot n L) e w' ∧ Below w.heap.size w w' := by
  have hmx : L.length ≤ maxLen := by unfold maxLen; omega
  obtain ⟨w0, hx⟩ : ∃ x, x = w.alloc (Obj.cells #[.int .i64 n] 3) := ⟨_, rfl⟩
  have b0 : Below w.heap.size w w0 := by rw [hx]; exact below_box w _
  have t0 : w0.heap.size = w.heap.size + 1 := by rw [hx]; simp
  have c0 : w0.cell? ⟨w.heap.size, 0, none⟩ = some (.int .i64 n) := by rw [hx]; simp [go_sem]
  go_enter Tryz.func50, Tryz.ntmps50
  go_wp2_with fail
  go_at_call 101
  rw [← hx]
  clear hx
  refine (placesOf ad cap L w0 (hv.below hB b0) hmx (hB.le b0.size)).mono ?_
  rintro e w1 ⟨rfl, D, o1, K1, b1⟩
  rw [t0] at b1 o1 ⊢
  have t1 := o1.lt
  have c1 : w1.cell? ⟨w.heap.size, 0, none⟩ = some (.int .i64 n) := (b1.cell (p := ⟨w.heap.size, 0, none⟩) (by show w.heap.size < _; omega)).trans c0
  have B1 : Below w.heap.size w w1 := b0.trans (b1.mono (by omega))
  clear t0 b0 b1 c0
  go_wp2_with fail
  go_at_call 102
  refine (dropF (w.heap.size + 1) L.length D L n w.heap.size w1 o1 K1 (by omega) c1).mono ?_
  rintro e w2 ⟨rfl, D2, o2, K2, g2⟩
  have s2 := g2.size
  have b2 : Below w.heap.size w w2 := B1.grown g2 (by omega) (fun j hj => by cases hj; omega)
  have K3 : Keeps D2 L (fun i => (fun i => !goneF n (L.getD i Hd.nil)) i = true) := K2.congr (fun i _ => by simp)
  clear o1 K1 g2 K2 c1
  go_wp2_with fail
  go_at_call 104
  refine (told (w.heap.size + 1) L.length D2 L (fun i => !goneF n (L.getD i Hd.nil)) w2 o2 K3 hm hmx).mono ?_
  rintro e w3 ⟨v, rfl, o3, b3⟩
  rw [picked_filter L (fun h => !goneF n h)] at o3
  have B3 := b2.trans (b3.mono (by omega))
  have hl : HOwn w3 w.heap.size v (forgot n L) := own_base' o3 (by omega)
  clear o2 K3 o3
  go_wp2
  go_ret
  exact ⟨hl.res, B3⟩

end Go.Proofs.YtifndemkkaelaaaGreat
