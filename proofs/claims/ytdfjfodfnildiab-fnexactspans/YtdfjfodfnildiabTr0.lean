/- Who can be come to, in plain lists. -/
import Derived.Test.YtdfjfodfnildiabRows
import Derived.WalkKit
import Derived.ProofKit
import Derived.OpenShut
import Derived.ShutString
import Derived.ChangeOld
import Derived.Below
import Derived.Deep.QuietTactic
import Derived.BigQuiet
import Derived.WalkSmall
import Derived.Laws.OwnMore
import Derived.WalkSpells
import Derived.WalkLawsBesides
import Derived.Test.YtdfjfodfnildiabLk1
namespace Go.Proofs.Ytdfjfodfnildiab
open Go.ChangeShapes Go.WideShapes Go.ChangeAt Go.RowKit
open Go.ChangeMaps (open_string shut_string)
set_option linter.unusedVariables false
set_option maxRecDepth 100000

/-- b can be come to from a over these links, either way. -/
def Con (K : List Lk) (a b : Int) : Prop := ∀ S : Int → Prop, (∀ l, l ∈ K → (S l.a ↔ S l.b)) → S a → S b
theorem Con.refl (K : List Lk) (a : Int) : Con K a a := fun _ _ h => h
theorem Con.trans {K : List Lk} {a b c : Int} (h : Con K a b) (k : Con K b c) : Con K a c := fun S hS hs => k S hS (h S hS hs)
theorem Con.symm {K : List Lk} {a b : Int} (h : Con K a b) : Con K b a := by
  intro S hS hb
  by_cases ha : S a
  · exact ha
  · exact absurd hb (h (fun x => ¬ S x) (fun l hl => not_congr (hS l hl)) ha)
theorem Con.link {K : List Lk} {l : Lk} (h : l ∈ K) : Con K l.a l.b := fun _ hS hs => (hS l h).1 hs
theorem Con.sub {K M : List Lk} {a b : Int} (h : ∀ l, l ∈ K → l ∈ M) (k : Con K a b) : Con M a b := fun S hS hs => k S (fun l hl => hS l (h l hl)) hs
/-- All ends of these links are numbers below n. -/
def InN (K : List Lk) (n : Nat) : Prop := ∀ l, l ∈ K → (0 ≤ l.a ∧ l.a < (n : Int)) ∧ (0 ≤ l.b ∧ l.b < (n : Int))
theorem InN.sub {K M : List Lk} {n : Nat} (h : InN M n) (k : ∀ l, l ∈ K → l ∈ M) : InN K n := fun l hl => h l (k l hl)
theorem Con.within {K : List Lk} {n : Nat} {a b : Int} (hK : InN K n) (h : Con K a b) (ha : 0 ≤ a ∧ a < (n : Int)) : 0 ≤ b ∧ b < (n : Int) :=
  h (fun x => 0 ≤ x ∧ x < (n : Int)) (fun l hl => ⟨fun _ => (hK l hl).2, fun _ => (hK l hl).1⟩) ha
/-- Where it stands. -/
def idx : Nat → List Bool → List Int
  | _, [] => []
  | k, b :: M => if b = true then (k : Int) :: idx (k + 1) M else idx (k + 1) M
theorem idx_snoc (M : List Bool) (b : Bool) : ∀ k, idx k (M ++ [b]) = idx k M ++ (if b = true then [((k + M.length : Nat) : Int)] else []) := by
  induction M with
  | nil => intro k; cases b <;> simp [idx]
  | cons x M ih =>
    intro k
    simp only [List.cons_append, idx, ih, List.length_cons]
    have e : k + 1 + M.length = k + (M.length + 1) := by omega
    rw [e]
    cases x <;> simp
theorem take_oneB (K : List Bool) {j : Nat} (h : j < K.length) : K.take (j + 1) = K.take j ++ [K.getD j false] := by
  rw [List.take_add_one, List.getElem?_eq_getElem h]
  simp [List.getD, h]
theorem idx_take (M : List Bool) {i : Nat} (h : i < M.length) : idx 0 (M.take (i + 1)) = idx 0 (M.take i) ++ (if M.getD i false = true then [(i : Int)] else []) := by
  rw [take_oneB M h, idx_snoc, List.length_take, Nat.min_eq_left (Nat.le_of_lt h), Nat.zero_add]
theorem idx_len (M : List Bool) : ∀ k, (idx k M).length ≤ M.length := by
  induction M with
  | nil => intro k; simp [idx]
  | cons x M ih => intro k; have := ih (k + 1); simp only [idx]; split <;> simp <;> omega
theorem idx_none (M : List Bool) (h : ∀ j, M.getD j false = false) : ∀ k, idx k M = [] := by
  induction M with
  | nil => intro k; rfl
  | cons x M ih =>
    intro k
    have h0 : x = false := h 0
    simp only [idx, h0]
    exact ih (fun j => h (j + 1)) (k + 1)
theorem idx_app (M N : List Bool) : ∀ k, idx k (M ++ N) = idx k M ++ idx (k + M.length) N := by
  induction M with
  | nil => intro k; simp [idx]
  | cons x M ih =>
    intro k
    have e : k + 1 + M.length = k + (M.length + 1) := by omega
    simp only [List.cons_append, idx, ih, List.length_cons, e]
    cases x <;> simp
theorem idx_mem (M : List Bool) (x : Int) : ∀ k : Nat, x ∈ idx k M ↔ ∃ j : Nat, j < M.length ∧ M.getD j false = true ∧ x = ((k + j : Nat) : Int) := by
  induction M with
  | nil => intro k; simp [idx]
  | cons y M ih =>
    intro k
    constructor
    · intro h
      have hh : (y = true ∧ x = (k : Int)) ∨ x ∈ idx (k + 1) M := by
        cases y
        · exact .inr (by simpa [idx] using h)
        · rcases (by simpa [idx] using h : x = (k : Int) ∨ x ∈ idx (k + 1) M) with q | q
          · exact .inl ⟨rfl, q⟩
          · exact .inr q
      rcases hh with ⟨hy, rfl⟩ | q
      · exact ⟨0, by simp, by simp [hy], by simp⟩
      · obtain ⟨j, h1, h2, h3⟩ := (ih (k + 1)).1 q
        exact ⟨j + 1, by simpa using h1, by simpa using h2, by rw [h3]; congr 1; omega⟩
    · rintro ⟨j, h1, h2, h3⟩
      cases j with
      | zero =>
        have : y = true := by simpa using h2
        simp [idx, this, h3]
      | succ j =>
        have q : x ∈ idx (k + 1) M := (ih (k + 1)).2 ⟨j, by simpa using h1, by simpa using h2, by rw [h3]; congr 1; omega⟩
        cases y <;> simp [idx, q]
theorem eq_of_getD {M N : List Bool} (hl : M.length = N.length) (h : ∀ j, j < M.length → M.getD j false = N.getD j false) : M = N := by
  refine List.ext_getElem hl (fun j h1 h2 => ?_)
  have := h j h1
  simpa [List.getD, h1, h2] using this
/-- A list that tells of the numbers below n which can be come to. -/
structure Marks (K : List Lk) (n : Nat) (a : Int) (M : List Bool) : Prop where
  len : M.length = n
  is : ∀ j : Nat, j < n → (M.getD j false = true ↔ Con K a (j : Int))
theorem Marks.unique {K : List Lk} {n : Nat} {a : Int} {M N : List Bool} (h : Marks K n a M) (k : Marks K n a N) : M = N := by
  refine eq_of_getD (by rw [h.len, k.len]) (fun j hj => ?_)
  rw [h.len] at hj
  exact Bool.eq_iff_iff.2 ((h.is j hj).trans (k.is j hj).symm)
/-- Of five the first n; the others are not come to. -/
theorem Marks.cut {K : List Lk} {n : Nat} {a : Int} {M : List Bool} (hK : InN K n) (ha : 0 ≤ a ∧ a < (n : Int)) (hn : n ≤ 5) (h : Marks K 5 a M) : Marks K n a (M.take n) ∧ idx 0 M = idx 0 (M.take n) := by
  refine ⟨⟨by rw [List.length_take, h.len]; omega, fun j hj => ?_⟩, ?_⟩
  · rw [← h.is j (by omega)]
    simp [List.getD, hj]
  · have e := idx_app (M.take n) (M.drop n) 0
    rw [List.take_append_drop] at e
    rw [e, idx_none (M.drop n), List.append_nil]
    intro j
    have : (M.drop n).getD j false = M.getD (n + j) false := by simp [List.getD, List.getElem?_drop]
    rw [this]
    by_cases hj : n + j < 5
    · cases q : M.getD (n + j) false
      · rfl
      · have := ((h.is (n + j) hj).1 q).within hK ha
        omega
    · simp [List.getD, List.getElem?_eq_none (show M.length ≤ n + j by rw [h.len]; omega)]
/-- One link gone over, as the specification does it. -/
def markL (S : List Bool) (l : Lk) : List Bool := if S.getD l.a.toNat false = true ∨ S.getD l.b.toNat false = true then (S.set l.a.toNat true).set l.b.toNat true else S
theorem markL_len (S : List Bool) (l : Lk) : (markL S l).length = S.length := by unfold markL; split <;> simp
theorem foldM_len (K : List Lk) : ∀ S : List Bool, (K.foldl markL S).length = S.length := by
  induction K with
  | nil => intro S; rfl
  | cons l K ih => intro S; rw [List.foldl_cons, ih, markL_len]
theorem getD_set {S : List Bool} {i j : Nat} (hi : i < S.length) : (S.set i true).getD j false = if i = j then true else S.getD j false := by
  simp only [List.getD, List.getElem?_set]
  by_cases e : i = j
  · subst e; simp [hi]
  · simp [e]
theorem set_true {S : List Bool} {i : Nat} (h : S.getD i false = true) : S.set i true = S := by
  refine List.ext_getElem (by simp) (fun j h1 h2 => ?_)
  rw [List.getElem_set]
  split
  · rename_i e; subst e
    have : S[i]? = some S[i] := List.getElem?_eq_getElem h2
    simp [List.getD, this] at h
    exact h.symm
  · rfl
theorem cnt_set (S : List Bool) : ∀ i, i < S.length → (S.getD i false = true → (S.set i true).count true = S.count true) ∧ (S.getD i false = false → (S.set i true).count true = S.count true + 1) := by
  induction S with
  | nil => intro i h; simp at h
  | cons x S ih =>
    intro i hi
    cases i with
    | zero =>
      cases x
      · simp
      · simp
    | succ i =>
      have := ih i (by simpa using hi)
      simp only [List.set_cons_succ, List.count_cons, List.getD_cons_succ]
      refine ⟨fun h => by rw [this.1 h], fun h => by rw [this.2 h]; omega⟩
theorem cnt_set_le {S : List Bool} {i : Nat} (hi : i < S.length) : S.count true ≤ (S.set i true).count true := by
  cases q : S.getD i false
  · rw [(cnt_set S i hi).2 q]; omega
  · rw [(cnt_set S i hi).1 q]; omega
theorem cnt_set_eq {S : List Bool} {i : Nat} (hi : i < S.length) (h : (S.set i true).count true = S.count true) : S.getD i false = true := by
  cases q : S.getD i false
  · rw [(cnt_set S i hi).2 q] at h; omega
  · rfl
/-- Both ends are marked, or none. -/
def Clo (S : List Bool) (l : Lk) : Prop := S.getD l.a.toNat false = S.getD l.b.toNat false
theorem toNat_lt' {x : Int} {n : Nat} (h : 0 ≤ x ∧ x < (n : Int)) : x.toNat < n := by omega
theorem mark_cnt {S : List Bool} {l : Lk} (ha : l.a.toNat < S.length) (hb : l.b.toNat < S.length) : S.count true ≤ (markL S l).count true ∧ ((markL S l).count true = S.count true → markL S l = S ∧ Clo S l) := by
  unfold markL
  split
  · rename_i h
    have h1 := cnt_set_le ha
    have h2 := cnt_set_le (S := S.set l.a.toNat true) (i := l.b.toNat) (by simpa using hb)
    refine ⟨by omega, fun e => ?_⟩
    have e1 : (S.set l.a.toNat true).count true = S.count true := by omega
    have q1 := cnt_set_eq ha e1
    have q2 := cnt_set_eq (S := S.set l.a.toNat true) (i := l.b.toNat) (by simpa using hb) (by omega)
    rw [set_true q1] at q2 ⊢
    rw [set_true q2]
    exact ⟨rfl, q1.trans q2.symm⟩
  · rename_i h
    refine ⟨Nat.le_refl _, fun _ => ⟨rfl, ?_⟩⟩
    unfold Clo
    cases q1 : S.getD l.a.toNat false
    · cases q2 : S.getD l.b.toNat false
      · rfl
      · exact absurd (.inr q2) h
    · exact absurd (.inl q1) h
theorem mark_clo {S : List Bool} {l : Lk} (h : Clo S l) : markL S l = S := by
  unfold markL
  split
  · rename_i q
    have q1 : S.getD l.a.toNat false = true := by rcases q with q | q; exact q; exact h.trans q
    have q2 : S.getD l.b.toNat false = true := h.symm.trans q1
    rw [set_true q1, set_true q2]
  · rfl
theorem round_cnt (K : List Lk) : ∀ S : List Bool, InN K S.length → S.count true ≤ (K.foldl markL S).count true ∧ ((K.foldl markL S).count true = S.count true → ∀ l, l ∈ K → Clo S l) := by
  induction K with
  | nil => intro S _; exact ⟨Nat.le_refl _, fun _ l hl => by cases hl⟩
  | cons x K ih =>
    intro S hS
    have hx := hS x (List.mem_cons_self ..)
    have m := mark_cnt (S := S) (l := x) (toNat_lt' hx.1) (toNat_lt' hx.2)
    have r := ih (markL S x) (fun l hl => by rw [markL_len]; exact hS l (List.mem_cons_of_mem _ hl))
    rw [List.foldl_cons]
    refine ⟨by omega, fun e l hl => ?_⟩
    have e1 : (markL S x).count true = S.count true := by omega
    obtain ⟨q1, q2⟩ := m.2 e1
    rcases List.mem_cons.1 hl with rfl | hl
    · exact q2
    · have := r.2 (by omega) l hl
      rwa [q1] at this
theorem round_clo (K : List Lk) : ∀ S : List Bool, (∀ l, l ∈ K → Clo S l) → K.foldl markL S = S := by
  induction K with
  | nil => intro S _; rfl
  | cons x K ih =>
    intro S hS
    rw [List.foldl_cons, mark_clo (hS x (List.mem_cons_self ..))]
    exact ih S (fun l hl => hS l (List.mem_cons_of_mem _ hl))
/-- What is marked can be come to; who is asked is marked. -/
structure Sound (K : List Lk) (a : Nat) (S : List Bool) : Prop where
  at_ : S.getD a false = true
  con : ∀ j : Nat, S.getD j false = true → Con K (a : Int) (j : Int)
theorem getD_lt {S : List Bool} {i : Nat} (h : S.getD i false = true) : i < S.length := by
  by_cases hi : i < S.length
  · exact hi
  · simp [List.getD, List.getElem?_eq_none (Nat.le_of_not_lt hi)] at h
theorem Sound.set {K : List Lk} {a i : Nat} {S : List Bool} (h : Sound K a S) (hi : i < S.length) (hc : Con K (a : Int) (i : Int)) : Sound K a (S.set i true) := by
  refine ⟨?_, fun j hj => ?_⟩
  · rw [getD_set hi, h.at_]; split <;> rfl
  · rw [getD_set hi] at hj
    by_cases e : i = j
    · rw [← e]; exact hc
    · rw [if_neg e] at hj; exact h.con j hj
theorem Sound.ends {K : List Lk} {a : Nat} {S : List Bool} (h : Sound K a S) {l : Lk} (hl : l ∈ K) (h1 : 0 ≤ l.a) (h2 : 0 ≤ l.b) (hs : S.getD l.a.toNat false = true ∨ S.getD l.b.toNat false = true) : Con K (a : Int) l.a ∧ Con K (a : Int) l.b := by
  rcases hs with q | q
  · have := h.con _ q
    rw [Int.toNat_of_nonneg h1] at this
    exact ⟨this, this.trans (Con.link hl)⟩
  · have := h.con _ q
    rw [Int.toNat_of_nonneg h2] at this
    exact ⟨this.trans (Con.link hl).symm, this⟩
theorem Sound.mark {K : List Lk} {a : Nat} {S : List Bool} (h : Sound K a S) {l : Lk} (hl : l ∈ K) (hN : InN K S.length) : Sound K a (markL S l) := by
  obtain ⟨ha, hb⟩ := hN l hl
  unfold markL
  split
  · rename_i q
    obtain ⟨c1, c2⟩ := h.ends hl ha.1 hb.1 q
    refine (h.set (toNat_lt' ha) ?_).set (by simpa using toNat_lt' hb) ?_
    · rw [Int.toNat_of_nonneg ha.1]; exact c1
    · rw [Int.toNat_of_nonneg hb.1]; exact c2
  · exact h
theorem Sound.round {K : List Lk} {a : Nat} (M : List Lk) : ∀ S : List Bool, Sound K a S → (∀ l, l ∈ M → l ∈ K) → InN K S.length → Sound K a (M.foldl markL S) := by
  induction M with
  | nil => intro S h _ _; exact h
  | cons x M ih =>
    intro S h hM hN
    rw [List.foldl_cons]
    exact ih _ (h.mark (hM x (List.mem_cons_self ..)) hN) (fun l hl => hM l (List.mem_cons_of_mem _ hl)) (by rw [markL_len]; exact hN)
theorem Sound.start {K : List Lk} {a n : Nat} (h : a < n) : Sound K a ((List.replicate n false).set a true) := by
  refine ⟨by rw [getD_set (by simpa using h)]; simp, fun j hj => ?_⟩
  rw [getD_set (by simpa using h)] at hj
  by_cases e : a = j
  · subst e; exact Con.refl _ _
  · rw [if_neg e] at hj
    simp [List.getD, List.getElem?_replicate] at hj
    split at hj <;> simp at hj
/-- What is sound, and goes no further, tells all. -/
theorem Sound.marks {K : List Lk} {a n : Nat} {S : List Bool} (h : Sound K a S) (hl : S.length = n) (hN : InN K n) (hc : ∀ l, l ∈ K → Clo S l) : Marks K n (a : Int) S := by
  refine ⟨hl, fun j hj => ⟨h.con j, fun q => ?_⟩⟩
  have := q (fun x => 0 ≤ x ∧ S.getD x.toNat false = true) (fun l hl => by
    have e := hc l hl
    unfold Clo at e
    have := hN l hl
    rw [e]
    constructor
    · exact fun h => ⟨this.2.1, h.2⟩
    · exact fun h => ⟨this.1.1, h.2⟩) ⟨by omega, by simpa using h.at_⟩
  simpa using this.2
/-- Behind i rounds nothing more is marked, or i + 1 are. -/
def Far (K : List Lk) (i : Nat) (S : List Bool) : Prop := (∀ l, l ∈ K → Clo S l) ∨ i + 1 ≤ S.count true
theorem Far.step {K : List Lk} {i : Nat} {S : List Bool} (h : Far K i S) (hN : InN K S.length) : Far K (i + 1) (K.foldl markL S) := by
  by_cases c : ∀ l, l ∈ K → Clo S l
  · rw [round_clo K S c]; exact .inl c
  · have r := round_cnt K S hN
    rcases h with h | h
    · exact absurd h c
    · refine .inr ?_
      have : (K.foldl markL S).count true ≠ S.count true := fun e => c (r.2 e)
      omega
theorem Far.end_ {K : List Lk} {n : Nat} {S : List Bool} (h : Far K n S) (hl : S.length = n) : ∀ l, l ∈ K → Clo S l := by
  rcases h with h | h
  · exact h
  · have : S.count true ≤ S.length := List.count_le_length
    omega
theorem Far.start {K : List Lk} {a n : Nat} (h : a < n) : Far K 0 ((List.replicate n false).set a true) := by
  refine .inr ?_
  have : (List.replicate n false).getD a false = false := by simp [List.getD, h]
  rw [(cnt_set _ a (by simpa using h)).2 this]
  omega
/-- Of the links, by their place, those that are picked. -/
def selL (f : Nat → Lk → Bool) : Nat → List Lk → List Lk
  | _, [] => []
  | i, l :: K => if f i l = true then l :: selL f (i + 1) K else selL f (i + 1) K
theorem selL_snoc (f : Nat → Lk → Bool) (K : List Lk) (x : Lk) : ∀ i, selL f i (K ++ [x]) = selL f i K ++ (if f (i + K.length) x = true then [x] else []) := by
  induction K with
  | nil => intro i; simp only [List.nil_append, selL, List.length_nil, Nat.add_zero]
  | cons l K ih =>
    intro i
    have e : i + 1 + K.length = i + (K.length + 1) := by omega
    simp only [List.cons_append, selL, ih, List.length_cons, e]
    split <;> simp
theorem take_oneK (K : List Lk) {j : Nat} (h : j < K.length) : K.take (j + 1) = K.take j ++ [K.getD j Lk.nil] := by
  rw [List.take_add_one, List.getElem?_eq_getElem h]
  simp [List.getD, h]
theorem selL_take (f : Nat → Lk → Bool) (K : List Lk) {k : Nat} (h : k < K.length) : selL f 0 (K.take (k + 1)) = selL f 0 (K.take k) ++ (if f k (K.getD k Lk.nil) = true then [K.getD k Lk.nil] else []) := by
  rw [take_oneK K h, selL_snoc, List.length_take, Nat.min_eq_left (Nat.le_of_lt h), Nat.zero_add]
theorem fold_take (f : Nat → Lk → Bool) (K : List Lk) (S : List Bool) {k : Nat} (h : k < K.length) : (selL f 0 (K.take (k + 1))).foldl markL S = if f k (K.getD k Lk.nil) = true then markL ((selL f 0 (K.take k)).foldl markL S) (K.getD k Lk.nil) else (selL f 0 (K.take k)).foldl markL S := by
  rw [selL_take f K h, List.foldl_append]
  split <;> simp
theorem selL_all (f : Nat → Lk → Bool) (K : List Lk) (h : ∀ i l, f i l = true) : ∀ i, selL f i K = K := by
  induction K with
  | nil => intro i; rfl
  | cons l K ih => intro i; simp only [selL, h, if_true, ih]
theorem selL_filter (f : Nat → Lk → Bool) (p : Lk → Bool) (K : List Lk) : ∀ i, (∀ j l, i ≤ j → j < i + K.length → f j l = p l) → selL f i K = K.filter p := by
  induction K with
  | nil => intro i _; rfl
  | cons l K ih =>
    intro i h
    have e := ih (i + 1) (fun j l h1 h2 => h j l (by omega) (by simp only [List.length_cons]; omega))
    simp only [selL, e, h i l (Nat.le_refl _) (by simp), List.filter_cons]
theorem selL_app (f : Nat → Lk → Bool) (K M : List Lk) : ∀ i, selL f i (K ++ M) = selL f i K ++ selL f (i + K.length) M := by
  induction K with
  | nil => intro i; simp [selL]
  | cons l K ih =>
    intro i
    have e : i + 1 + K.length = i + (K.length + 1) := by omega
    simp only [List.cons_append, selL, ih, List.length_cons, e]
    split <;> simp
theorem selL_mem (f : Nat → Lk → Bool) (K : List Lk) : ∀ i l, l ∈ selL f i K → l ∈ K := by
  induction K with
  | nil => intro i l h; exact h
  | cons x K ih =>
    intro i l h
    simp only [selL] at h
    split at h
    · rcases List.mem_cons.1 h with rfl | h
      · exact List.mem_cons_self ..
      · exact List.mem_cons_of_mem _ (ih _ _ h)
    · exact List.mem_cons_of_mem _ (ih _ _ h)

end Go.Proofs.Ytdfjfodfnildiab
