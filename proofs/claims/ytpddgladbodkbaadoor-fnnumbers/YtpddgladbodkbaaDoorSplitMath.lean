/- What both Split cut, in plain lists. -/
import Derived.Test.YtpddgladbodkbaaDoorRows
import Derived.WalkKit
import Derived.ProofKit
import Derived.OpenShut
import Derived.ShutString
import Derived.ChangeOld
import Derived.Below
import Derived.Deep.QuietTactic
import Derived.BigQuiet
import Derived.WalkSmall
import Derived.Laws.OwnMore
import Derived.Lib.Split
import Derived.Lib.IndexBytes
namespace Go.Proofs.YtpddgladbodkbaaDoor
open Go.ChangeShapes Go.WideShapes Go.ChangeAt Go.RowKit
open Go.ChangeMaps (open_string shut_string)
set_option linter.unusedVariables false

open Go.Lib in
theorem idx_hit : ∀ {l : List UInt8} {c : UInt8} {i : Nat}, (∀ j, j < i → l[j]? ≠ some c) → l[i]? = some c → indexByte l c = i
  | [], c, i, _, h => by simp at h
  | b :: r, c, 0, _, h => by
    simp at h
    subst h
    simp [indexByte]
  | b :: r, c, i + 1, hn, h => by
    have hb : (b == c) = false := by
      rw [beq_eq_false_iff_ne]
      intro e
      exact hn 0 (by omega) (by simp [e])
    have ih := idx_hit (l := r) (c := c) (i := i) (fun j hj => by simpa using hn (j + 1) (by omega)) (by simpa using h)
    rw [indexByte, hb, ih]
    have h2 : ((i : Int) == -1) = false := by rw [beq_eq_false_iff_ne]; omega
    simp [h2]
open Go.Lib in
theorem idx_miss : ∀ {l : List UInt8} {c : UInt8}, (∀ j : Nat, l[j]? ≠ some c) → indexByte l c = -1
  | [], _, _ => rfl
  | b :: r, c, hn => by
    have hb : (b == c) = false := by
      rw [beq_eq_false_iff_ne]
      intro e
      exact hn 0 (by simp [e])
    have ih := idx_miss (l := r) (c := c) (fun j => by simpa using hn (j + 1))
    rw [indexByte, hb, ih]
    rfl
open Go.Lib in
/-- The texts between the bytes c of s. -/
def pieces (c : UInt8) (s : ByteArray) : List ByteArray := splitB ⟨#[c]⟩ 0 (countB s ⟨#[c]⟩) s
open Go.Lib in
theorem indexB_byte (s : ByteArray) (c : UInt8) : indexB s ⟨#[c]⟩ = indexByte s.data.toList c := index_one s.data.toList c
open Go.Lib in
theorem pieces_miss {c : UInt8} {s : ByteArray} (h : ∀ j : Nat, s.data.toList[j]? ≠ some c) : pieces c s = [s] := by
  have e : indexB s ⟨#[c]⟩ = -1 := by rw [indexB_byte]; exact idx_miss h
  unfold pieces
  rw [countB_miss s _ e]
  rfl
open Go.Lib in
theorem pieces_hit {c : UInt8} {s : ByteArray} {i : Nat} (hn : ∀ j, j < i → s.data.toList[j]? ≠ some c) (h : s.data.toList[i]? = some c) : pieces c s = s.extract 0 i :: pieces c (s.extract (i + 1) s.size) := by
  have e : indexB s ⟨#[c]⟩ = i := by rw [indexB_byte]; exact idx_hit hn h
  unfold pieces
  rw [countB_hit s ⟨#[c]⟩ i (Nat.le_refl 1) e, Nat.add_comm 1, splitB_hit _ _ _ _ i e]
  rfl
open Go.Lib in
theorem ext_list {a b : ByteArray} (h : a.data.toList = b.data.toList) : a = b := ByteArray.ext (Array.toList_inj.1 h)
open Go.Lib in
/-- One piece of the rest of s behind p: up to the next such byte, at k. -/
theorem rest_hit {c : UInt8} {s : ByteArray} {p k : Nat} (hpk : p ≤ k) (hk : k < s.size) (hn : ∀ j, p ≤ j → j < k → s.data.toList[j]? ≠ some c) (h : s.data.toList[k]? = some c) :
    pieces c (s.extract p s.size) = s.extract p k :: pieces c (s.extract (k + 1) s.size) := by
  have e : (s.extract p s.size).data.toList = s.data.toList.drop p := extract_to_end s p
  have hsz : (s.extract p s.size).size = s.size - p := by simp [ByteArray.size_extract]
  rw [pieces_hit (i := k - p) (fun j hj => by rw [e, List.getElem?_drop]; exact hn (p + j) (by omega) (by omega)) (by rw [e, List.getElem?_drop, show p + (k - p) = k by omega]; exact h)]
  congr 1
  · apply ext_list
    rw [extract_data (s.extract p s.size) 0 (k - p), e, extract_data s p k]
    simp
  · congr 1
    apply ext_list
    rw [extract_data (s.extract p s.size) (k - p + 1) _, e, extract_data s (k + 1) s.size, hsz, List.drop_drop, show p + (k - p + 1) = k + 1 by omega]
    congr 1
    omega
open Go.Lib in
theorem rest_miss {c : UInt8} {s : ByteArray} {p : Nat} (hn : ∀ j, p ≤ j → s.data.toList[j]? ≠ some c) : pieces c (s.extract p s.size) = [s.extract p s.size] := by
  have e : (s.extract p s.size).data.toList = s.data.toList.drop p := extract_to_end s p
  exact pieces_miss (fun j => by rw [e, List.getElem?_drop]; exact hn (p + j) (by omega))
open Go.Lib in
theorem whole_rest (s : ByteArray) : s.extract 0 s.size = s := by
  apply ext_list
  rw [extract_to_end]
  simp
open Go.Lib in
theorem pieces_len (c : UInt8) : ∀ (n : Nat) (s : ByteArray), s.size ≤ n → (pieces c s).length = countB s ⟨#[c]⟩ + 1 ∧ (pieces c s).length ≤ s.size + 1 := by
  intro n
  induction n with
  | zero =>
    intro s hs
    have hl : s.data.toList = [] := List.eq_nil_of_length_eq_zero (by have : s.data.toList.length = s.size := Array.length_toList; omega)
    have hm : ∀ j : Nat, s.data.toList[j]? ≠ some c := fun j => by rw [hl]; simp
    rw [pieces_miss hm, countB_miss s _ (by rw [indexB_byte]; exact idx_miss hm)]
    simp
  | succ n ih =>
    intro s hs
    by_cases hm : ∀ j : Nat, s.data.toList[j]? ≠ some c
    · rw [pieces_miss hm, countB_miss s _ (by rw [indexB_byte]; exact idx_miss hm)]
      simp
    · rcases indexB_cases s ⟨#[c]⟩ with h | ⟨i, h, hi⟩
      · rw [indexB_byte] at h
        exact absurd (indexByte_none h) hm
      · have h2 := h
        rw [indexB_byte] at h2
        obtain ⟨h3, h4⟩ := indexByte_some h2
        have hsz1 : (⟨#[c]⟩ : ByteArray).size = 1 := rfl
        have hsz : (s.extract (i + 1) s.size).size = s.size - (i + 1) := by simp [ByteArray.size_extract]
        obtain ⟨i1, i2⟩ := ih (s.extract (i + 1) s.size) (by omega)
        rw [pieces_hit h4 h3, countB_hit s ⟨#[c]⟩ i (Nat.le_refl 1) h, List.length_cons, i1, hsz1]
        refine ⟨by omega, ?_⟩
        omega

end Go.Proofs.YtpddgladbodkbaaDoor
