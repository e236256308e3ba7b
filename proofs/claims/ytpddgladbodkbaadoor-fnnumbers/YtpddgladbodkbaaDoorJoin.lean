/- The pieces of a text joined. -/
import Derived.Test.YtpddgladbodkbaaDoorRows
import Derived.WalkKit
import Derived.ProofKit
import Derived.OpenShut
import Derived.ShutString
import Derived.ChangeOld
import Derived.Below
import Derived.Deep.QuietTactic
import Derived.BigQuiet
import Derived.WalkSmall
import Derived.Laws.OwnMore
import Derived.Test.YtpddgladbodkbaaDoorSplitMath
namespace Go.Proofs.YtpddgladbodkbaaDoor
open Go.ChangeShapes Go.WideShapes Go.ChangeAt Go.RowKit
open Go.ChangeMaps (open_string shut_string)
set_option linter.unusedVariables false

/-- Texts with the byte c between them. -/
def J (c : UInt8) : List ByteArray → List UInt8
  | [] => []
  | [p] => p.data.toList
  | p :: q :: r => p.data.toList ++ c :: J c (q :: r)
theorem J_cons (c : UInt8) (p : ByteArray) {L : List ByteArray} (h : L ≠ []) : J c (p :: L) = p.data.toList ++ c :: J c L := by
  cases L with
  | nil => exact absurd rfl h
  | cons q r => rfl
theorem J_append (c : UInt8) : ∀ (A B : List ByteArray), A ≠ [] → B ≠ [] → J c (A ++ B) = J c A ++ c :: J c B
  | [], B, h, _ => absurd rfl h
  | [p], B, _, hB => by rw [List.singleton_append, J_cons c p hB]; rfl
  | p :: q :: r, B, _, hB => by
    rw [List.cons_append, J_cons c p (by simp), J_append c (q :: r) B (by simp) hB, J_cons c p (by simp)]
    simp
theorem pieces_ne (c : UInt8) (s : ByteArray) : pieces c s ≠ [] := by
  intro e
  have := (pieces_len c s.size s (Nat.le_refl _)).1
  rw [e] at this
  simp at this
open Go.Lib in
/-- The pieces of a text, with what was between, are it. -/
theorem J_pieces (c : UInt8) : ∀ (n : Nat) (s : ByteArray), s.size ≤ n → J c (pieces c s) = s.data.toList := by
  intro n
  induction n with
  | zero =>
    intro s hs
    have hl : s.data.toList = [] := List.eq_nil_of_length_eq_zero (by have : s.data.toList.length = s.size := Array.length_toList; omega)
    rw [pieces_miss (fun j => by rw [hl]; simp)]
    rfl
  | succ n ih =>
    intro s hs
    by_cases hm : ∀ j : Nat, s.data.toList[j]? ≠ some c
    · rw [pieces_miss hm]; rfl
    · rcases indexB_cases s ⟨#[c]⟩ with h | ⟨i, h, hi⟩
      · rw [indexB_byte] at h
        exact absurd (indexByte_none h) hm
      · rw [indexB_byte] at h
        obtain ⟨h3, h4⟩ := indexByte_some h
        have hsz : (s.extract (i + 1) s.size).size = s.size - (i + 1) := by simp [ByteArray.size_extract]
        have hlt : i < s.data.toList.length := (List.getElem?_eq_some_iff.1 h3).1
        have hl : s.data.toList.length = s.size := Array.length_toList
        rw [pieces_hit h4 h3, J_cons c _ (pieces_ne _ _), ih _ (by omega), extract_to_end, extract_data]
        have e : s.data.toList[i] = c := (List.getElem?_eq_some_iff.1 h3).2
        have hd : s.data.toList.drop i = c :: s.data.toList.drop (i + 1) := by rw [List.drop_eq_getElem_cons hlt, e]
        rw [← hd, List.drop_zero, Nat.sub_zero, List.take_append_drop]
theorem J_take_len (c : UInt8) (L : List ByteArray) (k : Nat) : (J c (L.take k)).length ≤ (J c L).length := by
  by_cases h0 : L.take k = []
  · rw [h0]; simp [J]
  by_cases h1 : L.drop k = []
  · have e : L.take k = L := by
      have e2 := List.take_append_drop k L
      rw [h1, List.append_nil] at e2
      exact e2
    rw [e]; exact Nat.le_refl _
  · have e := J_append c _ _ h0 h1
    rw [List.take_append_drop] at e
    rw [e]
    simp
theorem J_next (c : UInt8) (L : List ByteArray) (k : Nat) (hk : k < L.length) : J c (L.take (k + 1)) = if k = 0 then (L.getD k ByteArray.empty).data.toList else J c (L.take k) ++ c :: (L.getD k ByteArray.empty).data.toList := by
  have e : L.take (k + 1) = L.take k ++ [L[k]] := List.take_succ_eq_append_getElem hk
  have eg : L.getD k ByteArray.empty = L[k] := by simp [List.getD, List.getElem?_eq_getElem hk]
  rw [e, eg]
  by_cases h0 : k = 0
  · subst h0; simp [J]
  · rw [if_neg h0, J_append c _ _ (by intro e2; have := congrArg List.length e2; rw [List.length_take, List.length_nil] at this; omega) (by simp)]
    rfl

end Go.Proofs.YtpddgladbodkbaaDoor
