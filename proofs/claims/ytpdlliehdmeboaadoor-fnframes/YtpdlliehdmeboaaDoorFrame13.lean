/- What is written is read. -/
import Derived.Test.YtpdlliehdmeboaaDoorRows
import Derived.WalkKit
import Derived.ProofKit
import Derived.OpenShut
import Derived.ShutString
import Derived.ChangeOld
import Derived.Below
import Derived.Deep.QuietTactic
import Derived.BigQuiet
import Derived.WalkSmall
import Derived.Laws.OwnMore
import Derived.WalkSpells
import Derived.WalkLawsBesides
import Derived.Test.YtpdlliehdmeboaaDoorFrame12
namespace Go.Proofs.YtpdlliehdmeboaaDoor
open Go.ChangeShapes Go.WideShapes Go.ChangeAt Go.RowKit
open Go.ChangeMaps (open_string shut_string)
set_option linter.unusedVariables false

theorem written_ok {a b c : Int} {L : List Int} (h : okF a b c L.length = true) : written a b c L = a :: b :: c :: (L.length : Int) :: (L ++ low4 (sumL (body a b c L))) := by
  have hn := (okF_of h).2.2.2
  unfold written
  rw [if_pos h]
  have e : body a b c L = a :: b :: c :: (L.length : Int) :: L := by
    unfold body
    rw [putZ_small (by omega) (by omega)]
    rfl
  rw [e]
  rfl
theorem getFrom_first {len : Int} {g : Nat → Int} {m : Nat} (h3 : 3 < len) (hg : g 0 = (m : Int)) (hm : m ≤ 30) : getFrom len 3 g 5 0 = some ((m : Int), 4) := by
  have hv : val g 1 = (m : Int) := by
    show (0 : Int) + g 0 % 128 * 128 ^ 0 = _
    rw [hg]
    simp
    omega
  show (if (3 : Int) < 0 ∨ len - ((0 : Nat) : Int) ≤ 3 then none else if g 0 < 128 then (if (0 < 0 ∧ g 0 = 0) ∨ 2147483647 < val g (0 + 1) then none else some (val g (0 + 1), 3 + ((0 : Nat) : Int) + 1)) else getFrom len 3 g 4 (0 + 1)) = _
  rw [if_neg (by simp; omega), if_pos (by rw [hg]; omega), hv, if_neg (by omega)]
  rfl
theorem frameOf_written {a b c : Int} {L : List Int} (h : okF a b c L.length = true) : frameOf (written a b c L) = ⟨a, b, c, L, true⟩ := by
  have hn := (okF_of h).2.2.2
  have e := written_ok h
  have hl : (written a b c L).length = L.length + 8 := by rw [e]; simp [low4]
  have hg : getFrom (written a b c L).length 3 (fun i => (written a b c L).getD (3 + i) 0) 5 0 = some ((L.length : Int), 4) :=
    getFrom_first (by rw [hl]; omega) (by rw [e]; rfl) hn
  unfold frameOf
  rw [hg]
  show (if (L.length : Int) ≠ ((written a b c L).length : Int) - 4 - 4 then FR.no else if eqL (written ((written a b c L).getD 0 0) ((written a b c L).getD 1 0) ((written a b c L).getD 2 0) (((written a b c L).drop 4).take (L.length : Int).toNat)) (written a b c L) = true then FR.mk ((written a b c L).getD 0 0) ((written a b c L).getD 1 0) ((written a b c L).getD 2 0) (((written a b c L).drop 4).take (L.length : Int).toNat) true else FR.no) = _
  have e0 : (written a b c L).getD 0 0 = a := by rw [e]; rfl
  have e1 : (written a b c L).getD 1 0 = b := by rw [e]; rfl
  have e2 : (written a b c L).getD 2 0 = c := by rw [e]; rfl
  have e3 : ((written a b c L).drop 4).take (L.length : Int).toNat = L := by
    rw [e]
    show (L ++ low4 _).take _ = L
    rw [show (L.length : Int).toNat = L.length by omega, List.take_left]
  rw [e0, e1, e2, e3, hl, if_neg (by omega), if_pos (eqL_self _)]
theorem frameOf_cut {a b c : Int} {L : List Int} (h : okF a b c L.length = true) : (frameOf ((written a b c L).take ((written a b c L).length - 1))).ok = false := by
  have hn := (okF_of h).2.2.2
  have e := written_ok h
  have hl : (written a b c L).length = L.length + 8 := by rw [e]; simp [low4]
  obtain ⟨V, hV⟩ : ∃ V, V = (written a b c L).take ((written a b c L).length - 1) := ⟨_, rfl⟩
  have hvl : V.length = L.length + 7 := by rw [hV, List.length_take, hl]; omega
  have h3 : V.getD 3 0 = (L.length : Int) := by
    rw [hV, hl]
    have : ((written a b c L).take (L.length + 8 - 1)).getD 3 0 = (written a b c L).getD 3 0 := by
      simp [List.getD]
    rw [this, e]
    rfl
  rw [← hV]
  have hg : getFrom V.length 3 (fun i => V.getD (3 + i) 0) 5 0 = some ((L.length : Int), 4) := getFrom_first (by rw [hvl]; omega) h3 hn
  unfold frameOf
  rw [hg]
  show (if (L.length : Int) ≠ (V.length : Int) - 4 - 4 then FR.no else _).ok = false
  rw [if_pos (by rw [hvl]; omega)]
  rfl
theorem frameOf_eq {L : List Int} (h : (frameOf L).ok = true) : eqL (written (frameOf L).a (frameOf L).b (frameOf L).c (frameOf L).M) L = true := by
  rcases of_ways L with ⟨_, e⟩ | ⟨_, _, _, _, _, _, _, e⟩ | ⟨p, q, _, _, _, e⟩
  · rw [e] at h; simp [FR.no] at h
  · rw [e] at h; simp [FR.no] at h
  · rw [e] at h ⊢
    split at h
    · rename_i h2; rw [if_pos h2]; exact h2
    · simp [FR.no] at h
theorem frameOf_bytes {L : List Int} (hL : ∀ x ∈ L, 0 ≤ x ∧ x ≤ 255) : ∀ x ∈ (frameOf L).M, 0 ≤ x ∧ x ≤ 255 := by
  rcases of_ways L with ⟨_, e⟩ | ⟨_, _, _, _, _, _, _, e⟩ | ⟨p, q, _, _, _, e⟩
  · rw [e]; intro x hx; simp [FR.no] at hx
  · rw [e]; intro x hx; simp [FR.no] at hx
  · rw [e]
    split
    · exact cut_bd hL p q
    · intro x hx; simp [FR.no] at hx
theorem sameT_self (f : Nat → Int) (n : Nat) : sameT f n f n = true := by unfold sameT; simp
theorem sameF_self (a b c : Int) (f : Nat → Int) (n : Nat) : sameF a b c a b c (sameT f n f n) = true := by unfold sameF; simp [sameT_self]

end Go.Proofs.YtpdlliehdmeboaaDoor
