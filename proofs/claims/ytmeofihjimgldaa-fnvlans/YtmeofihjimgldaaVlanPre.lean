/- What goes out comes in as it was, in plain lists. -/
import Derived.Test.YtmeofihjimgldaaRows
import Derived.WalkKit
import Derived.ProofKit
import Derived.OpenShut
import Derived.ShutString
import Derived.ChangeOld
import Derived.Below
import Derived.Deep.QuietTactic
import Derived.BigQuiet
import Derived.WalkSmall
import Derived.Laws.OwnMore
import Derived.WalkSpells
import Derived.WalkLawsBesides
import Derived.Test.YtmeofihjimgldaaDrawV
import Derived.Test.YtmeofihjimgldaaSame
import Derived.Test.YtmeofihjimgldaaInside2
import Derived.Test.YtmeofihjimgldaaOutside1
import Derived.Test.YtmeofihjimgldaaOutside2
import Derived.Test.YtmeofihjimgldaaInsLen
import Derived.Test.YtmeofihjimgldaaNets5
namespace Go.Proofs.Ytmeofihjimgldaa
open Go.ChangeShapes Go.WideShapes Go.ChangeAt Go.RowKit
open Go.ChangeMaps (open_string shut_string)
set_option linter.unusedVariables false

theorem getD_bd {B : List Int} (h : ∀ x ∈ B, 0 ≤ x ∧ x ≤ 255) (i : Nat) : 0 ≤ B.getD i 0 ∧ B.getD i 0 ≤ 255 := by
  by_cases hi : i < B.length
  · have := h B[i] (List.getElem_mem hi)
    simpa [List.getD, List.getElem?_eq_getElem hi] using this
  · simp [List.getD, List.getElem?_eq_none (by omega : B.length ≤ i)]
theorem bigYes (ad : Option Addr) (len cap : Nat) (w : World) (h : (1048576 : Int) < (len : Int)) : Calls Try.prog 7 #[.slice ad len cap] w fun e w' => e = .returned (.bool true) ∧ w' = w := by
  go_enter Try.func7, Try.ntmps7
  go_wp2
  go_ret
  exact ⟨rfl, rfl⟩
theorem bigNo (ad : Option Addr) (len cap : Nat) (w : World) (h : len ≤ 1048576) : Calls Try.prog 7 #[.slice ad len cap] w fun e w' => e = .returned (.bool false) ∧ w' = w := by
  have h' : decide ((1048576 : Int) < (len : Int)) = false := decide_eq_false (by omega)
  go_enter Try.func7, Try.ntmps7
  go_wp2
  go_ret
  exact ⟨rfl, rfl⟩
theorem outR_bd {own : Int} {f : Nat → Int} {n : Nat} {a b c : Int} {L : List Int} (h : ∀ x ∈ L, 0 ≤ x ∧ x ≤ 255) : ∀ x ∈ (outR own f n a b c L).M, 0 ≤ x ∧ x ≤ 255 := by
  unfold outR
  split
  · exact h
  · intro x hx; cases hx
theorem insR_bd {own : Int} {f : Nat → Int} {n : Nat} {a b c : Int} {L : List Int} (h : ∀ x ∈ L, 0 ≤ x ∧ x ≤ 255) : ∀ x ∈ (insR own f n a b c L).M, 0 ≤ x ∧ x ≤ 255 := by
  unfold insR
  split
  · exact h
  · intro x hx; cases hx
theorem same_refl (a b c : Int) (f : Nat → Int) (n : Nat) : sameF a b c a b c (sameT f n f n) = true := by
  unfold sameF sameT
  simp
theorem okF_iff (a b c : Int) (n : Nat) : okF a b c n = true ↔ (0 ≤ a ∧ a ≤ 9 ∧ 1 ≤ b ∧ b ≤ 9 ∧ 0 ≤ c ∧ c ≤ 4 ∧ n ≤ 30) := by
  unfold okF
  rw [decide_eq_true_eq]
/-- What goes out is refused, and says nothing; or it comes in again as it was. -/
theorem out_in (own : Int) (f : Nat → Int) (n : Nat) (a b c : Int) (L : List Int) {ra rb rc : Int} {rM : List Int} {rok : Bool} (h : outR own f n a b c L = ⟨ra, rb, rc, rM, rok⟩) :
    (rok = false ∧ rb = 0) ∨ (rok = true ∧ insR own f n ra rb rc rM = ⟨a, b, c, L, true⟩) := by
  unfold outR at h
  split at h
  · rename_i hy
    obtain ⟨h1, h2, h3⟩ := hy
    simp only [FR.mk.injEq] at h
    obtain ⟨rfl, rfl, e, rfl, rfl⟩ := h
    refine .inr ⟨rfl, ?_⟩
    have hm : (asc f n && (decide (1 ≤ own ∧ own ≤ 4) && hasIn f n own)) = true := h2
    simp only [Bool.and_eq_true] at hm
    obtain ⟨i, hi, ei⟩ := (hasIn_iff f c n).1 h3
    have hc := asc_in hm.1 i hi
    rw [ei] at hc
    have ho := (okF_iff _ _ _ _).1 h1
    by_cases hco : c = own
    · rw [if_pos hco] at e
      subst e
      subst hco
      have hn : netOf c 0 = c := if_pos rfl
      have := insR_yes (own := c) (f := f) (n := n) (a := a) (b := b) (c := 0) (L := L) ⟨(okF_iff _ _ _ _).2 (by omega), h2, by rw [hn]; exact h3⟩
      rw [hn] at this
      exact this
    · rw [if_neg hco] at e
      subst e
      have hn : netOf own c = c := if_neg (by omega)
      have := insR_yes (own := own) (f := f) (n := n) (a := a) (b := b) (c := c) (L := L) ⟨h1, h2, by rw [hn]; exact h3⟩
      rw [hn] at this
      exact this
  · have h : FR.no = ⟨ra, rb, rc, rM, rok⟩ := h
    unfold FR.no at h
    simp only [FR.mk.injEq] at h
    exact .inl ⟨h.2.2.2.2.symm, h.2.1.symm⟩

end Go.Proofs.Ytmeofihjimgldaa
