/- What a gate that is turned twice leaves. -/
import Derived.Test.YtifndemkkaelaaaRows
import Derived.WalkKit
import Derived.ProofKit
import Derived.OpenShut
import Derived.ShutString
import Derived.ChangeOld
import Derived.Below
import Derived.Deep.QuietTactic
import Derived.BigQuiet
import Derived.WalkSmall
import Derived.Laws.OwnMore
import Derived.WalkSpells
import Derived.WalkLawsBesides
import Derived.Test.YtifndemkkaelaaaGate0
namespace Go.Proofs.Ytifndemkkaelaaa
open Go.ChangeShapes Go.WideShapes Go.ChangeAt Go.RowKit
open Go.ChangeMaps (open_string shut_string)
set_option linter.unusedVariables false

theorem bef_trans {x y z : Hd} (h1 : x.bef y = true) (h2 : y.bef z = true) : x.bef z = true := by
  unfold Hd.bef at *
  simp at *
  omega
theorem ord_all {L : List Hd} (o : ∀ i, i < L.length → 0 < i → (L.getD (i - 1) Hd.nil).bef (L.getD i Hd.nil) = true) (i : Nat) : ∀ d, i + d + 1 < L.length → (L.getD i Hd.nil).bef (L.getD (i + d + 1) Hd.nil) = true := by
  intro d
  induction d with
  | zero => intro h; exact o (i + 1) h (by omega)
  | succ d ih => intro h; exact bef_trans (ih (by omega)) (o (i + d + 1 + 1) h (by omega))
theorem bigYes (ad : Option Addr) (len cap : Nat) (w : World) (h : (1048576 : Int) < (len : Int)) : Calls Try.prog 6 #[.slice ad len cap] w fun e w' => e = .returned (.bool true) ∧ w' = w := by
  go_enter Try.func6, Try.ntmps6
  go_wp2
  go_ret
  exact ⟨rfl, rfl⟩
theorem bigNo (ad : Option Addr) (len cap : Nat) (w : World) (h : len ≤ 1048576) : Calls Try.prog 6 #[.slice ad len cap] w fun e w' => e = .returned (.bool false) ∧ w' = w := by
  have h' : decide ((1048576 : Int) < (len : Int)) = false := decide_eq_false (by omega)
  go_enter Try.func6, Try.ntmps6
  go_wp2
  go_ret
  exact ⟨rfl, rfl⟩
theorem tok_pw {L : List Hd} (h : TOk L) : L.Pairwise (fun x y => x.bef y = true) := by
  rw [List.pairwise_iff_getElem]
  intro i j hi hj hij
  obtain ⟨d, rfl⟩ : ∃ d, j = i + d + 1 := ⟨j - i - 1, by omega⟩
  have := ord_all h.2.2 i d hj
  simpa [List.getD, List.getElem?_eq_getElem hi, List.getElem?_eq_getElem hj] using this
theorem pw_tok {L : List Hd} (h1 : L.length ≤ 12) (h2 : ∀ x ∈ L, x.fits = true) (h3 : L.Pairwise (fun x y => x.bef y = true)) : TOk L := by
  refine ⟨h1, fun i hi => h2 _ (by simp [List.getD, List.getElem?_eq_getElem hi]), fun i hi hp => ?_⟩
  rw [List.pairwise_iff_getElem] at h3
  have := h3 (i - 1) i (by omega) hi (by omega)
  simpa [List.getD, List.getElem?_eq_getElem hi, List.getElem?_eq_getElem (by omega : i - 1 < L.length)] using this
theorem tok_forgot {L : List Hd} (h : TOk L) (p : Int) : TOk (forgot p L) := by
  refine pw_tok (Nat.le_trans (forgot_len p L) h.1) (fun x hx => ?_) ((tok_pw h).filter _)
  have hx' := (List.mem_filter.1 hx).1
  obtain ⟨i, hi, e⟩ := List.getElem_of_mem hx'
  have := h.2.1 i hi
  rw [← e]
  simpa [List.getD, List.getElem?_eq_getElem hi] using this
theorem forgot_twice (p : Int) (L : List Hd) : forgot p (forgot p L) = forgot p L := by
  simp [forgot]
/-- A gate that is turned, and back again. -/
theorem flush {O : List Bool} {D : DL} {T : List Hd} {i : Nat} {q : Bool} (hC : cOk O D T = true) (hi : i < O.length) (hq : O.getD i false = q) :
    gO O D T (i : Int) (!q) = O.set i (!q) ∧ gT O D T (i : Int) (!q) = forgot (i : Int) T ∧ gO (O.set i (!q)) D (forgot (i : Int) T) (i : Int) q = O ∧ gT (O.set i (!q)) D (forgot (i : Int) T) (i : Int) q = forgot (i : Int) T ∧ cOk O D (forgot (i : Int) T) = true := by
  have hd : decide (0 ≤ (i : Int) ∧ (i : Int) < (O.length : Int)) = true := decide_eq_true (by omega)
  have hd2 : decide (0 ≤ (i : Int) ∧ (i : Int) < ((O.set i (!q)).length : Int)) = true := decide_eq_true (by rw [List.length_set]; omega)
  have t1 : gTurn O D T (i : Int) (!q) = true := by unfold gTurn; rw [hC, hd, Int.toNat_natCast, hq]; cases q <;> rfl
  have hT : tokB T = true := by
    unfold cOk at hC
    simp only [Bool.and_eq_true] at hC
    exact hC.2.2.2.2
  have hTf : tokB (forgot (i : Int) T) = true := tokB_yes (tok_forgot (tokB_of hT) _)
  have c0 : cOk O D (forgot (i : Int) T) = true := by
    unfold cOk at hC ⊢
    simp only [Bool.and_eq_true] at hC ⊢
    exact ⟨hC.1, hC.2.1, hC.2.2.1, hC.2.2.2.1, hTf⟩
  have c1 : cOk (O.set i (!q)) D (forgot (i : Int) T) = true := by
    unfold cOk at c0 ⊢
    rw [List.length_set]
    exact c0
  have hg : (O.set i (!q)).getD i false = !q := by simp [List.getD, hi]
  have t2 : gTurn (O.set i (!q)) D (forgot (i : Int) T) (i : Int) q = true := by unfold gTurn; rw [c1, hd2, Int.toNat_natCast, hg]; cases q <;> rfl
  have hq' : O[i] = q := by simpa [List.getD, List.getElem?_eq_getElem hi] using hq
  refine ⟨?_, ?_, ?_, ?_, c0⟩
  · unfold gO; rw [if_pos t1, Int.toNat_natCast]
  · unfold gT; rw [if_pos t1]
  · unfold gO; rw [if_pos t2, Int.toNat_natCast, List.set_set, ← hq', List.set_getElem_self]
  · unfold gT; rw [if_pos t2, forgot_twice]

end Go.Proofs.Ytifndemkkaelaaa
