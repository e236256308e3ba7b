/- Registers, in plain words. -/
import Derived.Test.YtnpiljegdiconaaGreatRows
import Derived.WalkKit
import Derived.ProofKit
import Derived.OpenShut
import Derived.ShutString
import Derived.ChangeOld
import Derived.Below
import Derived.Deep.QuietTactic
import Derived.BigQuiet
import Derived.WalkSmall
import Derived.Laws.OwnMore
import Derived.WalkSpells
import Derived.WalkLawsBesides
import Derived.Test.YtnpiljegdiconaaGreatMi0
namespace Go.Proofs.YtnpiljegdiconaaGreat
open Go.ChangeShapes Go.WideShapes Go.ChangeAt Go.RowKit
open Go.ChangeMaps (open_string shut_string)
set_option linter.unusedVariables false
set_option maxRecDepth 100000

/-- A register, as it stands in plain words. -/
structure Rg where
  ep : Int
  ow : Int
  pa : Int
def rgOk (r : Rg) : Bool := decide (1 ≤ r.ep ∧ r.ep ≤ 100000) && (decide (0 ≤ r.ow ∧ r.ow ≤ 1) && numB r.pa)
def mindsB (r : Rg) (s : Int) (m : Mi) : Bool := rgOk r && (miOk m && (m.up && (decide (s = r.ow) && decide (m.ep = r.ep))))
theorem minds_is {r : Rg} {s : Int} {m : Mi} : mindsB r s m = true ↔ rgOk r = true ∧ miOk m = true ∧ m.up = true ∧ s = r.ow ∧ m.ep = r.ep := by
  unfold mindsB
  simp only [Bool.and_eq_true, decide_eq_true_eq]
/-- One minds at most. -/
theorem minds_one {r : Rg} {s : Int} {m n : Mi} (h : mindsB r s m = true) : mindsB r (1 - s) n = false := by
  have h1 := (minds_is.1 h).2.2.2.1
  cases e : mindsB r (1 - s) n with
  | false => rfl
  | true =>
    have h2 := (minds_is.1 e).2.2.2.1
    omega
def takeG (r : Rg) (s : Int) (m : Mi) : Bool :=
  rgOk r && (miOk m && (m.up && (decide (0 ≤ s ∧ s ≤ 1) && (decide (s ≠ r.ow) && (decide (0 < m.li) && decide (m.li = r.pa))))))
def takeN (r : Rg) (s : Int) : Rg := ⟨r.ep + 1, s, 0⟩
def takeM (r : Rg) (m : Mi) : Mi := ⟨m.up, m.li, r.ep + 1, m.lg, m.sd, 0, 0⟩
def takeB (r : Rg) (s : Int) (m : Mi) : Bool := takeG r s m && (rgOk (takeN r s) && miOk (takeM r m))
theorem takeG_is {r : Rg} {s : Int} {m : Mi} : takeG r s m = true ↔ rgOk r = true ∧ miOk m = true ∧ m.up = true ∧ (0 ≤ s ∧ s ≤ 1) ∧ s ≠ r.ow ∧ 0 < m.li ∧ m.li = r.pa := by
  unfold takeG
  simp only [Bool.and_eq_true, decide_eq_true_eq]
theorem take_minds {r : Rg} {s : Int} {m : Mi} (h : takeB r s m = true) : mindsB (takeN r s) s (takeM r m) = true := by
  unfold takeB at h
  rw [Bool.and_eq_true, Bool.and_eq_true] at h
  exact minds_is.2 ⟨h.2.1, h.2.2, (takeG_is.1 h.1).2.2.1, rfl, rfl⟩
/-- Who minded it does not: its number is an elder one. -/
theorem take_deposes {r : Rg} {s t : Int} {m n : Mi} (h : mindsB r t n = true) : mindsB (takeN r s) t n = false := by
  have h1 := (minds_is.1 h).2.2.2.2
  cases e : mindsB (takeN r s) t n with
  | false => rfl
  | true =>
    have h2 := (minds_is.1 e).2.2.2.2
    have h3 : (takeN r s).ep = r.ep + 1 := rfl
    omega
def pairsB (r : Rg) (s : Int) (m : Mi) (p : Int) : Bool := mindsB r s m && (decide (p = 0) || (decide (p = m.al) && decide (m.ac = (m.lg.length : Int))))
def pairsR (r : Rg) (s : Int) (m : Mi) (p : Int) : Rg := if pairsB r s m p then ⟨r.ep, r.ow, p⟩ else r
theorem miOk_iff {m : Mi} : miOk m = true ↔ numB m.li = true ∧ numB m.ep = true ∧ numB m.al = true ∧ insB m.lg = true ∧ (0 ≤ m.sd ∧ m.sd ≤ (m.lg.length : Int)) ∧ (0 ≤ m.ac ∧ m.ac ≤ (m.lg.length : Int)) ∧ (m.up = true ∨ m.ep = 0 ∧ m.lg.length = 0 ∧ m.al = 0) := by
  unfold miOk
  simp only [Bool.and_eq_true, Bool.or_eq_true, decide_eq_true_eq]
theorem rgOk_is {r : Rg} : rgOk r = true ↔ (1 ≤ r.ep ∧ r.ep ≤ 100000) ∧ (0 ≤ r.ow ∧ r.ow ≤ 1) ∧ numB r.pa = true := by
  unfold rgOk
  simp only [Bool.and_eq_true, decide_eq_true_eq]
theorem pairs_minds {r : Rg} {s : Int} {m : Mi} {p : Int} (h : pairsB r s m p = true) : mindsB (pairsR r s m p) s m = true ∧ (pairsR r s m p).pa = p := by
  unfold pairsR
  rw [if_pos h]
  refine ⟨?_, rfl⟩
  unfold pairsB at h
  simp only [Bool.and_eq_true, Bool.or_eq_true, decide_eq_true_eq] at h
  obtain ⟨h1, h2⟩ := h
  obtain ⟨a, b, c, d, e⟩ := minds_is.1 h1
  obtain ⟨a1, a2, _⟩ := rgOk_is.1 a
  refine minds_is.2 ⟨rgOk_is.2 ⟨a1, a2, ?_⟩, b, c, d, e⟩
  show numB p = true
  rcases h2 with z | ⟨z, _⟩
  · rw [z]; decide
  · rw [z]; exact (miOk_iff.1 b).2.2.1
theorem pairs_not {r : Rg} {s : Int} {m : Mi} {p : Int} (h : pairsB r s m p = false) : pairsR r s m p = r := by unfold pairsR; rw [h]; rfl

end Go.Proofs.YtnpiljegdiconaaGreat
