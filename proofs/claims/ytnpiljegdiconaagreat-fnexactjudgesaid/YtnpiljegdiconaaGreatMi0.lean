/- Minders, in plain words. -/
import Derived.Test.YtnpiljegdiconaaGreatRows
import Derived.WalkKit
import Derived.ProofKit
import Derived.OpenShut
import Derived.ShutString
import Derived.ChangeOld
import Derived.Below
import Derived.Deep.QuietTactic
import Derived.BigQuiet
import Derived.WalkSmall
import Derived.Laws.OwnMore
import Derived.WalkSpells
import Derived.WalkLawsBesides
import Derived.Test.YtnpiljegdiconaaGreatIn1
namespace Go.Proofs.YtnpiljegdiconaaGreat
open Go.ChangeShapes Go.WideShapes Go.ChangeAt Go.RowKit
open Go.ChangeMaps (open_string shut_string)
set_option linter.unusedVariables false
set_option maxRecDepth 100000

/-- A minder, as it stands in plain words. -/
structure Mi where
  up : Bool
  li : Int
  ep : Int
  lg : List Ik
  sd : Int
  ac : Int
  al : Int
def numB (v : Int) : Bool := decide (0 ≤ v ∧ v ≤ 100000)
def insB (X : List Ik) : Bool := X.all inOk && decide (X.length ≤ 60)
def miOk (m : Mi) : Bool :=
  numB m.li && (numB m.ep && (numB m.al && (insB m.lg && (decide (0 ≤ m.sd ∧ m.sd ≤ (m.lg.length : Int)) && (decide (0 ≤ m.ac ∧ m.ac ≤ (m.lg.length : Int)) && (m.up || (decide (m.ep = 0) && (decide (m.lg.length = 0) && decide (m.al = 0)))))))))
def noteM (m : Mi) (x : Ik) : Mi := ⟨m.up, m.li, m.ep, m.lg ++ [x], m.sd, m.ac, m.al⟩
def noteB (m : Mi) (x : Ik) : Bool := m.up && miOk (noteM m x)
def noteR (m : Mi) (x : Ik) : Mi := if noteB m x then noteM m x else m
theorem note_not {m : Mi} {x : Ik} (h : noteB m x = false) : noteR m x = m := by unfold noteR; rw [h]; rfl
theorem note_log {m : Mi} {x : Ik} (h : noteB m x = true) : (noteR m x).lg = m.lg ++ [x] := by unfold noteR; rw [if_pos h]; rfl
theorem note_len {m : Mi} {x : Ik} (h : noteB m x = true) : (noteR m x).lg.length = m.lg.length + 1 := by rw [note_log h]; simp
theorem note_last {m : Mi} {x : Ik} (h : noteB m x = true) (d : Ik) : (noteR m x).lg.getD m.lg.length d = x := by rw [note_log h]; simp [List.getD]
theorem note_ok {m : Mi} {x : Ik} (h : noteB m x = true) : miOk (noteR m x) = true := by
  unfold noteR; rw [if_pos h]; unfold noteB at h; rw [Bool.and_eq_true] at h; exact h.2
def readyB (m : Mi) (p : Int) : Bool :=
  m.up && (decide (0 < m.ep) && (decide (m.sd < (m.lg.length : Int)) && (decide (p = 0) || (decide (m.al = p) && decide (m.sd < m.ac)))))
theorem ready_is {m : Mi} {p : Int} (h : readyB m p = true) : m.sd < (m.lg.length : Int) ∧ (p ≠ 0 → m.sd < m.ac) := by
  unfold readyB at h
  simp only [Bool.and_eq_true, Bool.or_eq_true, decide_eq_true_eq] at h
  refine ⟨h.2.2.1, fun hp => ?_⟩
  rcases h.2.2.2 with e | e
  · exact absurd e hp
  · exact e.2

end Go.Proofs.YtnpiljegdiconaaGreat
