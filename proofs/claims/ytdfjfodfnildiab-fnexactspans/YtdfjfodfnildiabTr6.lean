/- impl.Passes, walked. -/
import Derived.Test.YtdfjfodfnildiabRows
import Derived.WalkKit
import Derived.ProofKit
import Derived.OpenShut
import Derived.ShutString
import Derived.ChangeOld
import Derived.Below
import Derived.Deep.QuietTactic
import Derived.BigQuiet
import Derived.WalkSmall
import Derived.Laws.OwnMore
import Derived.WalkSpells
import Derived.WalkLawsBesides
import Derived.Deep.Cut
import Derived.Laws.StructEq
import Derived.Test.YtdfjfodfnildiabTr4
import Derived.Test.YtdfjfodfnildiabNi4
import Derived.Test.YtdfjfodfnildiabTakes
namespace Go.Proofs.Ytdfjfodfnildiab
open Go.ChangeShapes Go.WideShapes Go.ChangeAt Go.RowKit
open Go.ChangeMaps (open_string shut_string)
set_option linter.unusedVariables false
set_option maxRecDepth 100000

theorem netP_ports {B : List Bg} {K : List Lk} (h : NetP B K) {l : Lk} (hl : l ∈ K) : PortP B l.a l.p ∧ PortP B l.b l.q := ⟨(h.link l hl).2.1.port, (h.link l hl).2.2.port⟩
theorem getD_mem {K : List Lk} {i : Nat} (h : i < K.length) : K.getD i Lk.nil ∈ K := by
  rw [show K.getD i Lk.nil = K[i] by simp [List.getD, h]]
  exact List.getElem_mem h
/-- What comes to that link goes over it. -/
def PassP (B : List Bg) (K : List Lk) (m : Int) : Prop := NetP B K ∧ 0 ≤ m ∧ m < (K.length : Int) ∧ openB B (K.getD m.toNat Lk.nil) = true
end Go.Proofs.Ytdfjfodfnildiab
