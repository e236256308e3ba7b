/- How much is said. -/
import Derived.Test.YtghmmcenjdbfgaaRows
import Derived.WalkKit
import Derived.ProofKit
import Derived.OpenShut
import Derived.ShutString
import Derived.ChangeOld
import Derived.Below
import Derived.Deep.QuietTactic
import Derived.BigQuiet
import Derived.WalkSmall
import Derived.Laws.OwnMore
import Derived.WalkSpells
import Derived.WalkLawsBesides
import Derived.Test.YtghmmcenjdbfgaaRe5
namespace Go.Proofs.Ytghmmcenjdbfgaa
open Go.ChangeShapes Go.WideShapes Go.ChangeAt Go.RowKit
open Go.ChangeMaps (open_string shut_string)
set_option linter.unusedVariables false
set_option maxRecDepth 100000

theorem bOk_len4 {id : Int} {L : List Pt} (h : bOk id L = true) : L.length ≤ 4 := (bOk_all h).2.1.2
theorem reactO_len (id : Int) (L : List Pt) (x : Ik) : (reactO id L x).length ≤ 8 := by
  unfold reactO
  split
  · rename_i h
    unfold goes at h
    simp only [Bool.and_eq_true] at h
    have h4 := bOk_len4 h.1
    have h1 := gates_len L (afterL id L x) L.length
    have h2 := told_len id (afterL id L x) L.length
    rw [List.length_append]
    split
    · omega
    · simp; omega
  · simp

end Go.Proofs.Ytghmmcenjdbfgaa
