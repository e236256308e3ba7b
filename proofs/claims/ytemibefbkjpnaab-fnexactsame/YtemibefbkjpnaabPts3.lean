/- Lists of ports: marked. -/
import Derived.Test.YtemibefbkjpnaabRows
import Derived.WalkKit
import Derived.ProofKit
import Derived.OpenShut
import Derived.ShutString
import Derived.ChangeOld
import Derived.Below
import Derived.Deep.QuietTactic
import Derived.BigQuiet
import Derived.WalkSmall
import Derived.Laws.OwnMore
import Derived.WalkSpells
import Derived.WalkLawsBesides
import Derived.Test.YtemibefbkjpnaabPts1
namespace Go.Proofs.Ytemibefbkjpnaab
open Go.ChangeShapes Go.WideShapes Go.ChangeAt Go.RowKit
open Go.ChangeMaps (open_string shut_string)
set_option linter.unusedVariables false
set_option maxRecDepth 100000

/-- The marks that the law lays upon one, from s on. -/
def ptMk (s : Int) (i : Nat) : Pt := ⟨decide (((s + 11 * (i : Int))) % 3 = 0), decide (((s + 11 * (i : Int)) + 1) % 3 = 0), (s + 11 * (i : Int)) + 1 + 1, (s + 11 * (i : Int)) + 1 + 1 + 1, (s + 11 * (i : Int)) + 1 + 1 + 1 + 1, (s + 11 * (i : Int)) + 1 + 1 + 1 + 1 + 1, (s + 11 * (i : Int)) + 1 + 1 + 1 + 1 + 1 + 1, (s + 11 * (i : Int)) + 1 + 1 + 1 + 1 + 1 + 1 + 1, (s + 11 * (i : Int)) + 1 + 1 + 1 + 1 + 1 + 1 + 1 + 1, (s + 11 * (i : Int)) + 1 + 1 + 1 + 1 + 1 + 1 + 1 + 1 + 1, decide (((s + 11 * (i : Int)) + 1 + 1 + 1 + 1 + 1 + 1 + 1 + 1 + 1 + 1) % 3 = 0)⟩
end Go.Proofs.Ytemibefbkjpnaab
