/- waitTurned, l7Open, impl.Turn, walked. -/
import Derived.Test.YtjholgpjicliaaaDoorRows
import Derived.WalkKit
import Derived.ProofKit
import Derived.OpenShut
import Derived.ShutString
import Derived.ChangeOld
import Derived.Below
import Derived.Deep.QuietTactic
import Derived.BigQuiet
import Derived.WalkSmall
import Derived.Laws.OwnMore
import Derived.WalkSpells
import Derived.WalkLawsBesides
import Derived.Test.YtjholgpjicliaaaDoorPort4
namespace Go.Proofs.YtjholgpjicliaaaDoor
open Go.ChangeShapes Go.WideShapes Go.ChangeAt Go.RowKit
open Go.ChangeMaps (open_string shut_string)
set_option linter.unusedVariables false
set_option maxRecDepth 100000

/-- How long a port waits once it is turned. -/
def waitR (ro wa role : Int) : Int := if role = 3 then 0 else if ro = 3 then 4 else wa
/-- What Turn answers. -/
def turnR (x : Pt) (role : Int) : Pt := if pOk x && (x.up && raUp role) then ⟨x.up, x.has, x.r, x.c, x.b, x.p, x.h, x.l, role, waitR x.ro x.wa role, raOp role (waitR x.ro x.wa role)⟩ else x
end Go.Proofs.YtjholgpjicliaaaDoor
