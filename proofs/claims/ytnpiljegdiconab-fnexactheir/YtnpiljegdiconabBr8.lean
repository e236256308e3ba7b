/- impl.Decide, walked. -/
import Derived.Test.YtnpiljegdiconabRows
import Derived.WalkKit
import Derived.ProofKit
import Derived.OpenShut
import Derived.ShutString
import Derived.ChangeOld
import Derived.Below
import Derived.Deep.QuietTactic
import Derived.BigQuiet
import Derived.WalkSmall
import Derived.Laws.OwnMore
import Derived.WalkSpells
import Derived.WalkLawsBesides
import Derived.Deep.Cut
import Derived.Test.YtnpiljegdiconabBr7
import Derived.Test.YtnpiljegdiconabTakes
namespace Go.Proofs.Ytnpiljegdiconab
open Go.ChangeShapes Go.WideShapes Go.ChangeAt Go.RowKit
open Go.ChangeMaps (open_string shut_string)
set_option linter.unusedVariables false
set_option maxRecDepth 100000

end Go.Proofs.Ytnpiljegdiconab
