import Derived.Test.YtnpiljegdiconaaGreatQM7
namespace Go.Proofs.YtnpiljegdiconaaGreat
open Go.ChangeShapes Go.WideShapes Go.ChangeAt Go.RowKit
open Go.ChangeMaps (open_string shut_string)
set_option linter.unusedVariables false
set_option maxRecDepth 100000
end Go.Proofs.YtnpiljegdiconaaGreat
