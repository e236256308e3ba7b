/- spec.InOf, walked. -/
import Derived.Test.YtlnogijlfompoaaDoorRows
import Derived.WalkKit
import Derived.ProofKit
import Derived.OpenShut
import Derived.ShutString
import Derived.ChangeOld
import Derived.Below
import Derived.Deep.QuietTactic
import Derived.BigQuiet
import Derived.WalkSmall
import Derived.Laws.OwnMore
import Derived.WalkSpells
import Derived.WalkLawsBesides
import Derived.Test.YtlnogijlfompoaaDoorIo1
import Derived.Test.YtlnogijlfompoaaDoorIo3
import Derived.Test.YtlnogijlfompoaaDoorIoe
namespace Go.Proofs.YtlnogijlfompoaaDoor
open Go.ChangeShapes Go.WideShapes Go.ChangeAt Go.RowKit
open Go.ChangeMaps (open_string shut_string)
set_option linter.unusedVariables false
set_option maxRecDepth 100000

theorem inOfS (ad : Option Addr) (cap : Nat) (L : List Int) (a : Int) (w : World) (hv : View w ad L.length (fun i => L.getD i 0)) (hB : ∀ x, ad = some x → 0 < L.length → x.block < w.heap.size) (hl : L.length ≤ 1048576) (hcap : L.length ≤ cap) (hLbd : ∀ x ∈ L, 0 ≤ x ∧ x ≤ 255) (ha0 : -9223372036854775808 ≤ a ∧ a ≤ 9223372036854775807) :
    Calls Tryd.prog 6 #[.slice ad L.length cap, .int .i64 a] w fun e w' => e = .returned (inOfV (inAt L a)) ∧ Below w.heap.size w w' := by
  by_cases h1 : (rdN L (a, true)).1 = 1
  · exact inOfS1 ad cap L a w hv hB hl hcap hLbd h1 ha0
  by_cases h3 : (rdN L (a, true)).1 = 3
  · exact inOfS3 ad cap L a w hv hB hl hcap hLbd h3 ha0
  exact inOfSe ad cap L a w hv hB hl hcap hLbd h1 h3 ha0

end Go.Proofs.YtlnogijlfompoaaDoor
