/- impl.Own, impl.Hops, walked. -/
import Derived.Test.YtnpiljegdiconabRows
import Derived.WalkKit
import Derived.ProofKit
import Derived.OpenShut
import Derived.ShutString
import Derived.ChangeOld
import Derived.Below
import Derived.Deep.QuietTactic
import Derived.BigQuiet
import Derived.WalkSmall
import Derived.Laws.OwnMore
import Derived.WalkSpells
import Derived.WalkLawsBesides
import Derived.Deep.Cut
import Derived.Test.YtnpiljegdiconabBr5
import Derived.Test.YtnpiljegdiconabVecIn
namespace Go.Proofs.Ytnpiljegdiconab
open Go.ChangeShapes Go.WideShapes Go.ChangeAt Go.RowKit
open Go.ChangeMaps (open_string shut_string)
set_option linter.unusedVariables false
set_option maxRecDepth 100000

/-- A claim's box that may be written. -/
structure VBox (w : World) (q : Nat) (r c b p : Int) : Prop where
  at_ : VecAt w q r c b p
  fr : ∀ i, w.frozen? ⟨q, i, none⟩ = false
theorem VBox.lt {w : World} {q : Nat} {r c b p : Int} (h : VBox w q r c b p) : q < w.heap.size := World.block_lt_of_cell? w _ h.at_.1
theorem VBox.below {w w' : World} {q n : Nat} {r c b p : Int} (h : VBox w q r c b p) (k : Below n w w') (hq : q < n) : VBox w' q r c b p :=
  ⟨h.at_.below k hq, fun i => (World.frozen?_of_block (a := ⟨q, i, none⟩) (k.block q hq)).trans (h.fr i)⟩
end Go.Proofs.Ytnpiljegdiconab
