/- What Inside and Outside answer is no longer than what came. -/
import Derived.Test.YtmeofihjimgldaaRows
import Derived.WalkKit
import Derived.ProofKit
import Derived.OpenShut
import Derived.ShutString
import Derived.ChangeOld
import Derived.Below
import Derived.Deep.QuietTactic
import Derived.BigQuiet
import Derived.WalkSmall
import Derived.Laws.OwnMore
import Derived.WalkSpells
import Derived.WalkLawsBesides
import Derived.Test.YtmeofihjimgldaaInside1
namespace Go.Proofs.Ytmeofihjimgldaa
open Go.ChangeShapes Go.WideShapes Go.ChangeAt Go.RowKit
open Go.ChangeMaps (open_string shut_string)
set_option linter.unusedVariables false

theorem insR_len (own : Int) (f : Nat → Int) (n : Nat) (a b c : Int) (L : List Int) : (insR own f n a b c L).M.length ≤ L.length := by
  unfold insR
  split
  · exact Nat.le_refl _
  · exact Nat.zero_le _
theorem outR_len (own : Int) (f : Nat → Int) (n : Nat) (a b c : Int) (L : List Int) : (outR own f n a b c L).M.length ≤ L.length := by
  unfold outR
  split
  · exact Nat.le_refl _
  · exact Nat.zero_le _

end Go.Proofs.Ytmeofihjimgldaa
