/- impl.taken: a claim, walked. -/
import Derived.Test.YtnpiljegdiconabRows
import Derived.WalkKit
import Derived.ProofKit
import Derived.OpenShut
import Derived.ShutString
import Derived.ChangeOld
import Derived.Below
import Derived.Deep.QuietTactic
import Derived.BigQuiet
import Derived.WalkSmall
import Derived.Laws.OwnMore
import Derived.WalkSpells
import Derived.WalkLawsBesides
import Derived.Deep.Cut
import Derived.Test.YtnpiljegdiconabBr8
import Derived.Test.YtnpiljegdiconabIn1
import Derived.Test.YtnpiljegdiconabIn3
import Derived.Test.YtnpiljegdiconabRe1t
namespace Go.Proofs.Ytnpiljegdiconab
open Go.ChangeShapes Go.WideShapes Go.ChangeAt Go.RowKit
open Go.ChangeMaps (open_string shut_string)
set_option linter.unusedVariables false
set_option maxRecDepth 100000

/-- A bridge behind what came in. -/
def afterL (id : Int) (L : List Pt) (x : Ik) : List Pt :=
  if x.k = 1 then decideR id (L.set x.q.toNat (claimR (L.getD x.q.toNat Pt.nil) x.r x.c x.b x.p x.h))
  else if x.k = 2 then decideR id (L.map tickP)
  else if (L.getD x.q.toNat Pt.nil).up = x.up then L else decideR id (L.set x.q.toNat (linkP x.up))
theorem afterL_len (id : Int) (L : List Pt) (x : Ik) : (afterL id L x).length = L.length := by
  unfold afterL
  split
  · rw [decideR_len, List.length_set]
  · split
    · rw [decideR_len, List.length_map]
    · split
      · rfl
      · rw [decideR_len, List.length_set]
end Go.Proofs.Ytnpiljegdiconab
