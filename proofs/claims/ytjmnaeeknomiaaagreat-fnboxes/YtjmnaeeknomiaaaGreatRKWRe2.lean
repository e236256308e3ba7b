import Derived.Test.YtjmnaeeknomiaaaGreatRKWBr8
import Derived.Test.YtjmnaeeknomiaaaGreatRM6
import Derived.Test.YtjmnaeeknomiaaaGreatRM9
namespace Go.Proofs.YtjmnaeeknomiaaaGreat
open Go.ChangeShapes Go.WideShapes Go.ChangeAt Go.RowKit
open Go.ChangeMaps (open_string shut_string)
set_option linter.unusedVariables false
set_option maxRecDepth 100000
set_option maxHeartbeats 32000000
set_option linter.unusedSimpArgs false
open Go.Proofs.Tryz
attribute [local go_sem] ji ja pc
def Dm (id : Int) (L : List Pt) (x : Ik) : List Pt :=
 if x.k = 1 then Bg id (L.set x.q.toNat (CD (L.getD x.q.toNat Pt.nil) x.r x.c x.b x.p x.h))
 else if x.k = 2 then Bg id (L.map CK)
 else if (L.getD x.q.toNat Pt.nil).up = x.up then L else Bg id (L.set x.q.toNat (DH x.up))
theorem Gz (id : Int) (L : List Pt) (x : Ik) : (Dm id L x).length = L.length := by
 unfold Dm;split
 ·
  rw [Fr, List.length_set]
 split
 ·
  rw [Fr, List.length_map]
 split
 ·
  rfl
 rw [Fr, List.length_set]
end Go.Proofs.YtjmnaeeknomiaaaGreat
