import Derived.Test.YtjmnaeeknomiaaaGreatRM5
namespace Go.Proofs.YtjmnaeeknomiaaaGreat
open Go.ChangeShapes Go.WideShapes Go.ChangeAt Go.RowKit
open Go.ChangeMaps (open_string shut_string)
set_option linter.unusedVariables false
set_option maxRecDepth 100000
set_option maxHeartbeats 32000000
set_option linter.unusedSimpArgs false
open Go.Proofs.Tryz
def oI (o : Option Nat) : Int := match o with
 | none => -1
 | some k => (k : Int)
theorem HP {id : Int} {L : List Pt} {k : Nat} {h : Pt} (hh : L.getD k Pt.nil = h) (hc : Bu id h = false) : Ch id L (k + 1) = Ch id L k := by
 simp only [Ch, hh, hc];cases Ch id L k <;> simp
theorem IY {id : Int} {L : List Pt} {k : Nat} {h : Pt} (hb : Ch id L k = none) (hh : L.getD k Pt.nil = h) (hc : Bu id h = true) : Ch id L (k + 1) = some k := by
 simp only [Ch, hb, hh, hc];simp
theorem IX {id : Int} {L : List Pt} {k j : Nat} {h g : Pt} {t : Bool} (hb : Ch id L k = some j) (hh : L.getD k Pt.nil = h) (hg : L.getD j Pt.nil = g) (hc : Bu id h = true) (ht : GD h g = t) : Ch id L (k + 1) = if t then some k else some j := by
 simp only [Ch, hb, hh, hg, hc, ht];simp
end Go.Proofs.YtjmnaeeknomiaaaGreat
