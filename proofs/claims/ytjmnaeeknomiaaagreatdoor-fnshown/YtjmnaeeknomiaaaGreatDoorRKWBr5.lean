import Derived.Test.YtjmnaeeknomiaaaGreatDoorRKWBr3
namespace Go.Proofs.YtjmnaeeknomiaaaGreatDoor
open Go.ChangeShapes Go.WideShapes Go.ChangeAt Go.RowKit
open Go.ChangeMaps (open_string shut_string)
set_option linter.unusedVariables false
set_option maxRecDepth 100000
set_option maxHeartbeats 32000000
set_option linter.unusedSimpArgs false
open Go.Proofs.Tryz
def oI (o : Option Nat) : Int := match o with
 | none => -1
 | some k => (k : Int)
theorem H9 {id : Int} {L : List Pt} {k : Nat} {h : Pt} (hh : L.getD k Pt.nil = h) (hc : Br id h = false) : Cp id L (k + 1) = Cp id L k := by
 simp only [Cp, hh, hc];cases Cp id L k <;> simp
theorem JY {id : Int} {L : List Pt} {k : Nat} {h : Pt} (hb : Cp id L k = none) (hh : L.getD k Pt.nil = h) (hc : Br id h = true) : Cp id L (k + 1) = some k := by
 simp only [Cp, hb, hh, hc];simp
theorem JX {id : Int} {L : List Pt} {k j : Nat} {h g : Pt} {t : Bool} (hb : Cp id L k = some j) (hh : L.getD k Pt.nil = h) (hg : L.getD j Pt.nil = g) (hc : Br id h = true) (ht : Gl h g = t) : Cp id L (k + 1) = if t then some k else some j := by
 simp only [Cp, hb, hh, hg, hc, ht];simp
end Go.Proofs.YtjmnaeeknomiaaaGreatDoor
