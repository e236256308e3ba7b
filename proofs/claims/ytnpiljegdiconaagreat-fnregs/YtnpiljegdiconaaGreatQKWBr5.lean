import Derived.Test.YtnpiljegdiconaaGreatQM1
namespace Go.Proofs.YtnpiljegdiconaaGreat
open Go.ChangeShapes Go.WideShapes Go.ChangeAt Go.RowKit
open Go.ChangeMaps (open_string shut_string)
set_option linter.unusedVariables false
set_option maxRecDepth 100000
def oI (o : Option Nat) : Int := match o with
 | none => -1
 | some k => (k : Int)
theorem best_no {id : Int} {L : List Pt} {k : Nat} {h : Pt} (hh : L.getD k Pt.nil = h) (hc : cand id h = false) : bestTo id L (k + 1) = bestTo id L k := by
 simp only [bestTo, hh, hc];cases bestTo id L k <;> simp
theorem best_none {id : Int} {L : List Pt} {k : Nat} {h : Pt} (hb : bestTo id L k = none) (hh : L.getD k Pt.nil = h) (hc : cand id h = true) : bestTo id L (k + 1) = some k := by
 simp only [bestTo, hb, hh, hc];simp
theorem best_some {id : Int} {L : List Pt} {k j : Nat} {h g : Pt} {t : Bool} (hb : bestTo id L k = some j) (hh : L.getD k Pt.nil = h) (hg : L.getD j Pt.nil = g) (hc : cand id h = true) (ht : vBetter h g = t) : bestTo id L (k + 1) = if t then some k else some j := by
 simp only [bestTo, hb, hh, hg, hc, ht];simp
end Go.Proofs.YtnpiljegdiconaaGreat
