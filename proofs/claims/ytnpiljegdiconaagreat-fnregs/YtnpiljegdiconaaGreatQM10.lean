import Derived.Test.YtnpiljegdiconaaGreatQM9
import Derived.Test.YtnpiljegdiconaaGreatQM4
namespace Go.Proofs.YtnpiljegdiconaaGreat
open Go.ChangeShapes Go.WideShapes Go.ChangeAt Go.RowKit
open Go.ChangeMaps (open_string shut_string)
set_option linter.unusedVariables false
set_option maxRecDepth 100000
def linkP (up : Bool) : Pt := if up then ⟨true, false, 0, 0, 0, 0, 0, 0, 3, 0, false⟩ else Pt.nil
theorem tick_imp {x : Pt} (h : pOk x = true) : tickP x = if ((fadeR x).ro = 1 ∨ (fadeR x).ro = 2) ∧ 0 < (fadeR x).wa then { fadeR x with wa := (fadeR x).wa - 1, op := ((fadeR x).wa - 1 == 0) } else fadeR x := by
 obtain ⟨h1, h2, h3, h4, _⟩ := pOk_parts.1 h;obtain ⟨k1, k2, k3, k4⟩ := fadeR_keeps x;unfold tickP tickW;generalize fadeR x = y at *
 obtain ⟨up, has, r, c, b, p, hh, l, ro, wa, op⟩ := y;dsimp only at *
 by_cases hc : (ro = 1 ∨ ro = 2) ∧ 0 < wa
 ·
  rw [if_pos hc, if_pos hc];congr 1
  unfold raOp;rw [Bool.eq_iff_iff];simp only [decide_eq_true_eq, beq_iff_eq];omega
 rw [if_neg hc, if_neg hc];congr 1
 rw [k4, h3, k2, k3]
def afterL (id : Int) (L : List Pt) (x : Ik) : List Pt :=
 if x.k = 1 then decideR id (L.set x.q.toNat (claimR (L.getD x.q.toNat Pt.nil) x.r x.c x.b x.p x.h))
 else if x.k = 2 then decideR id (L.map tickP)
 else if (L.getD x.q.toNat Pt.nil).up = x.up then L else decideR id (L.set x.q.toNat (linkP x.up))
theorem afterL_len (id : Int) (L : List Pt) (x : Ik) : (afterL id L x).length = L.length := by
 unfold afterL;split
 ·
  rw [decideR_len, List.length_set]
 split
 ·
  rw [decideR_len, List.length_map]
 split
 ·
  rfl
 rw [decideR_len, List.length_set]
end Go.Proofs.YtnpiljegdiconaaGreat
