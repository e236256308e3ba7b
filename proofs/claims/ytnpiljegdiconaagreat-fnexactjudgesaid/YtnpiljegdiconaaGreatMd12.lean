/- Logs, in plain lists. -/
import Derived.Test.YtnpiljegdiconaaGreatRows
import Derived.WalkKit
import Derived.ProofKit
import Derived.OpenShut
import Derived.ShutString
import Derived.ChangeOld
import Derived.Below
import Derived.Deep.QuietTactic
import Derived.BigQuiet
import Derived.WalkSmall
import Derived.Laws.OwnMore
import Derived.WalkSpells
import Derived.WalkLawsBesides
import Derived.Test.YtnpiljegdiconaaGreatBm12
import Derived.Test.YtnpiljegdiconaaGreatMi0
namespace Go.Proofs.YtnpiljegdiconaaGreat
open Go.ChangeShapes Go.WideShapes Go.ChangeAt Go.RowKit
open Go.ChangeMaps (open_string shut_string)
set_option linter.unusedVariables false
set_option maxRecDepth 100000

/-- The bridge that a log makes. -/
def ofL (id : Int) (L : List Pt) (X : List Ik) : List Pt := X.foldl (reactL id) L
theorem ofL_app (id : Int) (L : List Pt) (X Y : List Ik) : ofL id L (X ++ Y) = ofL id (ofL id L X) Y := by
  unfold ofL; rw [List.foldl_append]
theorem ofL_len (id : Int) (X : List Ik) : ∀ L : List Pt, (ofL id L X).length = L.length := by
  induction X with
  | nil => intro L; rfl
  | cons x X ih => intro L; show (ofL id (reactL id L x) X).length = _; rw [ih, reactL_len]
theorem ofL_ok {id : Int} (X : List Ik) : ∀ {L : List Pt}, bOk id L = true → bOk id (ofL id L X) = true := by
  induction X with
  | nil => intro L h; exact h
  | cons x X ih => intro L h; exact ih (react_right h)
theorem ofL_not {id : Int} (X : List Ik) : ∀ {L : List Pt}, bOk id L = false → ofL id L X = L := by
  induction X with
  | nil => intro L _; rfl
  | cons x X ih => intro L h; show ofL id (reactL id L x) X = L; rw [(react_not h).1]; exact ih h
/-- One more. -/
theorem ofL_step (id : Int) (L : List Pt) (X : List Ik) (d : Ik) {k : Nat} (hk : k < X.length) : ofL id L (X.take (k + 1)) = reactL id (ofL id L (X.take k)) (X.getD k d) := by
  rw [List.take_add_one, ofL_app]
  have e : X[k]?.toList = [X.getD k d] := by simp [List.getD, hk]
  rw [e]; rfl
theorem ofL_all (id : Int) (L : List Pt) (X : List Ik) : ofL id L (X.take X.length) = ofL id L X := by rw [List.take_length]
/-- What a log says at its n-th. -/
def sayL (id : Int) (L : List Pt) (X : List Ik) (d : Ik) (n : Int) : List Ou :=
  if 0 ≤ n ∧ n < (X.length : Int) then reactO id (ofL id L (X.take n.toNat)) (X.getD n.toNat d) else []
theorem sayL_at (id : Int) (L : List Pt) (X : List Ik) (d : Ik) {k : Nat} (hk : k < X.length) : sayL id L X d (k : Int) = reactO id (ofL id L (X.take k)) (X.getD k d) := by
  unfold sayL; rw [if_pos ⟨by omega, by omega⟩]; simp

end Go.Proofs.YtnpiljegdiconaaGreat
