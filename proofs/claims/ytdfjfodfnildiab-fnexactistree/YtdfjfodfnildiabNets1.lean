/- Marks of nets: with, has. -/
import Derived.Test.YtdfjfodfnildiabRows
import Derived.WalkKit
import Derived.ProofKit
import Derived.OpenShut
import Derived.ShutString
import Derived.ChangeOld
import Derived.Below
import Derived.Deep.QuietTactic
import Derived.BigQuiet
import Derived.WalkSmall
import Derived.Laws.OwnMore
import Derived.WalkSpells
import Derived.WalkLawsBesides
import Derived.ChangeKeysEq
import Derived.Test.YtdfjfodfnildiabTakes
namespace Go.Proofs.Ytdfjfodfnildiab
open Go.ChangeShapes Go.WideShapes Go.ChangeAt Go.RowKit
open Go.ChangeMaps (open_string shut_string)
set_option linter.unusedVariables false
set_option maxRecDepth 100000

/-- One mark behind 'with'. -/
def put (k : Int) (v : Bool) (i : Int) (b : Bool) : Bool := if k = i then v else b
theorem put_ne {k i : Int} (v b : Bool) (h : k ≠ i) : put k v i b = b := if_neg h
theorem put_eq (k : Int) (v b : Bool) : put k v k b = v := if_pos rfl

/-- Whether a net is marked. -/
def hasB (k : Int) (b1 b2 b3 b4 : Bool) : Bool := if k = 1 then b1 else if k = 2 then b2 else if k = 3 then b3 else if k = 4 then b4 else false
theorem Try.info4' : ∃ i, Try.prog.info? 4 = some i := by
  have h : (Try.prog.info? 4).isSome = true := by kernel_rfl
  exact Option.isSome_iff_exists.1 h
/-- The marks that lie at block p. -/
def NetAt (w : World) (p : Nat) (b1 b2 b3 b4 : Bool) : Prop :=
  w.cell? ⟨p, 0, none⟩ = some (.bool b1) ∧ w.cell? ⟨p, 1, none⟩ = some (.bool b2) ∧ w.cell? ⟨p, 2, none⟩ = some (.bool b3) ∧ w.cell? ⟨p, 3, none⟩ = some (.bool b4)
theorem NetAt.same {w w' : World} {p : Nat} {b1 b2 b3 b4 : Bool} (h : NetAt w p b1 b2 b3 b4) (e : w'.heap[p]? = w.heap[p]?) : NetAt w' p b1 b2 b3 b4 :=
  ⟨(World.cell?_of_block (a := ⟨p, 0, none⟩) e).trans h.1, (World.cell?_of_block (a := ⟨p, 1, none⟩) e).trans h.2.1, (World.cell?_of_block (a := ⟨p, 2, none⟩) e).trans h.2.2.1, (World.cell?_of_block (a := ⟨p, 3, none⟩) e).trans h.2.2.2⟩
def SN (w : World) (b1 b2 b3 b4 : Bool) (Y : World) : Prop := NetAt Y w.heap.size b1 b2 b3 b4 ∧ Below w.heap.size w Y ∧ w.heap.size < Y.heap.size
theorem SN.later {w : World} {b1 b2 b3 b4 : Bool} {Y Y' : World} (h : SN w b1 b2 b3 b4 Y) (k : Below Y.heap.size Y Y') : SN w b1 b2 b3 b4 Y' :=
  ⟨h.1.same (k.block _ h.2.2), h.2.1.trans (k.mono (by have := h.2.2; omega)), by have := h.2.2; have := k.size; omega⟩
theorem has_eq (k : Int) (b1 b2 b3 b4 : Bool) : (!(put k false 1 b1 == b1 && (put k false 2 b2 == b2 && (put k false 3 b3 == b3 && put k false 4 b4 == b4)))) = hasB k b1 b2 b3 b4 := by
  unfold put hasB
  by_cases h1 : k = 1
  · subst h1; simp
  by_cases h2 : k = 2
  · subst h2; simp
  by_cases h3 : k = 3
  · subst h3; simp
  by_cases h4 : k = 4
  · subst h4; simp
  simp [h1, h2, h3, h4]
end Go.Proofs.Ytdfjfodfnildiab
