/- What a log makes and says. -/
import Derived.Test.YtghmmcenjdbfgaaRows
import Derived.WalkKit
import Derived.ProofKit
import Derived.OpenShut
import Derived.ShutString
import Derived.ChangeOld
import Derived.Below
import Derived.Deep.QuietTactic
import Derived.BigQuiet
import Derived.WalkSmall
import Derived.Laws.OwnMore
import Derived.WalkSpells
import Derived.WalkLawsBesides
import Derived.Deep.Cut
import Derived.Test.YtghmmcenjdbfgaaMd12
import Derived.Test.YtghmmcenjdbfgaaBr9
import Derived.Test.YtghmmcenjdbfgaaRe7
import Derived.Test.YtghmmcenjdbfgaaIs1
namespace Go.Proofs.Ytghmmcenjdbfgaa
open Go.ChangeShapes Go.WideShapes Go.ChangeAt Go.RowKit
open Go.ChangeMaps (open_string shut_string)
set_option linter.unusedVariables false
set_option maxRecDepth 100000

theorem FView.take {X : Type} {enc : X → List Value} {w : World} {ad : Option Addr} {L : List X} (h : FView enc w ad L) (k : Nat) : FView enc w ad (L.take k) := by
  intro hp
  obtain ⟨b, off, e, hc⟩ := h (by rw [List.length_take] at hp; omega)
  refine ⟨b, off, e, fun j v hv => hc j v ?_⟩
  rw [← List.take_append_drop k L, fcells_app, List.getElem?_append_left (List.getElem?_eq_some_iff.1 hv).1]
  exact hv
/-- The bridge that a log tells of. -/
def ofR (id n : Int) (X : List Ik) : List Pt := ofL (newI id n) (newL id n) X
theorem newL_small (id n : Int) : (newL id n).length ≤ 4 := by
  unfold newL
  split
  · rename_i q
    unfold nOk at q
    simp only [Bool.and_eq_true, decide_eq_true_eq] at q
    rw [List.length_replicate]
    omega
  · simp
theorem ofR_len (id n : Int) (X : List Ik) : (ofR id n X).length ≤ 4 := by
  unfold ofR; rw [ofL_len]; exact newL_small id n
theorem ofR_not {id n : Int} (X : List Ik) (h : nOk id n = false) : ofR id n X = [] ∧ newI id n = 0 := by
  have e1 : newI id n = 0 := by unfold newI; rw [h]; rfl
  have e2 : newL id n = [] := by unfold newL; rw [h]; rfl
  refine ⟨?_, e1⟩
  unfold ofR
  rw [e1, e2]
  exact ofL_not X (by decide)
/-- What a log says at one of its places. -/
def sayR (id n : Int) (X : List Ik) (i : Int) : List Ou := sayL (newI id n) (newL id n) X Ik.nil i
theorem sayR_len (id n : Int) (X : List Ik) (i : Int) : (sayR id n X i).length ≤ 8 := by
  unfold sayR sayL
  split
  · exact reactO_len _ _ _
  · simp
theorem BBox.put1 {w : World} {q : Nat} {id : Int} {v : Value} (h : BBox w q id v) (id' : Int) (v' : Value) (k : Nat) (hk : k ≠ q) : ((w.setCell ⟨q, 0, none⟩ (.int .i64 id')).setCell ⟨q, 1, none⟩ v').heap[k]? = w.heap[k]? := by
  rw [Below.heap_setCell _ _ _ _ hk, Below.heap_setCell _ _ _ _ hk]

end Go.Proofs.Ytghmmcenjdbfgaa
