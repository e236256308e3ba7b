/- The small functions over lists of members that the laws call. How a card comes in. Marks upon lists. The small functions over cards that the laws call. -/
import Derived.Test.YtifndemkkaelaaaGreatRows
import Derived.WalkKit
import Derived.ProofKit
import Derived.OpenShut
import Derived.ShutString
import Derived.ChangeOld
import Derived.Below
import Derived.Deep.QuietTactic
import Derived.BigQuiet
import Derived.WalkSmall
import Derived.Laws.OwnMore
import Derived.WalkSpells
import Derived.WalkLawsBesides
import Derived.Test.YtifndemkkaelaaaGreatZl6
import Derived.Test.YtifndemkkaelaaaGreatZl4
import Derived.Test.YtifndemkkaelaaaGreatZl1
import Derived.Lib.SmallJoins
import Derived.Deep.Grids
import Derived.Deep.Slices
import Derived.Test.YtifndemkkaelaaaGreatZl5
namespace Go.Proofs.YtifndemkkaelaaaGreat
open Go.ChangeShapes Go.WideShapes Go.ChangeAt Go.RowKit
open Go.ChangeMaps (open_string shut_string)
set_option linter.unusedVariables false
set_option maxRecDepth 100000

theorem getL_le (Ms : List Mb) {k : Nat} (h : k < Ms.length) : (Ms.getD k Mb.nil).L.length ≤ lTo Ms Ms.length :=
  Nat.le_trans (by show _ ≤ lTo Ms k + (Ms.getD k Mb.nil).L.length; omega) (lTo_mono Ms (i := k + 1) h)
theorem Tryz.info50' : (Tryz.prog.info? 50).map (fun i => (i.zero, i.size, i.bytes)) = some (some (.agg #[.int .i64 0, .slice none 0 0]), 2, 32) := by kernel_rfl
end Go.Proofs.YtifndemkkaelaaaGreat
namespace Go.Proofs.YtifndemkkaelaaaGreat
open Go.ChangeShapes Go.WideShapes Go.ChangeAt Go.RowKit
open Go.ChangeMaps (open_string shut_string)
set_option linter.unusedVariables false
set_option maxRecDepth 100000

end Go.Proofs.YtifndemkkaelaaaGreat
namespace Go.Proofs.YtifndemkkaelaaaGreat
open Go.ChangeShapes Go.WideShapes Go.ChangeAt Go.RowKit
open Go.ChangeMaps (open_string shut_string)
set_option linter.unusedVariables false

end Go.Proofs.YtifndemkkaelaaaGreat
namespace Go.Proofs.YtifndemkkaelaaaGreat
open Go.ChangeShapes Go.WideShapes Go.ChangeAt Go.RowKit
open Go.ChangeMaps (open_string shut_string)
set_option linter.unusedVariables false
set_option maxRecDepth 100000

def CdAt (w : World) (p : Nat) (adO : Option Addr) (nO cO : Nat) (adM : Option Addr) (nM cM : Nat) (adT : Option Addr) (nT cT : Nat) : Prop :=
  w.cell? ⟨p, 0, none⟩ = some (.slice adO nO cO) ∧ w.cell? ⟨p, 1, none⟩ = some (.slice adM nM cM) ∧ w.cell? ⟨p, 2, none⟩ = some (.slice adT nT cT)
theorem CdAt.same {w w' : World} {p : Nat} {adO : Option Addr} {nO cO : Nat} {adM : Option Addr} {nM cM : Nat} {adT : Option Addr} {nT cT : Nat} (h : CdAt w p adO nO cO adM nM cM adT nT cT) (e : w'.heap[p]? = w.heap[p]?) : CdAt w' p adO nO cO adM nM cM adT nT cT :=
  ⟨(World.cell?_of_block (a := ⟨p, 0, none⟩) e).trans h.1, (World.cell?_of_block (a := ⟨p, 1, none⟩) e).trans h.2.1, (World.cell?_of_block (a := ⟨p, 2, none⟩) e).trans h.2.2⟩
theorem CdAt.below {w w' : World} {p B : Nat} {adO : Option Addr} {nO cO : Nat} {adM : Option Addr} {nM cM : Nat} {adT : Option Addr} {nT cT : Nat} (h : CdAt w p adO nO cO adM nM cM adT nT cT) (k : Below B w w') (hp : p < B) : CdAt w' p adO nO cO adM nM cM adT nT cT := h.same (k.block _ hp)
theorem CdAt.lt {w : World} {p : Nat} {adO : Option Addr} {nO cO : Nat} {adM : Option Addr} {nM cM : Nat} {adT : Option Addr} {nT cT : Nat} (h : CdAt w p adO nO cO adM nM cM adT nT cT) : p < w.heap.size := World.block_lt_of_cell? w _ h.1
theorem CdAt.box (w : World) (adO : Option Addr) (nO cO : Nat) (adM : Option Addr) (nM cM : Nat) (adT : Option Addr) (nT cT : Nat) (t : TypeId) : CdAt (w.alloc (Obj.cells #[.slice adO nO cO, .slice adM nM cM, .slice adT nT cT] t)) w.heap.size adO nO cO adM nM cM adT nT cT := by
  refine ⟨?_, ?_, ?_⟩ <;> simp [go_sem]
theorem MbW.keep {w w' : World} {ad : Option Addr} {Ms : List Mb} {fp : List Nat} (m : MbW w ad Ms fp) (k : ∀ x ∈ fp, w'.heap[x]? = w.heap[x]?) : MbW w' ad Ms fp :=
  ⟨m.view.carry (fun x q p => k _ (m.rowIn x q p)) (fun i hi x q p => k _ (m.nestIn i hi x q p)), m.room.carry (fun x q p => k _ (m.rowIn x q (by omega))), fun i hi => (m.rooms i hi).carry (fun x q p => k _ (m.nestIn i hi x q p)), m.rowIn, m.nestIn, m.apart, m.aparts⟩
def OwnC (w : World) (O : List Bool) (D : DL) (T : List Hd) (e : Ending) (w' : World) : Prop :=
  ∃ adO cO adM cM adT cT, e = .returned (.agg #[.slice adO O.length cO, .slice adM D.length cM, .slice adT T.length cT]) ∧ CdW w' w.heap.size w'.heap.size adO O adM D adT T ∧ Below w.heap.size w w'
theorem heap_set3 {w : World} {p : Nat} {a b c : Value} {j : Nat} (h : j ≠ p) : (((w.setCell ⟨p, 0, none⟩ a).setCell ⟨p, 1, none⟩ b).setCell ⟨p, 2, none⟩ c).heap[j]? = w.heap[j]? := by
  rw [Below.heap_setCell _ _ _ _ h, Below.heap_setCell _ _ _ _ h, Below.heap_setCell _ _ _ _ h]
end Go.Proofs.YtifndemkkaelaaaGreat
