/- How a card comes in, of what it says. -/
import Derived.Test.YtifndemkkaelaaaRows
import Derived.WalkKit
import Derived.ProofKit
import Derived.OpenShut
import Derived.ShutString
import Derived.ChangeOld
import Derived.Below
import Derived.Deep.QuietTactic
import Derived.BigQuiet
import Derived.WalkSmall
import Derived.Laws.OwnMore
import Derived.WalkSpells
import Derived.WalkLawsBesides
import Derived.Test.YtifndemkkaelaaaCard2
import Derived.Test.YtifndemkkaelaaaCardIn
namespace Go.Proofs.Ytifndemkkaelaaa
open Go.ChangeShapes Go.WideShapes Go.ChangeAt Go.RowKit
open Go.ChangeMaps (open_string shut_string)
set_option linter.unusedVariables false

/-- What is known of a card that comes in, of what it says. -/
def CardI (w : World) (adO : Option Addr) (O : List Bool) (adM : Option Addr) (D : DL) (adT : Option Addr) (T : List Hd) : Prop := ∃ Ms : List Mb, Ms.map Mb.d = D ∧ CardIn w adO O adM Ms adT T
theorem CardI.view {w : World} {adO : Option Addr} {O : List Bool} {adM : Option Addr} {D : DL} {adT : Option Addr} {T : List Hd} (h : CardI w adO O adM D adT T) : CdV w 0 w.heap.size adO O adM D adT T := by
  obtain ⟨Ms, e, I⟩ := h
  exact ⟨I.vO, fun x q p => ⟨Nat.zero_le _, I.vO.lt x q p⟩, ⟨Ms, e, I.vM, fun x q p => ⟨Nat.zero_le _, I.vM.lt x q p⟩, fun i hi x q p => ⟨Nat.zero_le _, ViewI.lt (I.vM.nest i hi) x q p⟩⟩, I.hT.hv, fun x q p => ⟨Nat.zero_le _, I.hT.hB x q p⟩⟩
theorem CardIn.later {w w' : World} {adO : Option Addr} {O : List Bool} {adM : Option Addr} {Ms : List Mb} {adT : Option Addr} {T : List Hd} (h : CardIn w adO O adM Ms adT T) (k : Below w.heap.size w w') : CardIn w' adO O adM Ms adT T :=
  ⟨h.mO, h.vO.below k (Nat.le_refl _), h.mM, h.vM.below k (Nat.le_refl _), h.mMs, ⟨h.hT.lm, h.hT.hv.below h.hT.hB k, h.hT.hB.le k.size, h.hT.wf⟩⟩
theorem CardI.later {w w' : World} {adO : Option Addr} {O : List Bool} {adM : Option Addr} {D : DL} {adT : Option Addr} {T : List Hd} (h : CardI w adO O adM D adT T) (k : Below w.heap.size w w') : CardI w' adO O adM D adT T := by
  obtain ⟨Ms, e, I⟩ := h
  exact ⟨Ms, e, I.later k⟩
set_option maxRecDepth 100000 in
theorem cardI_open {H : Type} {enc : TypeId × Value → H} {w : World} {r : Reach} {b0 : Nat} {v : Value} {d : DataW H} {p : List MemPlace} (hv : Value.okWide Try.prog w r b0 40 v) (h : DataW.Trod enc Try.prog w 0 (fun _ => true) true 40 v d p) :
    ∃ adO cO O adM cM D adT cT T, v = .agg #[.slice adO (List.length O) cO, .slice adM (List.length D) cM, .slice adT (List.length T) cT] ∧ CardI w adO O adM D adT T := by
  obtain ⟨adO, cO, O, adM, cM, Ms, adT, cT, T, rfl, I⟩ := cardIn_open hv h
  exact ⟨adO, cO, O, adM, cM, Ms.map Mb.d, adT, cT, T, by rw [List.length_map], Ms, rfl, I⟩
theorem szCD (adO : Option Addr) (cO : Nat) (O : List Bool) (adM : Option Addr) (cM : Nat) (D : DL) (adT : Option Addr) (cT : Nat) (T : List Hd) (w : World) (I : CardI w adO O adM D adT T) :
    Calls Try.prog 14 #[.agg #[.slice adO O.length cO, .slice adM D.length cM, .slice adT T.length cT], .int .i64 1048576] w fun e w' => (∃ r : Int, e = .returned (.int .i64 r) ∧ -1 ≤ r ∧ r ≤ 1048576 ∧ (0 ≤ r → O.length + totD D + T.length ≤ 1048576)) ∧ Below w.heap.size w w' := by
  obtain ⟨Ms, rfl, I⟩ := I
  rw [List.length_map, tot_siz, ← lTo_siz, List.length_map]
  exact szC adO cO O adM cM Ms adT cT T w I

end Go.Proofs.Ytifndemkkaelaaa
