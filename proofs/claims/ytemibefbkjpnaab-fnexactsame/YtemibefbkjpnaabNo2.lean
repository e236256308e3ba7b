/- impl.endIsOf, spec.l10End, walked. -/
import Derived.Test.YtemibefbkjpnaabRows
import Derived.WalkKit
import Derived.ProofKit
import Derived.OpenShut
import Derived.ShutString
import Derived.ChangeOld
import Derived.Below
import Derived.Deep.QuietTactic
import Derived.BigQuiet
import Derived.WalkSmall
import Derived.Laws.OwnMore
import Derived.WalkSpells
import Derived.WalkLawsBesides
import Derived.Deep.Cut
import Derived.Laws.StructEq
import Derived.Test.YtemibefbkjpnaabNo1
import Derived.Test.YtemibefbkjpnaabBr3
namespace Go.Proofs.Ytemibefbkjpnaab
open Go.ChangeShapes Go.WideShapes Go.ChangeAt Go.RowKit
open Go.ChangeMaps (open_string shut_string)
set_option linter.unusedVariables false
set_option maxRecDepth 100000

/-- A net that may be read. -/
structure NN (w : World) (adB : Option Addr) (Bs : List Bd) (adK : Option Addr) (K : List Lk) : Prop where
  vb : NV w adB Bs
  vk : FView lkEnc w adK K
  hl : Bs.length ≤ 1048576
  hls : ∀ i, i < Bs.length → (Bs.getD i Bd.nil).L.length ≤ 1048576
  hk : K.length ≤ 1048576
theorem NN.below {w w' : World} {adB : Option Addr} {Bs : List Bd} {adK : Option Addr} {K : List Lk} {B : Nat} (h : NN w adB Bs adK K) (k : Below B w w') (hB : w.heap.size ≤ B) : NN w' adB Bs adK K :=
  ⟨h.vb.below k hB, h.vk.below k (fun a e p => Nat.lt_of_lt_of_le (h.vk.lt lkEnc_len (by omega) a e p) hB), h.hl, h.hls, h.hk⟩
theorem NN.later {w w' : World} {adB : Option Addr} {Bs : List Bd} {adK : Option Addr} {K : List Lk} (h : NN w adB Bs adK K) (k : Below w.heap.size w w') : NN w' adB Bs adK K := h.below k (Nat.le_refl _)
/-- What the list says. -/
abbrev dB (Bs : List Bd) : List Bg := Bs.map Bd.d
theorem dB_len (Bs : List Bd) : (dB Bs).length = Bs.length := by simp
theorem portP_iff {Bs : List Bd} {a p : Int} : PortP (dB Bs) a p ↔ (0 ≤ a ∧ a < (Bs.length : Int)) ∧ (0 ≤ p ∧ p < ((Bs.getD a.toNat Bd.nil).L.length : Int)) := by
  unfold PortP dB
  rw [bd_get, List.length_map]
  exact Iff.rfl
theorem endP_iff {Bs : List Bd} {a p : Int} : EndP (dB Bs) a p ↔ (0 ≤ a ∧ a < (Bs.length : Int)) ∧ (0 ≤ p ∧ p < ((Bs.getD a.toNat Bd.nil).L.length : Int)) ∧ ((Bs.getD a.toNat Bd.nil).L.getD p.toNat Pt.nil).up = true := by
  unfold EndP pt dB
  rw [bd_get, List.length_map]
  exact Iff.rfl
end Go.Proofs.Ytemibefbkjpnaab
