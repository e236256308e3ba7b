/- Lists of flags that a call owns. -/
import Derived.Test.YtnpiljegdiconaaGreatRows
import Derived.WalkKit
import Derived.ProofKit
import Derived.OpenShut
import Derived.ShutString
import Derived.ChangeOld
import Derived.Below
import Derived.Deep.QuietTactic
import Derived.BigQuiet
import Derived.WalkSmall
import Derived.Laws.OwnMore
import Derived.WalkSpells
import Derived.WalkLawsBesides
import Derived.Test.YtnpiljegdiconaaGreatFlatApp
import Derived.Test.YtnpiljegdiconaaGreatBools
import Derived.Test.YtnpiljegdiconaaGreatBridgeMath
namespace Go.Proofs.YtnpiljegdiconaaGreat
open Go.ChangeShapes Go.WideShapes Go.ChangeAt Go.RowKit
open Go.ChangeMaps (open_string shut_string)
set_option linter.unusedVariables false
set_option maxRecDepth 100000

def boEnc (x : Bool) : List Value := [.bool x]
theorem boEnc_len (x : Bool) : (boEnc x).length = 1 := rfl
theorem boEnc_ones (L : List Bool) : ∀ u ∈ fcells boEnc L, u.oneCell' = true := by
  induction L with
  | nil => intro u h; cases h
  | cons x L ih =>
    intro u h
    simp only [fcells, boEnc, List.mem_append, List.mem_cons, List.not_mem_nil, or_false] at h
    rcases h with rfl | h
    · rfl
    · exact ih u h
theorem boInfo : (Tryz.prog.info? 4).map (fun i => (i.zero, i.size, i.bytes)) = some (some (.bool false), 1, 1) := by kernel_rfl
theorem FView.oneB (w : World) (t : TypeId) (x : Bool) : FView boEnc (w.alloc (Obj.cells #[.bool x] t)) (some ⟨w.heap.size, 0, none⟩) [x] := by
  intro _
  refine ⟨w.heap.size, 0, rfl, fun j v hv => ?_⟩
  match j, hv with
  | 0, hv => cases hv; simp [go_sem]
  | j + 1, hv => simp [fcells, boEnc] at hv
theorem FView.toB {w : World} {ad : Option Addr} {L : List Bool} (h : FView boEnc w ad L) : ViewB w ad L.length (fun i => L.getD i false) := fun hp => by
  obtain ⟨b, off, e, _⟩ := h hp
  refine ⟨b, off, e, fun i hi => ?_⟩
  subst e
  have := h.at_ boEnc_len false hi 0 _ rfl
  rw [Nat.mul_one, Nat.add_zero] at this
  exact this
/-- Open of each port. -/
def gatesR (L : List Pt) : List Bool := L.map Pt.op
theorem gatesR_len (L : List Pt) : (gatesR L).length = L.length := List.length_map ..
theorem gatesR_at (L : List Pt) {k : Nat} (hk : k < L.length) : (gatesR L).getD k false = (L.getD k Pt.nil).op := by
  unfold gatesR; simp [List.getD, hk]
theorem gatesR_take (L : List Pt) {k : Nat} (hk : k < L.length) : gatesR (L.take (k + 1)) = gatesR (L.take k) ++ [(L.getD k Pt.nil).op] := by
  unfold gatesR
  rw [List.take_add_one, List.map_append]
  have e : L[k]?.toList = [L.getD k Pt.nil] := by simp [List.getD, hk]
  rw [e]; rfl

end Go.Proofs.YtnpiljegdiconaaGreat
