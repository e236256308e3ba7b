/- Nets, compared. -/
import Derived.Test.YtdfjfodfnildiabRows
import Derived.WalkKit
import Derived.ProofKit
import Derived.OpenShut
import Derived.ShutString
import Derived.ChangeOld
import Derived.Below
import Derived.Deep.QuietTactic
import Derived.BigQuiet
import Derived.WalkSmall
import Derived.Laws.OwnMore
import Derived.WalkSpells
import Derived.WalkLawsBesides
import Derived.Test.YtdfjfodfnildiabNe0
import Derived.Test.YtdfjfodfnildiabNb3
import Derived.Test.YtdfjfodfnildiabLk3
namespace Go.Proofs.Ytdfjfodfnildiab
open Go.ChangeShapes Go.WideShapes Go.ChangeAt Go.RowKit
open Go.ChangeMaps (open_string shut_string)
set_option linter.unusedVariables false
set_option maxRecDepth 100000

set_option maxHeartbeats 1000000 in
theorem neEq (adB adB' : Option Addr) (capB capB' : Nat) (Bs Bs' : List Bd) (adK adK' : Option Addr) (capK capK' : Nat) (K : List Lk) (w : World) (vb : NV w adB Bs) (vb' : NV w adB' Bs') (hd : Bs'.map Bd.d = Bs.map Bd.d) (vk : FView lkEnc w adK K) (vk' : FView lkEnc w adK' K) (hl : Bs.length ≤ 1048576) (hls : ∀ i, i < Bs.length → (Bs.getD i Bd.nil).L.length ≤ 1048576) (hk : K.length ≤ 1048576) :
    Calls Try.prog 10 #[.agg #[.slice adB Bs.length capB, .slice adK K.length capK], .agg #[.slice adB' Bs'.length capB', .slice adK' K.length capK']] w fun e w' => e = .returned (.bool true) ∧ Below w.heap.size w w' := by
  have hkB := vk.lt lkEnc_len (by omega)
  have hkB' := vk'.lt lkEnc_len (by omega)
  obtain ⟨y, hy⟩ : ∃ y, y = (w.alloc (Obj.cells #[.slice adB Bs.length capB, .slice adK K.length capK] 31)).alloc (Obj.cells #[.slice adB' Bs'.length capB', .slice adK' K.length capK'] 31) := ⟨_, rfl⟩
  have B0 : Below w.heap.size w y := by rw [hy]; exact ((Below.refl _ _).alloc (Nat.le_refl _) _).alloc (by simp) _
  have A0 : NeAt y w.heap.size (.slice adB Bs.length capB) (.slice adK K.length capK) := by rw [hy]; constructor <;> simp [go_sem]
  have A1 : NeAt y (w.heap.size + 1) (.slice adB' Bs'.length capB') (.slice adK' K.length capK') := by rw [hy]; constructor <;> simp [go_sem]
  have l1 := A1.lt
  go_enter Try.func10, Try.ntmps10
  go_wp2_with fail
  go_at_call 28
  rw [← hy]
  clear hy
  refine (bdEq adB adB' capB capB' Bs Bs' y (vb.below B0 (Nat.le_refl _)) (vb'.below B0 (Nat.le_refl _)) hd hl hls).mono ?_
  rintro e w1 ⟨rfl, k1⟩
  have B1 := B0.trans (k1.mono B0.size)
  obtain ⟨a0, a1⟩ := A0.below k1 (by omega)
  obtain ⟨c0, c1⟩ := A1.below k1 (by omega)
  clear A0 A1 k1 B0 vb vb' hd
  go_wp2_with fail
  go_at_call 29
  refine (lkEqS adK adK' capK capK' K w1 (vk.below B1 hkB) (vk'.below B1 hkB') hk).mono ?_
  rintro e w2 ⟨rfl, k2⟩
  have B2 := B1.trans (k2.mono B1.size)
  clear k2 B1
  go_wp2
  go_ret
  exact ⟨rfl, B2⟩

end Go.Proofs.Ytdfjfodfnildiab
