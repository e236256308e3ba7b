/- impl.NetOk, walked. -/
import Derived.Test.YtdfjfodfnildiabRows
import Derived.WalkKit
import Derived.ProofKit
import Derived.OpenShut
import Derived.ShutString
import Derived.ChangeOld
import Derived.Below
import Derived.Deep.QuietTactic
import Derived.BigQuiet
import Derived.WalkSmall
import Derived.Laws.OwnMore
import Derived.WalkSpells
import Derived.WalkLawsBesides
import Derived.Deep.Cut
import Derived.Laws.StructEq
import Derived.Test.YtdfjfodfnildiabNi1
import Derived.Test.YtdfjfodfnildiabNi2
import Derived.Test.YtdfjfodfnildiabNi3
namespace Go.Proofs.Ytdfjfodfnildiab
open Go.ChangeShapes Go.WideShapes Go.ChangeAt Go.RowKit
open Go.ChangeMaps (open_string shut_string)
set_option linter.unusedVariables false
set_option maxRecDepth 100000

theorem netP_impl {B : List Bg} {K : List Lk} : NetP B K ↔ ((1 ≤ B.length ∧ B.length ≤ 5) ∧ FitTo B B.length) ∧ K.length ≤ 6 ∧ (∀ j, j < K.length → LinkP B (K.getD j Lk.nil)) ∧ PortsTo B K B.length := by
  constructor
  · intro h
    refine ⟨⟨h.many, h.ok, fun i k hi hk e => ?_⟩, h.few, fun j hj => ?_, h.once⟩
    · have := h.inj k i (by omega) hi e
      omega
    · have hm : K.getD j Lk.nil ∈ K := by
        rw [show K.getD j Lk.nil = K[j] by simp [List.getD, hj]]
        exact List.getElem_mem hj
      obtain ⟨q1, q2, q3⟩ := h.link _ hm
      exact ⟨q1, q2.port, q3.port⟩
  · rintro ⟨⟨h1, h2, h3⟩, h4, h5, h6⟩
    refine ⟨h1, h4, h2, unlike_inj h3, h6, fun l hl => ?_⟩
    obtain ⟨j, hj, rfl⟩ := List.getElem_of_mem hl
    have := h5 j hj
    rw [show K.getD j Lk.nil = K[j] by simp [List.getD, hj]] at this
    obtain ⟨q1, q2, q3⟩ := this
    have o := once_in hl
    exact ⟨q1, end_up h6 q2 o.1, end_up h6 q3 o.2⟩
theorem bool_no {R : Bool} {Q : Prop} (h : R = true ↔ Q) (n : ¬ Q) : R = false := by
  rcases Bool.eq_false_or_eq_true R with q | q
  · exact absurd (h.1 q) n
  · exact q
set_option maxHeartbeats 4000000 in
theorem netOkI (adB : Option Addr) (capB : Nat) (Bs : List Bd) (adK : Option Addr) (capK : Nat) (K : List Lk) (w : World) (hN : NN w adB Bs adK K) (hcap : Bs.length ≤ capB) :
    Calls Try.prog 25 #[.agg #[.slice adB Bs.length capB, .slice adK K.length capK]] w fun e w' => YN e (NetP (dB Bs) K) ∧ Below w.heap.size w w' := by
  suffices H : ∀ Q : Prop, Hid (Q ↔ NetP (dB Bs) K) → Calls Try.prog 25 #[.agg #[.slice adB Bs.length capB, .slice adK K.length capK]] w fun e w' => YN e Q ∧ Below w.heap.size w w' from H _ Iff.rfl
  intro Q hQ0
  have hQ : Hid (Q ↔ ((1 ≤ (dB Bs).length ∧ (dB Bs).length ≤ 5) ∧ FitTo (dB Bs) (dB Bs).length) ∧ K.length ≤ 6 ∧ (∀ j, j < K.length → LinkP (dB Bs) (K.getD j Lk.nil)) ∧ PortsTo (dB Bs) K (dB Bs).length) := hQ0.out.trans netP_impl
  clear hQ0
  obtain ⟨y, hy⟩ : ∃ y, y = w.alloc (Obj.cells #[.slice adB Bs.length capB, .slice adK K.length capK] 31) := ⟨_, rfl⟩
  have B0 : Below w.heap.size w y := by rw [hy]; exact below_new _
  have A0 : NeAt y w.heap.size (.slice adB Bs.length capB) (.slice adK K.length capK) := by rw [hy]; exact NeAt.new w _
  have l0 := A0.lt
  have hk := hN.hk
  go_enter Try.func25, Try.ntmps25
  go_wp2_with fail
  go_at_call 46
  rw [← hy]
  clear hy
  refine (bFitI adB capB Bs y (hN.later B0).vb hN.hl hN.hls hcap).mono ?_
  rintro e w1 ⟨⟨R1, rfl, hR1⟩, k1⟩
  have B1 := B0.trans (k1.mono B0.size)
  have A1 := A0.below k1 l0
  clear A0 k1 B0
  by_cases h1 : (1 ≤ (dB Bs).length ∧ (dB Bs).length ≤ 5) ∧ FitTo (dB Bs) (dB Bs).length
  rotate_left
  · obtain rfl := bool_no hR1 h1
    clear hR1
    replace h1 : Hid _ := h1
    go_wp2
    go_ret
    exact ⟨YN.no (fun h => h1.out (hQ.out.1 h).1), B1⟩
  obtain rfl : R1 = true := hR1.2 h1
  clear hR1
  replace h1 : Hid _ := h1
  have cc := A1
  obtain ⟨c0, c1⟩ := cc
  by_cases h2 : K.length ≤ 6
  rotate_left
  · have d2 : decide ((K.length : Int) ≤ 6) = false := decide_eq_false (by omega)
    have d3 : ¬ (K.length : Int) ≤ 6 := by omega
    replace h2 : Hid _ := h2
    go_wp2
    go_ret
    exact ⟨YN.no (fun h => h2.out (hQ.out.1 h).2.1), B1⟩
  have d2 : decide ((K.length : Int) ≤ 6) = true := decide_eq_true (by omega)
  have d3 : (K.length : Int) ≤ 6 := by omega
  replace h2 : Hid _ := h2
  go_wp2_with fail
  go_at_call 47
  clear c0 c1 d2 d3
  refine (eFitI adB capB Bs adK capK K w1 (hN.later B1)).mono ?_
  rintro e w2 ⟨⟨R2, rfl, hR2⟩, k2⟩
  have B2 := B1.trans (k2.mono B1.size)
  have A2 := A1.below k2 A1.lt
  clear A1 k2 B1
  by_cases h3 : ∀ j, j < K.length → LinkP (dB Bs) (K.getD j Lk.nil)
  rotate_left
  · obtain rfl := bool_no hR2 h3
    clear hR2
    replace h3 : Hid _ := h3
    go_wp2
    go_ret
    exact ⟨YN.no (fun h => h3.out (hQ.out.1 h).2.2.1), B2⟩
  obtain rfl : R2 = true := hR2.2 h3
  clear hR2
  replace h3 : Hid _ := h3
  obtain ⟨c0, c1⟩ := A2
  go_wp2_with fail
  go_at_call 48
  clear c0 c1
  refine (pFitI adB capB Bs adK capK K w2 (hN.later B2)).mono ?_
  rintro e w3 ⟨⟨R3, rfl, hR3⟩, k3⟩
  have B3 := B2.trans (k3.mono B2.size)
  clear k3 B2
  go_wp2
  go_ret
  exact ⟨YN.is (by rw [hR3]; exact ⟨fun h => hQ.out.2 ⟨h1.out, h2.out, h3.out, h⟩, fun h => (hQ.out.1 h).2.2.2⟩), B3⟩

end Go.Proofs.Ytdfjfodfnildiab
