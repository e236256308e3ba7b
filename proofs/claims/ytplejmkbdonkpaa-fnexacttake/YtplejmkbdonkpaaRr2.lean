/- The register at work: its owner and its pair. -/
import Derived.Test.YtplejmkbdonkpaaRows
import Derived.WalkKit
import Derived.ProofKit
import Derived.OpenShut
import Derived.ShutString
import Derived.ChangeOld
import Derived.Below
import Derived.Deep.QuietTactic
import Derived.BigQuiet
import Derived.WalkSmall
import Derived.Laws.OwnMore
import Derived.WalkSpells
import Derived.WalkLawsBesides
import Derived.Deep.Cut
import Derived.Conc.MuLone
import Derived.Test.YtplejmkbdonkpaaRr1
namespace Go.Proofs.Ytplejmkbdonkpaa
open Go.ChangeShapes Go.WideShapes Go.ChangeAt Go.RowKit
open Go.ChangeMaps (open_string shut_string)
set_option linter.unusedVariables false
set_option maxRecDepth 100000

open Go.MuLone
set_option maxHeartbeats 2000000 in
theorem isOfI (r : Rg) (s ep : Int) (q : Nat) (w : World) (G : GBox w q 0 r) :
    Calls Try.prog 51 #[.pointer (some ⟨q, 0, none⟩), .int .i64 s, .int .i64 ep] w fun e w' => e = .returned (.bool (decide (r.ow = s) && decide (r.ep = ep))) ∧ GBox w' q 0 r ∧ Turned q none w w' := by
  obtain ⟨R, hR⟩ : ∃ R, R = (decide (r.ow = s) && decide (r.ep = ep)) := ⟨_, rfl⟩
  rw [← hR]
  replace hR : Hid _ := hR
  go_enter_defers Try.func51, Try.ntmps51
  go_wp2_with fail
  go_at_call 74
  refine (lock_free Try.muLib ⟨q, 1, none⟩ w G.c1 (G.fr 1)).mono ?_
  rintro e w' ⟨rfl, rfl⟩
  obtain ⟨v, hv⟩ : ∃ v, v = w.setCell ⟨q, 1, none⟩ (.int .i32 1) := ⟨_, rfl⟩
  have G1 : GBox v q 1 r := by rw [hv]; exact G.lock 1
  have T1 : Turned q none w v := by rw [hv]; exact (Turned.refl _ _ _).set 1 _
  rw [← hv]
  clear hv G
  have c0 := G1.c0
  have c3 := G1.c3
  by_cases e1 : r.ow = s
  rotate_left
  · have h1 : decide (r.ow = s) = false := decide_eq_false e1
    have hN : Hid (R = false) := by unfold Hid; rw [hR.out, h1]; rfl
    go_wp2
    refine leaves_cons (f := 75) (args := #[.pointer (some ⟨q, 1, none⟩)]) (by simp) (by simp [go_sem]) ?_
    refine (unlock_deferred Try.muLib ⟨q, 1, none⟩ .returning _ G1.c1 (G1.fr 1)).mono ?_
    rintro e u' w'' ⟨rfl, rfl, rfl⟩
    exact ⟨_, results_tmp rfl _ _ _, by rw [hN.out]; rfl, G1.lock 0, T1.set 1 _⟩
  · have h1 : decide (r.ow = s) = true := decide_eq_true e1
    have hN : Hid (R = decide (r.ep = ep)) := by unfold Hid; rw [hR.out, h1]; rfl
    replace e1 : Hid _ := e1
    go_wp2_with fail
    go_at_call 55
    refine (epochI r.ep q v c0).mono ?_
    rintro e w' ⟨rfl, rfl⟩
    go_wp2
    refine leaves_cons (f := 75) (args := #[.pointer (some ⟨q, 1, none⟩)]) (by simp) (by simp [go_sem]) ?_
    refine (unlock_deferred Try.muLib ⟨q, 1, none⟩ .returning _ G1.c1 (G1.fr 1)).mono ?_
    rintro e u' w'' ⟨rfl, rfl, rfl⟩
    exact ⟨_, results_tmp rfl _ _ _, by rw [hN.out]; rfl, G1.lock 0, T1.set 1 _⟩
set_option maxHeartbeats 2000000 in
theorem pairWI (r : Rg) (p : Int) (q : Nat) (w : World) (G : GBox w q 0 r) :
    Calls Try.prog 60 #[.pointer (some ⟨q, 0, none⟩), .int .i64 p] w fun e w' => e = .returned (.tuple #[]) ∧ GBox w' q 0 ⟨r.ep, r.ow, p⟩ ∧ Turned q none w w' := by
  go_enter_defers Try.func60, Try.ntmps60
  go_wp2_with fail
  go_at_call 74
  refine (lock_free Try.muLib ⟨q, 1, none⟩ w G.c1 (G.fr 1)).mono ?_
  rintro e w' ⟨rfl, rfl⟩
  obtain ⟨v, hv⟩ : ∃ v, v = w.setCell ⟨q, 1, none⟩ (.int .i32 1) := ⟨_, rfl⟩
  have G1 : GBox v q 1 r := by rw [hv]; exact G.lock 1
  have T1 : Turned q none w v := by rw [hv]; exact (Turned.refl _ _ _).set 1 _
  rw [← hv]
  clear hv G
  have c4 := G1.c4
  have f4 := G1.fr 4
  have G2 := G1.setPa p
  have T2 := T1.set 4 (.int .i64 p)
  go_wp2
  refine leaves_cons (f := 75) (args := #[.pointer (some ⟨q, 1, none⟩)]) (by simp) (by simp [go_sem]) ?_
  refine (unlock_deferred Try.muLib ⟨q, 1, none⟩ .returning _ G2.c1 (G2.fr 1)).mono ?_
  rintro e u' w'' ⟨rfl, rfl, rfl⟩
  exact ⟨_, results_none rfl _ _ _, rfl, G2.lock 0, T2.set 1 _⟩

end Go.Proofs.Ytplejmkbdonkpaa
