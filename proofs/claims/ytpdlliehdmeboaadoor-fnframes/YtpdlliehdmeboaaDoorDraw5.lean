/- Bytes of frames drawn of a code. -/
import Derived.Test.YtpdlliehdmeboaaDoorRows
import Derived.WalkKit
import Derived.ProofKit
import Derived.OpenShut
import Derived.ShutString
import Derived.ChangeOld
import Derived.Below
import Derived.Deep.QuietTactic
import Derived.BigQuiet
import Derived.WalkSmall
import Derived.Laws.OwnMore
import Derived.WalkSpells
import Derived.WalkLawsBesides
import Derived.Test.YtpdlliehdmeboaaDoorDraw3
import Derived.Test.YtpdlliehdmeboaaDoorDraw4
import Derived.Test.YtpdlliehdmeboaaDoorFrame13
namespace Go.Proofs.YtpdlliehdmeboaaDoor
open Go.ChangeShapes Go.WideShapes Go.ChangeAt Go.RowKit
open Go.ChangeMaps (open_string shut_string)
set_option linter.unusedVariables false

set_option maxHeartbeats 2000000 in
theorem drawFO (ad : Option Addr) (len cap : Nat) (f : Nat → Int) (w : World) (h : Code0 w ad len f) :
    Calls Tryd.prog 8 #[.slice ad len cap] w fun e w' => ∃ (L : List Int) (adX : Option Addr) (capX : Nat), e = .returned (.slice adX L.length capX) ∧ View w' adX L.length (fun i => L.getD i 0) ∧ (∀ x ∈ L, 0 ≤ x ∧ x ≤ 255) ∧ L.length ≤ 1000 ∧ L.length ≤ capX ∧ capX ≤ maxLen ∧ Below w.heap.size w w' := by
  go_enter Tryd.func8, Tryd.ntmps8
  go_wp2_with fail
  go_at_call 24
  refine (drawNew ad len cap f w h.view h.lt h.small h.bytes).mono ?_
  rintro e x1 ⟨rfl, hs, hb, hz0⟩
  have t1 : w.heap.size < x1.heap.size := by omega
  clear hz0
  go_wp2_with fail
  go_at_call 27
  refine (drawRight x1 hs t1 (fun q e hp => by have := h.lt q e hp; omega)).mono ?_
  rintro e x2 ⟨a, b, c, L, ⟨adL, capL, rfl, oL, hLb, hs2, g⟩, hL, hok⟩
  have sg := g.size
  obtain ⟨vL, _, mL⟩ := own_view2 oL
  have nL := own_nil oL
  have k2 : Below w.heap.size w x2 := hb.trans (grown_below g (Nat.le_refl _) (by omega))
  go_wp2_with fail
  go_at_call 12
  refine (bytesSpec a b c adL capL L x2 vL (fun _ h => nL.1 h) hLb (by omega)).mono ?_
  rintro e x3 ⟨v, rfl, o3, k3⟩
  obtain ⟨_, ad3, cap3, rfl, v3, _, m3⟩ := own_view o3
  have n3 := own_nil2 o3
  have hwl := written_len a b c L
  have hwb := written_bd a b c L hLb
  have s3 := k3.size
  have hs3 := hs2.later k3
  have hpos : 0 < (written a b c L).length := by rw [written_ok hok]; simp
  obtain ⟨bb, off, rfl, _⟩ := v3 hpos
  have hbb : bb ≠ w.heap.size := by have := (m3 _ rfl).1; show bb ≠ _; simp at this; omega
  have B3 := k2.trans (k3.mono (by omega))
  clear o3 oL vL
  obtain ⟨R, hR⟩ : ∃ R, R = written a b c L := ⟨_, rfl⟩
  rw [← hR] at v3 n3 hwl hwb ⊢
  obtain ⟨nB, hnB⟩ : ∃ nB, nB = R.length := ⟨_, rfl⟩
  have hnH : Hid (nB = R.length) := hnB
  rw [← hnB] at v3 n3 hwl ⊢
  clear hnB hR hpos
  go_wp2_with fail
  go_at_call 26
  refine (dent bb off nB cap3 R x3 hs3 (by omega) (fun q e hp => by have := h.lt q e hp; omega) hnH v3 hbb hwb (by omega) n3.1 n3.2).mono ?_
  rintro e x4 ⟨L', adX, capX, rfl, vX, hXb, hXl, hX1, hX2, _, g4⟩
  have B4 := B3.trans (grown_below g4 (Nat.le_refl _) (by omega))
  go_wp2
  go_ret
  exact ⟨L', adX, capX, rfl, vX, hXb, hXl, hX1, hX2, B4⟩

end Go.Proofs.YtpdlliehdmeboaaDoor
