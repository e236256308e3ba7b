/- Frames drawn of a code; frames copied. -/
import Derived.Test.YtpdlliehdmeboaaDoorRows
import Derived.WalkKit
import Derived.ProofKit
import Derived.OpenShut
import Derived.ShutString
import Derived.ChangeOld
import Derived.Below
import Derived.Deep.QuietTactic
import Derived.BigQuiet
import Derived.WalkSmall
import Derived.Laws.OwnMore
import Derived.WalkSpells
import Derived.WalkLawsBesides
import Derived.Test.YtpdlliehdmeboaaDoorDraw2
namespace Go.Proofs.YtpdlliehdmeboaaDoor
open Go.ChangeShapes Go.WideShapes Go.ChangeAt Go.RowKit
open Go.ChangeMaps (open_string shut_string)
set_option linter.unusedVariables false

set_option maxHeartbeats 2000000 in
theorem copyF (a b c : Int) (ad : Option Addr) (cap : Nat) (L : List Int) (w : World) (hv : View w ad L.length (fun i => L.getD i 0)) (hnil : L = [] → ad = none → cap = 0) (hm : L.length ≤ 1048576) :
    Calls Tryd.prog 31 #[.agg #[.int .i64 a, .int .i64 b, .int .i64 c, .slice ad L.length cap]] w fun e w' => ∃ ad' cap', e = .returned (.agg #[.int .i64 a, .int .i64 b, .int .i64 c, .slice ad' L.length cap']) ∧ w'.ownsRow w.heap.size 5 1 (.slice ad' L.length cap') L.length (L.map (Value.int .u8)) ∧ Below w.heap.size w w' := by
  obtain ⟨x, hx⟩ : ∃ x, x = ((w.alloc (Obj.cells #[.int .i64 a, .int .i64 b, .int .i64 c, .slice ad L.length cap] 25)).alloc (Obj.cells #[.int .i64 0, .int .i64 0, .int .i64 0, .slice none 0 0] 25)).alloc (Obj.cells #[] 5) := ⟨_, rfl⟩
  have F0 : FrameAt x w.heap.size a b c ad L.length cap := by rw [hx]; refine ⟨?_, ?_, ?_, ?_⟩ <;> simp [go_sem]
  have R0 : FrameAt x (w.heap.size + 1) 0 0 0 none 0 0 := by rw [hx]; refine ⟨?_, ?_, ?_, ?_⟩ <;> simp [go_sem]
  have Z0 : ∀ i, x.frozen? ⟨w.heap.size, i, none⟩ = false := by intro i; rw [hx]; simp [go_sem]
  have Z1 : ∀ i, x.frozen? ⟨w.heap.size + 1, i, none⟩ = false := by intro i; rw [hx]; simp [go_sem]
  have B0 : Below w.heap.size w x := by rw [hx]; exact (((Below.refl _ _).alloc (Nat.le_refl _) _).alloc (by simp) _).alloc (by simp; omega) _
  have T0 : x.heap.size = w.heap.size + 3 := by rw [hx]; simp
  have oE : x.ownsRow (w.heap.size + 2) 5 1 (.slice (some ⟨w.heap.size + 2, 0, none⟩) 0 0) ([] : List Int).length (([] : List Int).map (Value.int .u8)) := by
    rw [hx]
    have := own_empty ((w.alloc (Obj.cells #[.int .i64 a, .int .i64 b, .int .i64 c, .slice ad L.length cap] 25)).alloc (Obj.cells #[.int .i64 0, .int .i64 0, .int .i64 0, .slice none 0 0] 25)) 5
    simpa using this
  have hvx := hv.carry (w' := x) (fun y h hp => B0.block _ (hv.lt y h hp))
  have T1 : w.heap.size + 2 ≤ x.heap.size := by omega
  clear T0
  obtain ⟨C1, C2, C3, C4⟩ := F0
  have F0 : FrameAt x w.heap.size a b c ad L.length cap := ⟨C1, C2, C3, C4⟩
  rw [hx] at C1 C2 C3 C4 oE hvx T1
  go_enter Tryd.func31, Tryd.ntmps31
  go_wp2_with (first | (at_builtin; refine app_view rfl _ _ rfl (w.heap.size + 2) _ [] rfl oE ad cap L rfl hvx ?n1 ?n2 ?n3 ?_) | go_in)
  case n1 => exact hnil
  case n2 => simp; omega
  case n3 => simp
  rw [← hx] at T1 ⊢
  clear hx C1 C2 C3 C4 oE hvx
  intro v1 w1 o1 k1
  obtain ⟨_, ad1, cap1, rfl, _, _, m1⟩ := own_view o1
  have s1 := k1.size
  have B1 := B0.trans (k1.mono (by omega))
  have F1 := F0.below k1 (by omega)
  have R1 := R0.below k1 (by omega)
  have Y0 : ∀ i, w1.frozen? ⟨w.heap.size, i, none⟩ = false := fun i => (World.frozen?_of_block (a := ⟨w.heap.size, i, none⟩) (k1.block _ (by show w.heap.size < _; omega))).trans (Z0 i)
  have Y1 : ∀ i, w1.frozen? ⟨w.heap.size + 1, i, none⟩ = false := fun i => (World.frozen?_of_block (a := ⟨w.heap.size + 1, i, none⟩) (k1.block _ (by show w.heap.size + 1 < _; omega))).trans (Z1 i)
  obtain ⟨C1, C2, C3, C4⟩ := F1
  obtain ⟨D1, D2, D3, D4⟩ := R1
  have f3 := Y0 3
  have e0 := Y1 0
  have e1 := Y1 1
  have e2 := Y1 2
  have e3 := Y1 3
  clear F0 R0 Z0 Z1 Y0 Y1
  go_wp2
  refine bodyPost_ret (v := .agg #[.int .i64 a, .int .i64 b, .int .i64 c, .slice ad1 L.length cap1]) (by simp [results, Tryd.results31, go_sem, *]) rfl ⟨ad1, cap1, rfl, ?_, ?_⟩
  · refine own_base (own_keep o1 (fun g hg => ?_)) (by omega : w.heap.size ≤ w.heap.size + 2)
    rw [Below.heap_setCell _ _ _ _ (by show g ≠ w.heap.size + 1; omega), Below.heap_setCell _ _ _ _ (by show g ≠ w.heap.size + 1; omega), Below.heap_setCell _ _ _ _ (by show g ≠ w.heap.size + 1; omega), Below.heap_setCell _ _ _ _ (by show g ≠ w.heap.size + 1; omega), Below.heap_setCell _ _ _ _ (by show g ≠ w.heap.size; omega)]
  · exact ((((B1.setCell (by simp) _).setCell (by simp) _).setCell (by simp) _).setCell (by simp) _).setCell (by simp) _
set_option maxHeartbeats 2000000 in
theorem drawFB (ad : Option Addr) (len cap : Nat) (f : Nat → Int) (w : World) (h : Code0 w ad len f) :
    Calls Tryd.prog 6 #[.slice ad len cap] w fun e w' => ∃ (a b c : Int) (L : List Int) (adL : Option Addr) (capL : Nat), e = .returned (.agg #[.int .i64 a, .int .i64 b, .int .i64 c, .slice adL L.length capL]) ∧ w'.ownsRow w.heap.size 5 1 (.slice adL L.length capL) L.length (L.map (Value.int .u8)) ∧ (∀ x ∈ L, 0 ≤ x ∧ x ≤ 255) ∧ L.length ≤ 31 ∧ Below w.heap.size w w' := by
  obtain ⟨x, hx⟩ : ∃ x, x = w.alloc (Obj.cells #[.int .i64 0, .int .i64 0, .int .i64 0, .slice none 0 0] 25) := ⟨_, rfl⟩
  have R0 : FrameAt x w.heap.size 0 0 0 none 0 0 := by rw [hx]; exact frameAt_box w _ _ _ _ _ _ _
  have Z0 : ∀ i, x.frozen? ⟨w.heap.size, i, none⟩ = false := by intro i; rw [hx]; simp [go_sem]
  have B0 : Below w.heap.size w x := by rw [hx]; exact below_box w _
  have T0 : w.heap.size < x.heap.size := by rw [hx]; exact size_box w _
  have hx0 := h.later B0 (Nat.le_refl _)
  go_enter Tryd.func6, Tryd.ntmps6
  go_wp2_with fail
  go_at_call 24
  rw [← hx]
  clear hx
  refine (drawNew ad len cap f x hx0.view hx0.lt hx0.small hx0.bytes).mono ?_
  rintro e x1 ⟨rfl, hs, hb, hz0⟩
  have t1 : x.heap.size < x1.heap.size := by omega
  clear hz0
  go_wp2_with fail
  go_at_call 23
  refine (drawF x1 hs t1 (fun q e hp => by have := hx0.lt q e hp; omega)).mono ?_
  rintro e x2 ⟨a, b, c, L, ⟨adL, capL, rfl, oL, hLb, _, g⟩, hL⟩
  have sg := g.size
  have mL := (own_view2 oL).2.2
  have k2 : Below x.heap.size x x2 := hb.trans (grown_below g (Nat.le_refl _) (by omega))
  obtain ⟨D1, D2, D3, D4⟩ := R0.below k2 T0
  have Y0 : ∀ i, x2.frozen? ⟨w.heap.size, i, none⟩ = false := fun i => (World.frozen?_of_block (a := ⟨w.heap.size, i, none⟩) (k2.block _ T0)).trans (Z0 i)
  have e0 := Y0 0
  have e1 := Y0 1
  have e2 := Y0 2
  have e3 := Y0 3
  have B2 := B0.trans (k2.mono (by omega))
  clear Y0 Z0 R0 hs hx0
  go_wp2
  refine bodyPost_ret (v := .agg #[.int .i64 a, .int .i64 b, .int .i64 c, .slice adL L.length capL]) (by simp [results, Tryd.results6, go_sem, *]) rfl ⟨a, b, c, L, adL, capL, rfl, ?_, hLb, hL, ?_⟩
  · refine own_base (own_keep oL (fun g hg => ?_)) (by omega : w.heap.size ≤ x1.heap.size)
    rw [Below.heap_setCell _ _ _ _ (by show g ≠ w.heap.size; omega), Below.heap_setCell _ _ _ _ (by show g ≠ w.heap.size; omega), Below.heap_setCell _ _ _ _ (by show g ≠ w.heap.size; omega), Below.heap_setCell _ _ _ _ (by show g ≠ w.heap.size; omega)]
  · exact (((B2.setCell (by simp) _).setCell (by simp) _).setCell (by simp) _).setCell (by simp) _

end Go.Proofs.YtpdlliehdmeboaaDoor
