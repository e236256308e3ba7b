/- spec.FrameBytes, walked. -/
import Derived.Test.YtpdlliehdmeboaaDoorRows
import Derived.WalkKit
import Derived.ProofKit
import Derived.OpenShut
import Derived.ShutString
import Derived.ChangeOld
import Derived.Below
import Derived.Deep.QuietTactic
import Derived.BigQuiet
import Derived.WalkSmall
import Derived.Laws.OwnMore
import Derived.WalkSpells
import Derived.WalkLawsBesides
import Derived.Laws.AppendOwnNone
import Derived.Test.YtpdlliehdmeboaaDoorFrame6
namespace Go.Proofs.YtpdlliehdmeboaaDoor
open Go.ChangeShapes Go.WideShapes Go.ChangeAt Go.RowKit
open Go.ChangeMaps (open_string shut_string)
set_option linter.unusedVariables false

set_option maxHeartbeats 4000000 in
theorem bytesSpec (a b c : Int) (ad : Option Addr) (cap : Nat) (L : List Int) (w : World) (hv : View w ad L.length (fun i => L.getD i 0)) (hnil : L = [] → ad = none → cap = 0) (hL : ∀ x ∈ L, 0 ≤ x ∧ x ≤ 255) (hm : L.length ≤ 1048576) :
    Calls Tryd.prog 12 #[.agg #[.int .i64 a, .int .i64 b, .int .i64 c, .slice ad L.length cap]] w fun e w' => ∃ v, e = .returned v ∧ w'.ownsRow w.heap.size 5 1 v (written a b c L).length ((written a b c L).map (Value.int .u8)) ∧ Below w.heap.size w w' := by
  obtain ⟨x, hx⟩ : ∃ x, x = w.alloc (Obj.cells #[.int .i64 a, .int .i64 b, .int .i64 c, .slice ad L.length cap] 25) := ⟨_, rfl⟩
  have F0 : FrameAt x w.heap.size a b c ad L.length cap := by rw [hx]; exact frameAt_box w _ _ _ _ _ _ _
  have B0 : Below w.heap.size w x := by rw [hx]; exact below_box w _
  have S0 : w.heap.size < x.heap.size := by rw [hx]; exact size_box w _
  by_cases hok : okF a b c L.length = true
  rotate_left
  · have hok' : okF a b c L.length = false := by simpa using hok
    have e : written a b c L = [] := by unfold written; rw [if_neg hok]
    rw [e]
    clear e
    go_enter Tryd.func12, Tryd.ntmps12
    go_wp2_with fail
    go_at_call 16
    rw [← hx]
    clear hx
    refine (okSpec a b c ad L.length cap x (by unfold maxLen; omega)).mono ?_
    rintro e w1 ⟨rfl, k1⟩
    have s1 := k1.size
    rw [hok']
    go_wp2
    go_ret
    exact ⟨_, rfl, own_base (own_empty w1 5) (by omega), (B0.trans (k1.mono (by omega))).trans ((below_box w1 _).mono (by omega))⟩
  have e : written a b c L = body a b c L ++ low4 (sumL (body a b c L)) := by unfold written; rw [if_pos hok]
  rw [e]
  clear e
  have Hbd : ∀ i, 0 ≤ (body a b c L).getD i 0 ∧ (body a b c L).getD i 0 ≤ 255 := getD_bd (body_bd hok hL)
  obtain ⟨⟨a0, a1⟩, ⟨b0, b1⟩, ⟨c0, c1⟩, hn⟩ := okF_of hok
  have HB := sumL_bd (body a b c L)
  have HLen : Hid ((body a b c L).length ≤ 34) := body_len hn
  have hn' : (L.length : Int) ≤ 30 := by omega
  have hw : (Lit.int .i64 (L.length : Int)).wf = true := by simp [Lit.wf, IntKind.min, IntKind.max, IntKind.signed, IntKind.bits]; omega
  go_enter Tryd.func12, Tryd.ntmps12
  go_wp2_with fail
  go_at_call 16
  rw [← hx]
  clear hx
  refine (okSpec a b c ad L.length cap x (by unfold maxLen; omega)).mono ?_
  rintro e w1 ⟨rfl, k1⟩
  have s1 := k1.size
  have B1 := B0.trans (k1.mono (by omega))
  rw [hok]
  have F1 := F0.below k1 S0
  obtain ⟨C1, C2, C3, C4⟩ := F1
  obtain ⟨y, hy⟩ : ∃ y, y = w1.alloc (Obj.cells #[.int .u8 a, .int .u8 b, .int .u8 c] 5) := ⟨_, rfl⟩
  have o1 : y.ownsRow w1.heap.size 5 1 (.slice (some ⟨w1.heap.size, 0, none⟩) 3 3) [a, b, c].length ([a, b, c].map (Value.int .u8)) := by
    rw [hy]; exact World.ownsRow_lit w1 #[.int .u8 a, .int .u8 b, .int .u8 c] 3 (Nat.le_refl _) (by decide) rfl
  have k1y : Below w1.heap.size w1 y := by rw [hy]; exact below_box w1 _
  have By := B1.trans (k1y.mono (by omega))
  have s1y := k1y.size
  obtain ⟨E1, E2, E3, E4⟩ : FrameAt y w.heap.size a b c ad L.length cap := FrameAt.below (⟨C1, C2, C3, C4⟩ : FrameAt w1 w.heap.size a b c ad L.length cap) k1y (by omega)
  have Fy : FrameAt y w.heap.size a b c ad L.length cap := ⟨E1, E2, E3, E4⟩
  rw [hy] at E1 E2 E3 E4
  go_wp2_with fail
  go_at_call 32
  rw [← hy]
  clear hy E1 E2 E3 E4 C1 C2 C3 C4
  refine (putSpec (L.length : Int) y hw).mono ?_
  rintro e w2 ⟨v, rfl, o2, k2⟩
  have s2 := k2.size
  have B2 := By.trans (k2.mono (by omega))
  obtain ⟨_, ad2, cap2, rfl, v2, _, _⟩ := own_view o2
  have o1 := own_carry o1 k2
  clear o2
  have F2 := Fy.below k2 (by omega)
  obtain ⟨C1, C2, C3, C4⟩ := F2
  have hp1 : (putZ (L.length : Int)).length ≤ 5 := putZ_len _
  go_wp2_with (first | (at_builtin; refine app_view rfl _ _ rfl w1.heap.size _ [a, b, c] rfl o1 ad2 cap2 (putZ (L.length : Int)) rfl v2 ?n1 ?n2 ?n3 ?_) | go_in)
  case n1 => exact fun h => by rw [putZ_small (by omega) (by omega)] at h; simp at h
  case n2 => simp; omega
  case n3 => omega
  intro v3 w3 o3 k3
  have s3 := k3.size
  have B3 := B2.trans (k3.mono (by omega))
  have F3 : FrameAt w3 w.heap.size a b c ad L.length cap := FrameAt.below (⟨C1, C2, C3, C4⟩ : FrameAt w2 w.heap.size a b c ad L.length cap) k3 (by omega)
  clear C1 C2 C3 C4 o1 v2
  obtain ⟨C1, C2, C3, C4⟩ := F3
  have hv3 := hv.carry (w' := w3) (fun x h hp => B3.block _ (hv.lt x h hp))
  go_wp2_with (first | (at_builtin; refine app_view rfl _ _ rfl w1.heap.size _ ([a, b, c] ++ putZ (L.length : Int)) rfl o3 ad cap L rfl hv3 ?n1 ?n2 ?n3 ?_) | go_in)
  case n1 => exact hnil
  case n2 => simp; omega
  case n3 => omega
  intro v4 w4 o4 k4
  have o4 : w4.ownsRow w1.heap.size 5 1 v4 (body a b c L).length ((body a b c L).map (Value.int .u8)) := by unfold body; simpa using o4
  have s4 := k4.size
  have B4 := B3.trans (k4.mono (by omega))
  clear C1 C2 C3 C4 o3 hv3
  obtain ⟨_, ad4, cap4, rfl, v4, _, m4⟩ := own_view o4
  have hl4 := HLen.out
  go_wp2_with fail
  go_at_call 34
  refine (sumSpec ad4 (body a b c L).length cap4 (fun i => (body a b c L).getD i 0) w4 v4 (by omega) Hbd).mono ?_
  rintro e w5 ⟨rfl, h5⟩
  rw [h5]
  clear h5 w5
  go_wp2_with fail
  go_at_call 33
  refine (l2sum (sumL (body a b c L)) w4 HB.1 HB.2).mono ?_
  rintro e w6 ⟨v, rfl, o5, k6⟩
  obtain ⟨_, ad6, cap6, rfl, v6, _, m6⟩ := own_view o5
  have o6 := own_carry o4 k6
  have B6 := B4.trans (k6.mono B4.size)
  have s6 := k6.size
  clear o4 v4 o5
  go_wp2_with (first | (at_builtin; refine app_view rfl _ _ rfl w1.heap.size _ (body a b c L) rfl o6 ad6 cap6 (low4 (sumL (body a b c L))) rfl v6 ?n1 ?n2 ?n3 ?_) | go_in)
  case n1 => exact fun h => by simp [low4] at h
  case n2 => simp [low4]; omega
  case n3 => omega
  intro v7 w7 o7 k7
  go_wp2
  go_ret
  exact ⟨_, rfl, own_base (base := w1.heap.size) (by simpa using o7) (by omega), B6.trans (k7.mono (by omega))⟩

end Go.Proofs.YtpdlliehdmeboaaDoor
