/- The small functions over lists of what goes out that the laws call. -/
import Derived.Test.YtifndemkkaelaaaGreatRows
import Derived.WalkKit
import Derived.ProofKit
import Derived.OpenShut
import Derived.ShutString
import Derived.ChangeOld
import Derived.Below
import Derived.Deep.QuietTactic
import Derived.BigQuiet
import Derived.WalkSmall
import Derived.Laws.OwnMore
import Derived.WalkSpells
import Derived.WalkLawsBesides
import Derived.Test.YtifndemkkaelaaaGreatZpNestO
import Derived.Test.YtifndemkkaelaaaGreatZpFrameOwn
import Derived.Test.YtifndemkkaelaaaGreatZp2
import Derived.Test.YtifndemkkaelaaaGreatZp1
namespace Go.Proofs.YtifndemkkaelaaaGreat
open Go.ChangeShapes Go.WideShapes Go.ChangeAt Go.RowKit
open Go.ChangeMaps (open_string shut_string)
set_option linter.unusedVariables false
set_option maxRecDepth 100000

theorem do_get (Ms : List Ob) (i : Nat) : (Ms.map Ob.d).getD i (0, 0, 0, 0, []) = (Ms.getD i Ob.nil).d := by
  simp only [List.getD, List.getElem?_map]
  cases Ms[i]? <;> rfl
theorem eqO1 (p a b c : Int) (ad ad' : Option Addr) (len cap cap' : Nat) (f : Nat → Int) (w : World) (hv : View w ad len f) (hv' : View w ad' len f) (hl : len ≤ 1048576) :
    Calls Tryz.prog 73 #[.agg #[.int .i64 p, .int .i64 a, .int .i64 b, .int .i64 c, .slice ad len cap], .agg #[.int .i64 p, .int .i64 a, .int .i64 b, .int .i64 c, .slice ad' len cap']] w fun e w' => e = .returned (.bool true) ∧ Below w.heap.size w w' := by
  obtain ⟨x0, hx⟩ : ∃ x, x = (w.alloc (Obj.cells #[.int .i64 p, .int .i64 a, .int .i64 b, .int .i64 c, .slice ad len cap] 43)).alloc (Obj.cells #[.int .i64 p, .int .i64 a, .int .i64 b, .int .i64 c, .slice ad' len cap'] 43) := ⟨_, rfl⟩
  have B0 : Below w.heap.size w x0 := by rw [hx]; exact ((Below.refl _ _).alloc (Nat.le_refl _) _).alloc (by simp) _
  go_enter Tryz.func73, Tryz.ntmps73
  go_wp2_with fail
  go_at_call 27
  rw [← hx]
  clear hx
  refine (eqF a b c ad ad' len cap cap' f x0 (hv.carry (fun x h hp => B0.block _ (hv.lt x h hp))) (hv'.carry (fun x h hp => B0.block _ (hv'.lt x h hp))) hl (fun x h hp => by have := hv.lt x h hp; have := B0.size; omega) (fun x h hp => by have := hv'.lt x h hp; have := B0.size; omega)).mono ?_
  rintro e w1 ⟨rfl, k1⟩
  go_wp2
  go_ret
  exact ⟨rfl, B0.trans (k1.mono B0.size)⟩
set_option maxHeartbeats 1000000 in
theorem eqOs (ad ad' : Option Addr) (cap cap' : Nat) (Ms Ms' : List Ob) (w : World) (hv : ObV w ad Ms) (hv' : ObV w ad' Ms') (hd : Ms'.map Ob.d = Ms.map Ob.d) (hl : Ms.length ≤ 1048576) (hls : ∀ i, i < Ms.length → (Ms.getD i Ob.nil).L.length ≤ 1048576) :
    Calls Tryz.prog 26 #[.slice ad Ms.length cap, .slice ad' Ms'.length cap'] w fun e w' => e = .returned (.bool true) ∧ Below w.heap.size w w' := by
  have hlen : Ms'.length = Ms.length := by have := congrArg List.length hd; simpa using this
  have hsame : ∀ i, (Ms'.getD i Ob.nil).p = (Ms.getD i Ob.nil).p ∧ (Ms'.getD i Ob.nil).a = (Ms.getD i Ob.nil).a ∧ (Ms'.getD i Ob.nil).b = (Ms.getD i Ob.nil).b ∧ (Ms'.getD i Ob.nil).c = (Ms.getD i Ob.nil).c ∧ (Ms'.getD i Ob.nil).L = (Ms.getD i Ob.nil).L := fun i => by
    have := congrArg (fun D => D.getD i (0, 0, 0, 0, [])) hd
    simp only [do_get] at this
    simpa [Ob.d] using this
  rw [hlen]
  go_enter Tryz.func26, Tryz.ntmps26
  go_wp2
  go_loopw [5] (fun i wr => ∃ k : Nat, k ≤ Ms.length ∧ i = .int .i64 k ∧ Below w.heap.size w wr) (fun i _ => Ms.length - (intOf i).toNat)
  case atStart => exact ⟨0, Nat.zero_le _, rfl, Below.refl _ _⟩
  case round =>
    obtain ⟨k, hk, rfl, hb⟩ := hrel
    by_cases hlt : k < Ms.length
    · obtain ⟨b, off, rfl, hc0⟩ := hv.row (by omega)
      obtain ⟨b', off', rfl, hc0'⟩ := hv'.row (by omega)
      have hlk := hls k hlt
      have hn : ∀ Y, Below w.heap.size w Y → ObL Y (Ms.getD k Ob.nil) := fun Y hY => View.carry (hv.nest k hlt) (fun x e hp => hY.block _ (View.lt (hv.nest k hlt) x e hp))
      have hn' : ∀ Y, Below w.heap.size w Y → ObL Y (Ms'.getD k Ob.nil) := fun Y hY => View.carry (hv'.nest k (by omega)) (fun x e hp => hY.block _ (View.lt (hv'.nest k (by omega)) x e hp))
      have hc : ∀ Y, Below w.heap.size w Y → ObAt Y b (off + k * 5) (Ms.getD k Ob.nil) := fun Y hY => (hc0 k hlt).same (hY.block _ (hv.lt ⟨b, off, none⟩ rfl (by omega)))
      have hc' : ∀ Y, Below w.heap.size w Y → ObAt Y b' (off' + k * 5) (Ms'.getD k Ob.nil) := fun Y hY => (hc0' k (by omega)).same (hY.block _ (hv'.lt ⟨b', off', none⟩ rfl (by omega)))
      obtain ⟨e1, e2, e3, e4, e5⟩ := hsame k
      obtain ⟨m, hh⟩ : ∃ m, Ms.getD k Ob.nil = m := ⟨_, rfl⟩
      obtain ⟨m', hh'⟩ : ∃ m, Ms'.getD k Ob.nil = m := ⟨_, rfl⟩
      rw [hh] at e1 e2 e3 e4 e5 hlk
      rw [hh'] at e1 e2 e3 e4 e5
      simp only [hh] at hn hc
      simp only [hh'] at hn' hc'
      unfold ObL at hn hn'
      unfold ObAt at hc hc'
      rw [e1, e2, e3, e4, e5] at hc'
      rw [e5] at hn'
      clear hh hh' hc0 hc0' hv hv' hsame hls hd hlen e1 e2 e3 e4 e5
      go_wp2_with fail
      refine wp_region_held (S := fun Y => Below w.heap.size w Y) (by kernel_rfl) ?_
      change wpAnyH _ _ _ _ _ _ _ _ (World.drew _)
      have hb0 : Below w.heap.size w wr.drew := hb.drew
      refine takeW 0 17 (.slice (some ⟨b, off, none⟩) Ms.length cap) rfl rfl (by kernel_rfl) (by kernel_rfl) (by kernel_rfl) (fun _ _ _ h => h) (by kernel_rfl) (by (intro w hSw; go_simp)) (by assumption) ?_
      simp only [List.set_cons_zero, List.set_cons_succ]
      refine takeW 1 18 (.int .i64 k) rfl rfl (by kernel_rfl) (by kernel_rfl) (by kernel_rfl) (fun _ _ _ h => h) (by kernel_rfl) (by (intro w hSw; go_simp)) (by assumption) ?_
      simp only [List.set_cons_zero, List.set_cons_succ]
      refine takeW 2 19 (.pointer (some ⟨b, off + k * 5, none⟩)) rfl rfl (by kernel_rfl) (by kernel_rfl) (by kernel_rfl) (fun _ _ _ h => h) (by kernel_rfl) (by (intro Y hSw; go_simp; try omega)) (by assumption) ?_
      simp only [List.set_cons_zero, List.set_cons_succ]
      refine takeW 3 20 (.agg #[.int .i64 m.p, .int .i64 m.a, .int .i64 m.b, .int .i64 m.c, .slice m.ad m.L.length m.cap]) rfl rfl (by kernel_rfl) (by kernel_rfl) (by kernel_rfl) (fun _ _ _ h => h) (by kernel_rfl) (by (intro Y hSw; obtain ⟨X1, X2, X3, X4, X5⟩ := hc Y hSw; go_simp)) (by assumption) ?_
      simp only [List.set_cons_zero, List.set_cons_succ]
      refine takeW 4 21 (.slice (some ⟨b', off', none⟩) Ms.length cap') rfl rfl (by kernel_rfl) (by kernel_rfl) (by kernel_rfl) (fun _ _ _ h => h) (by kernel_rfl) (by (intro w hSw; go_simp)) (by assumption) ?_
      simp only [List.set_cons_zero, List.set_cons_succ]
      refine takeW 5 22 (.int .i64 k) rfl rfl (by kernel_rfl) (by kernel_rfl) (by kernel_rfl) (fun _ _ _ h => h) (by kernel_rfl) (by (intro w hSw; go_simp)) (by assumption) ?_
      simp only [List.set_cons_zero, List.set_cons_succ]
      refine takeW 6 23 (.pointer (some ⟨b', off' + k * 5, none⟩)) rfl rfl (by kernel_rfl) (by kernel_rfl) (by kernel_rfl) (fun _ _ _ h => h) (by kernel_rfl) (by (intro Y hSw; go_simp; try omega)) (by assumption) ?_
      simp only [List.set_cons_zero, List.set_cons_succ]
      refine takeW 7 24 (.agg #[.int .i64 m.p, .int .i64 m.a, .int .i64 m.b, .int .i64 m.c, .slice m'.ad m.L.length m'.cap]) rfl rfl (by kernel_rfl) (by kernel_rfl) (by kernel_rfl) (fun _ _ _ h => h) (by kernel_rfl) (by (intro Y hSw; obtain ⟨X1, X2, X3, X4, X5⟩ := hc' Y hSw; go_simp)) (by assumption) ?_
      simp only [List.set_cons_zero, List.set_cons_succ]
      refine wpAnyH_all (rs := [8]) (by kernel_rfl) (by simp) ?_
      intro i hi; obtain rfl : i = 8 := by simpa using hi
      refine wpOp_step rfl (fun K hK => ?_)
      rw [if_pos (by kernel_rfl)]
      go_simp
      go_at_call 73
      refine (eqO1 m.p m.a m.b m.c m.ad m'.ad m.L.length m.cap m'.cap (fun i => m.L.getD i 0) _ (hn _ hb0) (hn' _ hb0) hlk).mono ?_
      rintro e y1 ⟨rfl, j1⟩
      have hb1 : Below w.heap.size w y1 := hb0.trans (j1.mono hb0.size)
      refine hK _ _ ⟨hb1, ?_⟩
      clear hK K hi
      refine takeW 9 26 (.bool false) rfl rfl (by kernel_rfl) (by kernel_rfl) (by kernel_rfl) (fun _ _ _ h => h) (by kernel_rfl) (by (intro w hSw; go_simp)) (by assumption) ?_
      simp only [List.set_cons_zero, List.set_cons_succ]
      refine wpAnyH_done (by kernel_rfl) ?_ _
      go_wp2
      go_roundw
      case rel => exact ⟨k + 1, by omega, by go_num, hb1⟩
      case measure => simp [intOf]; omega
    · obtain rfl : k = Ms.length := by omega
      go_wp2
      go_ret
      exact ⟨rfl, hb⟩
/-- How much the loads of the first j count. -/
def lToO (Ms : List Ob) : Nat → Nat
  | 0 => 0
  | j + 1 => lToO Ms j + (Ms.getD j Ob.nil).L.length
theorem lToO_mono (Ms : List Ob) {i j : Nat} (h : i ≤ j) : lToO Ms i ≤ lToO Ms j := by
  induction h with
  | refl => exact Nat.le_refl _
  | step _ ih => exact Nat.le_trans ih (by show _ ≤ lToO Ms _ + _; omega)
theorem kToOb_lTo (Ms : List Ob) : ∀ j, kToOb Ms j = j * 4 + lToO Ms j
  | 0 => rfl
  | j + 1 => by
    show kToOb Ms j + 4 + _ = (j + 1) * 4 + (lToO Ms j + _)
    rw [kToOb_lTo Ms j]
    omega
theorem getO_le (Ms : List Ob) {k : Nat} (h : k < Ms.length) : (Ms.getD k Ob.nil).L.length ≤ lToO Ms Ms.length :=
  Nat.le_trans (by show _ ≤ lToO Ms k + (Ms.getD k Ob.nil).L.length; omega) (lToO_mono Ms (i := k + 1) h)
set_option maxHeartbeats 2000000 in
theorem markOs (ad : Option Addr) (cap : Nat) (Ms : List Ob) (fp : List Nat) (k0 : Int) (w : World) (hv : ObW w ad Ms fp) (hl : Ms.length ≤ 1048576) (hls : lToO Ms Ms.length ≤ 1048576) (hk0 : 0 ≤ k0) (hk1 : k0 ≤ 100000000) :
    Calls Tryz.prog 30 #[.slice ad Ms.length cap, .int .i64 k0] w fun e w' => e = .returned (.int .i64 (k0 + (kToOb Ms Ms.length : Int))) ∧ ObW w' ad (marksOb Ms k0 Ms.length) fp ∧ KeptF fp w w' := by
  by_cases hz : Ms.length = 0
  · obtain rfl : Ms = [] := List.eq_nil_of_length_eq_zero hz
    go_enter Tryz.func30, Tryz.ntmps30
    go_wp2
    refine wp_loop_rounds 1 ?_; rw [rounds_succ]
    go_wp2
    go_ret
    exact ⟨by simp [kToOb], hv, KeptF.refl _ _⟩
  · obtain ⟨b, off, rfl, _⟩ := hv.view.row (by omega)
    have M0 : ObW w (some ⟨b, off, none⟩) (marksOb Ms k0 0) fp := by rw [marksOb_zero]; exact hv
    clear hv
    go_enter Tryz.func30, Tryz.ntmps30
    go_wp2
    go_loopw [1, 5] (fun q i wr => ∃ (k : Nat) (x : Int), k ≤ Ms.length ∧ i = .int .i64 k ∧ q = .int .i64 x ∧ Hid (x = k0 + (kToOb Ms k : Int)) ∧ ObW wr (some ⟨b, off, none⟩) (marksOb Ms k0 k) fp ∧ KeptF fp w wr) (fun _ i _ => Ms.length - (intOf i).toNat)
    case atStart => exact ⟨0, k0, Nat.zero_le _, rfl, rfl, by unfold Hid; simp [kToOb], M0, KeptF.refl _ _⟩
    case round =>
      obtain ⟨k, x, hk, rfl, rfl, hx, M, K⟩ := hrel
      clear M0
      by_cases hlt : k < Ms.length
      · have hb1 : Hid (kToOb Ms (k + 1) ≤ kToOb Ms Ms.length) := kToOb_mono Ms (by omega)
        have hb2 : Hid (kToOb Ms Ms.length = Ms.length * 4 + lToO Ms Ms.length) := kToOb_lTo Ms _
        have hb3 : Hid (kToOb Ms (k + 1) = kToOb Ms k + 4 + (Ms.getD k Ob.nil).L.length) := rfl
        have hx0 : 0 ≤ x := by have := hx.out; omega
        have hx1 : x ≤ 1000000000 := by have := hx.out; have := hb1.out; have := hb2.out; have := hb3.out; omega
        have hlk : (Ms.getD k Ob.nil).L.length ≤ 1048576 := Nat.le_trans (getO_le Ms hlt) hls
        obtain ⟨b', off', eb, hc⟩ := M.view.row (by rw [marksOb_length]; omega)
        cases eb
        have hck := hc k (by rw [marksOb_length]; omega)
        have hrk := M.rooms k (by rw [marksOb_length]; omega)
        rw [marksOb_get Ms k0 k hlt, if_neg (by omega)] at hck hrk
        obtain ⟨b', off', eb, hr⟩ := M.room (by rw [marksOb_length]; omega)
        cases eb
        have fz0 := (hr (k * 5) (by rw [marksOb_length]; omega)).2
        have fz1 := (hr (k * 5 + 1) (by rw [marksOb_length]; omega)).2
        have fz2 := (hr (k * 5 + 2) (by rw [marksOb_length]; omega)).2
        have fz3 := (hr (k * 5 + 3) (by rw [marksOb_length]; omega)).2
        simp only [← Nat.add_assoc] at fz1 fz2 fz3
        have hap := fun y => M.apart k (by rw [marksOb_length]; omega) ⟨b, off, none⟩ y rfl
        rw [marksOb_ad Ms k0 k hlt, marksOb_len Ms k0 k hlt] at hap
        have st := fun w2 => M.markStep (w2 := w2) hlt
        rw [← hx.out] at st
        obtain ⟨m, hh⟩ : ∃ m, Ms.getD k Ob.nil = m := ⟨_, rfl⟩
        rw [hh] at hck hrk hlk hap hb3
        simp only [hh] at st
        obtain ⟨c0, c1, c2, c3, c4⟩ := hck
        obtain ⟨w1, hw1⟩ : ∃ w1, w1 = (((wr.setCell ⟨b, off + k * 5, none⟩ (.int .i64 x)).setCell ⟨b, off + k * 5 + 1, none⟩ (.int .i64 (x + 1))).setCell ⟨b, off + k * 5 + 2, none⟩ (.int .i64 (x + 2))).setCell ⟨b, off + k * 5 + 3, none⟩ (.int .i64 (x + 3)) := ⟨_, rfl⟩
        have hsr : Room w1 m.ad m.L.length := hrk.carry (fun y e hp => by
          have hy : y.block ≠ b := hap y e hp
          rw [hw1, Below.heap_setCell _ _ _ _ hy, Below.heap_setCell _ _ _ _ hy, Below.heap_setCell _ _ _ _ hy, Below.heap_setCell _ _ _ _ hy])
        rw [← hw1] at st
        clear hh hc hr hrk hap M
        go_wp2_with fail
        go_at_call 78
        rw [show x + 1 + 1 = x + 2 by omega, show x + 2 + 1 = x + 3 by omega, show x + 3 + 1 = x + 4 by omega, show off + k * 5 + 1 + 1 = off + k * 5 + 2 from rfl, show off + k * 5 + 1 + 2 = off + k * 5 + 3 from rfl]
        rw [← hw1]
        clear hw1
        refine (markBytes m.ad m.L.length m.cap (x + 4) w1 hsr hlk (by omega) (by omega)).mono ?_
        rintro e w2 ⟨rfl, v2, r2, g2⟩
        obtain ⟨M1, K1⟩ := st w2 g2 v2 r2
        go_wp2
        go_roundw
        case rel => exact ⟨k + 1, x + 4 + (m.L.length : Int), by omega, by go_num, rfl, by have := hx.out; have := hb3.out; unfold Hid; omega, M1, K.trans K1⟩
        case measure => simp [intOf]; omega
      · obtain rfl : k = Ms.length := by omega
        go_wp2
        go_ret
        exact ⟨by rw [← hx.out]; rfl, M, K⟩
set_option maxHeartbeats 2000000 in
theorem heldOs (ad : Option Addr) (cap : Nat) (Ms : List Ob) (k0 : Int) (w : World) (hv : ObV w ad Ms) (hM : ∀ i, i < Ms.length → Ms.getD i Ob.nil = (Ms.getD i Ob.nil).mark (k0 + (kToOb Ms i : Int))) (hl : Ms.length ≤ 1048576) (hls : lToO Ms Ms.length ≤ 1048576) (hk0 : 0 ≤ k0) (hk1 : k0 ≤ 100000000) :
    Calls Tryz.prog 32 #[.slice ad Ms.length cap, .int .i64 k0] w fun e w' => e = .returned (.int .i64 (k0 + (kToOb Ms Ms.length : Int))) ∧ w' = w := by
  go_enter Tryz.func32, Tryz.ntmps32
  go_wp2
  go_loop [1, 5] (fun q i => ∃ (k : Nat) (x : Int), k ≤ Ms.length ∧ i = .int .i64 k ∧ q = .int .i64 x ∧ Hid (x = k0 + (kToOb Ms k : Int))) (fun _ i => Ms.length - (intOf i).toNat)
  case atStart => exact ⟨0, k0, Nat.zero_le _, rfl, rfl, by unfold Hid; simp [kToOb]⟩
  case round =>
    obtain ⟨k, x, hk, rfl, rfl, hx⟩ := hrel
    by_cases hlt : k < Ms.length
    · have hb1 : Hid (kToOb Ms (k + 1) ≤ kToOb Ms Ms.length) := kToOb_mono Ms (by omega)
      have hb2 : Hid (kToOb Ms Ms.length = Ms.length * 4 + lToO Ms Ms.length) := kToOb_lTo Ms _
      have hb3 : Hid (kToOb Ms (k + 1) = kToOb Ms k + 4 + (Ms.getD k Ob.nil).L.length) := rfl
      have hx0 : 0 ≤ x := by have := hx.out; omega
      have hx1 : x ≤ 1000000000 := by have := hx.out; have := hb1.out; have := hb2.out; have := hb3.out; omega
      have hlk : (Ms.getD k Ob.nil).L.length ≤ 1048576 := Nat.le_trans (getO_le Ms hlt) hls
      obtain ⟨b, off, rfl, hc⟩ := hv.row (by omega)
      have hck := hc k hlt
      have hmk := hM k hlt
      rw [← hx.out] at hmk
      have hnk : View w (Ms.getD k Ob.nil).ad (Ms.getD k Ob.nil).L.length (fun i => (x + 4 + (i : Int)) % 256) := View.congr (hv.nest k hlt) (fun i hi => by
        rw [hmk]
        exact seqOb_get _ (by rw [hmk] at hi; simpa [Ob.mark, seqOb_len] using hi))
      obtain ⟨m, hh⟩ : ∃ m, Ms.getD k Ob.nil = m := ⟨_, rfl⟩
      rw [hh] at hck hnk hlk hmk hb3
      obtain ⟨c0, c1, c2, c3, c4⟩ := hck
      have o0 : m.p = x := by rw [hmk]; rfl
      have o1 : m.a = x + 1 := by rw [hmk]; rfl
      have o2 : m.b = x + 2 := by rw [hmk]; rfl
      have o3 : m.c = x + 3 := by rw [hmk]; rfl
      rw [o0] at c0
      rw [o1] at c1
      rw [o2] at c2
      rw [o3] at c3
      have hneg : ¬ x + 4 + (m.L.length : Int) < 0 := by omega
      have d2 : w.cell? ⟨b, off + k * 5 + 1 + 1, none⟩ = some (.int .i64 (x + 1 + 1)) := by rw [show x + 1 + 1 = x + 2 by omega]; exact c2
      have d3 : w.cell? ⟨b, off + k * 5 + 1 + 2, none⟩ = some (.int .i64 (x + 1 + 1 + 1)) := by rw [show x + 1 + 1 + 1 = x + 3 by omega]; exact c3
      have d4 : w.cell? ⟨b, off + k * 5 + 1 + 3, none⟩ = some (.slice m.ad m.L.length m.cap) := c4
      clear hh hc hv hM hmk o0 o1 o2 o3 c2 c3 c4
      go_wp2_with fail
      go_at_call 82
      rw [show x + 1 + 1 + 1 + 1 = x + 4 by omega]
      refine (heldBytes m.ad m.L.length m.cap (x + 4) _ hnk hlk (by omega) (by omega)).mono ?_
      rintro e w2 ⟨rfl, rfl⟩
      go_wp2
      go_round
      case rel => exact ⟨k + 1, x + 4 + (m.L.length : Int), by omega, by go_num, rfl, by have := hx.out; have := hb3.out; unfold Hid; omega⟩
      case measure => simp [intOf]; omega
    · obtain rfl : k = Ms.length := by omega
      go_wp2
      go_ret
      exact ⟨by rw [← hx.out]; rfl, rfl⟩

end Go.Proofs.YtifndemkkaelaaaGreat
