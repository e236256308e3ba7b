/- For every two frames the call of FnExactFrameSame returns true: impl.FrameSame answers as spec.FrameSame, and writes into no argument (loads of more than 1048576 bytes together are answered true at once). No condition. -/
import Derived.Test.YtpdlliehdmeboaaRows
import Derived.Test.YtpdlliehdmeboaaFrame4
import Derived.WalkKit
import Derived.Below
import Derived.ChangeOld
import Derived.WalkSmall
import Derived.ProofKit
import Derived.OpenShut
import Derived.ShutString
import Derived.BigQuiet
namespace Go.Proofs.Ytpdlliehdmeboaa.fnExactFrameSame
open Go.ChangeShapes Go.WideShapes Go.ChangeAt Go.RowKit
set_option linter.unusedVariables false

theorem own : ownKnob Try.prog.godebug = none := by kernel_rfl
theorem laidOut : laidOutB Try.prog = true := by kernel_rfl

set_option maxHeartbeats 4000000 in
theorem walk (a0 b0 c0 : Int) (ad0 : Option Addr) (len0 cap0 : Nat) (f0 : Nat → Int) (a1 b1 c1 : Int) (ad1 : Option Addr) (len1 cap1 : Nat) (f1 : Nat → Int) (w : World) (I0 : FrameIn w a0 b0 c0 ad0 len0 cap0 f0) (I1 : FrameIn w a1 b1 c1 ad1 len1 cap1 f1) :
    Calls Try.prog 5 #[.agg #[.int .i64 a0, .int .i64 b0, .int .i64 c0, .slice ad0 len0 cap0], .agg #[.int .i64 a1, .int .i64 b1, .int .i64 c1, .slice ad1 len1 cap1]] w fun e w' => e = .returned (.bool true) ∧ Below w.heap.size w w' := by
  obtain ⟨wa0, wb0, wc0, lm0, hv0, hB0, hf0⟩ := I0
  obtain ⟨wa1, wb1, wc1, lm1, hv1, hB1, hf1⟩ := I1
  obtain ⟨x, hx⟩ : ∃ x, x = (w.alloc (Obj.cells #[.int .i64 a0, .int .i64 b0, .int .i64 c0, .slice ad0 len0 cap0] 24)).alloc (Obj.cells #[.int .i64 a1, .int .i64 b1, .int .i64 c1, .slice ad1 len1 cap1] 24) := ⟨_, rfl⟩
  have X0 : FrameAt x w.heap.size a0 b0 c0 ad0 len0 cap0 := by rw [hx]; refine ⟨?_, ?_, ?_, ?_⟩ <;> simp [go_sem]
  have X1 : FrameAt x (w.heap.size + 1) a1 b1 c1 ad1 len1 cap1 := by rw [hx]; refine ⟨?_, ?_, ?_, ?_⟩ <;> simp [go_sem]
  have B0 : Below w.heap.size w x := by rw [hx]; exact ((Below.refl _ _).alloc (Nat.le_refl _) _).alloc (by simp) _
  have S0 : w.heap.size + 1 < x.heap.size := by rw [hx]; simp
  by_cases hbig : 1048576 < len0
  · go_enter Try.func5, Try.ntmps5
    go_wp2_with fail
    go_at_call 6
    rw [← hx]
    refine (szF a0 b0 c0 ad0 len0 cap0 1048576 _ (by omega) (by omega) lm0).mono ?_
    rintro e w1 ⟨rfl, k1⟩
    rw [if_neg (by omega)]
    clear hx
    go_wp2
    go_ret
    exact ⟨rfl, B0.trans (k1.mono (by omega))⟩
  have hl0 : len0 ≤ 1048576 := by omega
  have hl0' : (len0 : Int) ≤ 1048576 := by omega
  have hl02 : 0 ≤ 1048576 - (len0 : Int) := by omega
  clear hbig
  by_cases hbig : 1048576 - (len0 : Int) < (len1 : Int)
  · go_enter Try.func5, Try.ntmps5
    go_wp2_with fail
    go_at_call 6
    rw [← hx]
    clear hx
    refine (szF a0 b0 c0 ad0 len0 cap0 1048576 _ (by omega) (by omega) lm0).mono ?_
    rintro e w1 ⟨rfl, k1⟩
    rw [if_pos hl0']
    have s1 := k1.size
    obtain ⟨C1, C2, C3, C4⟩ := X1.below k1 S0
    go_wp2_with fail
    go_at_call 6
    refine (szF a1 b1 c1 ad1 len1 cap1 (1048576 - (len0 : Int)) _ (by omega) (by omega) lm1).mono ?_
    rintro e w2 ⟨rfl, k2⟩
    rw [if_neg (by omega)]
    go_wp2
    go_ret
    exact ⟨rfl, (B0.trans (k1.mono (by omega))).trans (k2.mono (by omega))⟩
  have hl1' : (len1 : Int) ≤ 1048576 - (len0 : Int) := by omega
  have hl12 : 0 ≤ 1048576 - (len0 : Int) - (len1 : Int) := by omega
  have hl1 : len1 ≤ 1048576 := by omega
  clear hbig
  go_enter Try.func5, Try.ntmps5
  go_wp2_with fail
  go_at_call 6
  rw [← hx]
  clear hx
  refine (szF a0 b0 c0 ad0 len0 cap0 1048576 x (by omega) (by omega) lm0).mono ?_
  rintro e w1 ⟨rfl, k1⟩
  rw [if_pos hl0']
  have s1 := k1.size
  have B1 := B0.trans (k1.mono (by omega))
  obtain ⟨C1, C2, C3, C4⟩ := X1.below k1 S0
  go_wp2_with fail
  go_at_call 6
  refine (szF a1 b1 c1 ad1 len1 cap1 (1048576 - (len0 : Int)) w1 (by omega) (by omega) lm1).mono ?_
  rintro e w2 ⟨rfl, k2⟩
  rw [if_pos hl1']
  have s2 := k2.size
  have B2 := B1.trans (k2.mono (by omega))
  have P0 := (X0.below k1 (by omega)).below k2 (by omega)
  have P1 := (X1.below k1 S0).below k2 (by omega)
  clear C1 C2 C3 C4 X0 X1
  have t2 : w.heap.size + 1 < w2.heap.size := by omega
  go_wp2_with fail
  refine wp_region_held (S := fun Y => Below w2.heap.size w2 Y) (by kernel_rfl) ?_
  change wpAnyH _ _ _ _ _ _ _ _ (World.drew _)
  have g0 : Below w2.heap.size w2 w2.drew := (Below.refl _ _).drew
  refine takeW 0 20 (.agg #[.int .i64 a0, .int .i64 b0, .int .i64 c0, .slice ad0 len0 cap0]) rfl rfl (by kernel_rfl) (by kernel_rfl) (by kernel_rfl) (fun _ _ _ h => h) (by kernel_rfl) (by (intro Y hSw; obtain ⟨C1, C2, C3, C4⟩ := P0.below hSw (by omega); go_simp)) (by assumption) ?_
  simp only [List.set_cons_zero, List.set_cons_succ]
  refine takeW 2 22 (.agg #[.int .i64 a1, .int .i64 b1, .int .i64 c1, .slice ad1 len1 cap1]) rfl rfl (by kernel_rfl) (by kernel_rfl) (by kernel_rfl) (fun _ _ _ h => h) (by kernel_rfl) (by (intro Y hSw; obtain ⟨C1, C2, C3, C4⟩ := P1.below hSw (by omega); go_simp)) (by assumption) ?_
  simp only [List.set_cons_zero, List.set_cons_succ]
  refine wpAnyH_all (rs := [1]) (by kernel_rfl) (by simp) ?_
  intro i hi; obtain rfl : i = 1 := by simpa using hi
  refine wpOp_step rfl (fun K hK => ?_)
  rw [if_pos (by kernel_rfl)]
  go_simp
  go_at_call 8
  refine (toF a0 b0 c0 ad0 len0 cap0 f0 _ (hv0.carry (fun x h hp => (B2.trans (g0.mono B2.size)).block _ (hB0 x h hp))) hl0 (fun x h hp => by have := hB0 x h hp; have := g0.size; have := B2.size; omega)).mono ?_
  rintro e y1 ⟨M0, rfl, nn0, m0, v0, r0, j0⟩
  have g1 : Below w2.heap.size w2 y1 := g0.trans (j0.mono g0.size)
  refine hK _ _ ⟨g1, ?_⟩
  clear hK K hi
  refine wpAnyH_all (rs := [3]) (by kernel_rfl) (by simp) ?_
  intro i hi; obtain rfl : i = 3 := by simpa using hi
  refine wpOp_step rfl (fun K hK => ?_)
  rw [if_pos (by kernel_rfl)]
  go_simp
  go_at_call 8
  refine (toF a1 b1 c1 ad1 len1 cap1 f1 _ (hv1.carry (fun x h hp => (B2.trans (g1.mono B2.size)).block _ (hB1 x h hp))) hl1 (fun x h hp => by have := hB1 x h hp; have := g1.size; have := B2.size; omega)).mono ?_
  rintro e y2 ⟨M1, rfl, nn1, m1, v1, r1, j1⟩
  have g2 : Below w2.heap.size w2 y2 := g1.trans (j1.mono g1.size)
  refine hK _ _ ⟨g2, ?_⟩
  clear hK K hi
  refine wpAnyH_all (rs := [4]) (by kernel_rfl) (by simp) ?_
  intro i hi; obtain rfl : i = 4 := by simpa using hi
  refine wpOp_step rfl (fun K hK => ?_)
  rw [if_pos (by kernel_rfl)]
  go_simp
  go_at_call 17
  refine (sameSpec a0 b0 c0 a1 b1 c1 _ _ len0 _ len1 _ f0 f1 _ (v0.carry (fun x h _ => by simp at h; subst h; exact j1.block _ m0)) v1 hf0 hf1 (fun x h _ => by simp at h; subst h; have := j1.size; show M0 < _; omega) (fun x h _ => by simp at h; subst h; exact m1)).mono ?_
  rintro e w3 ⟨rfl, k3⟩
  have g3 : Below w2.heap.size w2 w3 := g2.trans (k3.mono g2.size)
  refine hK _ _ ⟨g3, ?_⟩
  clear hK K hi
  refine takeW 5 6 (.bool (sameF a0 b0 c0 a1 b1 c1 (sameT f0 len0 f1 len1))) rfl rfl (by kernel_rfl) (by kernel_rfl) (by kernel_rfl) (fun _ _ _ h => h) (by kernel_rfl) (by (intro w hSw; go_simp)) (by assumption) ?_
  simp only [List.set_cons_zero, List.set_cons_succ]
  refine wpAnyH_done (by kernel_rfl) ?_ _
  have s3 := g3.size
  have B3 := B2.trans (g3.mono (by omega))
  have Q0 := P0.below g3 (by omega)
  have Q1 := P1.below g3 (by omega)
  clear v0 v1 r0 r1 g0 g1 g2 j0 j1 k3 nn0 nn1 m0 m1
  obtain ⟨C1, C2, C3, C4⟩ := Q0
  go_wp2_with fail
  go_at_call 8
  refine (toF a0 b0 c0 ad0 len0 cap0 f0 w3 (hv0.carry (fun x h hp => B3.block _ (hB0 x h hp))) hl0 (fun x h hp => by have := hB0 x h hp; omega)).mono ?_
  rintro e w4 ⟨N4, rfl, n4, m4, v4, r4, k4⟩
  have s4 := k4.size
  have B4 := B3.trans (k4.mono (by omega))
  have Q0 : FrameAt w4 w.heap.size a0 b0 c0 ad0 len0 cap0 := FrameAt.below (⟨C1, C2, C3, C4⟩ : FrameAt w3 w.heap.size a0 b0 c0 ad0 len0 cap0) k4 (by omega)
  have Q1 := Q1.below k4 (by omega)
  clear C1 C2 C3 C4
  obtain ⟨y, hy⟩ : ∃ y, y = w4.alloc (Obj.cells #[.int .i64 a0, .int .i64 b0, .int .i64 c0, .slice (some ⟨N4, 0, none⟩) len0 len0] 27) := ⟨_, rfl⟩
  have F5 : FrameAt y w4.heap.size a0 b0 c0 (some ⟨N4, 0, none⟩) len0 len0 := by rw [hy]; exact frameAt_box w4 _ _ _ _ _ _ _
  have k5 : Below w4.heap.size w4 y := by rw [hy]; exact below_box w4 _
  have s5 : w4.heap.size < y.heap.size := by rw [hy]; exact size_box w4 _
  have B5 := B4.trans (k5.mono (by omega))
  have Q0 := Q0.below k5 (by omega)
  obtain ⟨E1, E2, E3, E4⟩ : FrameAt y (w.heap.size + 1) a1 b1 c1 ad1 len1 cap1 := Q1.below k5 (by omega)
  clear Q1
  rw [hy] at E1 E2 E3 E4
  go_wp2_with fail
  go_at_call 8
  rw [← hy] at E1 E2 E3 E4 ⊢
  clear hy
  refine (toF a1 b1 c1 ad1 len1 cap1 f1 y (hv1.carry (fun x h hp => B5.block _ (hB1 x h hp))) hl1 (fun x h hp => by have := hB1 x h hp; omega)).mono ?_
  rintro e w6 ⟨N6, rfl, n6, m6, v6, r6, k6⟩
  have s6 := k6.size
  have B6 := B5.trans (k6.mono (by omega))
  have Q0 := Q0.below k6 (by omega)
  have Q1 : FrameAt w6 (w.heap.size + 1) a1 b1 c1 ad1 len1 cap1 := FrameAt.below (⟨E1, E2, E3, E4⟩ : FrameAt y (w.heap.size + 1) a1 b1 c1 ad1 len1 cap1) k6 (by omega)
  clear E1 E2 E3 E4
  have F6 := F5.below k6 s5
  have v46 := (v4.carry (fun x h _ => by simp at h; subst h; exact k5.block _ m4)).carry (w' := w6) (fun x h _ => by simp at h; subst h; exact k6.block _ (by show N4 < _; omega))
  clear F5
  obtain ⟨z, hz⟩ : ∃ z, z = w6.alloc (Obj.cells #[.int .i64 a1, .int .i64 b1, .int .i64 c1, .slice (some ⟨N6, 0, none⟩) len1 len1] 27) := ⟨_, rfl⟩
  have G7 : FrameAt z w6.heap.size a1 b1 c1 (some ⟨N6, 0, none⟩) len1 len1 := by rw [hz]; exact frameAt_box w6 _ _ _ _ _ _ _
  have k7 : Below w6.heap.size w6 z := by rw [hz]; exact below_box w6 _
  have s7 : w6.heap.size < z.heap.size := by rw [hz]; exact size_box w6 _
  have B7 := B6.trans (k7.mono (by omega))
  have Q0 := Q0.below k7 (by omega)
  have Q1 := Q1.below k7 (by omega)
  have F7 := F6.below k7 (by omega)
  have v47 := v46.carry (w' := z) (fun x h _ => by simp at h; subst h; exact k7.block _ (by show N4 < _; omega))
  have v67 := v6.carry (w' := z) (fun x h _ => by simp at h; subst h; exact k7.block _ (by show N6 < _; omega))
  clear v4 v46 v6 r4 r6
  obtain ⟨D1, D2, D3, D4⟩ := F7
  have F7 : FrameAt z w4.heap.size a0 b0 c0 (some ⟨N4, 0, none⟩) len0 len0 := ⟨D1, D2, D3, D4⟩
  rw [hz] at D1 D2 D3 D4
  go_wp2_with fail
  go_at_call 18
  rw [← hz]
  clear hz D1 D2 D3 D4
  refine (sameImpl a0 b0 c0 a1 b1 c1 _ _ len0 _ len1 _ f0 f1 z v47 v67 hf0 hf1).mono ?_
  rintro e w8 ⟨rfl, k8⟩
  have s8 := k8.size
  have B8 := B7.trans (k8.mono (by omega))
  have FX0 := F7.below k8 (by omega)
  have FX1 := G7.below k8 (by omega)
  have FA0 := Q0.below k8 (by omega)
  have FA1 := Q1.below k8 (by omega)
  have v48 := v47.carry (w' := w8) (fun x h _ => by simp at h; subst h; exact k8.block _ (by show N4 < _; omega))
  have v68 := v67.carry (w' := w8) (fun x h _ => by simp at h; subst h; exact k8.block _ (by show N6 < _; omega))
  clear F7 G7 Q0 Q1 v47 v67
  have hN4 : N4 < w8.heap.size := by omega
  have hX0 : w4.heap.size < w8.heap.size := by omega
  have hX1 : w6.heap.size < w8.heap.size := by omega
  have hA0 : w.heap.size < w8.heap.size := by omega
  have hA1 : w.heap.size + 1 < w8.heap.size := by omega
  have hN6 : N6 < w8.heap.size := by omega
  go_wp2_with fail
  refine wp_region_held (S := fun Y => Below w8.heap.size w8 Y) (by kernel_rfl) ?_
  change wpAnyH _ _ _ _ _ _ _ _ (World.drew _)
  have hb0 : Below w8.heap.size w8 w8.drew := (Below.refl _ _).drew
  refine takeW 0 35 (.agg #[.int .i64 a0, .int .i64 b0, .int .i64 c0, .slice (some ⟨N4, 0, none⟩) len0 len0]) rfl rfl (by kernel_rfl) (by kernel_rfl) (by kernel_rfl) (fun _ _ _ h => h) (by kernel_rfl) (by (intro Y hSw; obtain ⟨C1, C2, C3, C4⟩ := FX0.below hSw hX0; go_simp)) (by assumption) ?_
  simp only [List.set_cons_zero, List.set_cons_succ]
  refine takeW 1 36 (.agg #[.int .i64 a0, .int .i64 b0, .int .i64 c0, .slice ad0 len0 cap0]) rfl rfl (by kernel_rfl) (by kernel_rfl) (by kernel_rfl) (fun _ _ _ h => h) (by kernel_rfl) (by (intro Y hSw; obtain ⟨C1, C2, C3, C4⟩ := FA0.below hSw hA0; go_simp)) (by assumption) ?_
  simp only [List.set_cons_zero, List.set_cons_succ]
  refine wpAnyH_all (rs := [2]) (by kernel_rfl) (by simp) ?_
  intro i hi; obtain rfl : i = 2 := by simpa using hi
  refine wpOp_step rfl (fun K hK => ?_)
  rw [if_pos (by kernel_rfl)]
  go_simp
  go_at_call 8
  refine (toF a0 b0 c0 ad0 len0 cap0 f0 _ (hv0.carry (fun x h hp => (B8.trans (hb0.mono B8.size)).block _ (hB0 x h hp))) hl0 (fun x h hp => by have := hB0 x h hp; have := hb0.size; have := B8.size; omega)).mono ?_
  rintro e y1 ⟨N1, rfl, nq1, mq1, vq1, rq1, jq1⟩
  have hb1 : Below w8.heap.size w8 y1 := hb0.trans (jq1.mono hb0.size)
  refine hK _ _ ⟨hb1, ?_⟩
  clear hK K hi
  refine wpAnyH_all (rs := [3]) (by kernel_rfl) (by simp) ?_
  intro i hi; obtain rfl : i = 3 := by simpa using hi
  refine wpOp_step rfl (fun K hK => ?_)
  rw [if_pos (by kernel_rfl)]
  go_simp
  go_at_call 10
  refine (eqF a0 b0 c0 _ _ len0 _ _ f0 _ (v48.carry (fun x h _ => by simp at h; subst h; exact hb1.block _ hN4)) vq1 hl0 (fun x h _ => by simp at h; subst h; have := hb1.size; have := hN4; show N4 < _; omega) (fun x h _ => by simp at h; subst h; exact mq1)).mono ?_
  rintro e y2 ⟨rfl, jq2⟩
  have k9 : Below w8.heap.size w8 y2 := hb1.trans (jq2.mono hb1.size)
  refine hK _ _ ⟨k9, ?_⟩
  clear hK K hi
  refine takeW 4 39 (.bool false) rfl rfl (by kernel_rfl) (by kernel_rfl) (by kernel_rfl) (fun _ _ _ h => h) (by kernel_rfl) (by (intro w hSw; go_simp)) (by assumption) ?_
  simp only [List.set_cons_zero, List.set_cons_succ]
  refine wpAnyH_done (by kernel_rfl) ?_ _
  clear hb0 hb1 vq1 rq1 jq1 jq2 nq1 mq1
  have s9 := k9.size
  have B9 := B8.trans (k9.mono (by omega))
  have FX1 := FX1.below k9 (by omega)
  have FA1 := FA1.below k9 (by omega)
  have v69 := v68.carry (w' := y2) (fun x h _ => by simp at h; subst h; exact k9.block _ hN6)
  have hN6 : N6 < y2.heap.size := by omega
  have hX1 : w6.heap.size < y2.heap.size := by omega
  have hA1 : w.heap.size + 1 < y2.heap.size := by omega
  go_wp2_with fail
  refine wp_region_held (S := fun Y => Below y2.heap.size y2 Y) (by kernel_rfl) ?_
  change wpAnyH _ _ _ _ _ _ _ _ (World.drew _)
  have hb0 : Below y2.heap.size y2 y2.drew := (Below.refl _ _).drew
  refine takeW 0 40 (.agg #[.int .i64 a1, .int .i64 b1, .int .i64 c1, .slice (some ⟨N6, 0, none⟩) len1 len1]) rfl rfl (by kernel_rfl) (by kernel_rfl) (by kernel_rfl) (fun _ _ _ h => h) (by kernel_rfl) (by (intro Y hSw; obtain ⟨C1, C2, C3, C4⟩ := FX1.below hSw hX1; go_simp)) (by assumption) ?_
  simp only [List.set_cons_zero, List.set_cons_succ]
  refine takeW 1 41 (.agg #[.int .i64 a1, .int .i64 b1, .int .i64 c1, .slice ad1 len1 cap1]) rfl rfl (by kernel_rfl) (by kernel_rfl) (by kernel_rfl) (fun _ _ _ h => h) (by kernel_rfl) (by (intro Y hSw; obtain ⟨C1, C2, C3, C4⟩ := FA1.below hSw hA1; go_simp)) (by assumption) ?_
  simp only [List.set_cons_zero, List.set_cons_succ]
  refine wpAnyH_all (rs := [2]) (by kernel_rfl) (by simp) ?_
  intro i hi; obtain rfl : i = 2 := by simpa using hi
  refine wpOp_step rfl (fun K hK => ?_)
  rw [if_pos (by kernel_rfl)]
  go_simp
  go_at_call 8
  refine (toF a1 b1 c1 ad1 len1 cap1 f1 _ (hv1.carry (fun x h hp => (B9.trans (hb0.mono B9.size)).block _ (hB1 x h hp))) hl1 (fun x h hp => by have := hB1 x h hp; have := hb0.size; have := B9.size; omega)).mono ?_
  rintro e y1 ⟨N1, rfl, nq1, mq1, vq1, rq1, jq1⟩
  have hb1 : Below y2.heap.size y2 y1 := hb0.trans (jq1.mono hb0.size)
  refine hK _ _ ⟨hb1, ?_⟩
  clear hK K hi
  refine wpAnyH_all (rs := [3]) (by kernel_rfl) (by simp) ?_
  intro i hi; obtain rfl : i = 3 := by simpa using hi
  refine wpOp_step rfl (fun K hK => ?_)
  rw [if_pos (by kernel_rfl)]
  go_simp
  go_at_call 10
  refine (eqF a1 b1 c1 _ _ len1 _ _ f1 _ (v69.carry (fun x h _ => by simp at h; subst h; exact hb1.block _ hN6)) vq1 hl1 (fun x h _ => by simp at h; subst h; have := hb1.size; have := hN6; show N6 < _; omega) (fun x h _ => by simp at h; subst h; exact mq1)).mono ?_
  rintro e y3 ⟨rfl, jq2⟩
  have k10 : Below y2.heap.size y2 y3 := hb1.trans (jq2.mono hb1.size)
  refine hK _ _ ⟨k10, ?_⟩
  clear hK K hi
  refine takeW 4 44 (.bool false) rfl rfl (by kernel_rfl) (by kernel_rfl) (by kernel_rfl) (fun _ _ _ h => h) (by kernel_rfl) (by (intro w hSw; go_simp)) (by assumption) ?_
  simp only [List.set_cons_zero, List.set_cons_succ]
  refine wpAnyH_done (by kernel_rfl) ?_ _
  go_wp2
  go_ret
  exact ⟨rfl, B9.trans (k10.mono B9.size)⟩

set_option maxRecDepth 100000 in
theorem lifted (os : Os) (started : os.Started) (H : Type) (enc : TypeId × Value → H) :
    ReturnsInHanded {} Try.checked os 5 .any (Rows.fnExactFrameSameSpec.pre6 enc Try.prog Try.f5 Rows.fnExactFrameSameRow.domain false) (Rows.fnExactFrameSameSpec.post enc Try.prog Try.f5 false true false false) := by
  refine returnsInHanded_of_change (C := Try.checked) own started (by kernel_rfl) Try.func5
    (ChangeSpec.witness6 (enc := enc) (C := Try.checked) false ⟨#[], #[.agg #[.int .i64 0, .int .i64 0, .int .i64 0, .slice none 0 0], .agg #[.int .i64 0, .int .i64 0, .int .i64 0, .slice none 0 0]], []⟩ 8 (by kernel_rfl) (by kernel_rfl) (by kernel_rfl) (by kernel_rfl)) ?_
  intro W base args ds gs before hval0 hW hcnd _
  have hval : ∀ (j : Nat) t v, Try.f5.params[j]? = some t → args[j]? = some v → Value.okWide Try.prog W .any base t v := hval0
  have hW' := hW
  obtain ⟨p, q, hA0, hV, rfl, hfz, hnd⟩ := hW
  have hA : DataW.TrodAll enc Try.prog W 0 (fun _ => true) true Try.f5.params.toList args.toList ds p := hA0
  rw [Try.params5] at hA hval
  obtain ⟨v0, vs0, d0, ds0, p0, q0, hargs, rfl, rfl, h0, r0⟩ := trodAll_cons hA
  obtain ⟨v1, vs1, d1, ds1, p1, q1, rfl, rfl, rfl, h1, r1⟩ := trodAll_cons r0
  obtain ⟨rfl, rfl, rfl⟩ := trodAll_nil r1
  obtain rfl : args = #[v0, v1] := by cases args; simp_all
  obtain ⟨rfl, rfl⟩ := trodVars_none hV
  obtain ⟨a0, b0, c0, ad0, len0, cap0, f0, rfl, I0⟩ := frameIn_open (hval 0 24 v0 rfl rfl) h0
  have lt0 : ∀ x ∈ p0, x.block < W.heap.size := by obtain ⟨m, hm⟩ := h0; exact DataW.trod_lt m _ _ _ hm
  obtain ⟨a1, b1, c1, ad1, len1, cap1, f1, rfl, I1⟩ := frameIn_open (hval 1 24 v1 rfl rfl) h1
  have lt1 : ∀ x ∈ p1, x.block < W.heap.size := by obtain ⟨m, hm⟩ := h1; exact DataW.trod_lt m _ _ _ hm
  clear hA0 hval0
  refine (walk a0 b0 c0 ad0 len0 cap0 f0 a1 b1 c1 ad1 len1 cap1 f1 W I0 I1).mono fun e W' ⟨he, bel⟩ => ?_
  subst he
  exact ⟨_, rfl, _, _, _, [], _, [], hW', trodAll_mk1 (shut_bool Try.underlying4 _), (trodAll_cons_mk (Below.trod laidOut (by kernel_rfl) (of_decide_eq_true (by kernel_rfl)) h0 bel lt0) (trodAll_cons_mk (Below.trod laidOut (by kernel_rfl) (of_decide_eq_true (by kernel_rfl)) h1 bel lt1) trodAll_mk0)), rfl, bel.frame _, fun h => by cases h⟩

theorem over : Rows.fnExactFrameSameRow.holds Try.pinned (OpenSpec.ofChange Rows.fnExactFrameSameSpec) :=
  OpenClaim.holds_of_wide 5 Try.f5 rfl rfl rfl rfl rfl rfl rfl ⟨rfl, rfl, rfl, rfl, rfl⟩ rfl rfl rfl rfl rfl (by kernel_rfl) Try.func5 (by kernel_rfl)
    (of_decide_eq_true (by kernel_rfl)) (by unfold Func.isWrapper; first | (rw [if_pos (by decide +kernel)]; kernel_rfl) | (rw [if_neg (by decide +kernel)]; exact ⟨rfl, rfl⟩))
    (fun os started H enc _ => lifted os started H enc)

theorem proved : Rows.FnExactFrameSameSaid := over
end Go.Proofs.Ytpdlliehdmeboaa.fnExactFrameSame
namespace Go.Proofs.Ytpdlliehdmeboaa
theorem frameSame_holds : Rows.FnExactFrameSameSaid := fnExactFrameSame.proved
#print axioms frameSame_holds
end Go.Proofs.Ytpdlliehdmeboaa
