/- For every member and every frame the call of FnExactInside returns true: impl.Inside answers as spec.Inside, writes into no argument, keeps nothing of one, and its answer owns its memory, behind another call too (lists of more than 1048576 values together are answered true at once). No condition. -/
import Derived.Test.YtmeofihjimgldaaRows
import Derived.Test.YtmeofihjimgldaaInsLen
import Derived.Test.YtmeofihjimgldaaMember1
import Derived.Test.YtmeofihjimgldaaFrameIn
import Derived.Test.YtmeofihjimgldaaInside1
import Derived.Test.YtmeofihjimgldaaInside2
import Derived.Test.YtmeofihjimgldaaOutside1
import Derived.Test.YtmeofihjimgldaaOutside2
import Derived.Test.YtmeofihjimgldaaTakes
import Derived.WalkKit
import Derived.Below
import Derived.ChangeOld
import Derived.WalkSmall
import Derived.ProofKit
import Derived.OpenShut
import Derived.ShutString
import Derived.BigQuiet
namespace Go.Proofs.Ytmeofihjimgldaa.fnExactInside
open Go.ChangeShapes Go.WideShapes Go.ChangeAt Go.RowKit
set_option linter.unusedVariables false

theorem own : ownKnob Try.prog.godebug = none := by kernel_rfl
theorem laidOut : laidOutB Try.prog = true := by kernel_rfl

theorem join_region {P : Program} {reg : Code} {K : Act → World → Prop} {Q : Exit → Act → World → Prop} {l : List Value} {ds : List Deferred} {W : World} (R : List Value → List Value → World → Prop) (h1 : ∀ l' W', R l l' W' → K ⟨l'.toArray, ds⟩ W') (h2 : ∀ K2 : Act → World → Prop, Hid (∀ l' W', R l l' W' → K2 ⟨l'.toArray, ds⟩ W') → Code.wp P reg (Exit.then K2 Q) ⟨l.toArray, ds⟩ W) : Code.wp P reg (Exit.then K Q) ⟨l.toArray, ds⟩ W := h2 K h1
set_option maxRecDepth 100000 in
set_option maxHeartbeats 32000000 in
theorem walk (o0 : Int) (ad0 : Option Addr) (len0 cap0 : Nat) (f0 : Nat → Int) (a1 b1 c1 : Int) (ad1 : Option Addr) (len1 cap1 : Nat) (f1 : Nat → Int) (w : World) (I0 : MemIn w o0 ad0 len0 cap0 f0) (I1 : FrameIn w a1 b1 c1 ad1 len1 cap1 f1) :
    Calls Try.prog 5 #[.agg #[.int .i64 o0, .slice ad0 len0 cap0], .agg #[.int .i64 a1, .int .i64 b1, .int .i64 c1, .slice ad1 len1 cap1]] w fun e w' => e = .returned (.bool true) ∧ Below w.heap.size w w' := by
  obtain ⟨lm, hv⟩ := I0
  obtain ⟨_, _, _, lm1, hvF, _, hf1⟩ := I1
  obtain ⟨x0, hx⟩ : ∃ x, x = (w.alloc (Obj.cells #[.int .i64 o0, .slice ad0 len0 cap0] 36)).alloc (Obj.cells #[.int .i64 a1, .int .i64 b1, .int .i64 c1, .slice ad1 len1 cap1] 41) := ⟨_, rfl⟩
  have B0 : Below w.heap.size w x0 := by rw [hx]; exact ((Below.refl _ _).alloc (Nat.le_refl _) _).alloc (by simp) _
  have T0 : w.heap.size + 1 < x0.heap.size := by rw [hx]; simp
  have A0 : MemAt x0 w.heap.size o0 ad0 len0 cap0 := by rw [hx]; refine ⟨?_, ?_⟩ <;> simp [go_sem]
  have A1 : FrameAt x0 (w.heap.size + 1) a1 b1 c1 ad1 len1 cap1 := by rw [hx]; refine ⟨?_, ?_, ?_, ?_⟩ <;> simp [go_sem]
  by_cases hbig : 1048576 < len0
  · go_enter Try.func5, Try.ntmps5
    go_wp2_with fail
    go_at_call 18
    rw [← hx]
    refine (szM o0 ad0 len0 cap0 1048576 x0 (by omega) (by omega) lm).mono ?_
    rintro e w1 ⟨rfl, k1⟩
    rw [if_neg (by omega)]
    go_wp2
    go_ret
    exact ⟨rfl, B0.trans (k1.mono (by omega))⟩
  have hl0 : len0 ≤ 1048576 := by omega
  have hl0' : (len0 : Int) ≤ 1048576 := by omega
  have hl2 : 0 ≤ 1048576 - (len0 : Int) := by omega
  clear hbig
  by_cases hbig : 1048576 - (len0 : Int) < len1
  · go_enter Try.func5, Try.ntmps5
    go_wp2_with fail
    go_at_call 18
    rw [← hx]
    clear hx
    refine (szM o0 ad0 len0 cap0 1048576 x0 (by omega) (by omega) lm).mono ?_
    rintro e w1 ⟨rfl, k1⟩
    rw [if_pos hl0']
    have s1 := k1.size
    obtain ⟨E1, E2, E3, E4⟩ := A1.below k1 T0
    go_wp2_with fail
    go_at_call 21
    refine (szF a1 b1 c1 ad1 len1 cap1 (1048576 - len0) w1 (by omega) (by omega) lm1).mono ?_
    rintro e w2 ⟨rfl, k2⟩
    rw [if_neg (by omega)]
    go_wp2
    go_ret
    exact ⟨rfl, (B0.trans (k1.mono (by omega))).trans (k2.mono (by omega))⟩
  have hlL : len1 ≤ 1048576 := by omega
  have hlL' : (len1 : Int) ≤ 1048576 - (len0 : Int) := by omega
  have hl3 : 0 ≤ 1048576 - (len0 : Int) - (len1 : Int) := by omega
  clear hbig
  obtain ⟨L, rfl, hvF, _⟩ := view_list hvF hf1
  have hl1 : L.length ≤ 1048576 := hlL
  clear hlL hf1
  have hrl := insR_len o0 f0 len0 a1 b1 c1 L
  obtain ⟨r, hr⟩ : ∃ r, Hid (insR o0 f0 len0 a1 b1 c1 L = r) := ⟨_, rfl⟩
  rw [hr.out] at hrl
  obtain ⟨ra, rb, rc, rM, rok⟩ := r
  simp only [] at hrl
  have hrm : rM.length ≤ 1048576 := by omega
  have hkk : 0 ≤ 1 + (len0 : Int) := by omega
  have hkk2 : 0 ≤ 1 + (len0 : Int) + (L.length : Int) := by omega
  have hkk3 : 0 ≤ 1 + (rM.length : Int) := by omega
  go_enter Try.func5, Try.ntmps5
  go_wp2_with fail
  go_at_call 18
  rw [← hx]
  clear hx
  refine (szM o0 ad0 len0 cap0 1048576 x0 (by omega) (by omega) lm).mono ?_
  rintro e w1 ⟨rfl, k1⟩
  rw [if_pos hl0']
  have s1 := k1.size
  have A0 := A0.below k1 (by omega)
  have A1 := A1.below k1 (by omega)
  have B1 := B0.trans (k1.mono (by omega))
  have A1' := A1
  obtain ⟨E1, E2, E3, E4⟩ := A1'
  go_wp2_with fail
  go_at_call 21
  refine (szF a1 b1 c1 ad1 L.length cap1 (1048576 - len0) w1 (by omega) (by omega) lm1).mono ?_
  rintro e x1 ⟨rfl, k2⟩
  rw [if_pos hlL']
  clear E1 E2 E3 E4
  have s2 := k2.size
  have A0 := A0.below k2 (by omega)
  have A1 := A1.below k2 (by omega)
  have BW := B1.trans (k2.mono (by omega))
  have T1 : w.heap.size + 1 < x1.heap.size := by omega
  clear B0 B1 k1 k2 s1 s2 T0 hl0' hl2 hlL' lm1
  go_wp2_with fail
  refine join_region (fun l l' W' => ∃ (P : Nat) (ad4 : Option Addr) (cap4 : Nat) (us : List Value), us.length = 8 ∧ l' = l.take 6 ++ (.pointer (some ⟨P, 0, none⟩) :: .bool rok :: (l.drop 8).take 19) ++ us ++ l.drop 35 ∧ FrameAt W' P ra rb rc ad4 rM.length cap4 ∧ View W' ad4 rM.length (fun i => rM.getD i 0) ∧ (∀ x, ad4 = some x → x1.heap.size ≤ x.block ∧ x.block < W'.heap.size) ∧ x1.heap.size ≤ P ∧ P < W'.heap.size ∧ Below x1.heap.size x1 W') ?_ ?_
  rotate_left
  · intro K2 hT
    refine wp_region_held (S := fun Y => Below x1.heap.size x1 Y) (by kernel_rfl) ?_
    change wpAnyH _ _ _ _ _ _ _ _ (World.drew _)
    have hb0 : Below x1.heap.size x1 x1.drew := (Below.refl _ _).drew
    obtain ⟨y0, hy0⟩ : ∃ y, y = x1.drew := ⟨_, rfl⟩
    rw [← hy0] at hb0 ⊢
    clear hy0
    have z0 := hb0.size
    refine takeW 0 28 (.agg #[.int .i64 o0, .slice ad0 len0 cap0]) rfl rfl (by kernel_rfl) (by kernel_rfl) (by kernel_rfl) (fun _ _ _ h => h) (by kernel_rfl) (by (intro Y hSw; obtain ⟨C1, C2⟩ := A0.below hSw (by omega); go_simp)) (by assumption) ?_
    simp only [List.set_cons_zero, List.set_cons_succ]
    refine takeW 2 30 (.agg #[.int .i64 a1, .int .i64 b1, .int .i64 c1, .slice ad1 L.length cap1]) rfl rfl (by kernel_rfl) (by kernel_rfl) (by kernel_rfl) (fun _ _ _ h => h) (by kernel_rfl) (by (intro Y hSw; obtain ⟨C1, C2, C3, C4⟩ := A1.below hSw (by omega); go_simp)) (by assumption) ?_
    simp only [List.set_cons_zero, List.set_cons_succ]
    refine wpAnyH_all (rs := [1, 8]) (by kernel_rfl) (by simp) ?_
    intro i hi; rcases (by simpa using hi : i = 1 ∨ i = 8) with rfl | rfl
    · refine wpOp_step rfl (fun K hK => ?_)
      rw [if_pos (by kernel_rfl)]
      go_simp
      go_at_call 19
      refine (toM o0 ad0 len0 cap0 f0 y0 (hv.below (BW.trans (hb0.mono BW.size)) (Nat.le_refl _)) hl0).mono ?_
      rintro e y1 ⟨N1, rfl, n1, m1, v1, _, kq1⟩
      have hb1 : Below x1.heap.size x1 y1 := hb0.trans (kq1.mono hb0.size)
      have z1 := kq1.size
      refine hK _ _ ⟨hb1, ?_⟩
      clear hK K hi
      refine wpAnyH_all (rs := [3, 8]) (by kernel_rfl) (by simp) ?_
      intro i hi; rcases (by simpa using hi : i = 3 ∨ i = 8) with rfl | rfl
      · refine wpOp_step rfl (fun K hK => ?_)
        rw [if_pos (by kernel_rfl)]
        go_simp
        go_at_call 22
        refine (toF a1 b1 c1 ad1 L.length cap1 (fun i => L.getD i 0) y1 (hvF.carry (fun x h hp => (BW.trans (hb1.mono BW.size)).block _ (hvF.lt x h hp))) hl1 (fun x h hp => by have := hvF.lt x h hp; have := BW.size; have := hb1.size; omega)).mono ?_
        rintro e y2 ⟨N3, rfl, n3, m3, v3, _, kq2⟩
        have v1 := v1.below kq2 (Nat.le_refl _)
        have hb2 : Below x1.heap.size x1 y2 := hb1.trans (kq2.mono hb1.size)
        have z2 := kq2.size
        refine hK _ _ ⟨hb2, ?_⟩
        clear hK K hi
        refine wpAnyH_all (rs := [4, 8]) (by kernel_rfl) (by simp) ?_
        intro i hi; rcases (by simpa using hi : i = 4 ∨ i = 8) with rfl | rfl
        · refine wpOp_step rfl (fun K hK => ?_)
          rw [if_pos (by kernel_rfl)]
          go_simp
          go_at_call 13
          refine (insideS o0 _ len0 _ f0 a1 b1 c1 _ _ L y2 v1 lm v3 hl1 (fun _ h => by cases h)).mono ?_
          rintro e y3 ⟨ad4, cap4, rfl, o4, kq3⟩
          rw [hr.out] at o4 ⊢
          simp only [] at o4 ⊢
          obtain ⟨q4, R4, m4⟩ := own_view2 o4
          have m4 : ∀ x, ad4 = some x → x1.heap.size ≤ x.block ∧ x.block < y3.heap.size := fun x h => ⟨by have := (m4 x h).1; omega, (m4 x h).2⟩
          clear o4 R4
          have hb3 : Below x1.heap.size x1 y3 := hb2.trans (kq3.mono hb2.size)
          have z3 := kq3.size
          clear v1 v3
          refine hK _ _ ⟨hb3, ?_⟩
          clear hK K hi
          refine takeW 5 27 (.tuple #[.agg #[.int .i64 ra, .int .i64 rb, .int .i64 rc, .slice ad4 rM.length cap4], .bool rok]) rfl rfl (by kernel_rfl) (by kernel_rfl) (by kernel_rfl) (fun _ _ _ h => h) (by kernel_rfl) (by (intro w hSw; go_simp)) (by assumption) ?_
          simp only [List.set_cons_zero, List.set_cons_succ]
          refine takeW 6 33 (.agg #[.int .i64 ra, .int .i64 rb, .int .i64 rc, .slice ad4 rM.length cap4]) rfl rfl (by kernel_rfl) (by kernel_rfl) (by kernel_rfl) (fun _ _ _ h => h) (by kernel_rfl) (by (intro w hSw; go_simp)) (by assumption) ?_
          simp only [List.set_cons_zero, List.set_cons_succ]
          refine takeW 7 34 (.bool rok) rfl rfl (by kernel_rfl) (by kernel_rfl) (by kernel_rfl) (fun _ _ _ h => h) (by kernel_rfl) (by (intro w hSw; go_simp)) (by assumption) ?_
          simp only [List.set_cons_zero, List.set_cons_succ]
          refine wpAnyH_all (rs := [8]) (by kernel_rfl) (by simp) ?_
          intro i hi; obtain rfl : i = 8 := by simpa using hi
          refine wpOp_step rfl (fun K hK => ?_)
          rw [if_pos (by kernel_rfl)]
          go_simp
          obtain ⟨y4, hy⟩ : ∃ y, y = y3.alloc (Obj.cells #[.int .i64 0, .int .i64 0, .int .i64 0, .slice none 0 0] 28) := ⟨_, rfl⟩
          have FP : FrameAt y4 y3.heap.size 0 0 0 none 0 0 := by rw [hy]; exact frameAt_box y3 _ _ _ _ _ _ _
          have ZP : ∀ i, y4.frozen? ⟨y3.heap.size, i, none⟩ = false := by intro i; rw [hy]; simp [go_sem]
          have kq4 : Below y3.heap.size y3 y4 := by rw [hy]; exact below_box y3 _
          have zz : y3.heap.size < y4.heap.size := by rw [hy]; exact size_box y3 _
          have nP : ∀ x, ad4 = some x → x.block ≠ y3.heap.size := fun x h => by have := (m4 x h).2; omega
          have q4 := q4.carry (w' := y4) (fun x h hp => kq4.block _ (m4 x h).2)
          have m4 : ∀ x, ad4 = some x → x1.heap.size ≤ x.block ∧ x.block < y4.heap.size := fun x h => ⟨(m4 x h).1, by have := (m4 x h).2; have := kq4.size; omega⟩
          have hb4 : Below x1.heap.size x1 y4 := hb3.trans (kq4.mono hb3.size)
          have z4 := kq4.size
          have pa : x1.heap.size ≤ y3.heap.size := by omega
          rw [← hy]
          clear hy
          generalize y3.heap.size = P at *
          refine hK _ _ ⟨hb4, ?_⟩
          clear hK K hi
          refine wpAnyH_all (rs := [9]) (by kernel_rfl) (by simp) ?_
          intro i hi; obtain rfl : i = 9 := by simpa using hi
          refine wpOp_step rfl (fun K hK => ?_)
          rw [if_pos (by kernel_rfl)]
          have FPQ := FP
          obtain ⟨t1, t2, t3, t4⟩ := FP
          have w0 := ZP 0
          have w1 := ZP 1
          have w2 := ZP 2
          have w3 := ZP 3
          go_simp
          clear w0 w1 w2 w3 t1 t2 t3 t4
          obtain ⟨yf, hy⟩ : ∃ z, z = (((y4.setCell ⟨P, 0, none⟩ (.int .i64 ra)).setCell ⟨P, 1, none⟩ (.int .i64 rb)).setCell ⟨P, 2, none⟩ (.int .i64 rc)).setCell ⟨P, 3, none⟩ (.slice ad4 rM.length cap4) := ⟨_, rfl⟩
          have kk : ∀ g, g ≠ P → yf.heap[g]? = y4.heap[g]? := fun g hg => by rw [hy, Below.heap_setCell _ _ _ _ hg, Below.heap_setCell _ _ _ _ hg, Below.heap_setCell _ _ _ _ hg, Below.heap_setCell _ _ _ _ hg]
          have FE : FrameAt yf P ra rb rc ad4 rM.length cap4 := by rw [hy]; exact frame_put FPQ rfl
          have hbf : Below x1.heap.size x1 yf := by rw [hy]; exact (((hb4.setCell (by show _ ≤ P; omega) _).setCell (by show _ ≤ P; omega) _).setCell (by show _ ≤ P; omega) _).setCell (by show _ ≤ P; omega) _
          have zf : yf.heap.size = y4.heap.size := by rw [hy]; simp
          have qf := q4.carry (w' := yf) (fun x h _ => kk _ (nP x h))
          have mf : ∀ x, ad4 = some x → x1.heap.size ≤ x.block ∧ x.block < yf.heap.size := fun x h => ⟨(m4 x h).1, by have := (m4 x h).2; omega⟩
          rw [← hy]
          clear hy
          refine hK _ _ ⟨hbf, ?_⟩
          clear hK K hi
          refine takeW 10 7 (.bool rok) rfl rfl (by kernel_rfl) (by kernel_rfl) (by kernel_rfl) (fun _ _ _ h => h) (by kernel_rfl) (by (intro w hSw; go_simp)) (by assumption) ?_
          simp only [List.set_cons_zero, List.set_cons_succ]
          refine wpAnyH_done (by kernel_rfl) ?_ _
          exact hT.out _ _ ⟨P, ad4, cap4, [(.tuple #[.agg #[.int .i64 ra, .int .i64 rb, .int .i64 rc, .slice ad4 rM.length cap4], .bool rok]), (.agg #[.int .i64 o0, .slice ad0 len0 cap0]), (.agg #[.int .i64 o0, .slice (some ⟨N1, 0, none⟩) len0 len0]), (.agg #[.int .i64 a1, .int .i64 b1, .int .i64 c1, .slice ad1 L.length cap1]), (.agg #[.int .i64 a1, .int .i64 b1, .int .i64 c1, .slice (some ⟨N3, 0, none⟩) L.length L.length]), (.tuple #[.agg #[.int .i64 ra, .int .i64 rb, .int .i64 rc, .slice ad4 rM.length cap4], .bool rok]), (.agg #[.int .i64 ra, .int .i64 rb, .int .i64 rc, .slice ad4 rM.length cap4]), (.bool rok)], rfl, by kernel_rfl, FE, qf, mf, pa, FE.lt, hbf⟩
        · refine wpOp_step rfl (fun K hK => ?_)
          rw [if_pos (by kernel_rfl)]
          go_simp
          obtain ⟨y3, hy⟩ : ∃ y, y = y2.alloc (Obj.cells #[.int .i64 0, .int .i64 0, .int .i64 0, .slice none 0 0] 28) := ⟨_, rfl⟩
          have FP : FrameAt y3 y2.heap.size 0 0 0 none 0 0 := by rw [hy]; exact frameAt_box y2 _ _ _ _ _ _ _
          have ZP : ∀ i, y3.frozen? ⟨y2.heap.size, i, none⟩ = false := by intro i; rw [hy]; simp [go_sem]
          have kq3 : Below y2.heap.size y2 y3 := by rw [hy]; exact below_box y2 _
          have zz : y2.heap.size < y3.heap.size := by rw [hy]; exact size_box y2 _
          have v1 := v1.below kq3 (Nat.le_refl _)
          have v3 := v3.carry (w' := y3) (fun x h hp => kq3.block _ (v3.lt x h hp))
          have hb3 : Below x1.heap.size x1 y3 := hb2.trans (kq3.mono hb2.size)
          have z3 := kq3.size
          have pa : x1.heap.size ≤ y2.heap.size := by omega
          rw [← hy]
          clear hy
          generalize y2.heap.size = P at *
          refine hK _ _ ⟨hb3, ?_⟩
          clear hK K hi
          refine wpAnyH_all (rs := [4]) (by kernel_rfl) (by simp) ?_
          intro i hi; obtain rfl : i = 4 := by simpa using hi
          refine wpOp_step rfl (fun K hK => ?_)
          rw [if_pos (by kernel_rfl)]
          go_simp
          go_at_call 13
          refine (insideS o0 _ len0 _ f0 a1 b1 c1 _ _ L y3 v1 lm v3 hl1 (fun _ h => by cases h)).mono ?_
          rintro e y4 ⟨ad4, cap4, rfl, o4, kq4⟩
          rw [hr.out] at o4 ⊢
          simp only [] at o4 ⊢
          obtain ⟨q4, R4, m4⟩ := own_view2 o4
          have nP : ∀ x, ad4 = some x → x.block ≠ P := fun x h => by have := (m4 x h).1; have := FP.lt; omega
          have m4 : ∀ x, ad4 = some x → x1.heap.size ≤ x.block ∧ x.block < y4.heap.size := fun x h => ⟨by have := (m4 x h).1; omega, (m4 x h).2⟩
          clear o4 R4
          have FP := FP.below kq4 FP.lt
          have ZP := fz_below ZP kq4 (by omega)
          have hb4 : Below x1.heap.size x1 y4 := hb3.trans (kq4.mono hb3.size)
          have z4 := kq4.size
          clear v1 v3
          refine hK _ _ ⟨hb4, ?_⟩
          clear hK K hi
          refine takeW 5 27 (.tuple #[.agg #[.int .i64 ra, .int .i64 rb, .int .i64 rc, .slice ad4 rM.length cap4], .bool rok]) rfl rfl (by kernel_rfl) (by kernel_rfl) (by kernel_rfl) (fun _ _ _ h => h) (by kernel_rfl) (by (intro w hSw; go_simp)) (by assumption) ?_
          simp only [List.set_cons_zero, List.set_cons_succ]
          refine takeW 6 33 (.agg #[.int .i64 ra, .int .i64 rb, .int .i64 rc, .slice ad4 rM.length cap4]) rfl rfl (by kernel_rfl) (by kernel_rfl) (by kernel_rfl) (fun _ _ _ h => h) (by kernel_rfl) (by (intro w hSw; go_simp)) (by assumption) ?_
          simp only [List.set_cons_zero, List.set_cons_succ]
          refine takeW 7 34 (.bool rok) rfl rfl (by kernel_rfl) (by kernel_rfl) (by kernel_rfl) (fun _ _ _ h => h) (by kernel_rfl) (by (intro w hSw; go_simp)) (by assumption) ?_
          simp only [List.set_cons_zero, List.set_cons_succ]
          refine wpAnyH_all (rs := [9]) (by kernel_rfl) (by simp) ?_
          intro i hi; obtain rfl : i = 9 := by simpa using hi
          refine wpOp_step rfl (fun K hK => ?_)
          rw [if_pos (by kernel_rfl)]
          have FPQ := FP
          obtain ⟨t1, t2, t3, t4⟩ := FP
          have w0 := ZP 0
          have w1 := ZP 1
          have w2 := ZP 2
          have w3 := ZP 3
          go_simp
          clear w0 w1 w2 w3 t1 t2 t3 t4
          obtain ⟨yf, hy⟩ : ∃ z, z = (((y4.setCell ⟨P, 0, none⟩ (.int .i64 ra)).setCell ⟨P, 1, none⟩ (.int .i64 rb)).setCell ⟨P, 2, none⟩ (.int .i64 rc)).setCell ⟨P, 3, none⟩ (.slice ad4 rM.length cap4) := ⟨_, rfl⟩
          have kk : ∀ g, g ≠ P → yf.heap[g]? = y4.heap[g]? := fun g hg => by rw [hy, Below.heap_setCell _ _ _ _ hg, Below.heap_setCell _ _ _ _ hg, Below.heap_setCell _ _ _ _ hg, Below.heap_setCell _ _ _ _ hg]
          have FE : FrameAt yf P ra rb rc ad4 rM.length cap4 := by rw [hy]; exact frame_put FPQ rfl
          have hbf : Below x1.heap.size x1 yf := by rw [hy]; exact (((hb4.setCell (by show _ ≤ P; omega) _).setCell (by show _ ≤ P; omega) _).setCell (by show _ ≤ P; omega) _).setCell (by show _ ≤ P; omega) _
          have zf : yf.heap.size = y4.heap.size := by rw [hy]; simp
          have qf := q4.carry (w' := yf) (fun x h _ => kk _ (nP x h))
          have mf : ∀ x, ad4 = some x → x1.heap.size ≤ x.block ∧ x.block < yf.heap.size := fun x h => ⟨(m4 x h).1, by have := (m4 x h).2; omega⟩
          rw [← hy]
          clear hy
          refine hK _ _ ⟨hbf, ?_⟩
          clear hK K hi
          refine takeW 10 7 (.bool rok) rfl rfl (by kernel_rfl) (by kernel_rfl) (by kernel_rfl) (fun _ _ _ h => h) (by kernel_rfl) (by (intro w hSw; go_simp)) (by assumption) ?_
          simp only [List.set_cons_zero, List.set_cons_succ]
          refine wpAnyH_done (by kernel_rfl) ?_ _
          exact hT.out _ _ ⟨P, ad4, cap4, [(.tuple #[.agg #[.int .i64 ra, .int .i64 rb, .int .i64 rc, .slice ad4 rM.length cap4], .bool rok]), (.agg #[.int .i64 o0, .slice ad0 len0 cap0]), (.agg #[.int .i64 o0, .slice (some ⟨N1, 0, none⟩) len0 len0]), (.agg #[.int .i64 a1, .int .i64 b1, .int .i64 c1, .slice ad1 L.length cap1]), (.agg #[.int .i64 a1, .int .i64 b1, .int .i64 c1, .slice (some ⟨N3, 0, none⟩) L.length L.length]), (.tuple #[.agg #[.int .i64 ra, .int .i64 rb, .int .i64 rc, .slice ad4 rM.length cap4], .bool rok]), (.agg #[.int .i64 ra, .int .i64 rb, .int .i64 rc, .slice ad4 rM.length cap4]), (.bool rok)], rfl, by kernel_rfl, FE, qf, mf, pa, FE.lt, hbf⟩
      · refine wpOp_step rfl (fun K hK => ?_)
        rw [if_pos (by kernel_rfl)]
        go_simp
        obtain ⟨y2, hy⟩ : ∃ y, y = y1.alloc (Obj.cells #[.int .i64 0, .int .i64 0, .int .i64 0, .slice none 0 0] 28) := ⟨_, rfl⟩
        have FP : FrameAt y2 y1.heap.size 0 0 0 none 0 0 := by rw [hy]; exact frameAt_box y1 _ _ _ _ _ _ _
        have ZP : ∀ i, y2.frozen? ⟨y1.heap.size, i, none⟩ = false := by intro i; rw [hy]; simp [go_sem]
        have kq2 : Below y1.heap.size y1 y2 := by rw [hy]; exact below_box y1 _
        have zz : y1.heap.size < y2.heap.size := by rw [hy]; exact size_box y1 _
        have v1 := v1.below kq2 (Nat.le_refl _)
        have hb2 : Below x1.heap.size x1 y2 := hb1.trans (kq2.mono hb1.size)
        have z2 := kq2.size
        have pa : x1.heap.size ≤ y1.heap.size := by omega
        rw [← hy]
        clear hy
        generalize y1.heap.size = P at *
        refine hK _ _ ⟨hb2, ?_⟩
        clear hK K hi
        refine wpAnyH_all (rs := [3]) (by kernel_rfl) (by simp) ?_
        intro i hi; obtain rfl : i = 3 := by simpa using hi
        refine wpOp_step rfl (fun K hK => ?_)
        rw [if_pos (by kernel_rfl)]
        go_simp
        go_at_call 22
        refine (toF a1 b1 c1 ad1 L.length cap1 (fun i => L.getD i 0) y2 (hvF.carry (fun x h hp => (BW.trans (hb2.mono BW.size)).block _ (hvF.lt x h hp))) hl1 (fun x h hp => by have := hvF.lt x h hp; have := BW.size; have := hb2.size; omega)).mono ?_
        rintro e y3 ⟨N3, rfl, n3, m3, v3, _, kq3⟩
        have v1 := v1.below kq3 (Nat.le_refl _)
        have FP := FP.below kq3 FP.lt
        have ZP := fz_below ZP kq3 (by omega)
        have hb3 : Below x1.heap.size x1 y3 := hb2.trans (kq3.mono hb2.size)
        have z3 := kq3.size
        refine hK _ _ ⟨hb3, ?_⟩
        clear hK K hi
        refine wpAnyH_all (rs := [4]) (by kernel_rfl) (by simp) ?_
        intro i hi; obtain rfl : i = 4 := by simpa using hi
        refine wpOp_step rfl (fun K hK => ?_)
        rw [if_pos (by kernel_rfl)]
        go_simp
        go_at_call 13
        refine (insideS o0 _ len0 _ f0 a1 b1 c1 _ _ L y3 v1 lm v3 hl1 (fun _ h => by cases h)).mono ?_
        rintro e y4 ⟨ad4, cap4, rfl, o4, kq4⟩
        rw [hr.out] at o4 ⊢
        simp only [] at o4 ⊢
        obtain ⟨q4, R4, m4⟩ := own_view2 o4
        have nP : ∀ x, ad4 = some x → x.block ≠ P := fun x h => by have := (m4 x h).1; have := FP.lt; omega
        have m4 : ∀ x, ad4 = some x → x1.heap.size ≤ x.block ∧ x.block < y4.heap.size := fun x h => ⟨by have := (m4 x h).1; omega, (m4 x h).2⟩
        clear o4 R4
        have FP := FP.below kq4 FP.lt
        have ZP := fz_below ZP kq4 (by omega)
        have hb4 : Below x1.heap.size x1 y4 := hb3.trans (kq4.mono hb3.size)
        have z4 := kq4.size
        clear v1 v3
        refine hK _ _ ⟨hb4, ?_⟩
        clear hK K hi
        refine takeW 5 27 (.tuple #[.agg #[.int .i64 ra, .int .i64 rb, .int .i64 rc, .slice ad4 rM.length cap4], .bool rok]) rfl rfl (by kernel_rfl) (by kernel_rfl) (by kernel_rfl) (fun _ _ _ h => h) (by kernel_rfl) (by (intro w hSw; go_simp)) (by assumption) ?_
        simp only [List.set_cons_zero, List.set_cons_succ]
        refine takeW 6 33 (.agg #[.int .i64 ra, .int .i64 rb, .int .i64 rc, .slice ad4 rM.length cap4]) rfl rfl (by kernel_rfl) (by kernel_rfl) (by kernel_rfl) (fun _ _ _ h => h) (by kernel_rfl) (by (intro w hSw; go_simp)) (by assumption) ?_
        simp only [List.set_cons_zero, List.set_cons_succ]
        refine takeW 7 34 (.bool rok) rfl rfl (by kernel_rfl) (by kernel_rfl) (by kernel_rfl) (fun _ _ _ h => h) (by kernel_rfl) (by (intro w hSw; go_simp)) (by assumption) ?_
        simp only [List.set_cons_zero, List.set_cons_succ]
        refine wpAnyH_all (rs := [9]) (by kernel_rfl) (by simp) ?_
        intro i hi; obtain rfl : i = 9 := by simpa using hi
        refine wpOp_step rfl (fun K hK => ?_)
        rw [if_pos (by kernel_rfl)]
        have FPQ := FP
        obtain ⟨t1, t2, t3, t4⟩ := FP
        have w0 := ZP 0
        have w1 := ZP 1
        have w2 := ZP 2
        have w3 := ZP 3
        go_simp
        clear w0 w1 w2 w3 t1 t2 t3 t4
        obtain ⟨yf, hy⟩ : ∃ z, z = (((y4.setCell ⟨P, 0, none⟩ (.int .i64 ra)).setCell ⟨P, 1, none⟩ (.int .i64 rb)).setCell ⟨P, 2, none⟩ (.int .i64 rc)).setCell ⟨P, 3, none⟩ (.slice ad4 rM.length cap4) := ⟨_, rfl⟩
        have kk : ∀ g, g ≠ P → yf.heap[g]? = y4.heap[g]? := fun g hg => by rw [hy, Below.heap_setCell _ _ _ _ hg, Below.heap_setCell _ _ _ _ hg, Below.heap_setCell _ _ _ _ hg, Below.heap_setCell _ _ _ _ hg]
        have FE : FrameAt yf P ra rb rc ad4 rM.length cap4 := by rw [hy]; exact frame_put FPQ rfl
        have hbf : Below x1.heap.size x1 yf := by rw [hy]; exact (((hb4.setCell (by show _ ≤ P; omega) _).setCell (by show _ ≤ P; omega) _).setCell (by show _ ≤ P; omega) _).setCell (by show _ ≤ P; omega) _
        have zf : yf.heap.size = y4.heap.size := by rw [hy]; simp
        have qf := q4.carry (w' := yf) (fun x h _ => kk _ (nP x h))
        have mf : ∀ x, ad4 = some x → x1.heap.size ≤ x.block ∧ x.block < yf.heap.size := fun x h => ⟨(m4 x h).1, by have := (m4 x h).2; omega⟩
        rw [← hy]
        clear hy
        refine hK _ _ ⟨hbf, ?_⟩
        clear hK K hi
        refine takeW 10 7 (.bool rok) rfl rfl (by kernel_rfl) (by kernel_rfl) (by kernel_rfl) (fun _ _ _ h => h) (by kernel_rfl) (by (intro w hSw; go_simp)) (by assumption) ?_
        simp only [List.set_cons_zero, List.set_cons_succ]
        refine wpAnyH_done (by kernel_rfl) ?_ _
        exact hT.out _ _ ⟨P, ad4, cap4, [(.tuple #[.agg #[.int .i64 ra, .int .i64 rb, .int .i64 rc, .slice ad4 rM.length cap4], .bool rok]), (.agg #[.int .i64 o0, .slice ad0 len0 cap0]), (.agg #[.int .i64 o0, .slice (some ⟨N1, 0, none⟩) len0 len0]), (.agg #[.int .i64 a1, .int .i64 b1, .int .i64 c1, .slice ad1 L.length cap1]), (.agg #[.int .i64 a1, .int .i64 b1, .int .i64 c1, .slice (some ⟨N3, 0, none⟩) L.length L.length]), (.tuple #[.agg #[.int .i64 ra, .int .i64 rb, .int .i64 rc, .slice ad4 rM.length cap4], .bool rok]), (.agg #[.int .i64 ra, .int .i64 rb, .int .i64 rc, .slice ad4 rM.length cap4]), (.bool rok)], rfl, by kernel_rfl, FE, qf, mf, pa, FE.lt, hbf⟩
    · refine wpOp_step rfl (fun K hK => ?_)
      rw [if_pos (by kernel_rfl)]
      go_simp
      obtain ⟨y1, hy⟩ : ∃ y, y = y0.alloc (Obj.cells #[.int .i64 0, .int .i64 0, .int .i64 0, .slice none 0 0] 28) := ⟨_, rfl⟩
      have FP : FrameAt y1 y0.heap.size 0 0 0 none 0 0 := by rw [hy]; exact frameAt_box y0 _ _ _ _ _ _ _
      have ZP : ∀ i, y1.frozen? ⟨y0.heap.size, i, none⟩ = false := by intro i; rw [hy]; simp [go_sem]
      have kq1 : Below y0.heap.size y0 y1 := by rw [hy]; exact below_box y0 _
      have zz : y0.heap.size < y1.heap.size := by rw [hy]; exact size_box y0 _
      have hb1 : Below x1.heap.size x1 y1 := hb0.trans (kq1.mono hb0.size)
      have z1 := kq1.size
      have pa : x1.heap.size ≤ y0.heap.size := by omega
      rw [← hy]
      clear hy
      generalize y0.heap.size = P at *
      refine hK _ _ ⟨hb1, ?_⟩
      clear hK K hi
      refine wpAnyH_all (rs := [1]) (by kernel_rfl) (by simp) ?_
      intro i hi; obtain rfl : i = 1 := by simpa using hi
      refine wpOp_step rfl (fun K hK => ?_)
      rw [if_pos (by kernel_rfl)]
      go_simp
      go_at_call 19
      refine (toM o0 ad0 len0 cap0 f0 y1 (hv.below (BW.trans (hb1.mono BW.size)) (Nat.le_refl _)) hl0).mono ?_
      rintro e y2 ⟨N1, rfl, n1, m1, v1, _, kq2⟩
      have FP := FP.below kq2 FP.lt
      have ZP := fz_below ZP kq2 (by omega)
      have hb2 : Below x1.heap.size x1 y2 := hb1.trans (kq2.mono hb1.size)
      have z2 := kq2.size
      refine hK _ _ ⟨hb2, ?_⟩
      clear hK K hi
      refine wpAnyH_all (rs := [3]) (by kernel_rfl) (by simp) ?_
      intro i hi; obtain rfl : i = 3 := by simpa using hi
      refine wpOp_step rfl (fun K hK => ?_)
      rw [if_pos (by kernel_rfl)]
      go_simp
      go_at_call 22
      refine (toF a1 b1 c1 ad1 L.length cap1 (fun i => L.getD i 0) y2 (hvF.carry (fun x h hp => (BW.trans (hb2.mono BW.size)).block _ (hvF.lt x h hp))) hl1 (fun x h hp => by have := hvF.lt x h hp; have := BW.size; have := hb2.size; omega)).mono ?_
      rintro e y3 ⟨N3, rfl, n3, m3, v3, _, kq3⟩
      have v1 := v1.below kq3 (Nat.le_refl _)
      have FP := FP.below kq3 FP.lt
      have ZP := fz_below ZP kq3 (by omega)
      have hb3 : Below x1.heap.size x1 y3 := hb2.trans (kq3.mono hb2.size)
      have z3 := kq3.size
      refine hK _ _ ⟨hb3, ?_⟩
      clear hK K hi
      refine wpAnyH_all (rs := [4]) (by kernel_rfl) (by simp) ?_
      intro i hi; obtain rfl : i = 4 := by simpa using hi
      refine wpOp_step rfl (fun K hK => ?_)
      rw [if_pos (by kernel_rfl)]
      go_simp
      go_at_call 13
      refine (insideS o0 _ len0 _ f0 a1 b1 c1 _ _ L y3 v1 lm v3 hl1 (fun _ h => by cases h)).mono ?_
      rintro e y4 ⟨ad4, cap4, rfl, o4, kq4⟩
      rw [hr.out] at o4 ⊢
      simp only [] at o4 ⊢
      obtain ⟨q4, R4, m4⟩ := own_view2 o4
      have nP : ∀ x, ad4 = some x → x.block ≠ P := fun x h => by have := (m4 x h).1; have := FP.lt; omega
      have m4 : ∀ x, ad4 = some x → x1.heap.size ≤ x.block ∧ x.block < y4.heap.size := fun x h => ⟨by have := (m4 x h).1; omega, (m4 x h).2⟩
      clear o4 R4
      have FP := FP.below kq4 FP.lt
      have ZP := fz_below ZP kq4 (by omega)
      have hb4 : Below x1.heap.size x1 y4 := hb3.trans (kq4.mono hb3.size)
      have z4 := kq4.size
      clear v1 v3
      refine hK _ _ ⟨hb4, ?_⟩
      clear hK K hi
      refine takeW 5 27 (.tuple #[.agg #[.int .i64 ra, .int .i64 rb, .int .i64 rc, .slice ad4 rM.length cap4], .bool rok]) rfl rfl (by kernel_rfl) (by kernel_rfl) (by kernel_rfl) (fun _ _ _ h => h) (by kernel_rfl) (by (intro w hSw; go_simp)) (by assumption) ?_
      simp only [List.set_cons_zero, List.set_cons_succ]
      refine takeW 6 33 (.agg #[.int .i64 ra, .int .i64 rb, .int .i64 rc, .slice ad4 rM.length cap4]) rfl rfl (by kernel_rfl) (by kernel_rfl) (by kernel_rfl) (fun _ _ _ h => h) (by kernel_rfl) (by (intro w hSw; go_simp)) (by assumption) ?_
      simp only [List.set_cons_zero, List.set_cons_succ]
      refine takeW 7 34 (.bool rok) rfl rfl (by kernel_rfl) (by kernel_rfl) (by kernel_rfl) (fun _ _ _ h => h) (by kernel_rfl) (by (intro w hSw; go_simp)) (by assumption) ?_
      simp only [List.set_cons_zero, List.set_cons_succ]
      refine wpAnyH_all (rs := [9]) (by kernel_rfl) (by simp) ?_
      intro i hi; obtain rfl : i = 9 := by simpa using hi
      refine wpOp_step rfl (fun K hK => ?_)
      rw [if_pos (by kernel_rfl)]
      have FPQ := FP
      obtain ⟨t1, t2, t3, t4⟩ := FP
      have w0 := ZP 0
      have w1 := ZP 1
      have w2 := ZP 2
      have w3 := ZP 3
      go_simp
      clear w0 w1 w2 w3 t1 t2 t3 t4
      obtain ⟨yf, hy⟩ : ∃ z, z = (((y4.setCell ⟨P, 0, none⟩ (.int .i64 ra)).setCell ⟨P, 1, none⟩ (.int .i64 rb)).setCell ⟨P, 2, none⟩ (.int .i64 rc)).setCell ⟨P, 3, none⟩ (.slice ad4 rM.length cap4) := ⟨_, rfl⟩
      have kk : ∀ g, g ≠ P → yf.heap[g]? = y4.heap[g]? := fun g hg => by rw [hy, Below.heap_setCell _ _ _ _ hg, Below.heap_setCell _ _ _ _ hg, Below.heap_setCell _ _ _ _ hg, Below.heap_setCell _ _ _ _ hg]
      have FE : FrameAt yf P ra rb rc ad4 rM.length cap4 := by rw [hy]; exact frame_put FPQ rfl
      have hbf : Below x1.heap.size x1 yf := by rw [hy]; exact (((hb4.setCell (by show _ ≤ P; omega) _).setCell (by show _ ≤ P; omega) _).setCell (by show _ ≤ P; omega) _).setCell (by show _ ≤ P; omega) _
      have zf : yf.heap.size = y4.heap.size := by rw [hy]; simp
      have qf := q4.carry (w' := yf) (fun x h _ => kk _ (nP x h))
      have mf : ∀ x, ad4 = some x → x1.heap.size ≤ x.block ∧ x.block < yf.heap.size := fun x h => ⟨(m4 x h).1, by have := (m4 x h).2; omega⟩
      rw [← hy]
      clear hy
      refine hK _ _ ⟨hbf, ?_⟩
      clear hK K hi
      refine takeW 10 7 (.bool rok) rfl rfl (by kernel_rfl) (by kernel_rfl) (by kernel_rfl) (fun _ _ _ h => h) (by kernel_rfl) (by (intro w hSw; go_simp)) (by assumption) ?_
      simp only [List.set_cons_zero, List.set_cons_succ]
      refine wpAnyH_done (by kernel_rfl) ?_ _
      exact hT.out _ _ ⟨P, ad4, cap4, [(.tuple #[.agg #[.int .i64 ra, .int .i64 rb, .int .i64 rc, .slice ad4 rM.length cap4], .bool rok]), (.agg #[.int .i64 o0, .slice ad0 len0 cap0]), (.agg #[.int .i64 o0, .slice (some ⟨N1, 0, none⟩) len0 len0]), (.agg #[.int .i64 a1, .int .i64 b1, .int .i64 c1, .slice ad1 L.length cap1]), (.agg #[.int .i64 a1, .int .i64 b1, .int .i64 c1, .slice (some ⟨N3, 0, none⟩) L.length L.length]), (.tuple #[.agg #[.int .i64 ra, .int .i64 rb, .int .i64 rc, .slice ad4 rM.length cap4], .bool rok]), (.agg #[.int .i64 ra, .int .i64 rb, .int .i64 rc, .slice ad4 rM.length cap4]), (.bool rok)], rfl, by kernel_rfl, FE, qf, mf, pa, FE.lt, hbf⟩
  rintro l' x2 ⟨P6, ad6, cap6, us, hul, rfl, F6, q6, l6, pa6, pb6, kJ6⟩
  obtain ⟨u27, us, rfl⟩ : ∃ a b, us = a :: b := List.exists_cons_of_length_eq_add_one hul
  replace hul := Nat.succ.inj hul
  obtain ⟨u28, us, rfl⟩ : ∃ a b, us = a :: b := List.exists_cons_of_length_eq_add_one hul
  replace hul := Nat.succ.inj hul
  obtain ⟨u29, us, rfl⟩ : ∃ a b, us = a :: b := List.exists_cons_of_length_eq_add_one hul
  replace hul := Nat.succ.inj hul
  obtain ⟨u30, us, rfl⟩ : ∃ a b, us = a :: b := List.exists_cons_of_length_eq_add_one hul
  replace hul := Nat.succ.inj hul
  obtain ⟨u31, us, rfl⟩ : ∃ a b, us = a :: b := List.exists_cons_of_length_eq_add_one hul
  replace hul := Nat.succ.inj hul
  obtain ⟨u32, us, rfl⟩ : ∃ a b, us = a :: b := List.exists_cons_of_length_eq_add_one hul
  replace hul := Nat.succ.inj hul
  obtain ⟨u33, us, rfl⟩ : ∃ a b, us = a :: b := List.exists_cons_of_length_eq_add_one hul
  replace hul := Nat.succ.inj hul
  obtain ⟨u34, us, rfl⟩ : ∃ a b, us = a :: b := List.exists_cons_of_length_eq_add_one hul
  replace hul := Nat.succ.inj hul
  obtain rfl : us = [] := List.eq_nil_of_length_eq_zero hul
  clear hul
  simp only [List.take, List.drop, List.cons_append, List.nil_append]
  have s2 := kJ6.size
  have A0 := A0.below kJ6 (by omega)
  have A1 := A1.below kJ6 (by omega)
  have BW := BW.trans (kJ6.mono BW.size)
  clear kJ6
  have A0' := A0
  obtain ⟨X1, X2⟩ := A0'
  go_wp2_with fail
  go_at_call 19
  refine (toM o0 ad0 len0 cap0 f0 x2 (hv.below BW (Nat.le_refl _)) hl0).mono ?_
  rintro e x3 ⟨N8, rfl, n8, m8, V8, R8, k3⟩
  clear X1 X2
  have s3 := k3.size
  have A0 := A0.below k3 (by omega)
  have A1 := A1.below k3 (by omega)
  have F6 := F6.below k3 (by omega)
  have q6 := q6.carry (w' := x3) (fun x h _ => k3.block _ (by have := l6 x h; omega))
  have BW := BW.trans (k3.mono BW.size)
  obtain ⟨x4, hx4⟩ : ∃ y, y = x3.alloc (Obj.cells #[.int .i64 o0, .slice (some ⟨N8, 0, none⟩) len0 len0] 26) := ⟨_, rfl⟩
  have k4 : Below x3.heap.size x3 x4 := by rw [hx4]; exact below_box x3 _
  have s4 : x3.heap.size < x4.heap.size := by rw [hx4]; exact size_box x3 _
  have M8 : MemAt x4 x3.heap.size o0 (some ⟨N8, 0, none⟩) len0 len0 := by rw [hx4]; refine ⟨?_, ?_⟩ <;> simp [go_sem]
  have A0 := A0.below k4 (by omega)
  have A1 := A1.below k4 (by omega)
  have F6 := F6.below k4 (by omega)
  have q6 := q6.carry (w' := x4) (fun x h _ => k4.block _ (by have := l6 x h; omega))
  have V8 := V8.carry (w' := x4) (fun x h _ => by simp at h; subst h; exact k4.block _ (by show N8 < _; omega))
  have R8 := R8.carry (w' := x4) (fun x h _ => by simp at h; subst h; exact k4.block _ (by show N8 < _; omega))
  have BW := BW.trans (k4.mono BW.size)
  have A1' := A1
  obtain ⟨X1, X2, X3, X4⟩ := A1'
  rw [hx4] at X1 X2 X3 X4
  go_wp2_with fail
  go_at_call 22
  rw [← hx4]
  clear hx4 X1 X2 X3 X4
  refine (toF a1 b1 c1 ad1 L.length cap1 (fun i => L.getD i 0) x4 (hvF.carry (fun x h hp => BW.block _ (hvF.lt x h hp))) hl1 (fun x h hp => by have := hvF.lt x h hp; have := BW.size; omega)).mono ?_
  rintro e x5 ⟨N9, rfl, n9, m9, V9, R9, k5⟩
  have s5 := k5.size
  have A0 := A0.below k5 (by omega)
  have A1 := A1.below k5 (by omega)
  have F6 := F6.below k5 (by omega)
  have q6 := q6.carry (w' := x5) (fun x h _ => k5.block _ (by have := l6 x h; omega))
  have V8 := V8.carry (w' := x5) (fun x h _ => by simp at h; subst h; exact k5.block _ (by show N8 < _; omega))
  have R8 := R8.carry (w' := x5) (fun x h _ => by simp at h; subst h; exact k5.block _ (by show N8 < _; omega))
  have M8 := M8.below k5 (by omega)
  have BW := BW.trans (k5.mono BW.size)
  obtain ⟨x6, hx6⟩ : ∃ y, y = x5.alloc (Obj.cells #[.int .i64 a1, .int .i64 b1, .int .i64 c1, .slice (some ⟨N9, 0, none⟩) L.length L.length] 28) := ⟨_, rfl⟩
  have k6 : Below x5.heap.size x5 x6 := by rw [hx6]; exact below_box x5 _
  have s6 : x5.heap.size < x6.heap.size := by rw [hx6]; exact size_box x5 _
  have F9 : FrameAt x6 x5.heap.size a1 b1 c1 (some ⟨N9, 0, none⟩) L.length L.length := by rw [hx6]; exact frameAt_box x5 _ _ _ _ _ _ _
  have A0 := A0.below k6 (by omega)
  have A1 := A1.below k6 (by omega)
  have F6 := F6.below k6 (by omega)
  have q6 := q6.carry (w' := x6) (fun x h _ => k6.block _ (by have := l6 x h; omega))
  have V8 := V8.carry (w' := x6) (fun x h _ => by simp at h; subst h; exact k6.block _ (by show N8 < _; omega))
  have R8 := R8.carry (w' := x6) (fun x h _ => by simp at h; subst h; exact k6.block _ (by show N8 < _; omega))
  have M8 := M8.below k6 (by omega)
  have V9 := V9.carry (w' := x6) (fun x h _ => by simp at h; subst h; exact k6.block _ (by show N9 < _; omega))
  have R9 := R9.carry (w' := x6) (fun x h _ => by simp at h; subst h; exact k6.block _ (by show N9 < _; omega))
  have BW := BW.trans (k6.mono BW.size)
  have M8' := M8
  obtain ⟨X1, X2⟩ := M8'
  rw [hx6] at X1 X2
  go_wp2_with fail
  go_at_call 12
  rw [← hx6]
  clear hx6 X1 X2
  refine (insideI o0 _ len0 _ f0 a1 b1 c1 _ _ L x6 V8 lm V9 hl1).mono ?_
  rintro e x7 ⟨ad10, cap10, rfl, o10, k7⟩
  rw [hr.out] at o10 ⊢
  simp only [] at o10 ⊢
  obtain ⟨q10, R10, l10⟩ := own_view2 o10
  clear o10
  have s7 := k7.size
  have A0 := A0.below k7 (by omega)
  have A1 := A1.below k7 (by omega)
  have F6 := F6.below k7 (by omega)
  have q6 := q6.carry (w' := x7) (fun x h _ => k7.block _ (by have := l6 x h; omega))
  have V8 := V8.carry (w' := x7) (fun x h _ => by simp at h; subst h; exact k7.block _ (by show N8 < _; omega))
  have R8 := R8.carry (w' := x7) (fun x h _ => by simp at h; subst h; exact k7.block _ (by show N8 < _; omega))
  have M8 := M8.below k7 (by omega)
  have V9 := V9.carry (w' := x7) (fun x h _ => by simp at h; subst h; exact k7.block _ (by show N9 < _; omega))
  have R9 := R9.carry (w' := x7) (fun x h _ => by simp at h; subst h; exact k7.block _ (by show N9 < _; omega))
  have F9 := F9.below k7 (by omega)
  have BW := BW.trans (k7.mono BW.size)
  obtain ⟨x8, hx8⟩ : ∃ y, y = x7.alloc (Obj.cells #[.int .i64 ra, .int .i64 rb, .int .i64 rc, .slice ad10 rM.length cap10] 28) := ⟨_, rfl⟩
  have k8 : Below x7.heap.size x7 x8 := by rw [hx8]; exact below_box x7 _
  have s8 : x7.heap.size < x8.heap.size := by rw [hx8]; exact size_box x7 _
  have F10 : FrameAt x8 x7.heap.size ra rb rc ad10 rM.length cap10 := by rw [hx8]; exact frameAt_box x7 _ _ _ _ _ _ _
  have A0 := A0.below k8 (by omega)
  have A1 := A1.below k8 (by omega)
  have F6 := F6.below k8 (by omega)
  have q6 := q6.carry (w' := x8) (fun x h _ => k8.block _ (by have := l6 x h; omega))
  have V8 := V8.carry (w' := x8) (fun x h _ => by simp at h; subst h; exact k8.block _ (by show N8 < _; omega))
  have R8 := R8.carry (w' := x8) (fun x h _ => by simp at h; subst h; exact k8.block _ (by show N8 < _; omega))
  have M8 := M8.below k8 (by omega)
  have V9 := V9.carry (w' := x8) (fun x h _ => by simp at h; subst h; exact k8.block _ (by show N9 < _; omega))
  have R9 := R9.carry (w' := x8) (fun x h _ => by simp at h; subst h; exact k8.block _ (by show N9 < _; omega))
  have F9 := F9.below k8 (by omega)
  have q10 := q10.carry (w' := x8) (fun x h _ => k8.block _ (by have := l10 x h; omega))
  have R10 := R10.carry (w' := x8) (fun x h _ => k8.block _ (by have := l10 x h; omega))
  have BW := BW.trans (k8.mono BW.size)
  have F6' := F6
  obtain ⟨X1, X2, X3, X4⟩ := F6'
  rw [hx8] at X1 X2 X3 X4
  go_wp2_with fail
  go_at_call 23
  rw [← hx8]
  clear hx8 X1 X2 X3 X4
  refine (eqF ra rb rc ad10 ad6 rM.length cap10 cap6 (fun i => rM.getD i 0) x8 q10 q6 hrm (fun x h _ => by have := l10 x h; omega) (fun x h _ => by have := l6 x h; omega)).mono ?_
  rintro e x9 ⟨rfl, k9⟩
  have s9 := k9.size
  have A0 := A0.below k9 (by omega)
  have A1 := A1.below k9 (by omega)
  have F6 := F6.below k9 (by omega)
  have q6 := q6.carry (w' := x9) (fun x h _ => k9.block _ (by have := l6 x h; omega))
  have V8 := V8.carry (w' := x9) (fun x h _ => by simp at h; subst h; exact k9.block _ (by show N8 < _; omega))
  have R8 := R8.carry (w' := x9) (fun x h _ => by simp at h; subst h; exact k9.block _ (by show N8 < _; omega))
  have M8 := M8.below k9 (by omega)
  have V9 := V9.carry (w' := x9) (fun x h _ => by simp at h; subst h; exact k9.block _ (by show N9 < _; omega))
  have R9 := R9.carry (w' := x9) (fun x h _ => by simp at h; subst h; exact k9.block _ (by show N9 < _; omega))
  have F9 := F9.below k9 (by omega)
  have q10 := q10.carry (w' := x9) (fun x h _ => k9.block _ (by have := l10 x h; omega))
  have R10 := R10.carry (w' := x9) (fun x h _ => k9.block _ (by have := l10 x h; omega))
  have F10 := F10.below k9 (by omega)
  have BW := BW.trans (k9.mono BW.size)
  go_wp2_with fail
  refine wp_region_held (S := fun Y => Below x9.heap.size x9 Y) (by kernel_rfl) ?_
  change wpAnyH _ _ _ _ _ _ _ _ (World.drew _)
  have hb0 : Below x9.heap.size x9 x9.drew := (Below.refl _ _).drew
  refine takeW 0 54 (.agg #[.int .i64 o0, .slice (some ⟨N8, 0, none⟩) len0 len0]) rfl rfl (by kernel_rfl) (by kernel_rfl) (by kernel_rfl) (fun _ _ _ h => h) (by kernel_rfl) (by (intro Y hSw; obtain ⟨C1, C2⟩ := M8.below hSw (by omega); go_simp)) (by assumption) ?_
  simp only [List.set_cons_zero, List.set_cons_succ]
  refine takeW 1 55 (.agg #[.int .i64 o0, .slice ad0 len0 cap0]) rfl rfl (by kernel_rfl) (by kernel_rfl) (by kernel_rfl) (fun _ _ _ h => h) (by kernel_rfl) (by (intro Y hSw; obtain ⟨C1, C2⟩ := A0.below hSw (by omega); go_simp)) (by assumption) ?_
  simp only [List.set_cons_zero, List.set_cons_succ]
  refine wpAnyH_all (rs := [2]) (by kernel_rfl) (by simp) ?_
  intro i hi; obtain rfl : i = 2 := by simpa using hi
  refine wpOp_step rfl (fun K hK => ?_)
  rw [if_pos (by kernel_rfl)]
  go_simp
  go_at_call 19
  refine (toM o0 ad0 len0 cap0 f0 _ ((hv.below BW (Nat.le_refl _)).below hb0 (Nat.le_refl _)) hl0).mono ?_
  rintro e y1 ⟨N1, rfl, nq1, mq1, vq1, rq1, jq1⟩
  have hb1 : Below x9.heap.size x9 y1 := hb0.trans (jq1.mono hb0.size)
  refine hK _ _ ⟨hb1, ?_⟩
  clear hK K hi
  refine wpAnyH_all (rs := [3]) (by kernel_rfl) (by simp) ?_
  intro i hi; obtain rfl : i = 3 := by simpa using hi
  refine wpOp_step rfl (fun K hK => ?_)
  rw [if_pos (by kernel_rfl)]
  go_simp
  go_at_call 20
  refine (eqM o0 _ _ len0 _ _ f0 _ (V8.below hb1 (Nat.le_refl _)) vq1 hl0).mono ?_
  rintro e y2 ⟨rfl, jq2⟩
  have k10 : Below x9.heap.size x9 y2 := hb1.trans (jq2.mono hb1.size)
  refine hK _ _ ⟨k10, ?_⟩
  clear hK K hi
  refine takeW 4 58 (.bool false) rfl rfl (by kernel_rfl) (by kernel_rfl) (by kernel_rfl) (fun _ _ _ h => h) (by kernel_rfl) (by (intro w hSw; go_simp)) (by assumption) ?_
  simp only [List.set_cons_zero, List.set_cons_succ]
  refine wpAnyH_done (by kernel_rfl) ?_ _
  have s10 := k10.size
  have A0 := A0.below k10 (by omega)
  have A1 := A1.below k10 (by omega)
  have F6 := F6.below k10 (by omega)
  have q6 := q6.carry (w' := y2) (fun x h _ => k10.block _ (by have := l6 x h; omega))
  have V8 := V8.carry (w' := y2) (fun x h _ => by simp at h; subst h; exact k10.block _ (by show N8 < _; omega))
  have R8 := R8.carry (w' := y2) (fun x h _ => by simp at h; subst h; exact k10.block _ (by show N8 < _; omega))
  have M8 := M8.below k10 (by omega)
  have V9 := V9.carry (w' := y2) (fun x h _ => by simp at h; subst h; exact k10.block _ (by show N9 < _; omega))
  have R9 := R9.carry (w' := y2) (fun x h _ => by simp at h; subst h; exact k10.block _ (by show N9 < _; omega))
  have F9 := F9.below k10 (by omega)
  have q10 := q10.carry (w' := y2) (fun x h _ => k10.block _ (by have := l10 x h; omega))
  have R10 := R10.carry (w' := y2) (fun x h _ => k10.block _ (by have := l10 x h; omega))
  have F10 := F10.below k10 (by omega)
  have BW := BW.trans (k10.mono BW.size)
  clear hb0 hb1 vq1 rq1 jq1 jq2 nq1 mq1
  generalize hgy : y2 = x10 at *
  clear hgy
  go_wp2_with fail
  refine wp_region_held (S := fun Y => Below x10.heap.size x10 Y) (by kernel_rfl) ?_
  change wpAnyH _ _ _ _ _ _ _ _ (World.drew _)
  have hb0 : Below x10.heap.size x10 x10.drew := (Below.refl _ _).drew
  refine takeW 0 59 (.agg #[.int .i64 a1, .int .i64 b1, .int .i64 c1, .slice (some ⟨N9, 0, none⟩) L.length L.length]) rfl rfl (by kernel_rfl) (by kernel_rfl) (by kernel_rfl) (fun _ _ _ h => h) (by kernel_rfl) (by (intro Y hSw; obtain ⟨C1, C2, C3, C4⟩ := F9.below hSw (by omega); go_simp)) (by assumption) ?_
  simp only [List.set_cons_zero, List.set_cons_succ]
  refine takeW 1 60 (.agg #[.int .i64 a1, .int .i64 b1, .int .i64 c1, .slice ad1 L.length cap1]) rfl rfl (by kernel_rfl) (by kernel_rfl) (by kernel_rfl) (fun _ _ _ h => h) (by kernel_rfl) (by (intro Y hSw; obtain ⟨C1, C2, C3, C4⟩ := A1.below hSw (by omega); go_simp)) (by assumption) ?_
  simp only [List.set_cons_zero, List.set_cons_succ]
  refine wpAnyH_all (rs := [2]) (by kernel_rfl) (by simp) ?_
  intro i hi; obtain rfl : i = 2 := by simpa using hi
  refine wpOp_step rfl (fun K hK => ?_)
  rw [if_pos (by kernel_rfl)]
  go_simp
  go_at_call 22
  refine (toF a1 b1 c1 ad1 L.length cap1 (fun i => L.getD i 0) _ (hvF.carry (fun x h hp => (BW.trans (hb0.mono BW.size)).block _ (hvF.lt x h hp))) hl1 (fun x h hp => by have := hvF.lt x h hp; have := hb0.size; have := BW.size; omega)).mono ?_
  rintro e y1 ⟨N1, rfl, nq1, mq1, vq1, rq1, jq1⟩
  have hb1 : Below x10.heap.size x10 y1 := hb0.trans (jq1.mono hb0.size)
  refine hK _ _ ⟨hb1, ?_⟩
  clear hK K hi
  refine wpAnyH_all (rs := [3]) (by kernel_rfl) (by simp) ?_
  intro i hi; obtain rfl : i = 3 := by simpa using hi
  refine wpOp_step rfl (fun K hK => ?_)
  rw [if_pos (by kernel_rfl)]
  go_simp
  go_at_call 23
  refine (eqF a1 b1 c1 _ _ L.length _ _ (fun i => L.getD i 0) _ (V9.carry (fun x h _ => by simp at h; subst h; exact hb1.block _ (by omega : N9 < x10.heap.size))) vq1 hl1 (fun x h _ => by simp at h; subst h; have := hb1.size; have := (by omega : N9 < x10.heap.size); show N9 < _; omega) (fun x h _ => by simp at h; subst h; exact mq1)).mono ?_
  rintro e y2 ⟨rfl, jq2⟩
  have k11 : Below x10.heap.size x10 y2 := hb1.trans (jq2.mono hb1.size)
  refine hK _ _ ⟨k11, ?_⟩
  clear hK K hi
  refine takeW 4 63 (.bool false) rfl rfl (by kernel_rfl) (by kernel_rfl) (by kernel_rfl) (fun _ _ _ h => h) (by kernel_rfl) (by (intro w hSw; go_simp)) (by assumption) ?_
  simp only [List.set_cons_zero, List.set_cons_succ]
  refine wpAnyH_done (by kernel_rfl) ?_ _
  have s11 := k11.size
  have A0 := A0.below k11 (by omega)
  have A1 := A1.below k11 (by omega)
  have F6 := F6.below k11 (by omega)
  have q6 := q6.carry (w' := y2) (fun x h _ => k11.block _ (by have := l6 x h; omega))
  have V8 := V8.carry (w' := y2) (fun x h _ => by simp at h; subst h; exact k11.block _ (by show N8 < _; omega))
  have R8 := R8.carry (w' := y2) (fun x h _ => by simp at h; subst h; exact k11.block _ (by show N8 < _; omega))
  have M8 := M8.below k11 (by omega)
  have V9 := V9.carry (w' := y2) (fun x h _ => by simp at h; subst h; exact k11.block _ (by show N9 < _; omega))
  have R9 := R9.carry (w' := y2) (fun x h _ => by simp at h; subst h; exact k11.block _ (by show N9 < _; omega))
  have F9 := F9.below k11 (by omega)
  have q10 := q10.carry (w' := y2) (fun x h _ => k11.block _ (by have := l10 x h; omega))
  have R10 := R10.carry (w' := y2) (fun x h _ => k11.block _ (by have := l10 x h; omega))
  have F10 := F10.below k11 (by omega)
  have BW := BW.trans (k11.mono BW.size)
  clear hb0 hb1 vq1 rq1 jq1 jq2 nq1 mq1
  generalize hgy : y2 = x11 at *
  clear hgy
  have M8' := M8
  obtain ⟨X1, X2⟩ := M8'
  go_wp2_with fail
  go_at_call 24
  refine (markM o0 N8 len0 len0 x11 R8 hl0 (by omega)).mono ?_
  rintro e x12 ⟨rfl, K12⟩
  clear X1 X2
  have k12 : Below x2.heap.size x11 x12 := K12.below (fun x h => by simp at h; subst h; exact n8) (by omega)
  have s12 := k12.size
  have A0 := A0.same (K12.block (by omega) (fun y hy => by simp at hy; subst hy; show N8 ≠ _; omega))
  have A1 := A1.same (K12.block (by omega) (fun y hy => by simp at hy; subst hy; show N8 ≠ _; omega))
  have F6 := F6.same (K12.block (by omega) (fun y hy => by simp at hy; subst hy; show N8 ≠ _; omega))
  have q6 := q6.carry (w' := x12) (fun x h _ => K12.block (by have := l6 x h; omega) (fun y hy => by have := l6 x h; simp at hy; subst hy; show N8 ≠ _; omega))
  have V9 := V9.carry (w' := x12) (fun x h _ => by simp at h; subst h; exact K12.block (by show N9 < _; omega) (fun y hy => by show _ ≠ N9; simp at hy; subst hy; show N8 ≠ _; omega))
  have R9 := R9.carry (w' := x12) (fun x h _ => by simp at h; subst h; exact K12.block (by show N9 < _; omega) (fun y hy => by show _ ≠ N9; simp at hy; subst hy; show N8 ≠ _; omega))
  have F9 := F9.same (K12.block (by omega) (fun y hy => by simp at hy; subst hy; show N8 ≠ _; omega))
  have q10 := q10.carry (w' := x12) (fun x h _ => K12.block (by have := l10 x h; omega) (fun y hy => by have := l10 x h; simp at hy; subst hy; show N8 ≠ _; omega))
  have R10 := R10.carry (w' := x12) (fun x h _ => K12.block (by have := l10 x h; omega) (fun y hy => by have := l10 x h; simp at hy; subst hy; show N8 ≠ _; omega))
  have F10 := F10.same (K12.block (by omega) (fun y hy => by simp at hy; subst hy; show N8 ≠ _; omega))
  have BW := BW.trans (k12.mono (by omega))
  have F9' := F9
  obtain ⟨X1, X2, X3, X4⟩ := F9'
  go_wp2_with fail
  go_at_call 25
  refine (markF2 (1 + len0) (by omega) (by omega) a1 b1 c1 (some ⟨N9, 0, none⟩) L.length L.length x12 R9 hl1).mono ?_
  rintro e x13 ⟨rfl, K13, _⟩
  clear X1 X2 X3 X4
  have k13 : Below x4.heap.size x12 x13 := K13.below (fun x h => by simp at h; subst h; exact n9) (by omega)
  have s13 := k13.size
  have A0 := A0.same (K13.block (by omega) (fun y hy => by simp at hy; subst hy; show N9 ≠ _; omega))
  have A1 := A1.same (K13.block (by omega) (fun y hy => by simp at hy; subst hy; show N9 ≠ _; omega))
  have F6 := F6.same (K13.block (by omega) (fun y hy => by simp at hy; subst hy; show N9 ≠ _; omega))
  have q6 := q6.carry (w' := x13) (fun x h _ => K13.block (by have := l6 x h; omega) (fun y hy => by have := l6 x h; simp at hy; subst hy; show N9 ≠ _; omega))
  have q10 := q10.carry (w' := x13) (fun x h _ => K13.block (by have := l10 x h; omega) (fun y hy => by have := l10 x h; simp at hy; subst hy; show N9 ≠ _; omega))
  have R10 := R10.carry (w' := x13) (fun x h _ => K13.block (by have := l10 x h; omega) (fun y hy => by have := l10 x h; simp at hy; subst hy; show N9 ≠ _; omega))
  have F10 := F10.same (K13.block (by omega) (fun y hy => by simp at hy; subst hy; show N9 ≠ _; omega))
  have BW := BW.trans (k13.mono (by omega))
  have F10' := F10
  obtain ⟨X1, X2, X3, X4⟩ := F10'
  have F6' := F6
  obtain ⟨Y1, Y2, Y3, Y4⟩ := F6'
  go_wp2_with fail
  go_at_call 23
  refine (eqF ra rb rc ad10 ad6 rM.length cap10 cap6 (fun i => rM.getD i 0) x13 q10 q6 hrm (fun x h _ => by have := l10 x h; omega) (fun x h _ => by have := l6 x h; omega)).mono ?_
  rintro e x14 ⟨rfl, k14⟩
  clear X1 X2 X3 X4 Y1 Y2 Y3 Y4
  have s14 := k14.size
  have A0 := A0.below k14 (by omega)
  have A1 := A1.below k14 (by omega)
  have F6 := F6.below k14 (by omega)
  have q6 := q6.carry (w' := x14) (fun x h _ => k14.block _ (by have := l6 x h; omega))
  have q10 := q10.carry (w' := x14) (fun x h _ => k14.block _ (by have := l10 x h; omega))
  have R10 := R10.carry (w' := x14) (fun x h _ => k14.block _ (by have := l10 x h; omega))
  have F10 := F10.below k14 (by omega)
  have BW := BW.trans (k14.mono BW.size)
  have F10' := F10
  obtain ⟨X1, X2, X3, X4⟩ := F10'
  go_wp2_with fail
  go_at_call 25
  refine (markF2 1 (by omega) (by omega) ra rb rc ad10 rM.length cap10 x14 R10 hrm).mono ?_
  rintro e x15 ⟨rfl, K15, v10⟩
  clear X1 X2 X3 X4
  have k15 : Below x6.heap.size x14 x15 := K15.below (fun x h => (l10 x h).1) (by omega)
  have s15 := k15.size
  have A0 := A0.same (K15.block (by omega) (fun y hy => by have := l10 y hy; omega))
  have A1 := A1.same (K15.block (by omega) (fun y hy => by have := l10 y hy; omega))
  have F6 := F6.same (K15.block (by omega) (fun y hy => by have := l10 y hy; omega))
  have q6 := q6.carry (w' := x15) (fun x h _ => K15.block (by have := l6 x h; omega) (fun y hy => by have := l6 x h; have := l10 y hy; omega))
  have F10 := F10.same (K15.block (by omega) (fun y hy => by have := l10 y hy; omega))
  have BW := BW.trans (k15.mono (by omega))
  have F10' := F10
  obtain ⟨X1, X2, X3, X4⟩ := F10'
  go_wp2_with fail
  go_at_call 26
  refine (heldF ra rb rc ad10 rM.length cap10 x15 v10 hrm).mono ?_
  rintro e x16 ⟨rfl, k16⟩
  clear X1 X2 X3 X4
  have s16 := k16.size
  have A0 := A0.below k16 (by omega)
  have A1 := A1.below k16 (by omega)
  have F6 := F6.below k16 (by omega)
  have q6 := q6.carry (w' := x16) (fun x h _ => k16.block _ (by have := l6 x h; omega))
  have F10 := F10.below k16 (by omega)
  have v10 := v10.carry (w' := x16) (fun x h _ => k16.block _ (by have := l10 x h; omega))
  have BW := BW.trans (k16.mono BW.size)
  have T16 : w.heap.size + 1 < x16.heap.size := by omega
  go_wp2_with fail
  refine join_region (fun l l' W' => ∃ (P : Nat) (ad4 : Option Addr) (cap4 : Nat) (us : List Value), us.length = 8 ∧ l' = l.take 15 ++ (.pointer (some ⟨P, 0, none⟩) :: .bool rok :: (l.drop 17).take 77) ++ us ++ l.drop 102 ∧ FrameAt W' P ra rb rc ad4 rM.length cap4 ∧ View W' ad4 rM.length (fun i => rM.getD i 0) ∧ (∀ x, ad4 = some x → x16.heap.size ≤ x.block ∧ x.block < W'.heap.size) ∧ x16.heap.size ≤ P ∧ P < W'.heap.size ∧ Below x16.heap.size x16 W') ?_ ?_
  rotate_left
  · intro K2 hT
    refine wp_region_held (S := fun Y => Below x16.heap.size x16 Y) (by kernel_rfl) ?_
    change wpAnyH _ _ _ _ _ _ _ _ (World.drew _)
    have hb0 : Below x16.heap.size x16 x16.drew := (Below.refl _ _).drew
    obtain ⟨y0, hy0⟩ : ∃ y, y = x16.drew := ⟨_, rfl⟩
    rw [← hy0] at hb0 ⊢
    clear hy0
    have z0 := hb0.size
    refine takeW 0 95 (.agg #[.int .i64 o0, .slice ad0 len0 cap0]) rfl rfl (by kernel_rfl) (by kernel_rfl) (by kernel_rfl) (fun _ _ _ h => h) (by kernel_rfl) (by (intro Y hSw; obtain ⟨C1, C2⟩ := A0.below hSw (by omega); go_simp)) (by assumption) ?_
    simp only [List.set_cons_zero, List.set_cons_succ]
    refine takeW 2 97 (.agg #[.int .i64 a1, .int .i64 b1, .int .i64 c1, .slice ad1 L.length cap1]) rfl rfl (by kernel_rfl) (by kernel_rfl) (by kernel_rfl) (fun _ _ _ h => h) (by kernel_rfl) (by (intro Y hSw; obtain ⟨C1, C2, C3, C4⟩ := A1.below hSw (by omega); go_simp)) (by assumption) ?_
    simp only [List.set_cons_zero, List.set_cons_succ]
    refine wpAnyH_all (rs := [1, 8]) (by kernel_rfl) (by simp) ?_
    intro i hi; rcases (by simpa using hi : i = 1 ∨ i = 8) with rfl | rfl
    · refine wpOp_step rfl (fun K hK => ?_)
      rw [if_pos (by kernel_rfl)]
      go_simp
      go_at_call 19
      refine (toM o0 ad0 len0 cap0 f0 y0 (hv.below (BW.trans (hb0.mono BW.size)) (Nat.le_refl _)) hl0).mono ?_
      rintro e y1 ⟨N1, rfl, n1, m1, v1, _, kq1⟩
      have hb1 : Below x16.heap.size x16 y1 := hb0.trans (kq1.mono hb0.size)
      have z1 := kq1.size
      refine hK _ _ ⟨hb1, ?_⟩
      clear hK K hi
      refine wpAnyH_all (rs := [3, 8]) (by kernel_rfl) (by simp) ?_
      intro i hi; rcases (by simpa using hi : i = 3 ∨ i = 8) with rfl | rfl
      · refine wpOp_step rfl (fun K hK => ?_)
        rw [if_pos (by kernel_rfl)]
        go_simp
        go_at_call 22
        refine (toF a1 b1 c1 ad1 L.length cap1 (fun i => L.getD i 0) y1 (hvF.carry (fun x h hp => (BW.trans (hb1.mono BW.size)).block _ (hvF.lt x h hp))) hl1 (fun x h hp => by have := hvF.lt x h hp; have := BW.size; have := hb1.size; omega)).mono ?_
        rintro e y2 ⟨N3, rfl, n3, m3, v3, _, kq2⟩
        have v1 := v1.below kq2 (Nat.le_refl _)
        have hb2 : Below x16.heap.size x16 y2 := hb1.trans (kq2.mono hb1.size)
        have z2 := kq2.size
        refine hK _ _ ⟨hb2, ?_⟩
        clear hK K hi
        refine wpAnyH_all (rs := [4, 8]) (by kernel_rfl) (by simp) ?_
        intro i hi; rcases (by simpa using hi : i = 4 ∨ i = 8) with rfl | rfl
        · refine wpOp_step rfl (fun K hK => ?_)
          rw [if_pos (by kernel_rfl)]
          go_simp
          go_at_call 12
          refine (insideI o0 _ len0 _ f0 a1 b1 c1 _ _ L y2 v1 lm v3 hl1).mono ?_
          rintro e y3 ⟨ad4, cap4, rfl, o4, kq3⟩
          rw [hr.out] at o4 ⊢
          simp only [] at o4 ⊢
          obtain ⟨q4, R4, m4⟩ := own_view2 o4
          have m4 : ∀ x, ad4 = some x → x16.heap.size ≤ x.block ∧ x.block < y3.heap.size := fun x h => ⟨by have := (m4 x h).1; omega, (m4 x h).2⟩
          clear o4 R4
          have hb3 : Below x16.heap.size x16 y3 := hb2.trans (kq3.mono hb2.size)
          have z3 := kq3.size
          clear v1 v3
          refine hK _ _ ⟨hb3, ?_⟩
          clear hK K hi
          refine takeW 5 94 (.tuple #[.agg #[.int .i64 ra, .int .i64 rb, .int .i64 rc, .slice ad4 rM.length cap4], .bool rok]) rfl rfl (by kernel_rfl) (by kernel_rfl) (by kernel_rfl) (fun _ _ _ h => h) (by kernel_rfl) (by (intro w hSw; go_simp)) (by assumption) ?_
          simp only [List.set_cons_zero, List.set_cons_succ]
          refine takeW 6 100 (.agg #[.int .i64 ra, .int .i64 rb, .int .i64 rc, .slice ad4 rM.length cap4]) rfl rfl (by kernel_rfl) (by kernel_rfl) (by kernel_rfl) (fun _ _ _ h => h) (by kernel_rfl) (by (intro w hSw; go_simp)) (by assumption) ?_
          simp only [List.set_cons_zero, List.set_cons_succ]
          refine takeW 7 101 (.bool rok) rfl rfl (by kernel_rfl) (by kernel_rfl) (by kernel_rfl) (fun _ _ _ h => h) (by kernel_rfl) (by (intro w hSw; go_simp)) (by assumption) ?_
          simp only [List.set_cons_zero, List.set_cons_succ]
          refine wpAnyH_all (rs := [8]) (by kernel_rfl) (by simp) ?_
          intro i hi; obtain rfl : i = 8 := by simpa using hi
          refine wpOp_step rfl (fun K hK => ?_)
          rw [if_pos (by kernel_rfl)]
          go_simp
          obtain ⟨y4, hy⟩ : ∃ y, y = y3.alloc (Obj.cells #[.int .i64 0, .int .i64 0, .int .i64 0, .slice none 0 0] 28) := ⟨_, rfl⟩
          have FP : FrameAt y4 y3.heap.size 0 0 0 none 0 0 := by rw [hy]; exact frameAt_box y3 _ _ _ _ _ _ _
          have ZP : ∀ i, y4.frozen? ⟨y3.heap.size, i, none⟩ = false := by intro i; rw [hy]; simp [go_sem]
          have kq4 : Below y3.heap.size y3 y4 := by rw [hy]; exact below_box y3 _
          have zz : y3.heap.size < y4.heap.size := by rw [hy]; exact size_box y3 _
          have nP : ∀ x, ad4 = some x → x.block ≠ y3.heap.size := fun x h => by have := (m4 x h).2; omega
          have q4 := q4.carry (w' := y4) (fun x h hp => kq4.block _ (m4 x h).2)
          have m4 : ∀ x, ad4 = some x → x16.heap.size ≤ x.block ∧ x.block < y4.heap.size := fun x h => ⟨(m4 x h).1, by have := (m4 x h).2; have := kq4.size; omega⟩
          have hb4 : Below x16.heap.size x16 y4 := hb3.trans (kq4.mono hb3.size)
          have z4 := kq4.size
          have pa : x16.heap.size ≤ y3.heap.size := by omega
          rw [← hy]
          clear hy
          generalize y3.heap.size = P at *
          refine hK _ _ ⟨hb4, ?_⟩
          clear hK K hi
          refine wpAnyH_all (rs := [9]) (by kernel_rfl) (by simp) ?_
          intro i hi; obtain rfl : i = 9 := by simpa using hi
          refine wpOp_step rfl (fun K hK => ?_)
          rw [if_pos (by kernel_rfl)]
          have FPQ := FP
          obtain ⟨t1, t2, t3, t4⟩ := FP
          have w0 := ZP 0
          have w1 := ZP 1
          have w2 := ZP 2
          have w3 := ZP 3
          go_simp
          clear w0 w1 w2 w3 t1 t2 t3 t4
          obtain ⟨yf, hy⟩ : ∃ z, z = (((y4.setCell ⟨P, 0, none⟩ (.int .i64 ra)).setCell ⟨P, 1, none⟩ (.int .i64 rb)).setCell ⟨P, 2, none⟩ (.int .i64 rc)).setCell ⟨P, 3, none⟩ (.slice ad4 rM.length cap4) := ⟨_, rfl⟩
          have kk : ∀ g, g ≠ P → yf.heap[g]? = y4.heap[g]? := fun g hg => by rw [hy, Below.heap_setCell _ _ _ _ hg, Below.heap_setCell _ _ _ _ hg, Below.heap_setCell _ _ _ _ hg, Below.heap_setCell _ _ _ _ hg]
          have FE : FrameAt yf P ra rb rc ad4 rM.length cap4 := by rw [hy]; exact frame_put FPQ rfl
          have hbf : Below x16.heap.size x16 yf := by rw [hy]; exact (((hb4.setCell (by show _ ≤ P; omega) _).setCell (by show _ ≤ P; omega) _).setCell (by show _ ≤ P; omega) _).setCell (by show _ ≤ P; omega) _
          have zf : yf.heap.size = y4.heap.size := by rw [hy]; simp
          have qf := q4.carry (w' := yf) (fun x h _ => kk _ (nP x h))
          have mf : ∀ x, ad4 = some x → x16.heap.size ≤ x.block ∧ x.block < yf.heap.size := fun x h => ⟨(m4 x h).1, by have := (m4 x h).2; omega⟩
          rw [← hy]
          clear hy
          refine hK _ _ ⟨hbf, ?_⟩
          clear hK K hi
          refine takeW 10 16 (.bool rok) rfl rfl (by kernel_rfl) (by kernel_rfl) (by kernel_rfl) (fun _ _ _ h => h) (by kernel_rfl) (by (intro w hSw; go_simp)) (by assumption) ?_
          simp only [List.set_cons_zero, List.set_cons_succ]
          refine wpAnyH_done (by kernel_rfl) ?_ _
          exact hT.out _ _ ⟨P, ad4, cap4, [(.tuple #[.agg #[.int .i64 ra, .int .i64 rb, .int .i64 rc, .slice ad4 rM.length cap4], .bool rok]), (.agg #[.int .i64 o0, .slice ad0 len0 cap0]), (.agg #[.int .i64 o0, .slice (some ⟨N1, 0, none⟩) len0 len0]), (.agg #[.int .i64 a1, .int .i64 b1, .int .i64 c1, .slice ad1 L.length cap1]), (.agg #[.int .i64 a1, .int .i64 b1, .int .i64 c1, .slice (some ⟨N3, 0, none⟩) L.length L.length]), (.tuple #[.agg #[.int .i64 ra, .int .i64 rb, .int .i64 rc, .slice ad4 rM.length cap4], .bool rok]), (.agg #[.int .i64 ra, .int .i64 rb, .int .i64 rc, .slice ad4 rM.length cap4]), (.bool rok)], rfl, by kernel_rfl, FE, qf, mf, pa, FE.lt, hbf⟩
        · refine wpOp_step rfl (fun K hK => ?_)
          rw [if_pos (by kernel_rfl)]
          go_simp
          obtain ⟨y3, hy⟩ : ∃ y, y = y2.alloc (Obj.cells #[.int .i64 0, .int .i64 0, .int .i64 0, .slice none 0 0] 28) := ⟨_, rfl⟩
          have FP : FrameAt y3 y2.heap.size 0 0 0 none 0 0 := by rw [hy]; exact frameAt_box y2 _ _ _ _ _ _ _
          have ZP : ∀ i, y3.frozen? ⟨y2.heap.size, i, none⟩ = false := by intro i; rw [hy]; simp [go_sem]
          have kq3 : Below y2.heap.size y2 y3 := by rw [hy]; exact below_box y2 _
          have zz : y2.heap.size < y3.heap.size := by rw [hy]; exact size_box y2 _
          have v1 := v1.below kq3 (Nat.le_refl _)
          have v3 := v3.carry (w' := y3) (fun x h hp => kq3.block _ (v3.lt x h hp))
          have hb3 : Below x16.heap.size x16 y3 := hb2.trans (kq3.mono hb2.size)
          have z3 := kq3.size
          have pa : x16.heap.size ≤ y2.heap.size := by omega
          rw [← hy]
          clear hy
          generalize y2.heap.size = P at *
          refine hK _ _ ⟨hb3, ?_⟩
          clear hK K hi
          refine wpAnyH_all (rs := [4]) (by kernel_rfl) (by simp) ?_
          intro i hi; obtain rfl : i = 4 := by simpa using hi
          refine wpOp_step rfl (fun K hK => ?_)
          rw [if_pos (by kernel_rfl)]
          go_simp
          go_at_call 12
          refine (insideI o0 _ len0 _ f0 a1 b1 c1 _ _ L y3 v1 lm v3 hl1).mono ?_
          rintro e y4 ⟨ad4, cap4, rfl, o4, kq4⟩
          rw [hr.out] at o4 ⊢
          simp only [] at o4 ⊢
          obtain ⟨q4, R4, m4⟩ := own_view2 o4
          have nP : ∀ x, ad4 = some x → x.block ≠ P := fun x h => by have := (m4 x h).1; have := FP.lt; omega
          have m4 : ∀ x, ad4 = some x → x16.heap.size ≤ x.block ∧ x.block < y4.heap.size := fun x h => ⟨by have := (m4 x h).1; omega, (m4 x h).2⟩
          clear o4 R4
          have FP := FP.below kq4 FP.lt
          have ZP := fz_below ZP kq4 (by omega)
          have hb4 : Below x16.heap.size x16 y4 := hb3.trans (kq4.mono hb3.size)
          have z4 := kq4.size
          clear v1 v3
          refine hK _ _ ⟨hb4, ?_⟩
          clear hK K hi
          refine takeW 5 94 (.tuple #[.agg #[.int .i64 ra, .int .i64 rb, .int .i64 rc, .slice ad4 rM.length cap4], .bool rok]) rfl rfl (by kernel_rfl) (by kernel_rfl) (by kernel_rfl) (fun _ _ _ h => h) (by kernel_rfl) (by (intro w hSw; go_simp)) (by assumption) ?_
          simp only [List.set_cons_zero, List.set_cons_succ]
          refine takeW 6 100 (.agg #[.int .i64 ra, .int .i64 rb, .int .i64 rc, .slice ad4 rM.length cap4]) rfl rfl (by kernel_rfl) (by kernel_rfl) (by kernel_rfl) (fun _ _ _ h => h) (by kernel_rfl) (by (intro w hSw; go_simp)) (by assumption) ?_
          simp only [List.set_cons_zero, List.set_cons_succ]
          refine takeW 7 101 (.bool rok) rfl rfl (by kernel_rfl) (by kernel_rfl) (by kernel_rfl) (fun _ _ _ h => h) (by kernel_rfl) (by (intro w hSw; go_simp)) (by assumption) ?_
          simp only [List.set_cons_zero, List.set_cons_succ]
          refine wpAnyH_all (rs := [9]) (by kernel_rfl) (by simp) ?_
          intro i hi; obtain rfl : i = 9 := by simpa using hi
          refine wpOp_step rfl (fun K hK => ?_)
          rw [if_pos (by kernel_rfl)]
          have FPQ := FP
          obtain ⟨t1, t2, t3, t4⟩ := FP
          have w0 := ZP 0
          have w1 := ZP 1
          have w2 := ZP 2
          have w3 := ZP 3
          go_simp
          clear w0 w1 w2 w3 t1 t2 t3 t4
          obtain ⟨yf, hy⟩ : ∃ z, z = (((y4.setCell ⟨P, 0, none⟩ (.int .i64 ra)).setCell ⟨P, 1, none⟩ (.int .i64 rb)).setCell ⟨P, 2, none⟩ (.int .i64 rc)).setCell ⟨P, 3, none⟩ (.slice ad4 rM.length cap4) := ⟨_, rfl⟩
          have kk : ∀ g, g ≠ P → yf.heap[g]? = y4.heap[g]? := fun g hg => by rw [hy, Below.heap_setCell _ _ _ _ hg, Below.heap_setCell _ _ _ _ hg, Below.heap_setCell _ _ _ _ hg, Below.heap_setCell _ _ _ _ hg]
          have FE : FrameAt yf P ra rb rc ad4 rM.length cap4 := by rw [hy]; exact frame_put FPQ rfl
          have hbf : Below x16.heap.size x16 yf := by rw [hy]; exact (((hb4.setCell (by show _ ≤ P; omega) _).setCell (by show _ ≤ P; omega) _).setCell (by show _ ≤ P; omega) _).setCell (by show _ ≤ P; omega) _
          have zf : yf.heap.size = y4.heap.size := by rw [hy]; simp
          have qf := q4.carry (w' := yf) (fun x h _ => kk _ (nP x h))
          have mf : ∀ x, ad4 = some x → x16.heap.size ≤ x.block ∧ x.block < yf.heap.size := fun x h => ⟨(m4 x h).1, by have := (m4 x h).2; omega⟩
          rw [← hy]
          clear hy
          refine hK _ _ ⟨hbf, ?_⟩
          clear hK K hi
          refine takeW 10 16 (.bool rok) rfl rfl (by kernel_rfl) (by kernel_rfl) (by kernel_rfl) (fun _ _ _ h => h) (by kernel_rfl) (by (intro w hSw; go_simp)) (by assumption) ?_
          simp only [List.set_cons_zero, List.set_cons_succ]
          refine wpAnyH_done (by kernel_rfl) ?_ _
          exact hT.out _ _ ⟨P, ad4, cap4, [(.tuple #[.agg #[.int .i64 ra, .int .i64 rb, .int .i64 rc, .slice ad4 rM.length cap4], .bool rok]), (.agg #[.int .i64 o0, .slice ad0 len0 cap0]), (.agg #[.int .i64 o0, .slice (some ⟨N1, 0, none⟩) len0 len0]), (.agg #[.int .i64 a1, .int .i64 b1, .int .i64 c1, .slice ad1 L.length cap1]), (.agg #[.int .i64 a1, .int .i64 b1, .int .i64 c1, .slice (some ⟨N3, 0, none⟩) L.length L.length]), (.tuple #[.agg #[.int .i64 ra, .int .i64 rb, .int .i64 rc, .slice ad4 rM.length cap4], .bool rok]), (.agg #[.int .i64 ra, .int .i64 rb, .int .i64 rc, .slice ad4 rM.length cap4]), (.bool rok)], rfl, by kernel_rfl, FE, qf, mf, pa, FE.lt, hbf⟩
      · refine wpOp_step rfl (fun K hK => ?_)
        rw [if_pos (by kernel_rfl)]
        go_simp
        obtain ⟨y2, hy⟩ : ∃ y, y = y1.alloc (Obj.cells #[.int .i64 0, .int .i64 0, .int .i64 0, .slice none 0 0] 28) := ⟨_, rfl⟩
        have FP : FrameAt y2 y1.heap.size 0 0 0 none 0 0 := by rw [hy]; exact frameAt_box y1 _ _ _ _ _ _ _
        have ZP : ∀ i, y2.frozen? ⟨y1.heap.size, i, none⟩ = false := by intro i; rw [hy]; simp [go_sem]
        have kq2 : Below y1.heap.size y1 y2 := by rw [hy]; exact below_box y1 _
        have zz : y1.heap.size < y2.heap.size := by rw [hy]; exact size_box y1 _
        have v1 := v1.below kq2 (Nat.le_refl _)
        have hb2 : Below x16.heap.size x16 y2 := hb1.trans (kq2.mono hb1.size)
        have z2 := kq2.size
        have pa : x16.heap.size ≤ y1.heap.size := by omega
        rw [← hy]
        clear hy
        generalize y1.heap.size = P at *
        refine hK _ _ ⟨hb2, ?_⟩
        clear hK K hi
        refine wpAnyH_all (rs := [3]) (by kernel_rfl) (by simp) ?_
        intro i hi; obtain rfl : i = 3 := by simpa using hi
        refine wpOp_step rfl (fun K hK => ?_)
        rw [if_pos (by kernel_rfl)]
        go_simp
        go_at_call 22
        refine (toF a1 b1 c1 ad1 L.length cap1 (fun i => L.getD i 0) y2 (hvF.carry (fun x h hp => (BW.trans (hb2.mono BW.size)).block _ (hvF.lt x h hp))) hl1 (fun x h hp => by have := hvF.lt x h hp; have := BW.size; have := hb2.size; omega)).mono ?_
        rintro e y3 ⟨N3, rfl, n3, m3, v3, _, kq3⟩
        have v1 := v1.below kq3 (Nat.le_refl _)
        have FP := FP.below kq3 FP.lt
        have ZP := fz_below ZP kq3 (by omega)
        have hb3 : Below x16.heap.size x16 y3 := hb2.trans (kq3.mono hb2.size)
        have z3 := kq3.size
        refine hK _ _ ⟨hb3, ?_⟩
        clear hK K hi
        refine wpAnyH_all (rs := [4]) (by kernel_rfl) (by simp) ?_
        intro i hi; obtain rfl : i = 4 := by simpa using hi
        refine wpOp_step rfl (fun K hK => ?_)
        rw [if_pos (by kernel_rfl)]
        go_simp
        go_at_call 12
        refine (insideI o0 _ len0 _ f0 a1 b1 c1 _ _ L y3 v1 lm v3 hl1).mono ?_
        rintro e y4 ⟨ad4, cap4, rfl, o4, kq4⟩
        rw [hr.out] at o4 ⊢
        simp only [] at o4 ⊢
        obtain ⟨q4, R4, m4⟩ := own_view2 o4
        have nP : ∀ x, ad4 = some x → x.block ≠ P := fun x h => by have := (m4 x h).1; have := FP.lt; omega
        have m4 : ∀ x, ad4 = some x → x16.heap.size ≤ x.block ∧ x.block < y4.heap.size := fun x h => ⟨by have := (m4 x h).1; omega, (m4 x h).2⟩
        clear o4 R4
        have FP := FP.below kq4 FP.lt
        have ZP := fz_below ZP kq4 (by omega)
        have hb4 : Below x16.heap.size x16 y4 := hb3.trans (kq4.mono hb3.size)
        have z4 := kq4.size
        clear v1 v3
        refine hK _ _ ⟨hb4, ?_⟩
        clear hK K hi
        refine takeW 5 94 (.tuple #[.agg #[.int .i64 ra, .int .i64 rb, .int .i64 rc, .slice ad4 rM.length cap4], .bool rok]) rfl rfl (by kernel_rfl) (by kernel_rfl) (by kernel_rfl) (fun _ _ _ h => h) (by kernel_rfl) (by (intro w hSw; go_simp)) (by assumption) ?_
        simp only [List.set_cons_zero, List.set_cons_succ]
        refine takeW 6 100 (.agg #[.int .i64 ra, .int .i64 rb, .int .i64 rc, .slice ad4 rM.length cap4]) rfl rfl (by kernel_rfl) (by kernel_rfl) (by kernel_rfl) (fun _ _ _ h => h) (by kernel_rfl) (by (intro w hSw; go_simp)) (by assumption) ?_
        simp only [List.set_cons_zero, List.set_cons_succ]
        refine takeW 7 101 (.bool rok) rfl rfl (by kernel_rfl) (by kernel_rfl) (by kernel_rfl) (fun _ _ _ h => h) (by kernel_rfl) (by (intro w hSw; go_simp)) (by assumption) ?_
        simp only [List.set_cons_zero, List.set_cons_succ]
        refine wpAnyH_all (rs := [9]) (by kernel_rfl) (by simp) ?_
        intro i hi; obtain rfl : i = 9 := by simpa using hi
        refine wpOp_step rfl (fun K hK => ?_)
        rw [if_pos (by kernel_rfl)]
        have FPQ := FP
        obtain ⟨t1, t2, t3, t4⟩ := FP
        have w0 := ZP 0
        have w1 := ZP 1
        have w2 := ZP 2
        have w3 := ZP 3
        go_simp
        clear w0 w1 w2 w3 t1 t2 t3 t4
        obtain ⟨yf, hy⟩ : ∃ z, z = (((y4.setCell ⟨P, 0, none⟩ (.int .i64 ra)).setCell ⟨P, 1, none⟩ (.int .i64 rb)).setCell ⟨P, 2, none⟩ (.int .i64 rc)).setCell ⟨P, 3, none⟩ (.slice ad4 rM.length cap4) := ⟨_, rfl⟩
        have kk : ∀ g, g ≠ P → yf.heap[g]? = y4.heap[g]? := fun g hg => by rw [hy, Below.heap_setCell _ _ _ _ hg, Below.heap_setCell _ _ _ _ hg, Below.heap_setCell _ _ _ _ hg, Below.heap_setCell _ _ _ _ hg]
        have FE : FrameAt yf P ra rb rc ad4 rM.length cap4 := by rw [hy]; exact frame_put FPQ rfl
        have hbf : Below x16.heap.size x16 yf := by rw [hy]; exact (((hb4.setCell (by show _ ≤ P; omega) _).setCell (by show _ ≤ P; omega) _).setCell (by show _ ≤ P; omega) _).setCell (by show _ ≤ P; omega) _
        have zf : yf.heap.size = y4.heap.size := by rw [hy]; simp
        have qf := q4.carry (w' := yf) (fun x h _ => kk _ (nP x h))
        have mf : ∀ x, ad4 = some x → x16.heap.size ≤ x.block ∧ x.block < yf.heap.size := fun x h => ⟨(m4 x h).1, by have := (m4 x h).2; omega⟩
        rw [← hy]
        clear hy
        refine hK _ _ ⟨hbf, ?_⟩
        clear hK K hi
        refine takeW 10 16 (.bool rok) rfl rfl (by kernel_rfl) (by kernel_rfl) (by kernel_rfl) (fun _ _ _ h => h) (by kernel_rfl) (by (intro w hSw; go_simp)) (by assumption) ?_
        simp only [List.set_cons_zero, List.set_cons_succ]
        refine wpAnyH_done (by kernel_rfl) ?_ _
        exact hT.out _ _ ⟨P, ad4, cap4, [(.tuple #[.agg #[.int .i64 ra, .int .i64 rb, .int .i64 rc, .slice ad4 rM.length cap4], .bool rok]), (.agg #[.int .i64 o0, .slice ad0 len0 cap0]), (.agg #[.int .i64 o0, .slice (some ⟨N1, 0, none⟩) len0 len0]), (.agg #[.int .i64 a1, .int .i64 b1, .int .i64 c1, .slice ad1 L.length cap1]), (.agg #[.int .i64 a1, .int .i64 b1, .int .i64 c1, .slice (some ⟨N3, 0, none⟩) L.length L.length]), (.tuple #[.agg #[.int .i64 ra, .int .i64 rb, .int .i64 rc, .slice ad4 rM.length cap4], .bool rok]), (.agg #[.int .i64 ra, .int .i64 rb, .int .i64 rc, .slice ad4 rM.length cap4]), (.bool rok)], rfl, by kernel_rfl, FE, qf, mf, pa, FE.lt, hbf⟩
    · refine wpOp_step rfl (fun K hK => ?_)
      rw [if_pos (by kernel_rfl)]
      go_simp
      obtain ⟨y1, hy⟩ : ∃ y, y = y0.alloc (Obj.cells #[.int .i64 0, .int .i64 0, .int .i64 0, .slice none 0 0] 28) := ⟨_, rfl⟩
      have FP : FrameAt y1 y0.heap.size 0 0 0 none 0 0 := by rw [hy]; exact frameAt_box y0 _ _ _ _ _ _ _
      have ZP : ∀ i, y1.frozen? ⟨y0.heap.size, i, none⟩ = false := by intro i; rw [hy]; simp [go_sem]
      have kq1 : Below y0.heap.size y0 y1 := by rw [hy]; exact below_box y0 _
      have zz : y0.heap.size < y1.heap.size := by rw [hy]; exact size_box y0 _
      have hb1 : Below x16.heap.size x16 y1 := hb0.trans (kq1.mono hb0.size)
      have z1 := kq1.size
      have pa : x16.heap.size ≤ y0.heap.size := by omega
      rw [← hy]
      clear hy
      generalize y0.heap.size = P at *
      refine hK _ _ ⟨hb1, ?_⟩
      clear hK K hi
      refine wpAnyH_all (rs := [1]) (by kernel_rfl) (by simp) ?_
      intro i hi; obtain rfl : i = 1 := by simpa using hi
      refine wpOp_step rfl (fun K hK => ?_)
      rw [if_pos (by kernel_rfl)]
      go_simp
      go_at_call 19
      refine (toM o0 ad0 len0 cap0 f0 y1 (hv.below (BW.trans (hb1.mono BW.size)) (Nat.le_refl _)) hl0).mono ?_
      rintro e y2 ⟨N1, rfl, n1, m1, v1, _, kq2⟩
      have FP := FP.below kq2 FP.lt
      have ZP := fz_below ZP kq2 (by omega)
      have hb2 : Below x16.heap.size x16 y2 := hb1.trans (kq2.mono hb1.size)
      have z2 := kq2.size
      refine hK _ _ ⟨hb2, ?_⟩
      clear hK K hi
      refine wpAnyH_all (rs := [3]) (by kernel_rfl) (by simp) ?_
      intro i hi; obtain rfl : i = 3 := by simpa using hi
      refine wpOp_step rfl (fun K hK => ?_)
      rw [if_pos (by kernel_rfl)]
      go_simp
      go_at_call 22
      refine (toF a1 b1 c1 ad1 L.length cap1 (fun i => L.getD i 0) y2 (hvF.carry (fun x h hp => (BW.trans (hb2.mono BW.size)).block _ (hvF.lt x h hp))) hl1 (fun x h hp => by have := hvF.lt x h hp; have := BW.size; have := hb2.size; omega)).mono ?_
      rintro e y3 ⟨N3, rfl, n3, m3, v3, _, kq3⟩
      have v1 := v1.below kq3 (Nat.le_refl _)
      have FP := FP.below kq3 FP.lt
      have ZP := fz_below ZP kq3 (by omega)
      have hb3 : Below x16.heap.size x16 y3 := hb2.trans (kq3.mono hb2.size)
      have z3 := kq3.size
      refine hK _ _ ⟨hb3, ?_⟩
      clear hK K hi
      refine wpAnyH_all (rs := [4]) (by kernel_rfl) (by simp) ?_
      intro i hi; obtain rfl : i = 4 := by simpa using hi
      refine wpOp_step rfl (fun K hK => ?_)
      rw [if_pos (by kernel_rfl)]
      go_simp
      go_at_call 12
      refine (insideI o0 _ len0 _ f0 a1 b1 c1 _ _ L y3 v1 lm v3 hl1).mono ?_
      rintro e y4 ⟨ad4, cap4, rfl, o4, kq4⟩
      rw [hr.out] at o4 ⊢
      simp only [] at o4 ⊢
      obtain ⟨q4, R4, m4⟩ := own_view2 o4
      have nP : ∀ x, ad4 = some x → x.block ≠ P := fun x h => by have := (m4 x h).1; have := FP.lt; omega
      have m4 : ∀ x, ad4 = some x → x16.heap.size ≤ x.block ∧ x.block < y4.heap.size := fun x h => ⟨by have := (m4 x h).1; omega, (m4 x h).2⟩
      clear o4 R4
      have FP := FP.below kq4 FP.lt
      have ZP := fz_below ZP kq4 (by omega)
      have hb4 : Below x16.heap.size x16 y4 := hb3.trans (kq4.mono hb3.size)
      have z4 := kq4.size
      clear v1 v3
      refine hK _ _ ⟨hb4, ?_⟩
      clear hK K hi
      refine takeW 5 94 (.tuple #[.agg #[.int .i64 ra, .int .i64 rb, .int .i64 rc, .slice ad4 rM.length cap4], .bool rok]) rfl rfl (by kernel_rfl) (by kernel_rfl) (by kernel_rfl) (fun _ _ _ h => h) (by kernel_rfl) (by (intro w hSw; go_simp)) (by assumption) ?_
      simp only [List.set_cons_zero, List.set_cons_succ]
      refine takeW 6 100 (.agg #[.int .i64 ra, .int .i64 rb, .int .i64 rc, .slice ad4 rM.length cap4]) rfl rfl (by kernel_rfl) (by kernel_rfl) (by kernel_rfl) (fun _ _ _ h => h) (by kernel_rfl) (by (intro w hSw; go_simp)) (by assumption) ?_
      simp only [List.set_cons_zero, List.set_cons_succ]
      refine takeW 7 101 (.bool rok) rfl rfl (by kernel_rfl) (by kernel_rfl) (by kernel_rfl) (fun _ _ _ h => h) (by kernel_rfl) (by (intro w hSw; go_simp)) (by assumption) ?_
      simp only [List.set_cons_zero, List.set_cons_succ]
      refine wpAnyH_all (rs := [9]) (by kernel_rfl) (by simp) ?_
      intro i hi; obtain rfl : i = 9 := by simpa using hi
      refine wpOp_step rfl (fun K hK => ?_)
      rw [if_pos (by kernel_rfl)]
      have FPQ := FP
      obtain ⟨t1, t2, t3, t4⟩ := FP
      have w0 := ZP 0
      have w1 := ZP 1
      have w2 := ZP 2
      have w3 := ZP 3
      go_simp
      clear w0 w1 w2 w3 t1 t2 t3 t4
      obtain ⟨yf, hy⟩ : ∃ z, z = (((y4.setCell ⟨P, 0, none⟩ (.int .i64 ra)).setCell ⟨P, 1, none⟩ (.int .i64 rb)).setCell ⟨P, 2, none⟩ (.int .i64 rc)).setCell ⟨P, 3, none⟩ (.slice ad4 rM.length cap4) := ⟨_, rfl⟩
      have kk : ∀ g, g ≠ P → yf.heap[g]? = y4.heap[g]? := fun g hg => by rw [hy, Below.heap_setCell _ _ _ _ hg, Below.heap_setCell _ _ _ _ hg, Below.heap_setCell _ _ _ _ hg, Below.heap_setCell _ _ _ _ hg]
      have FE : FrameAt yf P ra rb rc ad4 rM.length cap4 := by rw [hy]; exact frame_put FPQ rfl
      have hbf : Below x16.heap.size x16 yf := by rw [hy]; exact (((hb4.setCell (by show _ ≤ P; omega) _).setCell (by show _ ≤ P; omega) _).setCell (by show _ ≤ P; omega) _).setCell (by show _ ≤ P; omega) _
      have zf : yf.heap.size = y4.heap.size := by rw [hy]; simp
      have qf := q4.carry (w' := yf) (fun x h _ => kk _ (nP x h))
      have mf : ∀ x, ad4 = some x → x16.heap.size ≤ x.block ∧ x.block < yf.heap.size := fun x h => ⟨(m4 x h).1, by have := (m4 x h).2; omega⟩
      rw [← hy]
      clear hy
      refine hK _ _ ⟨hbf, ?_⟩
      clear hK K hi
      refine takeW 10 16 (.bool rok) rfl rfl (by kernel_rfl) (by kernel_rfl) (by kernel_rfl) (fun _ _ _ h => h) (by kernel_rfl) (by (intro w hSw; go_simp)) (by assumption) ?_
      simp only [List.set_cons_zero, List.set_cons_succ]
      refine wpAnyH_done (by kernel_rfl) ?_ _
      exact hT.out _ _ ⟨P, ad4, cap4, [(.tuple #[.agg #[.int .i64 ra, .int .i64 rb, .int .i64 rc, .slice ad4 rM.length cap4], .bool rok]), (.agg #[.int .i64 o0, .slice ad0 len0 cap0]), (.agg #[.int .i64 o0, .slice (some ⟨N1, 0, none⟩) len0 len0]), (.agg #[.int .i64 a1, .int .i64 b1, .int .i64 c1, .slice ad1 L.length cap1]), (.agg #[.int .i64 a1, .int .i64 b1, .int .i64 c1, .slice (some ⟨N3, 0, none⟩) L.length L.length]), (.tuple #[.agg #[.int .i64 ra, .int .i64 rb, .int .i64 rc, .slice ad4 rM.length cap4], .bool rok]), (.agg #[.int .i64 ra, .int .i64 rb, .int .i64 rc, .slice ad4 rM.length cap4]), (.bool rok)], rfl, by kernel_rfl, FE, qf, mf, pa, FE.lt, hbf⟩
  rintro l' x17 ⟨P15, ad15, cap15, us, hul, rfl, F15, q15, l15, pa15, pb15, kJ15⟩
  obtain ⟨u94, us, rfl⟩ : ∃ a b, us = a :: b := List.exists_cons_of_length_eq_add_one hul
  replace hul := Nat.succ.inj hul
  obtain ⟨u95, us, rfl⟩ : ∃ a b, us = a :: b := List.exists_cons_of_length_eq_add_one hul
  replace hul := Nat.succ.inj hul
  obtain ⟨u96, us, rfl⟩ : ∃ a b, us = a :: b := List.exists_cons_of_length_eq_add_one hul
  replace hul := Nat.succ.inj hul
  obtain ⟨u97, us, rfl⟩ : ∃ a b, us = a :: b := List.exists_cons_of_length_eq_add_one hul
  replace hul := Nat.succ.inj hul
  obtain ⟨u98, us, rfl⟩ : ∃ a b, us = a :: b := List.exists_cons_of_length_eq_add_one hul
  replace hul := Nat.succ.inj hul
  obtain ⟨u99, us, rfl⟩ : ∃ a b, us = a :: b := List.exists_cons_of_length_eq_add_one hul
  replace hul := Nat.succ.inj hul
  obtain ⟨u100, us, rfl⟩ : ∃ a b, us = a :: b := List.exists_cons_of_length_eq_add_one hul
  replace hul := Nat.succ.inj hul
  obtain ⟨u101, us, rfl⟩ : ∃ a b, us = a :: b := List.exists_cons_of_length_eq_add_one hul
  replace hul := Nat.succ.inj hul
  obtain rfl : us = [] := List.eq_nil_of_length_eq_zero hul
  clear hul
  simp only [List.take, List.drop, List.cons_append, List.nil_append]
  have s17 := kJ15.size
  have A0 := A0.below kJ15 (by omega)
  have A1 := A1.below kJ15 (by omega)
  have F6 := F6.below kJ15 (by omega)
  have q6 := q6.carry (w' := x17) (fun x h _ => kJ15.block _ (by have := l6 x h; omega))
  have F10 := F10.below kJ15 (by omega)
  have v10 := v10.carry (w' := x17) (fun x h _ => kJ15.block _ (by have := l10 x h; omega))
  have BW := BW.trans (kJ15.mono BW.size)
  have F15' := F15
  obtain ⟨X1, X2, X3, X4⟩ := F15'
  have F6' := F6
  obtain ⟨Y1, Y2, Y3, Y4⟩ := F6'
  go_wp2_with fail
  go_at_call 23
  refine (eqF ra rb rc ad15 ad6 rM.length cap15 cap6 (fun i => rM.getD i 0) x17 q15 q6 hrm (fun x h _ => by have := l15 x h; omega) (fun x h _ => by have := l6 x h; omega)).mono ?_
  rintro e x18 ⟨rfl, k18⟩
  clear X1 X2 X3 X4 Y1 Y2 Y3 Y4
  have s18 := k18.size
  have A0 := A0.below k18 (by omega)
  have A1 := A1.below k18 (by omega)
  have F6 := F6.below k18 (by omega)
  have q6 := q6.carry (w' := x18) (fun x h _ => k18.block _ (by have := l6 x h; omega))
  have F10 := F10.below k18 (by omega)
  have v10 := v10.carry (w' := x18) (fun x h _ => k18.block _ (by have := l10 x h; omega))
  have BW := BW.trans (k18.mono BW.size)
  have F10' := F10
  obtain ⟨X1, X2, X3, X4⟩ := F10'
  go_wp2_with fail
  go_at_call 26
  refine (heldF ra rb rc ad10 rM.length cap10 x18 v10 hrm).mono ?_
  rintro e x19 ⟨rfl, k19⟩
  clear X1 X2 X3 X4
  go_wp2
  go_ret
  exact ⟨rfl, BW.trans (k19.mono BW.size)⟩

set_option maxRecDepth 100000 in
theorem lifted (os : Os) (started : os.Started) (H : Type) (enc : TypeId × Value → H) :
    ReturnsInHanded {} Try.checked os 5 .any (Rows.fnExactInsideSpec.pre6 enc Try.prog Try.f5 Rows.fnExactInsideRow.domain false) (Rows.fnExactInsideSpec.post enc Try.prog Try.f5 false true false false) := by
  refine returnsInHanded_of_change (C := Try.checked) own started (by kernel_rfl) Try.func5
    (ChangeSpec.witness6 (enc := enc) (C := Try.checked) false ⟨#[], #[.agg #[.int .i64 0, .slice none 0 0], .agg #[.int .i64 0, .int .i64 0, .int .i64 0, .slice none 0 0]], []⟩ 8 (by kernel_rfl) (by kernel_rfl) (by kernel_rfl) (by kernel_rfl)) ?_
  intro W base args ds gs before hval0 hW hcnd _
  have hval : ∀ (j : Nat) t v, Try.f5.params[j]? = some t → args[j]? = some v → Value.okWide Try.prog W .any base t v := hval0
  have hW' := hW
  obtain ⟨p, q, hA0, hV, rfl, hfz, hnd⟩ := hW
  have hA : DataW.TrodAll enc Try.prog W 0 (fun _ => true) true Try.f5.params.toList args.toList ds p := hA0
  rw [Try.params5] at hA hval
  obtain ⟨v0, vs0, d0, ds0, p0, q0, hargs, rfl, rfl, h0, r0⟩ := trodAll_cons hA
  obtain ⟨v1, vs1, d1, ds1, p1, q1, rfl, rfl, rfl, h1, r1⟩ := trodAll_cons r0
  obtain ⟨rfl, rfl, rfl⟩ := trodAll_nil r1
  obtain rfl : args = #[v0, v1] := by cases args; simp_all
  obtain ⟨rfl, rfl⟩ := trodVars_none hV
  obtain ⟨o0, ad0, len0, cap0, f0, rfl, I0⟩ := memIn_open (hval 0 36 v0 rfl rfl) h0
  have lt0 : ∀ x ∈ p0, x.block < W.heap.size := by obtain ⟨m, hm⟩ := h0; exact DataW.trod_lt m _ _ _ hm
  obtain ⟨a1, b1, c1, ad1, len1, cap1, f1, rfl, I1⟩ := frameIn_open (hval 1 41 v1 rfl rfl) h1
  have lt1 : ∀ x ∈ p1, x.block < W.heap.size := by obtain ⟨m, hm⟩ := h1; exact DataW.trod_lt m _ _ _ hm
  clear hA0 hval0
  refine (walk o0 ad0 len0 cap0 f0 a1 b1 c1 ad1 len1 cap1 f1 W I0 I1).mono fun e W' ⟨he, bel⟩ => ?_
  subst he
  exact ⟨_, rfl, _, _, _, [], _, [], hW', trodAll_mk1 (shut_bool Try.underlying4 _), (trodAll_cons_mk (Below.trod laidOut (by kernel_rfl) (of_decide_eq_true (by kernel_rfl)) h0 bel lt0) (trodAll_cons_mk (Below.trod laidOut (by kernel_rfl) (of_decide_eq_true (by kernel_rfl)) h1 bel lt1) trodAll_mk0)), rfl, bel.frame _, fun h => by cases h⟩

theorem over : Rows.fnExactInsideRow.holds Try.pinned (OpenSpec.ofChange Rows.fnExactInsideSpec) :=
  OpenClaim.holds_of_wide 5 Try.f5 rfl rfl rfl rfl rfl rfl rfl ⟨rfl, rfl, rfl, rfl, rfl⟩ rfl rfl rfl rfl rfl (by kernel_rfl) Try.func5 (by kernel_rfl)
    (of_decide_eq_true (by kernel_rfl)) (by unfold Func.isWrapper; first | (rw [if_pos (by decide +kernel)]; kernel_rfl) | (rw [if_neg (by decide +kernel)]; exact ⟨rfl, rfl⟩))
    (fun os started H enc _ => lifted os started H enc)

theorem proved : Rows.FnExactInsideSaid := over
end Go.Proofs.Ytmeofihjimgldaa.fnExactInside
namespace Go.Proofs.Ytmeofihjimgldaa
theorem inside_holds : Rows.FnExactInsideSaid := fnExactInside.proved
#print axioms inside_holds
end Go.Proofs.Ytmeofihjimgldaa
