/- For every slice of bytes the call of FnVecs returns true: of two claims that are drawn of it and are not alike one is better, and just one; both VecOk, both Better and both VecText answer alike (a slice of more than 1048576 bytes is answered true at once). The tables of Go that strconv.Itoa reads hold what the text of the library lays (the card ties them, over the pruned copy of the project). -/
import Derived.Test.YtamnjaadmagdnaaDoorRows
import Derived.Test.YtamnjaadmagdnaaDoorTie
import Derived.Test.YtamnjaadmagdnaaDoorCards
import Derived.SevenTiedAt
import Derived.LaidMore
import Derived.Stop.Joined
import Derived.Stop.LaidErr
import Derived.Lay
import Derived.Shelf.Vars
import Derived.Test.YtamnjaadmagdnaaDoorVec3
import Derived.Test.YtamnjaadmagdnaaDoorVecDraw2
import Derived.Test.YtamnjaadmagdnaaDoorCodeIn
import Derived.WalkKit
import Derived.Below
import Derived.ChangeOld
import Derived.WalkSmall
import Derived.ProofKit
import Derived.OpenShut
import Derived.ShutString
import Derived.BigQuiet
namespace Go.Proofs.YtamnjaadmagdnaaDoor.fnVecs
open Go.ChangeShapes Go.WideShapes Go.ChangeAt Go.RowKit
set_option linter.unusedVariables false

theorem own : ownKnob Tryd.prog.godebug = none := by kernel_rfl
theorem laidOut : laidOutB Tryd.prog = true := by kernel_rfl

theorem tab_of_laid {W : World} (h : laidMetH Tryd.prog Rows.fnVecsRow.laid W) : TabOk W := by
  rw [MakeChecks.laidMetH_plain _ _ _ (by kernel_rfl)] at h
  have h3 := laidMet.tail (laidMet.tail h)
  exact Lib.tabIs_of_head (zs := Lib.pow10Tab) (rest := []) gTab (t := 74) (by kernel_rfl) Tryd.underlying74 Tryd.underlying68 (by kernel_rfl) (by kernel_rfl) h3

theorem lt_flip {x y : Int} (h : x ≠ y) : decide (y < x) = !decide (x < y) := by
  by_cases hx : x < y
  · have : ¬ y < x := by omega
    simp [hx, this]
  · have : y < x := by omega
    simp [hx, this]
theorem vLt_flip {r c b p r2 c2 b2 p2 : Int} (h : ¬ (r = r2 ∧ c = c2 ∧ b = b2 ∧ p = p2)) : vLt r2 c2 b2 p2 r c b p = !vLt r c b p r2 c2 b2 p2 := by
  unfold vLt
  by_cases h0 : r = r2
  · subst h0
    by_cases h1 : c = c2
    · subst h1
      by_cases h2 : b = b2
      · subst h2
        have h3 : p ≠ p2 := fun e => h ⟨rfl, rfl, rfl, e⟩
        simpa using lt_flip h3
      · simpa [h2, Ne.symm h2] using lt_flip h2
    · simpa [h1, Ne.symm h1] using lt_flip h1
  · simpa [h0, Ne.symm h0] using lt_flip h0

theorem v4_I64 {x : Int} (h : -1 ≤ x ∧ x ≤ 100) : I64 x := ⟨by omega, by omega⟩

set_option maxHeartbeats 16000000 in
theorem walk (ad0 : Option Addr) (len0 cap0 : Nat) (f0 : Nat → Int) (w : World) (I0 : CodeIn w ad0 len0 f0) (htab : TabOk w) :
    Calls Tryd.prog 3 #[.slice ad0 len0 cap0] w fun e w' => e = .returned (.bool true) ∧ Below w.heap.size w w' := by
  obtain ⟨lm, hv, hB, hf⟩ := I0
  by_cases hbig : 1048576 < len0
  · have hbig' : (1048576 : Int) < (len0 : Int) := by omega
    go_enter Tryd.func3, Tryd.ntmps3
    go_wp2_with fail
    go_at_call 5
    refine (bigYes ad0 len0 cap0 w hbig').mono ?_
    rintro e w1 ⟨rfl, h1⟩
    rw [h1]
    clear h1 w1 hbig
    go_wp2
    go_ret
    exact ⟨rfl, Below.refl _ _⟩
  have hC : Code0 w ad0 len0 f0 := ⟨hv, hB, by omega, hf⟩
  go_enter Tryd.func3, Tryd.ntmps3
  go_wp2_with fail
  go_at_call 5
  refine (bigNo ad0 len0 cap0 w (by omega)).mono ?_
  rintro e w1 ⟨rfl, h1⟩
  rw [h1]
  clear h1 w1 hbig hv hB hf lm
  go_wp2_with fail
  go_at_call 6
  refine (drawBE ad0 len0 cap0 f0 w hC).mono ?_
  rintro e x1 ⟨r1, c1, b1, p1, r2, c2, b2, p2, rfl, v1, v2, B1⟩
  clear v1 v2
  obtain ⟨x2, hx2⟩ : ∃ x, x = (x1.alloc (Obj.cells #[.int .i64 r1, .int .i64 c1, .int .i64 b1, .int .i64 p1] 25)).alloc (Obj.cells #[.int .i64 r2, .int .i64 c2, .int .i64 b2, .int .i64 p2] 25) := ⟨_, rfl⟩
  obtain ⟨P, hP⟩ : ∃ P, P = x1.heap.size := ⟨_, rfl⟩
  have A1 : VecAt x2 P r1 c1 b1 p1 := by rw [hx2, hP]; refine ⟨?_, ?_, ?_, ?_⟩ <;> simp [go_sem]
  have A2 : VecAt x2 (P + 1) r2 c2 b2 p2 := by rw [hx2, hP]; refine ⟨?_, ?_, ?_, ?_⟩ <;> simp [go_sem]
  have k2 : Below x1.heap.size x1 x2 := by rw [hx2]; exact ((Below.refl _ _).alloc (Nat.le_refl _) _).alloc (by simp) _
  have l2 : P + 1 < x2.heap.size := by rw [hx2, hP]; simp
  have B2 := B1.trans (k2.mono B1.size)
  have C2 := hC.later B2 (Nat.le_refl _)
  go_wp2_with fail
  go_at_call 7
  rw [← hx2, ← hP]
  clear hx2 hP k2 B1
  refine (drawVO ad0 len0 cap0 f0 x2 C2).mono ?_
  rintro e x3 ⟨r3, c3, b3, p3, rfl, v3, k3⟩
  clear v3
  have B3 := B2.trans (k3.mono B2.size)
  have C3 := hC.later B3 (Nat.le_refl _)
  have s3 := k3.size
  have A1 := A1.below k3 (by omega)
  have A2 := A2.below k3 (by omega)
  clear k3 B2 C2
  go_wp2_with fail
  go_at_call 8
  refine (drawVT ad0 len0 cap0 f0 x3 C3).mono ?_
  rintro e x4 ⟨r4, c4, b4, p4, rfl, v4, k4⟩
  obtain ⟨hr, hc, hb, hp⟩ := v4
  have hr : I64 r4 := v4_I64 hr
  have hc : I64 c4 := v4_I64 hc
  have hb : I64 b4 := v4_I64 hb
  have hp : I64 p4 := v4_I64 hp
  have B4 := B3.trans (k4.mono B3.size)
  have s4 := k4.size
  have A1 := A1.below k4 (by omega)
  have A2 := A2.below k4 (by omega)
  clear k4 B3 C3
  obtain ⟨x5, hx5⟩ : ∃ x, x = (x4.alloc (Obj.cells #[.int .i64 r3, .int .i64 c3, .int .i64 b3, .int .i64 p3] 25)).alloc (Obj.cells #[.int .i64 r4, .int .i64 c4, .int .i64 b4, .int .i64 p4] 25) := ⟨_, rfl⟩
  obtain ⟨Q, hQ⟩ : ∃ Q, Q = x4.heap.size := ⟨_, rfl⟩
  have A3 : VecAt x5 Q r3 c3 b3 p3 := by rw [hx5, hQ]; refine ⟨?_, ?_, ?_, ?_⟩ <;> simp [go_sem]
  have A4 : VecAt x5 (Q + 1) r4 c4 b4 p4 := by rw [hx5, hQ]; refine ⟨?_, ?_, ?_, ?_⟩ <;> simp [go_sem]
  have k5 : Below x4.heap.size x4 x5 := by rw [hx5]; exact ((Below.refl _ _).alloc (Nat.le_refl _) _).alloc (by simp) _
  have l5 : Q + 1 < x5.heap.size := by rw [hx5, hQ]; simp
  have BW := B4.trans (k5.mono B4.size)
  have s5 := k5.size
  have A1 := A1.below k5 (by omega)
  have A2 := A2.below k5 (by omega)
  go_wp2
  rw [← hx5, ← hQ]
  clear hx5 hQ k5 B4
  refine wp_region_held (S := fun Y => Below x5.heap.size x5 Y) (by kernel_rfl) ?_
  change wpAnyH _ _ _ _ _ _ _ _ (World.drew _)
  have hb0 : Below x5.heap.size x5 x5.drew := (Below.refl _ _).drew
  obtain ⟨y0, hy0⟩ : ∃ y, y = x5.drew := ⟨_, rfl⟩
  rw [← hy0] at hb0 ⊢
  clear hy0
  refine takeW 0 18 (.agg #[.int .i64 r1, .int .i64 c1, .int .i64 b1, .int .i64 p1]) rfl rfl (by kernel_rfl) (by kernel_rfl) (by kernel_rfl) (fun _ _ _ h => h) (by kernel_rfl) (by (intro Y hSw; obtain ⟨C1, C2, C3, C4⟩ := (A1).below hSw (by omega); go_simp)) (by assumption) ?_
  simp only [List.set_cons_zero, List.set_cons_succ]
  refine takeW 1 19 (.agg #[.int .i64 r2, .int .i64 c2, .int .i64 b2, .int .i64 p2]) rfl rfl (by kernel_rfl) (by kernel_rfl) (by kernel_rfl) (fun _ _ _ h => h) (by kernel_rfl) (by (intro Y hSw; obtain ⟨C1, C2, C3, C4⟩ := (A2).below hSw (by omega); go_simp)) (by assumption) ?_
  simp only [List.set_cons_zero, List.set_cons_succ]
  refine takeW 3 21 (.agg #[.int .i64 r1, .int .i64 c1, .int .i64 b1, .int .i64 p1]) rfl rfl (by kernel_rfl) (by kernel_rfl) (by kernel_rfl) (fun _ _ _ h => h) (by kernel_rfl) (by (intro Y hSw; obtain ⟨C1, C2, C3, C4⟩ := (A1).below hSw (by omega); go_simp)) (by assumption) ?_
  simp only [List.set_cons_zero, List.set_cons_succ]
  refine takeW 4 22 (.agg #[.int .i64 r2, .int .i64 c2, .int .i64 b2, .int .i64 p2]) rfl rfl (by kernel_rfl) (by kernel_rfl) (by kernel_rfl) (fun _ _ _ h => h) (by kernel_rfl) (by (intro Y hSw; obtain ⟨C1, C2, C3, C4⟩ := (A2).below hSw (by omega); go_simp)) (by assumption) ?_
  simp only [List.set_cons_zero, List.set_cons_succ]
  refine wpAnyH_all (rs := [2]) (by kernel_rfl) (by simp) ?_
  intro i hi; obtain rfl : i = 2 := by simpa using hi
  refine wpOp_step rfl (fun K hK => ?_)
  rw [if_pos (by kernel_rfl)]
  go_simp
  go_at_call 9
  refine (betterI r1 c1 b1 p1 r2 c2 b2 p2 y0).mono ?_
  rintro e y1 ⟨rfl, kq⟩
  have hb1 : Below x5.heap.size x5 y1 := hb0.trans (kq.mono hb0.size)
  clear kq
  refine hK _ _ ⟨hb1, ?_⟩
  clear hK K hi
  refine wpAnyH_all (rs := [5]) (by kernel_rfl) (by simp) ?_
  intro i hi; obtain rfl : i = 5 := by simpa using hi
  refine wpOp_step rfl (fun K hK => ?_)
  rw [if_pos (by kernel_rfl)]
  go_simp
  go_at_call 10
  refine (betterS r1 c1 b1 p1 r2 c2 b2 p2 y1).mono ?_
  rintro e y2 ⟨rfl, kq⟩
  have hb2 : Below x5.heap.size x5 y2 := hb1.trans (kq.mono hb1.size)
  clear kq
  refine hK _ _ ⟨hb2, ?_⟩
  clear hK K hi
  refine takeW 6 24 (.bool false) rfl rfl (by kernel_rfl) (by kernel_rfl) (by kernel_rfl) (fun _ _ _ h => h) (by kernel_rfl) (by (intro w hSw; go_simp)) (by assumption) ?_
  simp only [List.set_cons_zero, List.set_cons_succ]
  refine takeW 7 25 (.bool false) rfl rfl (by kernel_rfl) (by kernel_rfl) (by kernel_rfl) (fun _ _ _ h => h) (by kernel_rfl) (by (intro w hSw; go_simp)) (by assumption) ?_
  simp only [List.set_cons_zero, List.set_cons_succ]
  refine takeW 8 26 (.agg #[.int .i64 r3, .int .i64 c3, .int .i64 b3, .int .i64 p3]) rfl rfl (by kernel_rfl) (by kernel_rfl) (by kernel_rfl) (fun _ _ _ h => h) (by kernel_rfl) (by (intro Y hSw; obtain ⟨C1, C2, C3, C4⟩ := (A3).below hSw (by omega); go_simp)) (by assumption) ?_
  simp only [List.set_cons_zero, List.set_cons_succ]
  refine takeW 10 28 (.agg #[.int .i64 r3, .int .i64 c3, .int .i64 b3, .int .i64 p3]) rfl rfl (by kernel_rfl) (by kernel_rfl) (by kernel_rfl) (fun _ _ _ h => h) (by kernel_rfl) (by (intro Y hSw; obtain ⟨C1, C2, C3, C4⟩ := (A3).below hSw (by omega); go_simp)) (by assumption) ?_
  simp only [List.set_cons_zero, List.set_cons_succ]
  refine wpAnyH_all (rs := [9]) (by kernel_rfl) (by simp) ?_
  intro i hi; obtain rfl : i = 9 := by simpa using hi
  refine wpOp_step rfl (fun K hK => ?_)
  rw [if_pos (by kernel_rfl)]
  go_simp
  go_at_call 11
  refine (vOkI r3 c3 b3 p3 y2).mono ?_
  rintro e y3 ⟨rfl, kq⟩
  have hb3 : Below x5.heap.size x5 y3 := hb2.trans (kq.mono hb2.size)
  clear kq
  refine hK _ _ ⟨hb3, ?_⟩
  clear hK K hi
  refine wpAnyH_all (rs := [11]) (by kernel_rfl) (by simp) ?_
  intro i hi; obtain rfl : i = 11 := by simpa using hi
  refine wpOp_step rfl (fun K hK => ?_)
  rw [if_pos (by kernel_rfl)]
  go_simp
  go_at_call 12
  refine (vOkS r3 c3 b3 p3 y3).mono ?_
  rintro e y4 ⟨rfl, kq⟩
  have hb4 : Below x5.heap.size x5 y4 := hb3.trans (kq.mono hb3.size)
  clear kq
  refine hK _ _ ⟨hb4, ?_⟩
  clear hK K hi
  refine takeW 12 30 (.bool false) rfl rfl (by kernel_rfl) (by kernel_rfl) (by kernel_rfl) (fun _ _ _ h => h) (by kernel_rfl) (by (intro w hSw; go_simp)) (by assumption) ?_
  simp only [List.set_cons_zero, List.set_cons_succ]
  refine takeW 13 31 (.bool false) rfl rfl (by kernel_rfl) (by kernel_rfl) (by kernel_rfl) (fun _ _ _ h => h) (by kernel_rfl) (by (intro w hSw; go_simp)) (by assumption) ?_
  simp only [List.set_cons_zero, List.set_cons_succ]
  refine takeW 14 32 (.bool false) rfl rfl (by kernel_rfl) (by kernel_rfl) (by kernel_rfl) (fun _ _ _ h => h) (by kernel_rfl) (by (intro w hSw; go_simp)) (by assumption) ?_
  simp only [List.set_cons_zero, List.set_cons_succ]
  refine takeW 15 33 (.agg #[.int .i64 r4, .int .i64 c4, .int .i64 b4, .int .i64 p4]) rfl rfl (by kernel_rfl) (by kernel_rfl) (by kernel_rfl) (fun _ _ _ h => h) (by kernel_rfl) (by (intro Y hSw; obtain ⟨C1, C2, C3, C4⟩ := (A4).below hSw (by omega); go_simp)) (by assumption) ?_
  simp only [List.set_cons_zero, List.set_cons_succ]
  refine takeW 17 35 (.agg #[.int .i64 r4, .int .i64 c4, .int .i64 b4, .int .i64 p4]) rfl rfl (by kernel_rfl) (by kernel_rfl) (by kernel_rfl) (fun _ _ _ h => h) (by kernel_rfl) (by (intro Y hSw; obtain ⟨C1, C2, C3, C4⟩ := (A4).below hSw (by omega); go_simp)) (by assumption) ?_
  simp only [List.set_cons_zero, List.set_cons_succ]
  refine wpAnyH_all (rs := [16]) (by kernel_rfl) (by simp) ?_
  intro i hi; obtain rfl : i = 16 := by simpa using hi
  refine wpOp_step rfl (fun K hK => ?_)
  rw [if_pos (by kernel_rfl)]
  go_simp
  go_at_call 13
  refine (textI r4 c4 b4 p4 y4 hr hc hb hp (tab_later htab (BW.trans (hb4.mono BW.size)))).mono ?_
  rintro e y5 ⟨rfl, kq⟩
  have hb5 : Below x5.heap.size x5 y5 := hb4.trans (kq.mono hb4.size)
  clear kq
  refine hK _ _ ⟨hb5, ?_⟩
  clear hK K hi
  refine wpAnyH_all (rs := [18]) (by kernel_rfl) (by simp) ?_
  intro i hi; obtain rfl : i = 18 := by simpa using hi
  refine wpOp_step rfl (fun K hK => ?_)
  rw [if_pos (by kernel_rfl)]
  go_simp
  go_at_call 14
  refine (textS r4 c4 b4 p4 y5 hr hc hb hp).mono ?_
  rintro e y6 ⟨rfl, kq⟩
  have hb6 : Below x5.heap.size x5 y6 := hb5.trans (kq.mono hb5.size)
  clear kq
  refine hK _ _ ⟨hb6, ?_⟩
  clear hK K hi
  refine takeW 19 37 (.bool false) rfl rfl (by kernel_rfl) (by kernel_rfl) (by kernel_rfl) (fun _ _ _ h => h) (by kernel_rfl) (by (intro w hSw; go_simp)) (by assumption) ?_
  simp only [List.set_cons_zero, List.set_cons_succ]
  refine takeW 20 38 (.bool false) rfl rfl (by kernel_rfl) (by kernel_rfl) (by kernel_rfl) (fun _ _ _ h => h) (by kernel_rfl) (by (intro w hSw; go_simp)) (by assumption) ?_
  simp only [List.set_cons_zero, List.set_cons_succ]
  refine wpAnyH_done (by kernel_rfl) ?_ _
  have A1 := A1.below hb6 (by omega)
  have A2 := A2.below hb6 (by omega)
  have B6 := BW.trans (hb6.mono BW.size)
  have s6 := hb6.size
  clear hb0 hb1 hb2 hb3 hb4 hb5 hb6 BW A3 A4 htab hC
  have heq := eqV r1 c1 b1 p1 r2 c2 b2 p2
  by_cases hs : r1 = r2 ∧ c1 = c2 ∧ b1 = b2 ∧ p1 = p2
  · have eL : vLt r1 c1 b1 p1 r2 c2 b2 p2 = false := by obtain ⟨rfl, rfl, rfl, rfl⟩ := hs; simp [vLt]
    rw [decide_eq_true hs] at heq
    clear hs
    obtain ⟨C1, C2, C3, C4⟩ := A1
    obtain ⟨E1, E2, E3, E4⟩ := A2
    go_wp2_with fail
    go_at_call 9
    refine (betterI r1 c1 b1 p1 r2 c2 b2 p2 y6).mono ?_
    rintro e y7 ⟨rfl, k7⟩
    rw [eL]
    clear eL
    go_wp2
    go_ret
    exact ⟨rfl, B6.trans (k7.mono B6.size)⟩
  · rw [decide_eq_false hs] at heq
    have A1' := A1
    have A2' := A2
    obtain ⟨C1, C2, C3, C4⟩ := A1'
    obtain ⟨E1, E2, E3, E4⟩ := A2'
    go_wp2
    clear C1 C2 C3 C4 E1 E2 E3 E4
    refine wp_region_held (S := fun Y => Below y6.heap.size y6 Y) (by kernel_rfl) ?_
    change wpAnyH _ _ _ _ _ _ _ _ (World.drew _)
    have hb0 : Below y6.heap.size y6 y6.drew := (Below.refl _ _).drew
    obtain ⟨z0, hz0⟩ : ∃ y, y = y6.drew := ⟨_, rfl⟩
    rw [← hz0] at hb0 ⊢
    clear hz0
    refine takeW 0 46 (.agg #[.int .i64 r1, .int .i64 c1, .int .i64 b1, .int .i64 p1]) rfl rfl (by kernel_rfl) (by kernel_rfl) (by kernel_rfl) (fun _ _ _ h => h) (by kernel_rfl) (by (intro Y hSw; obtain ⟨C1, C2, C3, C4⟩ := (A1).below hSw (by omega); go_simp)) (by assumption) ?_
    simp only [List.set_cons_zero, List.set_cons_succ]
    refine takeW 1 47 (.agg #[.int .i64 r2, .int .i64 c2, .int .i64 b2, .int .i64 p2]) rfl rfl (by kernel_rfl) (by kernel_rfl) (by kernel_rfl) (fun _ _ _ h => h) (by kernel_rfl) (by (intro Y hSw; obtain ⟨C1, C2, C3, C4⟩ := (A2).below hSw (by omega); go_simp)) (by assumption) ?_
    simp only [List.set_cons_zero, List.set_cons_succ]
    refine takeW 3 49 (.agg #[.int .i64 r2, .int .i64 c2, .int .i64 b2, .int .i64 p2]) rfl rfl (by kernel_rfl) (by kernel_rfl) (by kernel_rfl) (fun _ _ _ h => h) (by kernel_rfl) (by (intro Y hSw; obtain ⟨C1, C2, C3, C4⟩ := (A2).below hSw (by omega); go_simp)) (by assumption) ?_
    simp only [List.set_cons_zero, List.set_cons_succ]
    refine takeW 4 50 (.agg #[.int .i64 r1, .int .i64 c1, .int .i64 b1, .int .i64 p1]) rfl rfl (by kernel_rfl) (by kernel_rfl) (by kernel_rfl) (fun _ _ _ h => h) (by kernel_rfl) (by (intro Y hSw; obtain ⟨C1, C2, C3, C4⟩ := (A1).below hSw (by omega); go_simp)) (by assumption) ?_
    simp only [List.set_cons_zero, List.set_cons_succ]
    refine wpAnyH_all (rs := [2]) (by kernel_rfl) (by simp) ?_
    intro i hi; obtain rfl : i = 2 := by simpa using hi
    refine wpOp_step rfl (fun K hK => ?_)
    rw [if_pos (by kernel_rfl)]
    go_simp
    go_at_call 9
    refine (betterI r1 c1 b1 p1 r2 c2 b2 p2 z0).mono ?_
    rintro e z1 ⟨rfl, kq⟩
    have hb1 : Below y6.heap.size y6 z1 := hb0.trans (kq.mono hb0.size)
    clear kq
    refine hK _ _ ⟨hb1, ?_⟩
    clear hK K hi
    refine wpAnyH_all (rs := [5]) (by kernel_rfl) (by simp) ?_
    intro i hi; obtain rfl : i = 5 := by simpa using hi
    refine wpOp_step rfl (fun K hK => ?_)
    rw [if_pos (by kernel_rfl)]
    go_simp
    go_at_call 9
    refine (betterI r2 c2 b2 p2 r1 c1 b1 p1 z1).mono ?_
    rintro e z2 ⟨rfl, kq⟩
    have hb2 : Below y6.heap.size y6 z2 := hb1.trans (kq.mono hb1.size)
    clear kq
    refine hK _ _ ⟨hb2, ?_⟩
    clear hK K hi
    rw [vLt_flip hs]
    refine takeW 6 52 (.bool true) rfl rfl (by kernel_rfl) (by kernel_rfl) (by kernel_rfl) (fun _ _ _ h => h) (by kernel_rfl) (by (intro w hSw; go_simp)) (by assumption) ?_
    simp only [List.set_cons_zero, List.set_cons_succ]
    refine takeW 7 2 (.bool true) rfl rfl (by kernel_rfl) (by kernel_rfl) (by kernel_rfl) (fun _ _ _ h => h) (by kernel_rfl) (by (intro w hSw; go_simp)) (by assumption) ?_
    simp only [List.set_cons_zero, List.set_cons_succ]
    refine wpAnyH_done (by kernel_rfl) ?_ _
    go_wp2
    go_ret
    exact ⟨rfl, B6.trans (hb2.mono B6.size)⟩

set_option maxRecDepth 100000 in
theorem lifted (os : Os) (started : os.Started) (H : Type) (enc : TypeId × Value → H) :
    ReturnsInHanded {} Tryd.checked os 3 .any (fun w args => (Rows.fnVecsSpec.pre enc Tryd.prog Tryd.f3 [] false w args ∧ laidMetH Tryd.prog Rows.fnVecsRow.laid w) ∧ sizedMet enc Tryd.prog Tryd.f3 (OpenSpec.ofChange Rows.fnVecsSpec) false w args) (Rows.fnVecsSpec.post enc Tryd.prog Tryd.f3 false true false false) := by
  refine returnsInHanded_of_change_and (C := Tryd.checked) (X := fun w _ => laidMetH Tryd.prog Rows.fnVecsRow.laid w) (fun _ _ _ hh h => h.of_heap hh) own started (by kernel_rfl) Tryd.func3
    (ChangeSpec.witness_shaped (enc := enc) (C := Tryd.checked) (os := os) (X := fun w _ => laidMetH Tryd.prog Rows.fnVecsRow.laid w) false (World.laidAll Tryd.prog os Rows.fnVecsRow.laid) #[.slice none 0 0] 8 (World.laidAll_os _ _ _) (World.shaped_of_ZipB (by kernel_rfl) (by kernel_rfl)) (by kernel_rfl) (by kernel_rfl) (by kernel_rfl) (by rw [MakeChecks.laidMetH_plain _ _ _ (by kernel_rfl)]; exact laidMet_laidAll _ (by kernel_rfl) (by kernel_rfl))) ?_
  intro W base args ds gs before hval0 hW _ hsz0 hL _
  have hval : ∀ (j : Nat) t v, Tryd.f3.params[j]? = some t → args[j]? = some v → Value.okWide Tryd.prog W .any base t v := hval0
  have hW' := hW
  obtain ⟨p, q, hA0, hV, rfl, hfz, hnd⟩ := hW
  have hA : DataW.TrodAll enc Tryd.prog W 0 (fun _ => true) true Tryd.f3.params.toList args.toList ds p := hA0
  rw [Tryd.params3] at hA hval
  obtain ⟨v0, vs0, d0, ds0, q0, qq0, hargs, rfl, rfl, h0, rr0⟩ := trodAll_cons hA
  obtain ⟨rfl, rfl, rfl⟩ := trodAll_nil rr0
  obtain rfl : args = #[v0] := by cases args; simp_all
  obtain ⟨rfl, rfl⟩ := trodVars_none hV
  have lt0 : ∀ x ∈ q0, x.block < W.heap.size := by obtain ⟨m, hm⟩ := h0; exact DataW.trod_lt m _ _ _ hm
  obtain ⟨ad0, len0, cap0, f0, rfl, I0⟩ := codeIn_open (hval 0 22 v0 rfl rfl) h0
  clear hA0 hval0
  refine (walk ad0 len0 cap0 f0 W I0 (tab_of_laid hL)).mono fun e W' ⟨he, bel⟩ => ?_
  subst he
  exact ⟨_, rfl, _, _, _, [], _, [], hW', trodAll_mk1 (shut_bool Tryd.underlying4 _), (trodAll_cons_mk (Below.trod laidOut (by kernel_rfl) (of_decide_eq_true (by kernel_rfl)) h0 bel lt0) trodAll_mk0), rfl, bel.frame _, fun h => by cases h⟩

theorem over : Rows.fnVecsRow.holds Tryd.pinned (OpenSpec.ofChange Rows.fnVecsSpec) :=
  OpenClaim.holds_of_wide 3 Tryd.f3 rfl rfl rfl rfl rfl rfl rfl ⟨rfl, rfl, rfl, rfl, rfl⟩ rfl rfl rfl rfl rfl (by kernel_rfl) Tryd.func3 (by kernel_rfl)
    (of_decide_eq_true (by kernel_rfl)) (by unfold Func.isWrapper; first | (rw [if_pos (by decide +kernel)]; kernel_rfl) | (rw [if_neg (by decide +kernel)]; exact ⟨rfl, rfl⟩))
    (fun os started H enc _ => lifted os started H enc)

theorem proved : Rows.FnVecsSaid := over
end Go.Proofs.YtamnjaadmagdnaaDoor.fnVecs
namespace Go.Proofs.YtamnjaadmagdnaaDoor
theorem vecs_holds : Rows.FnVecsCardSaid :=
  Claim7.holds_tied_plain_at .later [] [.data, .data, .data] true (true, "bf8d902cb7268fa42738433f02163cbce3bc24b32b84dc3ea8186c6606ce4f46") false
    fnVecs.proved (fun _ h => by cases h) (by kernel_rfl) (fun _ h => by cases h) fnVecs_row_tie rfl ⟨rfl, rfl⟩ (by kernel_rfl) rfl
    (fun f fn hf hfn => by
      obtain rfl : f = 3 := Option.some.inj ((show Tryd.prog.funcNamed "loop.example/g00470/laws.FnVecs" = some 3 by kernel_rfl).symm.trans hf) |>.symm
      obtain rfl : fn = Tryd.f3 := (Option.some.inj (Tryd.func3.symm.trans hfn)).symm
      exact ⟨by kernel_rfl, fun j t ht => by
        rw [Tryd.params3] at ht
        have hm : t ∈ [22] := by simpa using Array.mem_of_getElem? ht
        have hall : ([22].all fun u => !Tryd.prog.wantsStandIn u) = true := by kernel_rfl
        exact (show Tryd.prog.wantsStandIn t = false by simpa using List.all_eq_true.1 hall t hm)⟩)
    (by kernel_rfl)
#print axioms vecs_holds
end Go.Proofs.YtamnjaadmagdnaaDoor
