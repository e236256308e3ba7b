import Derived.Test.YtnpiljegdiconabGreatQM1
namespace Go.Proofs.YtnpiljegdiconabGreat
open Go.ChangeShapes Go.WideShapes Go.ChangeAt Go.RowKit
open Go.ChangeMaps (open_string shut_string)
set_option linter.unusedVariables false
set_option maxRecDepth 100000
def linkP (up : Bool) : Pt := if up then ⟨true, false, 0, 0, 0, 0, 0, 0, 3, 0, false⟩ else Pt.nil
theorem tick_imp {x : Pt} (h : pOk x = true) : tickP x = if ((fadeR x).ro = 1 ∨ (fadeR x).ro = 2) ∧ 0 < (fadeR x).wa then { fadeR x with wa := (fadeR x).wa - 1, op := ((fadeR x).wa - 1 == 0) } else fadeR x := by
 obtain ⟨h1, h2, h3, h4, _⟩ := pOk_parts.1 h
 obtain ⟨k1, k2, k3, k4⟩ := fadeR_keeps x
 unfold tickP tickW
 generalize fadeR x = y at *
 obtain ⟨up, has, r, c, b, p, hh, l, ro, wa, op⟩ := y
 dsimp only at *
 by_cases hc : (ro = 1 ∨ ro = 2) ∧ 0 < wa
 ·
  rw [if_pos hc, if_pos hc]
  congr 1
  unfold raOp
  rw [Bool.eq_iff_iff]
  simp only [decide_eq_true_eq, beq_iff_eq]
  omega
 ·
  rw [if_neg hc, if_neg hc]
  congr 1
  rw [k4, h3, k2, k3]
set_option maxHeartbeats 4000000 in
theorem tickedI (x : Pt) (w : World) (hok : pOk x = true) : Calls Tryz.prog 116 #[.agg #[.bool x.up, .bool x.has, .int .i64 x.r, .int .i64 x.c, .int .i64 x.b, .int .i64 x.p, .int .i64 x.h, .int .i64 x.l, .int .i64 x.ro, .int .i64 x.wa, .bool x.op]] w fun e w' => e = .returned (.agg #[.bool (tickP x).up, .bool (tickP x).has, .int .i64 (tickP x).r, .int .i64 (tickP x).c, .int .i64 (tickP x).b, .int .i64 (tickP x).p, .int .i64 (tickP x).h, .int .i64 (tickP x).l, .int .i64 (tickP x).ro, .int .i64 (tickP x).wa, .bool (tickP x).op]) ∧ Below w.heap.size w w' := by
 obtain ⟨y, hy⟩ := mk_ ((w.alloc (Obj.cells #[.bool x.up, .bool x.has, .int .i64 x.r, .int .i64 x.c, .int .i64 x.b, .int .i64 x.p, .int .i64 x.h, .int .i64 x.l, .int .i64 x.ro, .int .i64 x.wa, .bool x.op] 113)).alloc (Obj.cells #[.bool false, .bool false, .int .i64 0, .int .i64 0, .int .i64 0, .int .i64 0, .int .i64 0, .int .i64 0, .int .i64 0, .int .i64 0, .bool false] 113))
 have B0 : Below w.heap.size w y := by rw [hy]; exact ((Below.refl _ _).alloc (Nat.le_refl _) _).alloc (by simp) _
 have P0 : PBox y w.heap.size x := by rw [hy]; refine ⟨?_, fun i => ?_⟩; constructor <;> simp [go_sem]; simp [go_sem]
 have R0 : PBox y (w.heap.size + 1) Pt.nil := by rw [hy]; refine ⟨?_, fun i => ?_⟩; constructor <;> simp [go_sem, Pt.nil]; simp [go_sem]
 have S0 := R0.lt
 obtain ⟨t, ht⟩ : ∃ t, tickP x = t := ⟨_, rfl⟩
 rw [ht]
 obtain ⟨z, hz⟩ : ∃ z, fadeR x = z := ⟨_, rfl⟩
 have hti : Hid (t = if (z.ro = 1 ∨ z.ro = 2) ∧ 0 < z.wa then { z with wa := z.wa - 1, op := (z.wa - 1 == 0) } else z) := by unfold Hid; rw [← ht, tick_imp hok, hz]
 have hw4 : z.wa ≤ 4 ∧ 0 ≤ z.wa := by
  have := (pOk_parts.1 hok).2.2.2.1
  have e := (fadeR_keeps x).2.2.1
  rw [hz] at e
  omega
 have htr : Hid (t = { z with wa := tickW z, op := raOp z.ro (tickW z) }) := by unfold Hid; rw [← ht, ← hz]; rfl
 obtain ⟨hw4, hw0⟩ := hw4
 replace hz : Hid _ := hz
 clear ht hok
 go_enter Tryz.func116, Tryz.ntmps116
 go_wp2_with fail
 go_at_call 136
 rw [← hy]
 clear hy
 refine (fadeI x y).mono ?_
 rintro e w1 ⟨rfl, k1⟩
 rw [hz.out]
 have B1 := B0.trans (k1.mono B0.size)
 have P1 := P0.below k1 (by omega)
 have R1 := R0.below k1 (by omega)
 have S1 := R1.lt
 clear hz k1 P0 R0 B0 S0
 obtain ⟨y2, hy2⟩ := mk_ (((((((((((w1.setCell ⟨w.heap.size, 0, none⟩ (.bool z.up)).setCell ⟨w.heap.size, 1, none⟩ (.bool z.has)).setCell ⟨w.heap.size, 2, none⟩ (.int .i64 z.r)).setCell ⟨w.heap.size, 3, none⟩ (.int .i64 z.c)).setCell ⟨w.heap.size, 4, none⟩ (.int .i64 z.b)).setCell ⟨w.heap.size, 5, none⟩ (.int .i64 z.p)).setCell ⟨w.heap.size, 6, none⟩ (.int .i64 z.h)).setCell ⟨w.heap.size, 7, none⟩ (.int .i64 z.l)).setCell ⟨w.heap.size, 8, none⟩ (.int .i64 z.ro)).setCell ⟨w.heap.size, 9, none⟩ (.int .i64 z.wa)).setCell ⟨w.heap.size, 10, none⟩ (.bool z.op))
 have P2 : PBox y2 w.heap.size z := by rw [hy2]; exact (((((((((((P1.set0 z.up).set1 z.has).set2 z.r).set3 z.c).set4 z.b).set5 z.p).set6 z.h).set7 z.l).set8 z.ro).set9 z.wa).set10 z.op)
 have R2 : PBox y2 (w.heap.size + 1) Pt.nil := by rw [hy2]; exact (((((((((((R1.other (by omega)).other (by omega)).other (by omega)).other (by omega)).other (by omega)).other (by omega)).other (by omega)).other (by omega)).other (by omega)).other (by omega)).other (by omega))
 have B2 : Below w.heap.size w y2 := by rw [hy2]; exact (((((((((((B1.setCell (p := ⟨w.heap.size, 0, none⟩) (by show _ ≤ w.heap.size; omega) (.bool z.up)).setCell (p := ⟨w.heap.size, 1, none⟩) (by show _ ≤ w.heap.size; omega) (.bool z.has)).setCell (p := ⟨w.heap.size, 2, none⟩) (by show _ ≤ w.heap.size; omega) (.int .i64 z.r)).setCell (p := ⟨w.heap.size, 3, none⟩) (by show _ ≤ w.heap.size; omega) (.int .i64 z.c)).setCell (p := ⟨w.heap.size, 4, none⟩) (by show _ ≤ w.heap.size; omega) (.int .i64 z.b)).setCell (p := ⟨w.heap.size, 5, none⟩) (by show _ ≤ w.heap.size; omega) (.int .i64 z.p)).setCell (p := ⟨w.heap.size, 6, none⟩) (by show _ ≤ w.heap.size; omega) (.int .i64 z.h)).setCell (p := ⟨w.heap.size, 7, none⟩) (by show _ ≤ w.heap.size; omega) (.int .i64 z.l)).setCell (p := ⟨w.heap.size, 8, none⟩) (by show _ ≤ w.heap.size; omega) (.int .i64 z.ro)).setCell (p := ⟨w.heap.size, 9, none⟩) (by show _ ≤ w.heap.size; omega) (.int .i64 z.wa)).setCell (p := ⟨w.heap.size, 10, none⟩) (by show _ ≤ w.heap.size; omega) (.bool z.op))
 have P1' := P1
 obtain ⟨⟨p0, p1, p2, p3, p4, p5, p6, p7, p8, p9, p10⟩, pf⟩ := P1
 go_upto_region 2 with fail
 rw [← hy2]
 clear hy2 p0 p1 p2 p3 p4 p5 p6 p7 p8 p9 p10 pf P1' R1 B1
 obtain ⟨⟨p0, p1, p2, p3, p4, p5, p6, p7, p8, p9, p10⟩, pf⟩ := P2
 have P2 : PBox y2 w.heap.size z := ⟨⟨p0, p1, p2, p3, p4, p5, p6, p7, p8, p9, p10⟩, pf⟩
 by_cases h1 : z.ro = 1
 ·
  have d1 : (z.ro == 1) = true := by simpa using h1
  by_cases h0 : 0 < z.wa
  ·
   have d0 : decide (0 < z.wa) = true := decide_eq_true h0
   have hcc : Hid ((z.ro = 1 ∨ z.ro = 2) ∧ 0 < z.wa) := ⟨.inl h1, h0⟩
   replace h1 : Hid _ := h1
   have P3 := (P2.set9 (z.wa - 1)).set10 (z.wa - 1 == 0)
   have B3 := (B2.setCell (p := ⟨w.heap.size, 9, none⟩) (Nat.le_refl w.heap.size) (.int .i64 (z.wa - 1))).setCell (p := ⟨w.heap.size, 10, none⟩) (Nat.le_refl w.heap.size) (.bool (z.wa - 1 == 0))
   have R3 := (R2.other (q' := w.heap.size) (i := 9) (v := .int .i64 (z.wa - 1)) (by omega)).other (q' := w.heap.size) (i := 10) (v := .bool (z.wa - 1 == 0)) (by omega)
   obtain ⟨y3, hy3⟩ := mk_ ((y2.setCell ⟨w.heap.size, 9, none⟩ (.int .i64 (z.wa - 1))).setCell ⟨w.heap.size, 10, none⟩ (.bool (z.wa - 1 == 0)))
   rw [← hy3] at P3 B3 R3
   have q9 : (y2.setCell ⟨w.heap.size, 9, none⟩ (.int .i64 (z.wa - 1))).cell? ⟨w.heap.size, 9, none⟩ = some (.int .i64 (z.wa - 1)) := pset_same p9
   have hT : Hid (t = { z with wa := z.wa - 1, op := (z.wa - 1 == 0) }) := by unfold Hid; rw [hti.out, if_pos hcc.out]
   go_upto_region 5 with fail
   rw [← hy3]
   clear hy3 p0 p1 p2 p3 p4 p5 p6 p7 p8 p9 p10 pf P2 B2 R2 q9
   obtain ⟨v, hv⟩ := mk_ ({ z with wa := z.wa - 1, op := (z.wa - 1 == 0) } : Pt)
   have P3 : PBox y3 w.heap.size v := by rw [hv]; exact P3
   rw [← hv] at hT
   clear hv
   obtain ⟨⟨p0, p1, p2, p3, p4, p5, p6, p7, p8, p9, p10⟩, pf⟩ := P3
   have RZ := (((((((((((R3.set0 v.up).set1 v.has).set2 v.r).set3 v.c).set4 v.b).set5 v.p).set6 v.h).set7 v.l).set8 v.ro).set9 v.wa).set10 v.op)
   have BZ := (((((((((((B3.setCell (p := ⟨w.heap.size + 1, 0, none⟩) (by show _ ≤ w.heap.size + 1; omega) (.bool v.up)).setCell (p := ⟨w.heap.size + 1, 1, none⟩) (by show _ ≤ w.heap.size + 1; omega) (.bool v.has)).setCell (p := ⟨w.heap.size + 1, 2, none⟩) (by show _ ≤ w.heap.size + 1; omega) (.int .i64 v.r)).setCell (p := ⟨w.heap.size + 1, 3, none⟩) (by show _ ≤ w.heap.size + 1; omega) (.int .i64 v.c)).setCell (p := ⟨w.heap.size + 1, 4, none⟩) (by show _ ≤ w.heap.size + 1; omega) (.int .i64 v.b)).setCell (p := ⟨w.heap.size + 1, 5, none⟩) (by show _ ≤ w.heap.size + 1; omega) (.int .i64 v.p)).setCell (p := ⟨w.heap.size + 1, 6, none⟩) (by show _ ≤ w.heap.size + 1; omega) (.int .i64 v.h)).setCell (p := ⟨w.heap.size + 1, 7, none⟩) (by show _ ≤ w.heap.size + 1; omega) (.int .i64 v.l)).setCell (p := ⟨w.heap.size + 1, 8, none⟩) (by show _ ≤ w.heap.size + 1; omega) (.int .i64 v.ro)).setCell (p := ⟨w.heap.size + 1, 9, none⟩) (by show _ ≤ w.heap.size + 1; omega) (.int .i64 v.wa)).setCell (p := ⟨w.heap.size + 1, 10, none⟩) (by show _ ≤ w.heap.size + 1; omega) (.bool v.op))
   obtain ⟨⟨z0, z1, z2, z3, z4, z5, z6, z7, z8, z9, z10⟩, _⟩ := RZ
   obtain ⟨⟨r0, r1, r2, r3, r4, r5, r6, r7, r8, r9, r10⟩, rf⟩ := R3
   go_wp2
   refine bodyPost_ret (v := .agg #[.bool v.up, .bool v.has, .int .i64 v.r, .int .i64 v.c, .int .i64 v.b, .int .i64 v.p, .int .i64 v.h, .int .i64 v.l, .int .i64 v.ro, .int .i64 v.wa, .bool v.op]) (by simp [results, Tryz.results116, go_sem, *]) rfl ⟨by rw [hT.out], BZ⟩
  ·
   have d0 : decide (0 < z.wa) = false := decide_eq_false h0
   have hcc : Hid (¬ ((z.ro = 1 ∨ z.ro = 2) ∧ 0 < z.wa)) := fun e => h0 e.2
   replace h1 : Hid _ := h1
   replace h0 : Hid _ := h0
   have hT : Hid (t = z) := by unfold Hid; rw [hti.out, if_neg hcc.out]
   go_upto_region 5 with fail
   have RZ := (((((((((((R2.set0 z.up).set1 z.has).set2 z.r).set3 z.c).set4 z.b).set5 z.p).set6 z.h).set7 z.l).set8 z.ro).set9 z.wa).set10 z.op)
   have BZ := (((((((((((B2.setCell (p := ⟨w.heap.size + 1, 0, none⟩) (by show _ ≤ w.heap.size + 1; omega) (.bool z.up)).setCell (p := ⟨w.heap.size + 1, 1, none⟩) (by show _ ≤ w.heap.size + 1; omega) (.bool z.has)).setCell (p := ⟨w.heap.size + 1, 2, none⟩) (by show _ ≤ w.heap.size + 1; omega) (.int .i64 z.r)).setCell (p := ⟨w.heap.size + 1, 3, none⟩) (by show _ ≤ w.heap.size + 1; omega) (.int .i64 z.c)).setCell (p := ⟨w.heap.size + 1, 4, none⟩) (by show _ ≤ w.heap.size + 1; omega) (.int .i64 z.b)).setCell (p := ⟨w.heap.size + 1, 5, none⟩) (by show _ ≤ w.heap.size + 1; omega) (.int .i64 z.p)).setCell (p := ⟨w.heap.size + 1, 6, none⟩) (by show _ ≤ w.heap.size + 1; omega) (.int .i64 z.h)).setCell (p := ⟨w.heap.size + 1, 7, none⟩) (by show _ ≤ w.heap.size + 1; omega) (.int .i64 z.l)).setCell (p := ⟨w.heap.size + 1, 8, none⟩) (by show _ ≤ w.heap.size + 1; omega) (.int .i64 z.ro)).setCell (p := ⟨w.heap.size + 1, 9, none⟩) (by show _ ≤ w.heap.size + 1; omega) (.int .i64 z.wa)).setCell (p := ⟨w.heap.size + 1, 10, none⟩) (by show _ ≤ w.heap.size + 1; omega) (.bool z.op))
   obtain ⟨⟨z0, z1, z2, z3, z4, z5, z6, z7, z8, z9, z10⟩, _⟩ := RZ
   obtain ⟨⟨r0, r1, r2, r3, r4, r5, r6, r7, r8, r9, r10⟩, rf⟩ := R2
   go_wp2
   refine bodyPost_ret (v := .agg #[.bool z.up, .bool z.has, .int .i64 z.r, .int .i64 z.c, .int .i64 z.b, .int .i64 z.p, .int .i64 z.h, .int .i64 z.l, .int .i64 z.ro, .int .i64 z.wa, .bool z.op]) (by simp [results, Tryz.results116, go_sem, *]) rfl ⟨by rw [hT.out], BZ⟩
 have d1 : (z.ro == 1) = false := by simpa using h1
 by_cases h2 : z.ro = 2
 ·
  have d2 : (z.ro == 2) = true := by simpa using h2
  by_cases h0 : 0 < z.wa
  ·
   have d0 : decide (0 < z.wa) = true := decide_eq_true h0
   have hcc : Hid ((z.ro = 1 ∨ z.ro = 2) ∧ 0 < z.wa) := ⟨.inr h2, h0⟩
   replace h2 : Hid _ := h2
   replace h1 : Hid _ := h1
   have P3 := (P2.set9 (z.wa - 1)).set10 (z.wa - 1 == 0)
   have B3 := (B2.setCell (p := ⟨w.heap.size, 9, none⟩) (Nat.le_refl w.heap.size) (.int .i64 (z.wa - 1))).setCell (p := ⟨w.heap.size, 10, none⟩) (Nat.le_refl w.heap.size) (.bool (z.wa - 1 == 0))
   have R3 := (R2.other (q' := w.heap.size) (i := 9) (v := .int .i64 (z.wa - 1)) (by omega)).other (q' := w.heap.size) (i := 10) (v := .bool (z.wa - 1 == 0)) (by omega)
   obtain ⟨y3, hy3⟩ := mk_ ((y2.setCell ⟨w.heap.size, 9, none⟩ (.int .i64 (z.wa - 1))).setCell ⟨w.heap.size, 10, none⟩ (.bool (z.wa - 1 == 0)))
   rw [← hy3] at P3 B3 R3
   have q9 : (y2.setCell ⟨w.heap.size, 9, none⟩ (.int .i64 (z.wa - 1))).cell? ⟨w.heap.size, 9, none⟩ = some (.int .i64 (z.wa - 1)) := pset_same p9
   have hT : Hid (t = { z with wa := z.wa - 1, op := (z.wa - 1 == 0) }) := by unfold Hid; rw [hti.out, if_pos hcc.out]
   go_upto_region 5 with fail
   rw [← hy3]
   clear hy3 p0 p1 p2 p3 p4 p5 p6 p7 p8 p9 p10 pf P2 B2 R2 q9
   obtain ⟨v, hv⟩ := mk_ ({ z with wa := z.wa - 1, op := (z.wa - 1 == 0) } : Pt)
   have P3 : PBox y3 w.heap.size v := by rw [hv]; exact P3
   rw [← hv] at hT
   clear hv
   obtain ⟨⟨p0, p1, p2, p3, p4, p5, p6, p7, p8, p9, p10⟩, pf⟩ := P3
   have RZ := (((((((((((R3.set0 v.up).set1 v.has).set2 v.r).set3 v.c).set4 v.b).set5 v.p).set6 v.h).set7 v.l).set8 v.ro).set9 v.wa).set10 v.op)
   have BZ := (((((((((((B3.setCell (p := ⟨w.heap.size + 1, 0, none⟩) (by show _ ≤ w.heap.size + 1; omega) (.bool v.up)).setCell (p := ⟨w.heap.size + 1, 1, none⟩) (by show _ ≤ w.heap.size + 1; omega) (.bool v.has)).setCell (p := ⟨w.heap.size + 1, 2, none⟩) (by show _ ≤ w.heap.size + 1; omega) (.int .i64 v.r)).setCell (p := ⟨w.heap.size + 1, 3, none⟩) (by show _ ≤ w.heap.size + 1; omega) (.int .i64 v.c)).setCell (p := ⟨w.heap.size + 1, 4, none⟩) (by show _ ≤ w.heap.size + 1; omega) (.int .i64 v.b)).setCell (p := ⟨w.heap.size + 1, 5, none⟩) (by show _ ≤ w.heap.size + 1; omega) (.int .i64 v.p)).setCell (p := ⟨w.heap.size + 1, 6, none⟩) (by show _ ≤ w.heap.size + 1; omega) (.int .i64 v.h)).setCell (p := ⟨w.heap.size + 1, 7, none⟩) (by show _ ≤ w.heap.size + 1; omega) (.int .i64 v.l)).setCell (p := ⟨w.heap.size + 1, 8, none⟩) (by show _ ≤ w.heap.size + 1; omega) (.int .i64 v.ro)).setCell (p := ⟨w.heap.size + 1, 9, none⟩) (by show _ ≤ w.heap.size + 1; omega) (.int .i64 v.wa)).setCell (p := ⟨w.heap.size + 1, 10, none⟩) (by show _ ≤ w.heap.size + 1; omega) (.bool v.op))
   obtain ⟨⟨z0, z1, z2, z3, z4, z5, z6, z7, z8, z9, z10⟩, _⟩ := RZ
   obtain ⟨⟨r0, r1, r2, r3, r4, r5, r6, r7, r8, r9, r10⟩, rf⟩ := R3
   go_wp2
   refine bodyPost_ret (v := .agg #[.bool v.up, .bool v.has, .int .i64 v.r, .int .i64 v.c, .int .i64 v.b, .int .i64 v.p, .int .i64 v.h, .int .i64 v.l, .int .i64 v.ro, .int .i64 v.wa, .bool v.op]) (by simp [results, Tryz.results116, go_sem, *]) rfl ⟨by rw [hT.out], BZ⟩
  ·
   have d0 : decide (0 < z.wa) = false := decide_eq_false h0
   have hcc : Hid (¬ ((z.ro = 1 ∨ z.ro = 2) ∧ 0 < z.wa)) := fun e => h0 e.2
   replace h2 : Hid _ := h2
   replace h1 : Hid _ := h1
   replace h0 : Hid _ := h0
   have hT : Hid (t = z) := by unfold Hid; rw [hti.out, if_neg hcc.out]
   go_upto_region 5 with fail
   have RZ := (((((((((((R2.set0 z.up).set1 z.has).set2 z.r).set3 z.c).set4 z.b).set5 z.p).set6 z.h).set7 z.l).set8 z.ro).set9 z.wa).set10 z.op)
   have BZ := (((((((((((B2.setCell (p := ⟨w.heap.size + 1, 0, none⟩) (by show _ ≤ w.heap.size + 1; omega) (.bool z.up)).setCell (p := ⟨w.heap.size + 1, 1, none⟩) (by show _ ≤ w.heap.size + 1; omega) (.bool z.has)).setCell (p := ⟨w.heap.size + 1, 2, none⟩) (by show _ ≤ w.heap.size + 1; omega) (.int .i64 z.r)).setCell (p := ⟨w.heap.size + 1, 3, none⟩) (by show _ ≤ w.heap.size + 1; omega) (.int .i64 z.c)).setCell (p := ⟨w.heap.size + 1, 4, none⟩) (by show _ ≤ w.heap.size + 1; omega) (.int .i64 z.b)).setCell (p := ⟨w.heap.size + 1, 5, none⟩) (by show _ ≤ w.heap.size + 1; omega) (.int .i64 z.p)).setCell (p := ⟨w.heap.size + 1, 6, none⟩) (by show _ ≤ w.heap.size + 1; omega) (.int .i64 z.h)).setCell (p := ⟨w.heap.size + 1, 7, none⟩) (by show _ ≤ w.heap.size + 1; omega) (.int .i64 z.l)).setCell (p := ⟨w.heap.size + 1, 8, none⟩) (by show _ ≤ w.heap.size + 1; omega) (.int .i64 z.ro)).setCell (p := ⟨w.heap.size + 1, 9, none⟩) (by show _ ≤ w.heap.size + 1; omega) (.int .i64 z.wa)).setCell (p := ⟨w.heap.size + 1, 10, none⟩) (by show _ ≤ w.heap.size + 1; omega) (.bool z.op))
   obtain ⟨⟨z0, z1, z2, z3, z4, z5, z6, z7, z8, z9, z10⟩, _⟩ := RZ
   obtain ⟨⟨r0, r1, r2, r3, r4, r5, r6, r7, r8, r9, r10⟩, rf⟩ := R2
   go_wp2
   refine bodyPost_ret (v := .agg #[.bool z.up, .bool z.has, .int .i64 z.r, .int .i64 z.c, .int .i64 z.b, .int .i64 z.p, .int .i64 z.h, .int .i64 z.l, .int .i64 z.ro, .int .i64 z.wa, .bool z.op]) (by simp [results, Tryz.results116, go_sem, *]) rfl ⟨by rw [hT.out], BZ⟩
 have d2 : (z.ro == 2) = false := by simpa using h2
 have hcc : Hid (¬ ((z.ro = 1 ∨ z.ro = 2) ∧ 0 < z.wa)) := fun e => by rcases e.1 with q | q; exact h1 q; exact h2 q
 replace h1 : Hid _ := h1
 replace h2 : Hid _ := h2
 have hT : Hid (t = z) := by unfold Hid; rw [hti.out, if_neg hcc.out]
 go_upto_region 5 with fail
 have RZ := (((((((((((R2.set0 z.up).set1 z.has).set2 z.r).set3 z.c).set4 z.b).set5 z.p).set6 z.h).set7 z.l).set8 z.ro).set9 z.wa).set10 z.op)
 have BZ := (((((((((((B2.setCell (p := ⟨w.heap.size + 1, 0, none⟩) (by show _ ≤ w.heap.size + 1; omega) (.bool z.up)).setCell (p := ⟨w.heap.size + 1, 1, none⟩) (by show _ ≤ w.heap.size + 1; omega) (.bool z.has)).setCell (p := ⟨w.heap.size + 1, 2, none⟩) (by show _ ≤ w.heap.size + 1; omega) (.int .i64 z.r)).setCell (p := ⟨w.heap.size + 1, 3, none⟩) (by show _ ≤ w.heap.size + 1; omega) (.int .i64 z.c)).setCell (p := ⟨w.heap.size + 1, 4, none⟩) (by show _ ≤ w.heap.size + 1; omega) (.int .i64 z.b)).setCell (p := ⟨w.heap.size + 1, 5, none⟩) (by show _ ≤ w.heap.size + 1; omega) (.int .i64 z.p)).setCell (p := ⟨w.heap.size + 1, 6, none⟩) (by show _ ≤ w.heap.size + 1; omega) (.int .i64 z.h)).setCell (p := ⟨w.heap.size + 1, 7, none⟩) (by show _ ≤ w.heap.size + 1; omega) (.int .i64 z.l)).setCell (p := ⟨w.heap.size + 1, 8, none⟩) (by show _ ≤ w.heap.size + 1; omega) (.int .i64 z.ro)).setCell (p := ⟨w.heap.size + 1, 9, none⟩) (by show _ ≤ w.heap.size + 1; omega) (.int .i64 z.wa)).setCell (p := ⟨w.heap.size + 1, 10, none⟩) (by show _ ≤ w.heap.size + 1; omega) (.bool z.op))
 obtain ⟨⟨z0, z1, z2, z3, z4, z5, z6, z7, z8, z9, z10⟩, _⟩ := RZ
 obtain ⟨⟨r0, r1, r2, r3, r4, r5, r6, r7, r8, r9, r10⟩, rf⟩ := R2
 go_wp2
 refine bodyPost_ret (v := .agg #[.bool z.up, .bool z.has, .int .i64 z.r, .int .i64 z.c, .int .i64 z.b, .int .i64 z.p, .int .i64 z.h, .int .i64 z.l, .int .i64 z.ro, .int .i64 z.wa, .bool z.op]) (by simp [results, Tryz.results116, go_sem, *]) rfl ⟨by rw [hT.out], BZ⟩
theorem linkedI (up : Bool) (w : World) : Calls Tryz.prog 117 #[.bool up] w fun e w' => e = .returned (.agg #[.bool (linkP up).up, .bool (linkP up).has, .int .i64 (linkP up).r, .int .i64 (linkP up).c, .int .i64 (linkP up).b, .int .i64 (linkP up).p, .int .i64 (linkP up).h, .int .i64 (linkP up).l, .int .i64 (linkP up).ro, .int .i64 (linkP up).wa, .bool (linkP up).op]) ∧ Below w.heap.size w w' := by
 cases up
 ·
  have B0 := (Below.refl w.heap.size w).alloc (Nat.le_refl _) (Obj.cells #[.bool false, .bool false, .int .i64 0, .int .i64 0, .int .i64 0, .int .i64 0, .int .i64 0, .int .i64 0, .int .i64 0, .int .i64 0, .bool false] 113)
  go_enter Tryz.func117, Tryz.ntmps117
  go_wp2
  refine bodyPost_ret (v := .agg #[.bool false, .bool false, .int .i64 0, .int .i64 0, .int .i64 0, .int .i64 0, .int .i64 0, .int .i64 0, .int .i64 0, .int .i64 0, .bool false]) (by simp [results, Tryz.results117, go_sem, *]) rfl ⟨rfl, B0⟩
 ·
  have B0 := (Below.refl w.heap.size w).alloc (Nat.le_refl _) (Obj.cells #[.bool true, .bool false, .int .i64 0, .int .i64 0, .int .i64 0, .int .i64 0, .int .i64 0, .int .i64 0, .int .i64 3, .int .i64 0, .bool false] 113)
  go_enter Tryz.func117, Tryz.ntmps117
  go_wp2
  refine bodyPost_ret (v := .agg #[.bool true, .bool false, .int .i64 0, .int .i64 0, .int .i64 0, .int .i64 0, .int .i64 0, .int .i64 0, .int .i64 3, .int .i64 0, .bool false]) (by simp [results, Tryz.results117, go_sem, *]) rfl ⟨rfl, B0⟩
end Go.Proofs.YtnpiljegdiconabGreat
