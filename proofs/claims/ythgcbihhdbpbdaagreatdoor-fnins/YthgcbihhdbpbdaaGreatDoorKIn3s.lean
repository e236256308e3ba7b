/- spec.l8Tick, walked. -/
import Derived.Test.YthgcbihhdbpbdaaGreatDoorRows
import Derived.WalkKit
import Derived.ProofKit
import Derived.OpenShut
import Derived.ShutString
import Derived.ChangeOld
import Derived.Below
import Derived.Deep.QuietTactic
import Derived.BigQuiet
import Derived.WalkSmall
import Derived.Laws.OwnMore
import Derived.WalkSpells
import Derived.WalkLawsBesides
import Derived.Deep.Cut
import Derived.Test.YthgcbihhdbpbdaaGreatDoorM14
import Derived.Test.YthgcbihhdbpbdaaGreatDoorKPort6s
namespace Go.Proofs.YthgcbihhdbpbdaaGreatDoor
open Go.ChangeShapes Go.WideShapes Go.ChangeAt Go.RowKit
open Go.ChangeMaps (open_string shut_string)
set_option linter.unusedVariables false
set_option maxRecDepth 100000

set_option maxHeartbeats 4000000 in
theorem tickedS (x : Pt) (w : World) (hok : pOk x = true) : Calls Tryz.prog 114 #[.agg #[.bool x.up, .bool x.has, .int .i64 x.r, .int .i64 x.c, .int .i64 x.b, .int .i64 x.p, .int .i64 x.h, .int .i64 x.l, .int .i64 x.ro, .int .i64 x.wa, .bool x.op]] w fun e w' => e = .returned (.agg #[.bool (tickP x).up, .bool (tickP x).has, .int .i64 (tickP x).r, .int .i64 (tickP x).c, .int .i64 (tickP x).b, .int .i64 (tickP x).p, .int .i64 (tickP x).h, .int .i64 (tickP x).l, .int .i64 (tickP x).ro, .int .i64 (tickP x).wa, .bool (tickP x).op]) ∧ Below w.heap.size w w' := by
  obtain ⟨y, hy⟩ : ∃ y, y = (w.alloc (Obj.cells #[.bool x.up, .bool x.has, .int .i64 x.r, .int .i64 x.c, .int .i64 x.b, .int .i64 x.p, .int .i64 x.h, .int .i64 x.l, .int .i64 x.ro, .int .i64 x.wa, .bool x.op] 47)).alloc (Obj.cells #[.bool false, .bool false, .int .i64 0, .int .i64 0, .int .i64 0, .int .i64 0, .int .i64 0, .int .i64 0, .int .i64 0, .int .i64 0, .bool false] 47) := ⟨_, rfl⟩
  have B0 : Below w.heap.size w y := by rw [hy]; exact ((Below.refl _ _).alloc (Nat.le_refl _) _).alloc (by simp) _
  have P0 : PBox y w.heap.size x := by rw [hy]; refine ⟨?_, fun i => ?_⟩; constructor <;> simp [go_sem]; simp [go_sem]
  have R0 : PBox y (w.heap.size + 1) Pt.nil := by rw [hy]; refine ⟨?_, fun i => ?_⟩; constructor <;> simp [go_sem, Pt.nil]; simp [go_sem]
  have S0 := R0.lt
  obtain ⟨t, ht⟩ : ∃ t, tickP x = t := ⟨_, rfl⟩
  rw [ht]
  obtain ⟨z, hz⟩ : ∃ z, fadeR x = z := ⟨_, rfl⟩
  have hti : Hid (t = if (z.ro = 1 ∨ z.ro = 2) ∧ 0 < z.wa then { z with wa := z.wa - 1, op := (z.wa - 1 == 0) } else z) := by unfold Hid; rw [← ht, tick_imp hok, hz]
  have hw4 : z.wa ≤ 4 ∧ 0 ≤ z.wa := by
    have := (pOk_parts.1 hok).2.2.2.1
    have e := (fadeR_keeps x).2.2.1
    rw [hz] at e
    omega
  have htr : Hid (t = { z with wa := tickW z, op := raOp z.ro (tickW z) }) := by unfold Hid; rw [← ht, ← hz]; rfl
  obtain ⟨hw4, hw0⟩ := hw4
  replace hz : Hid _ := hz
  clear ht hok
  go_enter Tryz.func114, Tryz.ntmps114
  go_wp2_with fail
  go_at_call 124
  rw [← hy]
  clear hy
  refine (fadeS x y).mono ?_
  rintro e w1 ⟨rfl, k1⟩
  rw [hz.out]
  have B1 := B0.trans (k1.mono B0.size)
  have P1 := P0.below k1 (by omega)
  have R1 := R0.below k1 (by omega)
  have S1 := R1.lt
  clear hz k1 P0 R0 B0 S0
  obtain ⟨y2, hy2⟩ : ∃ y_, y_ = (((((((((((w1.setCell ⟨w.heap.size, 0, none⟩ (.bool z.up)).setCell ⟨w.heap.size, 1, none⟩ (.bool z.has)).setCell ⟨w.heap.size, 2, none⟩ (.int .i64 z.r)).setCell ⟨w.heap.size, 3, none⟩ (.int .i64 z.c)).setCell ⟨w.heap.size, 4, none⟩ (.int .i64 z.b)).setCell ⟨w.heap.size, 5, none⟩ (.int .i64 z.p)).setCell ⟨w.heap.size, 6, none⟩ (.int .i64 z.h)).setCell ⟨w.heap.size, 7, none⟩ (.int .i64 z.l)).setCell ⟨w.heap.size, 8, none⟩ (.int .i64 z.ro)).setCell ⟨w.heap.size, 9, none⟩ (.int .i64 z.wa)).setCell ⟨w.heap.size, 10, none⟩ (.bool z.op)) := ⟨_, rfl⟩
  have P2 : PBox y2 w.heap.size z := by rw [hy2]; exact (((((((((((P1.set0 z.up).set1 z.has).set2 z.r).set3 z.c).set4 z.b).set5 z.p).set6 z.h).set7 z.l).set8 z.ro).set9 z.wa).set10 z.op)
  have R2 : PBox y2 (w.heap.size + 1) Pt.nil := by rw [hy2]; exact (((((((((((R1.other (by omega)).other (by omega)).other (by omega)).other (by omega)).other (by omega)).other (by omega)).other (by omega)).other (by omega)).other (by omega)).other (by omega)).other (by omega))
  have B2 : Below w.heap.size w y2 := by rw [hy2]; exact (((((((((((B1.setCell (p := ⟨w.heap.size, 0, none⟩) (by show _ ≤ w.heap.size; omega) (.bool z.up)).setCell (p := ⟨w.heap.size, 1, none⟩) (by show _ ≤ w.heap.size; omega) (.bool z.has)).setCell (p := ⟨w.heap.size, 2, none⟩) (by show _ ≤ w.heap.size; omega) (.int .i64 z.r)).setCell (p := ⟨w.heap.size, 3, none⟩) (by show _ ≤ w.heap.size; omega) (.int .i64 z.c)).setCell (p := ⟨w.heap.size, 4, none⟩) (by show _ ≤ w.heap.size; omega) (.int .i64 z.b)).setCell (p := ⟨w.heap.size, 5, none⟩) (by show _ ≤ w.heap.size; omega) (.int .i64 z.p)).setCell (p := ⟨w.heap.size, 6, none⟩) (by show _ ≤ w.heap.size; omega) (.int .i64 z.h)).setCell (p := ⟨w.heap.size, 7, none⟩) (by show _ ≤ w.heap.size; omega) (.int .i64 z.l)).setCell (p := ⟨w.heap.size, 8, none⟩) (by show _ ≤ w.heap.size; omega) (.int .i64 z.ro)).setCell (p := ⟨w.heap.size, 9, none⟩) (by show _ ≤ w.heap.size; omega) (.int .i64 z.wa)).setCell (p := ⟨w.heap.size, 10, none⟩) (by show _ ≤ w.heap.size; omega) (.bool z.op))
  have P1' := P1
  obtain ⟨⟨p0, p1, p2, p3, p4, p5, p6, p7, p8, p9, p10⟩, pf⟩ := P1
  go_upto_region 2 with fail
  rw [← hy2]
  clear hy2 p0 p1 p2 p3 p4 p5 p6 p7 p8 p9 p10 pf P1' R1 B1
  obtain ⟨⟨p0, p1, p2, p3, p4, p5, p6, p7, p8, p9, p10⟩, pf⟩ := P2
  have P2 : PBox y2 w.heap.size z := ⟨⟨p0, p1, p2, p3, p4, p5, p6, p7, p8, p9, p10⟩, pf⟩
  by_cases h1 : z.ro = 1
  · have d1 : (z.ro == 1) = true := by simpa using h1
    by_cases h0 : 0 < z.wa
    · have d0 : decide (0 < z.wa) = true := decide_eq_true h0
      have hcc : Hid ((z.ro = 1 ∨ z.ro = 2) ∧ 0 < z.wa) := ⟨.inl h1, h0⟩
      replace h1 : Hid _ := h1
      have P3 := P2.set9 (z.wa - 1)
      have B3 := B2.setCell (p := ⟨w.heap.size, 9, none⟩) (Nat.le_refl w.heap.size) (.int .i64 (z.wa - 1))
      have R3 := R2.other (q' := w.heap.size) (i := 9) (v := .int .i64 (z.wa - 1)) (by omega)
      obtain ⟨y3, hy3⟩ : ∃ y_, y_ = y2.setCell ⟨w.heap.size, 9, none⟩ (.int .i64 (z.wa - 1)) := ⟨_, rfl⟩
      rw [← hy3] at P3 B3 R3
      go_upto_region 4 with fail
      rw [← hy3]
      clear hy3 p0 p1 p2 p3 p4 p5 p6 p7 p8 p9 p10 pf P2 B2 R2
      obtain ⟨v, hv⟩ : ∃ v, v = ({ z with wa := z.wa - 1 } : Pt) := ⟨_, rfl⟩
      have P3 : PBox y3 w.heap.size v := by rw [hv]; exact P3
      replace hv : Hid _ := hv
      obtain ⟨⟨p0, p1, p2, p3, p4, p5, p6, p7, p8, p9, p10⟩, pf⟩ := P3
      go_wp2_with fail
      go_at_call 123
      refine (openS v y3).mono ?_
      rintro e w4 ⟨rfl, k4⟩
      have B4 := B3.trans (k4.mono B3.size)
      have S4 : w.heap.size + 1 < y3.heap.size := R3.lt
      have R4 := R3.below k4 S4
      obtain ⟨o, ho⟩ : ∃ o : Pt, o = { v with op := raOp v.ro v.wa } := ⟨_, rfl⟩
      have ho0 : Value.agg #[.bool o.up, .bool o.has, .int .i64 o.r, .int .i64 o.c, .int .i64 o.b, .int .i64 o.p, .int .i64 o.h, .int .i64 o.l, .int .i64 o.ro, .int .i64 o.wa, .bool o.op] = Value.agg #[.bool v.up, .bool v.has, .int .i64 v.r, .int .i64 v.c, .int .i64 v.b, .int .i64 v.p, .int .i64 v.h, .int .i64 v.l, .int .i64 v.ro, .int .i64 v.wa, .bool (raOp v.ro v.wa)] := by rw [ho]
      rw [← ho0]
      have hT : Hid (t = o) := by unfold Hid; rw [htr.out, ho]; rw [hv.out]; unfold tickW; rw [if_pos hcc.out]
      clear ho ho0 k4 p0 p1 p2 p3 p4 p5 p6 p7 p8 p9 p10 pf
      have RZ := (((((((((((R4.set0 o.up).set1 o.has).set2 o.r).set3 o.c).set4 o.b).set5 o.p).set6 o.h).set7 o.l).set8 o.ro).set9 o.wa).set10 o.op)
      have BZ := (((((((((((B4.setCell (p := ⟨w.heap.size + 1, 0, none⟩) (by show _ ≤ w.heap.size + 1; omega) (.bool o.up)).setCell (p := ⟨w.heap.size + 1, 1, none⟩) (by show _ ≤ w.heap.size + 1; omega) (.bool o.has)).setCell (p := ⟨w.heap.size + 1, 2, none⟩) (by show _ ≤ w.heap.size + 1; omega) (.int .i64 o.r)).setCell (p := ⟨w.heap.size + 1, 3, none⟩) (by show _ ≤ w.heap.size + 1; omega) (.int .i64 o.c)).setCell (p := ⟨w.heap.size + 1, 4, none⟩) (by show _ ≤ w.heap.size + 1; omega) (.int .i64 o.b)).setCell (p := ⟨w.heap.size + 1, 5, none⟩) (by show _ ≤ w.heap.size + 1; omega) (.int .i64 o.p)).setCell (p := ⟨w.heap.size + 1, 6, none⟩) (by show _ ≤ w.heap.size + 1; omega) (.int .i64 o.h)).setCell (p := ⟨w.heap.size + 1, 7, none⟩) (by show _ ≤ w.heap.size + 1; omega) (.int .i64 o.l)).setCell (p := ⟨w.heap.size + 1, 8, none⟩) (by show _ ≤ w.heap.size + 1; omega) (.int .i64 o.ro)).setCell (p := ⟨w.heap.size + 1, 9, none⟩) (by show _ ≤ w.heap.size + 1; omega) (.int .i64 o.wa)).setCell (p := ⟨w.heap.size + 1, 10, none⟩) (by show _ ≤ w.heap.size + 1; omega) (.bool o.op))
      obtain ⟨⟨z0, z1, z2, z3, z4, z5, z6, z7, z8, z9, z10⟩, _⟩ := RZ
      obtain ⟨⟨r0, r1, r2, r3, r4, r5, r6, r7, r8, r9, r10⟩, rf⟩ := R4
      go_wp2
      refine bodyPost_ret (v := .agg #[.bool o.up, .bool o.has, .int .i64 o.r, .int .i64 o.c, .int .i64 o.b, .int .i64 o.p, .int .i64 o.h, .int .i64 o.l, .int .i64 o.ro, .int .i64 o.wa, .bool o.op]) (by simp [results, Tryz.results114, go_sem, *]) rfl ⟨by rw [hT.out], BZ⟩
    · have d0 : decide (0 < z.wa) = false := decide_eq_false h0
      have hcc : Hid (¬ ((z.ro = 1 ∨ z.ro = 2) ∧ 0 < z.wa)) := fun e => h0 e.2
      replace h1 : Hid _ := h1
      replace h0 : Hid _ := h0
      go_upto_region 4 with fail
      go_wp2_with fail
      go_at_call 123
      refine (openS z y2).mono ?_
      rintro e w4 ⟨rfl, k4⟩
      have B4 := B2.trans (k4.mono B2.size)
      have S4 : w.heap.size + 1 < y2.heap.size := R2.lt
      have R4 := R2.below k4 S4
      obtain ⟨o, ho⟩ : ∃ o : Pt, o = { z with op := raOp z.ro z.wa } := ⟨_, rfl⟩
      have ho0 : Value.agg #[.bool o.up, .bool o.has, .int .i64 o.r, .int .i64 o.c, .int .i64 o.b, .int .i64 o.p, .int .i64 o.h, .int .i64 o.l, .int .i64 o.ro, .int .i64 o.wa, .bool o.op] = Value.agg #[.bool z.up, .bool z.has, .int .i64 z.r, .int .i64 z.c, .int .i64 z.b, .int .i64 z.p, .int .i64 z.h, .int .i64 z.l, .int .i64 z.ro, .int .i64 z.wa, .bool (raOp z.ro z.wa)] := by rw [ho]
      rw [← ho0]
      have hT : Hid (t = o) := by unfold Hid; rw [htr.out, ho]; unfold tickW; rw [if_neg hcc.out]
      clear ho ho0 k4 p0 p1 p2 p3 p4 p5 p6 p7 p8 p9 p10 pf
      have RZ := (((((((((((R4.set0 o.up).set1 o.has).set2 o.r).set3 o.c).set4 o.b).set5 o.p).set6 o.h).set7 o.l).set8 o.ro).set9 o.wa).set10 o.op)
      have BZ := (((((((((((B4.setCell (p := ⟨w.heap.size + 1, 0, none⟩) (by show _ ≤ w.heap.size + 1; omega) (.bool o.up)).setCell (p := ⟨w.heap.size + 1, 1, none⟩) (by show _ ≤ w.heap.size + 1; omega) (.bool o.has)).setCell (p := ⟨w.heap.size + 1, 2, none⟩) (by show _ ≤ w.heap.size + 1; omega) (.int .i64 o.r)).setCell (p := ⟨w.heap.size + 1, 3, none⟩) (by show _ ≤ w.heap.size + 1; omega) (.int .i64 o.c)).setCell (p := ⟨w.heap.size + 1, 4, none⟩) (by show _ ≤ w.heap.size + 1; omega) (.int .i64 o.b)).setCell (p := ⟨w.heap.size + 1, 5, none⟩) (by show _ ≤ w.heap.size + 1; omega) (.int .i64 o.p)).setCell (p := ⟨w.heap.size + 1, 6, none⟩) (by show _ ≤ w.heap.size + 1; omega) (.int .i64 o.h)).setCell (p := ⟨w.heap.size + 1, 7, none⟩) (by show _ ≤ w.heap.size + 1; omega) (.int .i64 o.l)).setCell (p := ⟨w.heap.size + 1, 8, none⟩) (by show _ ≤ w.heap.size + 1; omega) (.int .i64 o.ro)).setCell (p := ⟨w.heap.size + 1, 9, none⟩) (by show _ ≤ w.heap.size + 1; omega) (.int .i64 o.wa)).setCell (p := ⟨w.heap.size + 1, 10, none⟩) (by show _ ≤ w.heap.size + 1; omega) (.bool o.op))
      obtain ⟨⟨z0, z1, z2, z3, z4, z5, z6, z7, z8, z9, z10⟩, _⟩ := RZ
      obtain ⟨⟨r0, r1, r2, r3, r4, r5, r6, r7, r8, r9, r10⟩, rf⟩ := R4
      go_wp2
      refine bodyPost_ret (v := .agg #[.bool o.up, .bool o.has, .int .i64 o.r, .int .i64 o.c, .int .i64 o.b, .int .i64 o.p, .int .i64 o.h, .int .i64 o.l, .int .i64 o.ro, .int .i64 o.wa, .bool o.op]) (by simp [results, Tryz.results114, go_sem, *]) rfl ⟨by rw [hT.out], BZ⟩
  have d1 : (z.ro == 1) = false := by simpa using h1
  by_cases h2 : z.ro = 2
  · have d2 : (z.ro == 2) = true := by simpa using h2
    by_cases h0 : 0 < z.wa
    · have d0 : decide (0 < z.wa) = true := decide_eq_true h0
      have hcc : Hid ((z.ro = 1 ∨ z.ro = 2) ∧ 0 < z.wa) := ⟨.inr h2, h0⟩
      replace h2 : Hid _ := h2
      replace h1 : Hid _ := h1
      have P3 := P2.set9 (z.wa - 1)
      have B3 := B2.setCell (p := ⟨w.heap.size, 9, none⟩) (Nat.le_refl w.heap.size) (.int .i64 (z.wa - 1))
      have R3 := R2.other (q' := w.heap.size) (i := 9) (v := .int .i64 (z.wa - 1)) (by omega)
      obtain ⟨y3, hy3⟩ : ∃ y_, y_ = y2.setCell ⟨w.heap.size, 9, none⟩ (.int .i64 (z.wa - 1)) := ⟨_, rfl⟩
      rw [← hy3] at P3 B3 R3
      go_upto_region 4 with fail
      rw [← hy3]
      clear hy3 p0 p1 p2 p3 p4 p5 p6 p7 p8 p9 p10 pf P2 B2 R2
      obtain ⟨v, hv⟩ : ∃ v, v = ({ z with wa := z.wa - 1 } : Pt) := ⟨_, rfl⟩
      have P3 : PBox y3 w.heap.size v := by rw [hv]; exact P3
      replace hv : Hid _ := hv
      obtain ⟨⟨p0, p1, p2, p3, p4, p5, p6, p7, p8, p9, p10⟩, pf⟩ := P3
      go_wp2_with fail
      go_at_call 123
      refine (openS v y3).mono ?_
      rintro e w4 ⟨rfl, k4⟩
      have B4 := B3.trans (k4.mono B3.size)
      have S4 : w.heap.size + 1 < y3.heap.size := R3.lt
      have R4 := R3.below k4 S4
      obtain ⟨o, ho⟩ : ∃ o : Pt, o = { v with op := raOp v.ro v.wa } := ⟨_, rfl⟩
      have ho0 : Value.agg #[.bool o.up, .bool o.has, .int .i64 o.r, .int .i64 o.c, .int .i64 o.b, .int .i64 o.p, .int .i64 o.h, .int .i64 o.l, .int .i64 o.ro, .int .i64 o.wa, .bool o.op] = Value.agg #[.bool v.up, .bool v.has, .int .i64 v.r, .int .i64 v.c, .int .i64 v.b, .int .i64 v.p, .int .i64 v.h, .int .i64 v.l, .int .i64 v.ro, .int .i64 v.wa, .bool (raOp v.ro v.wa)] := by rw [ho]
      rw [← ho0]
      have hT : Hid (t = o) := by unfold Hid; rw [htr.out, ho]; rw [hv.out]; unfold tickW; rw [if_pos hcc.out]
      clear ho ho0 k4 p0 p1 p2 p3 p4 p5 p6 p7 p8 p9 p10 pf
      have RZ := (((((((((((R4.set0 o.up).set1 o.has).set2 o.r).set3 o.c).set4 o.b).set5 o.p).set6 o.h).set7 o.l).set8 o.ro).set9 o.wa).set10 o.op)
      have BZ := (((((((((((B4.setCell (p := ⟨w.heap.size + 1, 0, none⟩) (by show _ ≤ w.heap.size + 1; omega) (.bool o.up)).setCell (p := ⟨w.heap.size + 1, 1, none⟩) (by show _ ≤ w.heap.size + 1; omega) (.bool o.has)).setCell (p := ⟨w.heap.size + 1, 2, none⟩) (by show _ ≤ w.heap.size + 1; omega) (.int .i64 o.r)).setCell (p := ⟨w.heap.size + 1, 3, none⟩) (by show _ ≤ w.heap.size + 1; omega) (.int .i64 o.c)).setCell (p := ⟨w.heap.size + 1, 4, none⟩) (by show _ ≤ w.heap.size + 1; omega) (.int .i64 o.b)).setCell (p := ⟨w.heap.size + 1, 5, none⟩) (by show _ ≤ w.heap.size + 1; omega) (.int .i64 o.p)).setCell (p := ⟨w.heap.size + 1, 6, none⟩) (by show _ ≤ w.heap.size + 1; omega) (.int .i64 o.h)).setCell (p := ⟨w.heap.size + 1, 7, none⟩) (by show _ ≤ w.heap.size + 1; omega) (.int .i64 o.l)).setCell (p := ⟨w.heap.size + 1, 8, none⟩) (by show _ ≤ w.heap.size + 1; omega) (.int .i64 o.ro)).setCell (p := ⟨w.heap.size + 1, 9, none⟩) (by show _ ≤ w.heap.size + 1; omega) (.int .i64 o.wa)).setCell (p := ⟨w.heap.size + 1, 10, none⟩) (by show _ ≤ w.heap.size + 1; omega) (.bool o.op))
      obtain ⟨⟨z0, z1, z2, z3, z4, z5, z6, z7, z8, z9, z10⟩, _⟩ := RZ
      obtain ⟨⟨r0, r1, r2, r3, r4, r5, r6, r7, r8, r9, r10⟩, rf⟩ := R4
      go_wp2
      refine bodyPost_ret (v := .agg #[.bool o.up, .bool o.has, .int .i64 o.r, .int .i64 o.c, .int .i64 o.b, .int .i64 o.p, .int .i64 o.h, .int .i64 o.l, .int .i64 o.ro, .int .i64 o.wa, .bool o.op]) (by simp [results, Tryz.results114, go_sem, *]) rfl ⟨by rw [hT.out], BZ⟩
    · have d0 : decide (0 < z.wa) = false := decide_eq_false h0
      have hcc : Hid (¬ ((z.ro = 1 ∨ z.ro = 2) ∧ 0 < z.wa)) := fun e => h0 e.2
      replace h2 : Hid _ := h2
      replace h1 : Hid _ := h1
      replace h0 : Hid _ := h0
      go_upto_region 4 with fail
      go_wp2_with fail
      go_at_call 123
      refine (openS z y2).mono ?_
      rintro e w4 ⟨rfl, k4⟩
      have B4 := B2.trans (k4.mono B2.size)
      have S4 : w.heap.size + 1 < y2.heap.size := R2.lt
      have R4 := R2.below k4 S4
      obtain ⟨o, ho⟩ : ∃ o : Pt, o = { z with op := raOp z.ro z.wa } := ⟨_, rfl⟩
      have ho0 : Value.agg #[.bool o.up, .bool o.has, .int .i64 o.r, .int .i64 o.c, .int .i64 o.b, .int .i64 o.p, .int .i64 o.h, .int .i64 o.l, .int .i64 o.ro, .int .i64 o.wa, .bool o.op] = Value.agg #[.bool z.up, .bool z.has, .int .i64 z.r, .int .i64 z.c, .int .i64 z.b, .int .i64 z.p, .int .i64 z.h, .int .i64 z.l, .int .i64 z.ro, .int .i64 z.wa, .bool (raOp z.ro z.wa)] := by rw [ho]
      rw [← ho0]
      have hT : Hid (t = o) := by unfold Hid; rw [htr.out, ho]; unfold tickW; rw [if_neg hcc.out]
      clear ho ho0 k4 p0 p1 p2 p3 p4 p5 p6 p7 p8 p9 p10 pf
      have RZ := (((((((((((R4.set0 o.up).set1 o.has).set2 o.r).set3 o.c).set4 o.b).set5 o.p).set6 o.h).set7 o.l).set8 o.ro).set9 o.wa).set10 o.op)
      have BZ := (((((((((((B4.setCell (p := ⟨w.heap.size + 1, 0, none⟩) (by show _ ≤ w.heap.size + 1; omega) (.bool o.up)).setCell (p := ⟨w.heap.size + 1, 1, none⟩) (by show _ ≤ w.heap.size + 1; omega) (.bool o.has)).setCell (p := ⟨w.heap.size + 1, 2, none⟩) (by show _ ≤ w.heap.size + 1; omega) (.int .i64 o.r)).setCell (p := ⟨w.heap.size + 1, 3, none⟩) (by show _ ≤ w.heap.size + 1; omega) (.int .i64 o.c)).setCell (p := ⟨w.heap.size + 1, 4, none⟩) (by show _ ≤ w.heap.size + 1; omega) (.int .i64 o.b)).setCell (p := ⟨w.heap.size + 1, 5, none⟩) (by show _ ≤ w.heap.size + 1; omega) (.int .i64 o.p)).setCell (p := ⟨w.heap.size + 1, 6, none⟩) (by show _ ≤ w.heap.size + 1; omega) (.int .i64 o.h)).setCell (p := ⟨w.heap.size + 1, 7, none⟩) (by show _ ≤ w.heap.size + 1; omega) (.int .i64 o.l)).setCell (p := ⟨w.heap.size + 1, 8, none⟩) (by show _ ≤ w.heap.size + 1; omega) (.int .i64 o.ro)).setCell (p := ⟨w.heap.size + 1, 9, none⟩) (by show _ ≤ w.heap.size + 1; omega) (.int .i64 o.wa)).setCell (p := ⟨w.heap.size + 1, 10, none⟩) (by show _ ≤ w.heap.size + 1; omega) (.bool o.op))
      obtain ⟨⟨z0, z1, z2, z3, z4, z5, z6, z7, z8, z9, z10⟩, _⟩ := RZ
      obtain ⟨⟨r0, r1, r2, r3, r4, r5, r6, r7, r8, r9, r10⟩, rf⟩ := R4
      go_wp2
      refine bodyPost_ret (v := .agg #[.bool o.up, .bool o.has, .int .i64 o.r, .int .i64 o.c, .int .i64 o.b, .int .i64 o.p, .int .i64 o.h, .int .i64 o.l, .int .i64 o.ro, .int .i64 o.wa, .bool o.op]) (by simp [results, Tryz.results114, go_sem, *]) rfl ⟨by rw [hT.out], BZ⟩
  have d2 : (z.ro == 2) = false := by simpa using h2
  have hcc : Hid (¬ ((z.ro = 1 ∨ z.ro = 2) ∧ 0 < z.wa)) := fun e => by rcases e.1 with q | q; exact h1 q; exact h2 q
  replace h1 : Hid _ := h1
  replace h2 : Hid _ := h2
  go_upto_region 4 with fail
  go_wp2_with fail
  go_at_call 123
  refine (openS z y2).mono ?_
  rintro e w4 ⟨rfl, k4⟩
  have B4 := B2.trans (k4.mono B2.size)
  have S4 : w.heap.size + 1 < y2.heap.size := R2.lt
  have R4 := R2.below k4 S4
  obtain ⟨o, ho⟩ : ∃ o : Pt, o = { z with op := raOp z.ro z.wa } := ⟨_, rfl⟩
  have ho0 : Value.agg #[.bool o.up, .bool o.has, .int .i64 o.r, .int .i64 o.c, .int .i64 o.b, .int .i64 o.p, .int .i64 o.h, .int .i64 o.l, .int .i64 o.ro, .int .i64 o.wa, .bool o.op] = Value.agg #[.bool z.up, .bool z.has, .int .i64 z.r, .int .i64 z.c, .int .i64 z.b, .int .i64 z.p, .int .i64 z.h, .int .i64 z.l, .int .i64 z.ro, .int .i64 z.wa, .bool (raOp z.ro z.wa)] := by rw [ho]
  rw [← ho0]
  have hT : Hid (t = o) := by unfold Hid; rw [htr.out, ho]; unfold tickW; rw [if_neg hcc.out]
  clear ho ho0 k4 p0 p1 p2 p3 p4 p5 p6 p7 p8 p9 p10 pf
  have RZ := (((((((((((R4.set0 o.up).set1 o.has).set2 o.r).set3 o.c).set4 o.b).set5 o.p).set6 o.h).set7 o.l).set8 o.ro).set9 o.wa).set10 o.op)
  have BZ := (((((((((((B4.setCell (p := ⟨w.heap.size + 1, 0, none⟩) (by show _ ≤ w.heap.size + 1; omega) (.bool o.up)).setCell (p := ⟨w.heap.size + 1, 1, none⟩) (by show _ ≤ w.heap.size + 1; omega) (.bool o.has)).setCell (p := ⟨w.heap.size + 1, 2, none⟩) (by show _ ≤ w.heap.size + 1; omega) (.int .i64 o.r)).setCell (p := ⟨w.heap.size + 1, 3, none⟩) (by show _ ≤ w.heap.size + 1; omega) (.int .i64 o.c)).setCell (p := ⟨w.heap.size + 1, 4, none⟩) (by show _ ≤ w.heap.size + 1; omega) (.int .i64 o.b)).setCell (p := ⟨w.heap.size + 1, 5, none⟩) (by show _ ≤ w.heap.size + 1; omega) (.int .i64 o.p)).setCell (p := ⟨w.heap.size + 1, 6, none⟩) (by show _ ≤ w.heap.size + 1; omega) (.int .i64 o.h)).setCell (p := ⟨w.heap.size + 1, 7, none⟩) (by show _ ≤ w.heap.size + 1; omega) (.int .i64 o.l)).setCell (p := ⟨w.heap.size + 1, 8, none⟩) (by show _ ≤ w.heap.size + 1; omega) (.int .i64 o.ro)).setCell (p := ⟨w.heap.size + 1, 9, none⟩) (by show _ ≤ w.heap.size + 1; omega) (.int .i64 o.wa)).setCell (p := ⟨w.heap.size + 1, 10, none⟩) (by show _ ≤ w.heap.size + 1; omega) (.bool o.op))
  obtain ⟨⟨z0, z1, z2, z3, z4, z5, z6, z7, z8, z9, z10⟩, _⟩ := RZ
  obtain ⟨⟨r0, r1, r2, r3, r4, r5, r6, r7, r8, r9, r10⟩, rf⟩ := R4
  go_wp2
  refine bodyPost_ret (v := .agg #[.bool o.up, .bool o.has, .int .i64 o.r, .int .i64 o.c, .int .i64 o.b, .int .i64 o.p, .int .i64 o.h, .int .i64 o.l, .int .i64 o.ro, .int .i64 o.wa, .bool o.op]) (by simp [results, Tryz.results114, go_sem, *]) rfl ⟨by rw [hT.out], BZ⟩

end Go.Proofs.YthgcbihhdbpbdaaGreatDoor
