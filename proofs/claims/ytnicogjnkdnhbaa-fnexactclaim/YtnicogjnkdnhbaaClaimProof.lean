/- For every port, claim and number of hops the call of FnExactClaim returns true: impl.Claim answers as spec.Claim, every field, and writes into no argument. No condition. -/
import Derived.Test.YtnicogjnkdnhbaaRows
import Derived.Test.YtnicogjnkdnhbaaPort4s
import Derived.Test.YtnicogjnkdnhbaaTakes
import Derived.Deep.Cut
import Derived.WalkKit
import Derived.Below
import Derived.ChangeOld
import Derived.WalkSmall
import Derived.ProofKit
import Derived.OpenShut
import Derived.ShutString
import Derived.BigQuiet
namespace Go.Proofs.Ytnicogjnkdnhbaa.fnExactClaim
open Go.ChangeShapes Go.WideShapes Go.ChangeAt Go.RowKit
set_option linter.unusedVariables false

theorem own : ownKnob Try.prog.godebug = none := by kernel_rfl
theorem laidOut : laidOutB Try.prog = true := by kernel_rfl

theorem join_region {P : Program} {reg : Code} {K : Act → World → Prop} {Q : Exit → Act → World → Prop} {l : List Value} {ds : List Deferred} {W : World} (R : List Value → List Value → World → Prop) (h1 : ∀ l' W', R l l' W' → K ⟨l'.toArray, ds⟩ W') (h2 : ∀ K2 : Act → World → Prop, Hid (∀ l' W', R l l' W' → K2 ⟨l'.toArray, ds⟩ W') → Code.wp P reg (Exit.then K2 Q) ⟨l.toArray, ds⟩ W) : Code.wp P reg (Exit.then K Q) ⟨l.toArray, ds⟩ W := h2 K h1
set_option maxHeartbeats 8000000 in
theorem walk (x0 : Pt) (r1 c1 b1 p1 : Int) (n2 : Int) (w : World)  (I1 : VecWf r1 c1 b1 p1) (I2 : (Lit.int .i64 n2).wf = true) :
    Calls Try.prog 5 #[.agg #[.bool x0.up, .bool x0.has, .int .i64 x0.r, .int .i64 x0.c, .int .i64 x0.b, .int .i64 x0.p, .int .i64 x0.h, .int .i64 x0.l, .int .i64 x0.ro, .int .i64 x0.wa, .bool x0.op], .agg #[.int .i64 r1, .int .i64 c1, .int .i64 b1, .int .i64 p1], .int .i64 n2] w fun e w' => e = .returned (.bool true) ∧ Below w.heap.size w w' := by
  clear I1 I2
  obtain ⟨x, hx⟩ : ∃ x, x = (w.alloc (Obj.cells #[.bool x0.up, .bool x0.has, .int .i64 x0.r, .int .i64 x0.c, .int .i64 x0.b, .int .i64 x0.p, .int .i64 x0.h, .int .i64 x0.l, .int .i64 x0.ro, .int .i64 x0.wa, .bool x0.op] 39)).alloc (Obj.cells #[.int .i64 r1, .int .i64 c1, .int .i64 b1, .int .i64 p1] 37) := ⟨_, rfl⟩
  have A0 : PtAt x w.heap.size x0 := by rw [hx]; constructor <;> simp [go_sem]
  have A1 : VecAt x (w.heap.size + 1) r1 c1 b1 p1 := by rw [hx]; refine ⟨?_, ?_, ?_, ?_⟩ <;> simp [go_sem]
  have B0 : Below w.heap.size w x := by rw [hx]; exact ((Below.refl _ _).alloc (Nat.le_refl _) _).alloc (by simp) _
  have S0 : w.heap.size + 1 < x.heap.size := by rw [hx]; simp
  obtain ⟨z, hz⟩ : ∃ z, claimR x0 r1 c1 b1 p1 n2 = z := ⟨_, rfl⟩
  replace hz : Hid _ := hz
  go_enter Try.func5, Try.ntmps5
  go_wp2
  rw [← hx]
  clear hx
  refine join_region (fun l l' W' => ∃ (P : Nat) (us : List Value), us.length = 6 ∧ l' = l.take 7 ++ (.pointer (some ⟨P, 0, none⟩) :: (l.drop 8).take 1) ++ us ++ l.drop 15 ∧ PtAt W' P z ∧ x.heap.size ≤ P ∧ P < W'.heap.size ∧ Below x.heap.size x W') ?_ ?_
  rotate_left
  · intro K2 hT
    refine wp_region_held (S := fun Y => Below x.heap.size x Y) (by kernel_rfl) ?_
    change wpAnyH _ _ _ _ _ _ _ _ (World.drew _)
    have hb0 : Below x.heap.size x x.drew := (Below.refl _ _).drew
    obtain ⟨y0, hy0⟩ : ∃ y, y = x.drew := ⟨_, rfl⟩
    rw [← hy0] at hb0 ⊢
    clear hy0
    have z0 := hb0.size
    refine takeW 0 9 (.agg #[.bool x0.up, .bool x0.has, .int .i64 x0.r, .int .i64 x0.c, .int .i64 x0.b, .int .i64 x0.p, .int .i64 x0.h, .int .i64 x0.l, .int .i64 x0.ro, .int .i64 x0.wa, .bool x0.op]) rfl rfl (by kernel_rfl) (by kernel_rfl) (by kernel_rfl) (fun _ _ _ h => h) (by kernel_rfl) (by (intro Y hSw; obtain ⟨C0, C1, C2, C3, C4, C5, C6, C7, C8, C9, C10⟩ := A0.below hSw (by omega); go_simp)) (by assumption) ?_
    simp only [List.set_cons_zero, List.set_cons_succ]
    refine takeW 2 11 (.agg #[.int .i64 r1, .int .i64 c1, .int .i64 b1, .int .i64 p1]) rfl rfl (by kernel_rfl) (by kernel_rfl) (by kernel_rfl) (fun _ _ _ h => h) (by kernel_rfl) (by (intro Y hSw; obtain ⟨C1, C2, C3, C4⟩ := A1.below hSw (by omega); go_simp)) (by assumption) ?_
    simp only [List.set_cons_zero, List.set_cons_succ]
    refine takeW 4 13 (.int .i64 n2) rfl rfl (by kernel_rfl) (by kernel_rfl) (by kernel_rfl) (fun _ _ _ h => h) (by kernel_rfl) (by (intro w hSw; go_simp)) (by assumption) ?_
    simp only [List.set_cons_zero, List.set_cons_succ]
    refine wpAnyH_all (rs := [1, 6]) (by kernel_rfl) (by simp) ?_
    intro i hi; rcases (by simpa using hi : i = 1 ∨ i = 6) with rfl | rfl
    · refine wpOp_step rfl (fun K hK => ?_)
      rw [if_pos (by kernel_rfl)]
      go_simp
      go_at_call 21
      refine (toP x0 y0).mono ?_
      rintro e y1 ⟨rfl, kq1⟩
      have hb1 : Below x.heap.size x y1 := hb0.trans (kq1.mono hb0.size)
      have z1 := kq1.size
      refine hK _ _ ⟨hb1, ?_⟩
      clear hK K hi
      refine wpAnyH_all (rs := [3, 6]) (by kernel_rfl) (by simp) ?_
      intro i hi; rcases (by simpa using hi : i = 3 ∨ i = 6) with rfl | rfl
      · refine wpOp_step rfl (fun K hK => ?_)
        rw [if_pos (by kernel_rfl)]
        go_simp
        go_at_call 22
        refine (toV r1 c1 b1 p1 y1).mono ?_
        rintro e y2 ⟨rfl, kq2⟩
        have hb2 : Below x.heap.size x y2 := hb1.trans (kq2.mono hb1.size)
        have z2 := kq2.size
        refine hK _ _ ⟨hb2, ?_⟩
        clear hK K hi
        refine wpAnyH_all (rs := [5, 6]) (by kernel_rfl) (by simp) ?_
        intro i hi; rcases (by simpa using hi : i = 5 ∨ i = 6) with rfl | rfl
        · refine wpOp_step rfl (fun K hK => ?_)
          rw [if_pos (by kernel_rfl)]
          go_simp
          go_at_call 16
          refine (claimS x0 r1 c1 b1 p1 n2 y2).mono ?_
          rintro e y3 ⟨rfl, kq3⟩
          rw [hz.out]
          have hb3 : Below x.heap.size x y3 := hb2.trans (kq3.mono hb2.size)
          have z3 := kq3.size
          refine hK _ _ ⟨hb3, ?_⟩
          clear hK K hi
          refine wpAnyH_all (rs := [6]) (by kernel_rfl) (by simp) ?_
          intro i hi; obtain rfl : i = 6 := by simpa using hi
          refine wpOp_step rfl (fun K hK => ?_)
          rw [if_pos (by kernel_rfl)]
          go_simp
          obtain ⟨y4, hy⟩ : ∃ y, y = y3.alloc (Obj.cells #[.bool false, .bool false, .int .i64 0, .int .i64 0, .int .i64 0, .int .i64 0, .int .i64 0, .int .i64 0, .int .i64 0, .int .i64 0, .bool false] 27) := ⟨_, rfl⟩
          have FP : PBox y4 y3.heap.size ⟨false, false, 0, 0, 0, 0, 0, 0, 0, 0, false⟩ := by rw [hy]; exact PBox.new y3 _ ⟨false, false, 0, 0, 0, 0, 0, 0, 0, 0, false⟩
          have kq4 : Below y3.heap.size y3 y4 := by rw [hy]; exact (Below.refl _ _).alloc (Nat.le_refl _) _
          have hb4 : Below x.heap.size x y4 := hb3.trans (kq4.mono hb3.size)
          have z4 := kq4.size
          have pa : x.heap.size ≤ y3.heap.size := by omega
          rw [← hy]
          clear hy
          generalize y3.heap.size = P at *
          refine hK _ _ ⟨hb4, ?_⟩
          clear hK K hi
          refine wpAnyH_all (rs := [7]) (by kernel_rfl) (by simp) ?_
          intro i hi; obtain rfl : i = 7 := by simpa using hi
          refine wpOp_step rfl (fun K hK => ?_)
          rw [if_pos (by kernel_rfl)]
          have FPQ := FP
          obtain ⟨⟨t0, t1, t2, t3, t4, t5, t6, t7, t8, t9, t10⟩, ff⟩ := FP
          go_simp
          clear ff t0 t1 t2 t3 t4 t5 t6 t7 t8 t9 t10
          obtain ⟨yf, hy⟩ : ∃ y, y = (((((((((((y4.setCell ⟨P, 0, none⟩ (.bool z.up)).setCell ⟨P, 1, none⟩ (.bool z.has)).setCell ⟨P, 2, none⟩ (.int .i64 z.r)).setCell ⟨P, 3, none⟩ (.int .i64 z.c)).setCell ⟨P, 4, none⟩ (.int .i64 z.b)).setCell ⟨P, 5, none⟩ (.int .i64 z.p)).setCell ⟨P, 6, none⟩ (.int .i64 z.h)).setCell ⟨P, 7, none⟩ (.int .i64 z.l)).setCell ⟨P, 8, none⟩ (.int .i64 z.ro)).setCell ⟨P, 9, none⟩ (.int .i64 z.wa)).setCell ⟨P, 10, none⟩ (.bool z.op)) := ⟨_, rfl⟩
          have FE : PBox yf P z := by rw [hy]; exact (((((((((((FPQ.set0 z.up).set1 z.has).set2 z.r).set3 z.c).set4 z.b).set5 z.p).set6 z.h).set7 z.l).set8 z.ro).set9 z.wa).set10 z.op)
          have hbf : Below x.heap.size x yf := by rw [hy]; exact (((((((((((hb4.setCell (by show _ ≤ P; omega) _).setCell (by show _ ≤ P; omega) _).setCell (by show _ ≤ P; omega) _).setCell (by show _ ≤ P; omega) _).setCell (by show _ ≤ P; omega) _).setCell (by show _ ≤ P; omega) _).setCell (by show _ ≤ P; omega) _).setCell (by show _ ≤ P; omega) _).setCell (by show _ ≤ P; omega) _).setCell (by show _ ≤ P; omega) _).setCell (by show _ ≤ P; omega) _)
          rw [← hy]
          clear hy
          refine hK _ _ ⟨hbf, ?_⟩
          clear hK K hi
          refine wpAnyH_done (by kernel_rfl) ?_ _
          exact hT.out _ _ ⟨P, [(.agg #[.bool x0.up, .bool x0.has, .int .i64 x0.r, .int .i64 x0.c, .int .i64 x0.b, .int .i64 x0.p, .int .i64 x0.h, .int .i64 x0.l, .int .i64 x0.ro, .int .i64 x0.wa, .bool x0.op]), (.agg #[.bool x0.up, .bool x0.has, .int .i64 x0.r, .int .i64 x0.c, .int .i64 x0.b, .int .i64 x0.p, .int .i64 x0.h, .int .i64 x0.l, .int .i64 x0.ro, .int .i64 x0.wa, .bool x0.op]), (.agg #[.int .i64 r1, .int .i64 c1, .int .i64 b1, .int .i64 p1]), (.agg #[.int .i64 r1, .int .i64 c1, .int .i64 b1, .int .i64 p1]), (.int .i64 n2), (.agg #[.bool z.up, .bool z.has, .int .i64 z.r, .int .i64 z.c, .int .i64 z.b, .int .i64 z.p, .int .i64 z.h, .int .i64 z.l, .int .i64 z.ro, .int .i64 z.wa, .bool z.op])], rfl, by kernel_rfl, FE.at_, pa, FE.lt, hbf⟩
        · refine wpOp_step rfl (fun K hK => ?_)
          rw [if_pos (by kernel_rfl)]
          go_simp
          obtain ⟨y3, hy⟩ : ∃ y, y = y2.alloc (Obj.cells #[.bool false, .bool false, .int .i64 0, .int .i64 0, .int .i64 0, .int .i64 0, .int .i64 0, .int .i64 0, .int .i64 0, .int .i64 0, .bool false] 27) := ⟨_, rfl⟩
          have FP : PBox y3 y2.heap.size ⟨false, false, 0, 0, 0, 0, 0, 0, 0, 0, false⟩ := by rw [hy]; exact PBox.new y2 _ ⟨false, false, 0, 0, 0, 0, 0, 0, 0, 0, false⟩
          have kq3 : Below y2.heap.size y2 y3 := by rw [hy]; exact (Below.refl _ _).alloc (Nat.le_refl _) _
          have hb3 : Below x.heap.size x y3 := hb2.trans (kq3.mono hb2.size)
          have z3 := kq3.size
          have pa : x.heap.size ≤ y2.heap.size := by omega
          rw [← hy]
          clear hy
          generalize y2.heap.size = P at *
          refine hK _ _ ⟨hb3, ?_⟩
          clear hK K hi
          refine wpAnyH_all (rs := [5]) (by kernel_rfl) (by simp) ?_
          intro i hi; obtain rfl : i = 5 := by simpa using hi
          refine wpOp_step rfl (fun K hK => ?_)
          rw [if_pos (by kernel_rfl)]
          go_simp
          go_at_call 16
          refine (claimS x0 r1 c1 b1 p1 n2 y3).mono ?_
          rintro e y4 ⟨rfl, kq4⟩
          rw [hz.out]
          have FP := FP.below kq4 FP.lt
          have hb4 : Below x.heap.size x y4 := hb3.trans (kq4.mono hb3.size)
          have z4 := kq4.size
          refine hK _ _ ⟨hb4, ?_⟩
          clear hK K hi
          refine wpAnyH_all (rs := [7]) (by kernel_rfl) (by simp) ?_
          intro i hi; obtain rfl : i = 7 := by simpa using hi
          refine wpOp_step rfl (fun K hK => ?_)
          rw [if_pos (by kernel_rfl)]
          have FPQ := FP
          obtain ⟨⟨t0, t1, t2, t3, t4, t5, t6, t7, t8, t9, t10⟩, ff⟩ := FP
          go_simp
          clear ff t0 t1 t2 t3 t4 t5 t6 t7 t8 t9 t10
          obtain ⟨yf, hy⟩ : ∃ y, y = (((((((((((y4.setCell ⟨P, 0, none⟩ (.bool z.up)).setCell ⟨P, 1, none⟩ (.bool z.has)).setCell ⟨P, 2, none⟩ (.int .i64 z.r)).setCell ⟨P, 3, none⟩ (.int .i64 z.c)).setCell ⟨P, 4, none⟩ (.int .i64 z.b)).setCell ⟨P, 5, none⟩ (.int .i64 z.p)).setCell ⟨P, 6, none⟩ (.int .i64 z.h)).setCell ⟨P, 7, none⟩ (.int .i64 z.l)).setCell ⟨P, 8, none⟩ (.int .i64 z.ro)).setCell ⟨P, 9, none⟩ (.int .i64 z.wa)).setCell ⟨P, 10, none⟩ (.bool z.op)) := ⟨_, rfl⟩
          have FE : PBox yf P z := by rw [hy]; exact (((((((((((FPQ.set0 z.up).set1 z.has).set2 z.r).set3 z.c).set4 z.b).set5 z.p).set6 z.h).set7 z.l).set8 z.ro).set9 z.wa).set10 z.op)
          have hbf : Below x.heap.size x yf := by rw [hy]; exact (((((((((((hb4.setCell (by show _ ≤ P; omega) _).setCell (by show _ ≤ P; omega) _).setCell (by show _ ≤ P; omega) _).setCell (by show _ ≤ P; omega) _).setCell (by show _ ≤ P; omega) _).setCell (by show _ ≤ P; omega) _).setCell (by show _ ≤ P; omega) _).setCell (by show _ ≤ P; omega) _).setCell (by show _ ≤ P; omega) _).setCell (by show _ ≤ P; omega) _).setCell (by show _ ≤ P; omega) _)
          rw [← hy]
          clear hy
          refine hK _ _ ⟨hbf, ?_⟩
          clear hK K hi
          refine wpAnyH_done (by kernel_rfl) ?_ _
          exact hT.out _ _ ⟨P, [(.agg #[.bool x0.up, .bool x0.has, .int .i64 x0.r, .int .i64 x0.c, .int .i64 x0.b, .int .i64 x0.p, .int .i64 x0.h, .int .i64 x0.l, .int .i64 x0.ro, .int .i64 x0.wa, .bool x0.op]), (.agg #[.bool x0.up, .bool x0.has, .int .i64 x0.r, .int .i64 x0.c, .int .i64 x0.b, .int .i64 x0.p, .int .i64 x0.h, .int .i64 x0.l, .int .i64 x0.ro, .int .i64 x0.wa, .bool x0.op]), (.agg #[.int .i64 r1, .int .i64 c1, .int .i64 b1, .int .i64 p1]), (.agg #[.int .i64 r1, .int .i64 c1, .int .i64 b1, .int .i64 p1]), (.int .i64 n2), (.agg #[.bool z.up, .bool z.has, .int .i64 z.r, .int .i64 z.c, .int .i64 z.b, .int .i64 z.p, .int .i64 z.h, .int .i64 z.l, .int .i64 z.ro, .int .i64 z.wa, .bool z.op])], rfl, by kernel_rfl, FE.at_, pa, FE.lt, hbf⟩
      · refine wpOp_step rfl (fun K hK => ?_)
        rw [if_pos (by kernel_rfl)]
        go_simp
        obtain ⟨y2, hy⟩ : ∃ y, y = y1.alloc (Obj.cells #[.bool false, .bool false, .int .i64 0, .int .i64 0, .int .i64 0, .int .i64 0, .int .i64 0, .int .i64 0, .int .i64 0, .int .i64 0, .bool false] 27) := ⟨_, rfl⟩
        have FP : PBox y2 y1.heap.size ⟨false, false, 0, 0, 0, 0, 0, 0, 0, 0, false⟩ := by rw [hy]; exact PBox.new y1 _ ⟨false, false, 0, 0, 0, 0, 0, 0, 0, 0, false⟩
        have kq2 : Below y1.heap.size y1 y2 := by rw [hy]; exact (Below.refl _ _).alloc (Nat.le_refl _) _
        have hb2 : Below x.heap.size x y2 := hb1.trans (kq2.mono hb1.size)
        have z2 := kq2.size
        have pa : x.heap.size ≤ y1.heap.size := by omega
        rw [← hy]
        clear hy
        generalize y1.heap.size = P at *
        refine hK _ _ ⟨hb2, ?_⟩
        clear hK K hi
        refine wpAnyH_all (rs := [3]) (by kernel_rfl) (by simp) ?_
        intro i hi; obtain rfl : i = 3 := by simpa using hi
        refine wpOp_step rfl (fun K hK => ?_)
        rw [if_pos (by kernel_rfl)]
        go_simp
        go_at_call 22
        refine (toV r1 c1 b1 p1 y2).mono ?_
        rintro e y3 ⟨rfl, kq3⟩
        have FP := FP.below kq3 FP.lt
        have hb3 : Below x.heap.size x y3 := hb2.trans (kq3.mono hb2.size)
        have z3 := kq3.size
        refine hK _ _ ⟨hb3, ?_⟩
        clear hK K hi
        refine wpAnyH_all (rs := [5]) (by kernel_rfl) (by simp) ?_
        intro i hi; obtain rfl : i = 5 := by simpa using hi
        refine wpOp_step rfl (fun K hK => ?_)
        rw [if_pos (by kernel_rfl)]
        go_simp
        go_at_call 16
        refine (claimS x0 r1 c1 b1 p1 n2 y3).mono ?_
        rintro e y4 ⟨rfl, kq4⟩
        rw [hz.out]
        have FP := FP.below kq4 FP.lt
        have hb4 : Below x.heap.size x y4 := hb3.trans (kq4.mono hb3.size)
        have z4 := kq4.size
        refine hK _ _ ⟨hb4, ?_⟩
        clear hK K hi
        refine wpAnyH_all (rs := [7]) (by kernel_rfl) (by simp) ?_
        intro i hi; obtain rfl : i = 7 := by simpa using hi
        refine wpOp_step rfl (fun K hK => ?_)
        rw [if_pos (by kernel_rfl)]
        have FPQ := FP
        obtain ⟨⟨t0, t1, t2, t3, t4, t5, t6, t7, t8, t9, t10⟩, ff⟩ := FP
        go_simp
        clear ff t0 t1 t2 t3 t4 t5 t6 t7 t8 t9 t10
        obtain ⟨yf, hy⟩ : ∃ y, y = (((((((((((y4.setCell ⟨P, 0, none⟩ (.bool z.up)).setCell ⟨P, 1, none⟩ (.bool z.has)).setCell ⟨P, 2, none⟩ (.int .i64 z.r)).setCell ⟨P, 3, none⟩ (.int .i64 z.c)).setCell ⟨P, 4, none⟩ (.int .i64 z.b)).setCell ⟨P, 5, none⟩ (.int .i64 z.p)).setCell ⟨P, 6, none⟩ (.int .i64 z.h)).setCell ⟨P, 7, none⟩ (.int .i64 z.l)).setCell ⟨P, 8, none⟩ (.int .i64 z.ro)).setCell ⟨P, 9, none⟩ (.int .i64 z.wa)).setCell ⟨P, 10, none⟩ (.bool z.op)) := ⟨_, rfl⟩
        have FE : PBox yf P z := by rw [hy]; exact (((((((((((FPQ.set0 z.up).set1 z.has).set2 z.r).set3 z.c).set4 z.b).set5 z.p).set6 z.h).set7 z.l).set8 z.ro).set9 z.wa).set10 z.op)
        have hbf : Below x.heap.size x yf := by rw [hy]; exact (((((((((((hb4.setCell (by show _ ≤ P; omega) _).setCell (by show _ ≤ P; omega) _).setCell (by show _ ≤ P; omega) _).setCell (by show _ ≤ P; omega) _).setCell (by show _ ≤ P; omega) _).setCell (by show _ ≤ P; omega) _).setCell (by show _ ≤ P; omega) _).setCell (by show _ ≤ P; omega) _).setCell (by show _ ≤ P; omega) _).setCell (by show _ ≤ P; omega) _).setCell (by show _ ≤ P; omega) _)
        rw [← hy]
        clear hy
        refine hK _ _ ⟨hbf, ?_⟩
        clear hK K hi
        refine wpAnyH_done (by kernel_rfl) ?_ _
        exact hT.out _ _ ⟨P, [(.agg #[.bool x0.up, .bool x0.has, .int .i64 x0.r, .int .i64 x0.c, .int .i64 x0.b, .int .i64 x0.p, .int .i64 x0.h, .int .i64 x0.l, .int .i64 x0.ro, .int .i64 x0.wa, .bool x0.op]), (.agg #[.bool x0.up, .bool x0.has, .int .i64 x0.r, .int .i64 x0.c, .int .i64 x0.b, .int .i64 x0.p, .int .i64 x0.h, .int .i64 x0.l, .int .i64 x0.ro, .int .i64 x0.wa, .bool x0.op]), (.agg #[.int .i64 r1, .int .i64 c1, .int .i64 b1, .int .i64 p1]), (.agg #[.int .i64 r1, .int .i64 c1, .int .i64 b1, .int .i64 p1]), (.int .i64 n2), (.agg #[.bool z.up, .bool z.has, .int .i64 z.r, .int .i64 z.c, .int .i64 z.b, .int .i64 z.p, .int .i64 z.h, .int .i64 z.l, .int .i64 z.ro, .int .i64 z.wa, .bool z.op])], rfl, by kernel_rfl, FE.at_, pa, FE.lt, hbf⟩
    · refine wpOp_step rfl (fun K hK => ?_)
      rw [if_pos (by kernel_rfl)]
      go_simp
      obtain ⟨y1, hy⟩ : ∃ y, y = y0.alloc (Obj.cells #[.bool false, .bool false, .int .i64 0, .int .i64 0, .int .i64 0, .int .i64 0, .int .i64 0, .int .i64 0, .int .i64 0, .int .i64 0, .bool false] 27) := ⟨_, rfl⟩
      have FP : PBox y1 y0.heap.size ⟨false, false, 0, 0, 0, 0, 0, 0, 0, 0, false⟩ := by rw [hy]; exact PBox.new y0 _ ⟨false, false, 0, 0, 0, 0, 0, 0, 0, 0, false⟩
      have kq1 : Below y0.heap.size y0 y1 := by rw [hy]; exact (Below.refl _ _).alloc (Nat.le_refl _) _
      have hb1 : Below x.heap.size x y1 := hb0.trans (kq1.mono hb0.size)
      have z1 := kq1.size
      have pa : x.heap.size ≤ y0.heap.size := by omega
      rw [← hy]
      clear hy
      generalize y0.heap.size = P at *
      refine hK _ _ ⟨hb1, ?_⟩
      clear hK K hi
      refine wpAnyH_all (rs := [1]) (by kernel_rfl) (by simp) ?_
      intro i hi; obtain rfl : i = 1 := by simpa using hi
      refine wpOp_step rfl (fun K hK => ?_)
      rw [if_pos (by kernel_rfl)]
      go_simp
      go_at_call 21
      refine (toP x0 y1).mono ?_
      rintro e y2 ⟨rfl, kq2⟩
      have FP := FP.below kq2 FP.lt
      have hb2 : Below x.heap.size x y2 := hb1.trans (kq2.mono hb1.size)
      have z2 := kq2.size
      refine hK _ _ ⟨hb2, ?_⟩
      clear hK K hi
      refine wpAnyH_all (rs := [3]) (by kernel_rfl) (by simp) ?_
      intro i hi; obtain rfl : i = 3 := by simpa using hi
      refine wpOp_step rfl (fun K hK => ?_)
      rw [if_pos (by kernel_rfl)]
      go_simp
      go_at_call 22
      refine (toV r1 c1 b1 p1 y2).mono ?_
      rintro e y3 ⟨rfl, kq3⟩
      have FP := FP.below kq3 FP.lt
      have hb3 : Below x.heap.size x y3 := hb2.trans (kq3.mono hb2.size)
      have z3 := kq3.size
      refine hK _ _ ⟨hb3, ?_⟩
      clear hK K hi
      refine wpAnyH_all (rs := [5]) (by kernel_rfl) (by simp) ?_
      intro i hi; obtain rfl : i = 5 := by simpa using hi
      refine wpOp_step rfl (fun K hK => ?_)
      rw [if_pos (by kernel_rfl)]
      go_simp
      go_at_call 16
      refine (claimS x0 r1 c1 b1 p1 n2 y3).mono ?_
      rintro e y4 ⟨rfl, kq4⟩
      rw [hz.out]
      have FP := FP.below kq4 FP.lt
      have hb4 : Below x.heap.size x y4 := hb3.trans (kq4.mono hb3.size)
      have z4 := kq4.size
      refine hK _ _ ⟨hb4, ?_⟩
      clear hK K hi
      refine wpAnyH_all (rs := [7]) (by kernel_rfl) (by simp) ?_
      intro i hi; obtain rfl : i = 7 := by simpa using hi
      refine wpOp_step rfl (fun K hK => ?_)
      rw [if_pos (by kernel_rfl)]
      have FPQ := FP
      obtain ⟨⟨t0, t1, t2, t3, t4, t5, t6, t7, t8, t9, t10⟩, ff⟩ := FP
      go_simp
      clear ff t0 t1 t2 t3 t4 t5 t6 t7 t8 t9 t10
      obtain ⟨yf, hy⟩ : ∃ y, y = (((((((((((y4.setCell ⟨P, 0, none⟩ (.bool z.up)).setCell ⟨P, 1, none⟩ (.bool z.has)).setCell ⟨P, 2, none⟩ (.int .i64 z.r)).setCell ⟨P, 3, none⟩ (.int .i64 z.c)).setCell ⟨P, 4, none⟩ (.int .i64 z.b)).setCell ⟨P, 5, none⟩ (.int .i64 z.p)).setCell ⟨P, 6, none⟩ (.int .i64 z.h)).setCell ⟨P, 7, none⟩ (.int .i64 z.l)).setCell ⟨P, 8, none⟩ (.int .i64 z.ro)).setCell ⟨P, 9, none⟩ (.int .i64 z.wa)).setCell ⟨P, 10, none⟩ (.bool z.op)) := ⟨_, rfl⟩
      have FE : PBox yf P z := by rw [hy]; exact (((((((((((FPQ.set0 z.up).set1 z.has).set2 z.r).set3 z.c).set4 z.b).set5 z.p).set6 z.h).set7 z.l).set8 z.ro).set9 z.wa).set10 z.op)
      have hbf : Below x.heap.size x yf := by rw [hy]; exact (((((((((((hb4.setCell (by show _ ≤ P; omega) _).setCell (by show _ ≤ P; omega) _).setCell (by show _ ≤ P; omega) _).setCell (by show _ ≤ P; omega) _).setCell (by show _ ≤ P; omega) _).setCell (by show _ ≤ P; omega) _).setCell (by show _ ≤ P; omega) _).setCell (by show _ ≤ P; omega) _).setCell (by show _ ≤ P; omega) _).setCell (by show _ ≤ P; omega) _).setCell (by show _ ≤ P; omega) _)
      rw [← hy]
      clear hy
      refine hK _ _ ⟨hbf, ?_⟩
      clear hK K hi
      refine wpAnyH_done (by kernel_rfl) ?_ _
      exact hT.out _ _ ⟨P, [(.agg #[.bool x0.up, .bool x0.has, .int .i64 x0.r, .int .i64 x0.c, .int .i64 x0.b, .int .i64 x0.p, .int .i64 x0.h, .int .i64 x0.l, .int .i64 x0.ro, .int .i64 x0.wa, .bool x0.op]), (.agg #[.bool x0.up, .bool x0.has, .int .i64 x0.r, .int .i64 x0.c, .int .i64 x0.b, .int .i64 x0.p, .int .i64 x0.h, .int .i64 x0.l, .int .i64 x0.ro, .int .i64 x0.wa, .bool x0.op]), (.agg #[.int .i64 r1, .int .i64 c1, .int .i64 b1, .int .i64 p1]), (.agg #[.int .i64 r1, .int .i64 c1, .int .i64 b1, .int .i64 p1]), (.int .i64 n2), (.agg #[.bool z.up, .bool z.has, .int .i64 z.r, .int .i64 z.c, .int .i64 z.b, .int .i64 z.p, .int .i64 z.h, .int .i64 z.l, .int .i64 z.ro, .int .i64 z.wa, .bool z.op])], rfl, by kernel_rfl, FE.at_, pa, FE.lt, hbf⟩
  rintro l' xa ⟨P1, us, hul, rfl, F1, pa1, pb1, kJ1⟩
  obtain ⟨u9, us, rfl⟩ : ∃ a b, us = a :: b := List.exists_cons_of_length_eq_add_one hul
  replace hul := Nat.succ.inj hul
  obtain ⟨u10, us, rfl⟩ : ∃ a b, us = a :: b := List.exists_cons_of_length_eq_add_one hul
  replace hul := Nat.succ.inj hul
  obtain ⟨u11, us, rfl⟩ : ∃ a b, us = a :: b := List.exists_cons_of_length_eq_add_one hul
  replace hul := Nat.succ.inj hul
  obtain ⟨u12, us, rfl⟩ : ∃ a b, us = a :: b := List.exists_cons_of_length_eq_add_one hul
  replace hul := Nat.succ.inj hul
  obtain ⟨u13, us, rfl⟩ : ∃ a b, us = a :: b := List.exists_cons_of_length_eq_add_one hul
  replace hul := Nat.succ.inj hul
  obtain ⟨u14, us, rfl⟩ : ∃ a b, us = a :: b := List.exists_cons_of_length_eq_add_one hul
  replace hul := Nat.succ.inj hul
  obtain rfl : us = [] := List.eq_nil_of_length_eq_zero hul
  clear hul
  simp only [List.take, List.drop, List.cons_append, List.nil_append]
  have A0 := A0.below kJ1 (by omega)
  have A1 := A1.below kJ1 (by omega)
  have B1 := B0.trans (kJ1.mono B0.size)
  have S1 := kJ1.size
  clear kJ1 B0
  go_wp2
  refine join_region (fun l l' W' => ∃ (P : Nat) (us : List Value), us.length = 6 ∧ l' = l.take 8 ++ (.pointer (some ⟨P, 0, none⟩) :: (l.drop 9).take 6) ++ us ++ l.drop 21 ∧ PtAt W' P z ∧ xa.heap.size ≤ P ∧ P < W'.heap.size ∧ Below xa.heap.size xa W') ?_ ?_
  rotate_left
  · intro K2 hT
    refine wp_region_held (S := fun Y => Below xa.heap.size xa Y) (by kernel_rfl) ?_
    change wpAnyH _ _ _ _ _ _ _ _ (World.drew _)
    have hb0 : Below xa.heap.size xa xa.drew := (Below.refl _ _).drew
    obtain ⟨y0, hy0⟩ : ∃ y, y = xa.drew := ⟨_, rfl⟩
    rw [← hy0] at hb0 ⊢
    clear hy0
    have z0 := hb0.size
    refine takeW 0 15 (.agg #[.bool x0.up, .bool x0.has, .int .i64 x0.r, .int .i64 x0.c, .int .i64 x0.b, .int .i64 x0.p, .int .i64 x0.h, .int .i64 x0.l, .int .i64 x0.ro, .int .i64 x0.wa, .bool x0.op]) rfl rfl (by kernel_rfl) (by kernel_rfl) (by kernel_rfl) (fun _ _ _ h => h) (by kernel_rfl) (by (intro Y hSw; obtain ⟨C0, C1, C2, C3, C4, C5, C6, C7, C8, C9, C10⟩ := A0.below hSw (by omega); go_simp)) (by assumption) ?_
    simp only [List.set_cons_zero, List.set_cons_succ]
    refine takeW 2 17 (.agg #[.int .i64 r1, .int .i64 c1, .int .i64 b1, .int .i64 p1]) rfl rfl (by kernel_rfl) (by kernel_rfl) (by kernel_rfl) (fun _ _ _ h => h) (by kernel_rfl) (by (intro Y hSw; obtain ⟨C1, C2, C3, C4⟩ := A1.below hSw (by omega); go_simp)) (by assumption) ?_
    simp only [List.set_cons_zero, List.set_cons_succ]
    refine takeW 4 19 (.int .i64 n2) rfl rfl (by kernel_rfl) (by kernel_rfl) (by kernel_rfl) (fun _ _ _ h => h) (by kernel_rfl) (by (intro w hSw; go_simp)) (by assumption) ?_
    simp only [List.set_cons_zero, List.set_cons_succ]
    refine wpAnyH_all (rs := [1, 6]) (by kernel_rfl) (by simp) ?_
    intro i hi; rcases (by simpa using hi : i = 1 ∨ i = 6) with rfl | rfl
    · refine wpOp_step rfl (fun K hK => ?_)
      rw [if_pos (by kernel_rfl)]
      go_simp
      go_at_call 21
      refine (toP x0 y0).mono ?_
      rintro e y1 ⟨rfl, kq1⟩
      have hb1 : Below xa.heap.size xa y1 := hb0.trans (kq1.mono hb0.size)
      have z1 := kq1.size
      refine hK _ _ ⟨hb1, ?_⟩
      clear hK K hi
      refine wpAnyH_all (rs := [3, 6]) (by kernel_rfl) (by simp) ?_
      intro i hi; rcases (by simpa using hi : i = 3 ∨ i = 6) with rfl | rfl
      · refine wpOp_step rfl (fun K hK => ?_)
        rw [if_pos (by kernel_rfl)]
        go_simp
        go_at_call 22
        refine (toV r1 c1 b1 p1 y1).mono ?_
        rintro e y2 ⟨rfl, kq2⟩
        have hb2 : Below xa.heap.size xa y2 := hb1.trans (kq2.mono hb1.size)
        have z2 := kq2.size
        refine hK _ _ ⟨hb2, ?_⟩
        clear hK K hi
        refine wpAnyH_all (rs := [5, 6]) (by kernel_rfl) (by simp) ?_
        intro i hi; rcases (by simpa using hi : i = 5 ∨ i = 6) with rfl | rfl
        · refine wpOp_step rfl (fun K hK => ?_)
          rw [if_pos (by kernel_rfl)]
          go_simp
          go_at_call 10
          refine (claimI x0 r1 c1 b1 p1 n2 y2).mono ?_
          rintro e y3 ⟨rfl, kq3⟩
          rw [hz.out]
          have hb3 : Below xa.heap.size xa y3 := hb2.trans (kq3.mono hb2.size)
          have z3 := kq3.size
          refine hK _ _ ⟨hb3, ?_⟩
          clear hK K hi
          refine wpAnyH_all (rs := [6]) (by kernel_rfl) (by simp) ?_
          intro i hi; obtain rfl : i = 6 := by simpa using hi
          refine wpOp_step rfl (fun K hK => ?_)
          rw [if_pos (by kernel_rfl)]
          go_simp
          obtain ⟨y4, hy⟩ : ∃ y, y = y3.alloc (Obj.cells #[.bool false, .bool false, .int .i64 0, .int .i64 0, .int .i64 0, .int .i64 0, .int .i64 0, .int .i64 0, .int .i64 0, .int .i64 0, .bool false] 27) := ⟨_, rfl⟩
          have FP : PBox y4 y3.heap.size ⟨false, false, 0, 0, 0, 0, 0, 0, 0, 0, false⟩ := by rw [hy]; exact PBox.new y3 _ ⟨false, false, 0, 0, 0, 0, 0, 0, 0, 0, false⟩
          have kq4 : Below y3.heap.size y3 y4 := by rw [hy]; exact (Below.refl _ _).alloc (Nat.le_refl _) _
          have hb4 : Below xa.heap.size xa y4 := hb3.trans (kq4.mono hb3.size)
          have z4 := kq4.size
          have pa : xa.heap.size ≤ y3.heap.size := by omega
          rw [← hy]
          clear hy
          generalize y3.heap.size = P at *
          refine hK _ _ ⟨hb4, ?_⟩
          clear hK K hi
          refine wpAnyH_all (rs := [7]) (by kernel_rfl) (by simp) ?_
          intro i hi; obtain rfl : i = 7 := by simpa using hi
          refine wpOp_step rfl (fun K hK => ?_)
          rw [if_pos (by kernel_rfl)]
          have FPQ := FP
          obtain ⟨⟨t0, t1, t2, t3, t4, t5, t6, t7, t8, t9, t10⟩, ff⟩ := FP
          go_simp
          clear ff t0 t1 t2 t3 t4 t5 t6 t7 t8 t9 t10
          obtain ⟨yf, hy⟩ : ∃ y, y = (((((((((((y4.setCell ⟨P, 0, none⟩ (.bool z.up)).setCell ⟨P, 1, none⟩ (.bool z.has)).setCell ⟨P, 2, none⟩ (.int .i64 z.r)).setCell ⟨P, 3, none⟩ (.int .i64 z.c)).setCell ⟨P, 4, none⟩ (.int .i64 z.b)).setCell ⟨P, 5, none⟩ (.int .i64 z.p)).setCell ⟨P, 6, none⟩ (.int .i64 z.h)).setCell ⟨P, 7, none⟩ (.int .i64 z.l)).setCell ⟨P, 8, none⟩ (.int .i64 z.ro)).setCell ⟨P, 9, none⟩ (.int .i64 z.wa)).setCell ⟨P, 10, none⟩ (.bool z.op)) := ⟨_, rfl⟩
          have FE : PBox yf P z := by rw [hy]; exact (((((((((((FPQ.set0 z.up).set1 z.has).set2 z.r).set3 z.c).set4 z.b).set5 z.p).set6 z.h).set7 z.l).set8 z.ro).set9 z.wa).set10 z.op)
          have hbf : Below xa.heap.size xa yf := by rw [hy]; exact (((((((((((hb4.setCell (by show _ ≤ P; omega) _).setCell (by show _ ≤ P; omega) _).setCell (by show _ ≤ P; omega) _).setCell (by show _ ≤ P; omega) _).setCell (by show _ ≤ P; omega) _).setCell (by show _ ≤ P; omega) _).setCell (by show _ ≤ P; omega) _).setCell (by show _ ≤ P; omega) _).setCell (by show _ ≤ P; omega) _).setCell (by show _ ≤ P; omega) _).setCell (by show _ ≤ P; omega) _)
          rw [← hy]
          clear hy
          refine hK _ _ ⟨hbf, ?_⟩
          clear hK K hi
          refine wpAnyH_done (by kernel_rfl) ?_ _
          exact hT.out _ _ ⟨P, [(.agg #[.bool x0.up, .bool x0.has, .int .i64 x0.r, .int .i64 x0.c, .int .i64 x0.b, .int .i64 x0.p, .int .i64 x0.h, .int .i64 x0.l, .int .i64 x0.ro, .int .i64 x0.wa, .bool x0.op]), (.agg #[.bool x0.up, .bool x0.has, .int .i64 x0.r, .int .i64 x0.c, .int .i64 x0.b, .int .i64 x0.p, .int .i64 x0.h, .int .i64 x0.l, .int .i64 x0.ro, .int .i64 x0.wa, .bool x0.op]), (.agg #[.int .i64 r1, .int .i64 c1, .int .i64 b1, .int .i64 p1]), (.agg #[.int .i64 r1, .int .i64 c1, .int .i64 b1, .int .i64 p1]), (.int .i64 n2), (.agg #[.bool z.up, .bool z.has, .int .i64 z.r, .int .i64 z.c, .int .i64 z.b, .int .i64 z.p, .int .i64 z.h, .int .i64 z.l, .int .i64 z.ro, .int .i64 z.wa, .bool z.op])], rfl, by kernel_rfl, FE.at_, pa, FE.lt, hbf⟩
        · refine wpOp_step rfl (fun K hK => ?_)
          rw [if_pos (by kernel_rfl)]
          go_simp
          obtain ⟨y3, hy⟩ : ∃ y, y = y2.alloc (Obj.cells #[.bool false, .bool false, .int .i64 0, .int .i64 0, .int .i64 0, .int .i64 0, .int .i64 0, .int .i64 0, .int .i64 0, .int .i64 0, .bool false] 27) := ⟨_, rfl⟩
          have FP : PBox y3 y2.heap.size ⟨false, false, 0, 0, 0, 0, 0, 0, 0, 0, false⟩ := by rw [hy]; exact PBox.new y2 _ ⟨false, false, 0, 0, 0, 0, 0, 0, 0, 0, false⟩
          have kq3 : Below y2.heap.size y2 y3 := by rw [hy]; exact (Below.refl _ _).alloc (Nat.le_refl _) _
          have hb3 : Below xa.heap.size xa y3 := hb2.trans (kq3.mono hb2.size)
          have z3 := kq3.size
          have pa : xa.heap.size ≤ y2.heap.size := by omega
          rw [← hy]
          clear hy
          generalize y2.heap.size = P at *
          refine hK _ _ ⟨hb3, ?_⟩
          clear hK K hi
          refine wpAnyH_all (rs := [5]) (by kernel_rfl) (by simp) ?_
          intro i hi; obtain rfl : i = 5 := by simpa using hi
          refine wpOp_step rfl (fun K hK => ?_)
          rw [if_pos (by kernel_rfl)]
          go_simp
          go_at_call 10
          refine (claimI x0 r1 c1 b1 p1 n2 y3).mono ?_
          rintro e y4 ⟨rfl, kq4⟩
          rw [hz.out]
          have FP := FP.below kq4 FP.lt
          have hb4 : Below xa.heap.size xa y4 := hb3.trans (kq4.mono hb3.size)
          have z4 := kq4.size
          refine hK _ _ ⟨hb4, ?_⟩
          clear hK K hi
          refine wpAnyH_all (rs := [7]) (by kernel_rfl) (by simp) ?_
          intro i hi; obtain rfl : i = 7 := by simpa using hi
          refine wpOp_step rfl (fun K hK => ?_)
          rw [if_pos (by kernel_rfl)]
          have FPQ := FP
          obtain ⟨⟨t0, t1, t2, t3, t4, t5, t6, t7, t8, t9, t10⟩, ff⟩ := FP
          go_simp
          clear ff t0 t1 t2 t3 t4 t5 t6 t7 t8 t9 t10
          obtain ⟨yf, hy⟩ : ∃ y, y = (((((((((((y4.setCell ⟨P, 0, none⟩ (.bool z.up)).setCell ⟨P, 1, none⟩ (.bool z.has)).setCell ⟨P, 2, none⟩ (.int .i64 z.r)).setCell ⟨P, 3, none⟩ (.int .i64 z.c)).setCell ⟨P, 4, none⟩ (.int .i64 z.b)).setCell ⟨P, 5, none⟩ (.int .i64 z.p)).setCell ⟨P, 6, none⟩ (.int .i64 z.h)).setCell ⟨P, 7, none⟩ (.int .i64 z.l)).setCell ⟨P, 8, none⟩ (.int .i64 z.ro)).setCell ⟨P, 9, none⟩ (.int .i64 z.wa)).setCell ⟨P, 10, none⟩ (.bool z.op)) := ⟨_, rfl⟩
          have FE : PBox yf P z := by rw [hy]; exact (((((((((((FPQ.set0 z.up).set1 z.has).set2 z.r).set3 z.c).set4 z.b).set5 z.p).set6 z.h).set7 z.l).set8 z.ro).set9 z.wa).set10 z.op)
          have hbf : Below xa.heap.size xa yf := by rw [hy]; exact (((((((((((hb4.setCell (by show _ ≤ P; omega) _).setCell (by show _ ≤ P; omega) _).setCell (by show _ ≤ P; omega) _).setCell (by show _ ≤ P; omega) _).setCell (by show _ ≤ P; omega) _).setCell (by show _ ≤ P; omega) _).setCell (by show _ ≤ P; omega) _).setCell (by show _ ≤ P; omega) _).setCell (by show _ ≤ P; omega) _).setCell (by show _ ≤ P; omega) _).setCell (by show _ ≤ P; omega) _)
          rw [← hy]
          clear hy
          refine hK _ _ ⟨hbf, ?_⟩
          clear hK K hi
          refine wpAnyH_done (by kernel_rfl) ?_ _
          exact hT.out _ _ ⟨P, [(.agg #[.bool x0.up, .bool x0.has, .int .i64 x0.r, .int .i64 x0.c, .int .i64 x0.b, .int .i64 x0.p, .int .i64 x0.h, .int .i64 x0.l, .int .i64 x0.ro, .int .i64 x0.wa, .bool x0.op]), (.agg #[.bool x0.up, .bool x0.has, .int .i64 x0.r, .int .i64 x0.c, .int .i64 x0.b, .int .i64 x0.p, .int .i64 x0.h, .int .i64 x0.l, .int .i64 x0.ro, .int .i64 x0.wa, .bool x0.op]), (.agg #[.int .i64 r1, .int .i64 c1, .int .i64 b1, .int .i64 p1]), (.agg #[.int .i64 r1, .int .i64 c1, .int .i64 b1, .int .i64 p1]), (.int .i64 n2), (.agg #[.bool z.up, .bool z.has, .int .i64 z.r, .int .i64 z.c, .int .i64 z.b, .int .i64 z.p, .int .i64 z.h, .int .i64 z.l, .int .i64 z.ro, .int .i64 z.wa, .bool z.op])], rfl, by kernel_rfl, FE.at_, pa, FE.lt, hbf⟩
      · refine wpOp_step rfl (fun K hK => ?_)
        rw [if_pos (by kernel_rfl)]
        go_simp
        obtain ⟨y2, hy⟩ : ∃ y, y = y1.alloc (Obj.cells #[.bool false, .bool false, .int .i64 0, .int .i64 0, .int .i64 0, .int .i64 0, .int .i64 0, .int .i64 0, .int .i64 0, .int .i64 0, .bool false] 27) := ⟨_, rfl⟩
        have FP : PBox y2 y1.heap.size ⟨false, false, 0, 0, 0, 0, 0, 0, 0, 0, false⟩ := by rw [hy]; exact PBox.new y1 _ ⟨false, false, 0, 0, 0, 0, 0, 0, 0, 0, false⟩
        have kq2 : Below y1.heap.size y1 y2 := by rw [hy]; exact (Below.refl _ _).alloc (Nat.le_refl _) _
        have hb2 : Below xa.heap.size xa y2 := hb1.trans (kq2.mono hb1.size)
        have z2 := kq2.size
        have pa : xa.heap.size ≤ y1.heap.size := by omega
        rw [← hy]
        clear hy
        generalize y1.heap.size = P at *
        refine hK _ _ ⟨hb2, ?_⟩
        clear hK K hi
        refine wpAnyH_all (rs := [3]) (by kernel_rfl) (by simp) ?_
        intro i hi; obtain rfl : i = 3 := by simpa using hi
        refine wpOp_step rfl (fun K hK => ?_)
        rw [if_pos (by kernel_rfl)]
        go_simp
        go_at_call 22
        refine (toV r1 c1 b1 p1 y2).mono ?_
        rintro e y3 ⟨rfl, kq3⟩
        have FP := FP.below kq3 FP.lt
        have hb3 : Below xa.heap.size xa y3 := hb2.trans (kq3.mono hb2.size)
        have z3 := kq3.size
        refine hK _ _ ⟨hb3, ?_⟩
        clear hK K hi
        refine wpAnyH_all (rs := [5]) (by kernel_rfl) (by simp) ?_
        intro i hi; obtain rfl : i = 5 := by simpa using hi
        refine wpOp_step rfl (fun K hK => ?_)
        rw [if_pos (by kernel_rfl)]
        go_simp
        go_at_call 10
        refine (claimI x0 r1 c1 b1 p1 n2 y3).mono ?_
        rintro e y4 ⟨rfl, kq4⟩
        rw [hz.out]
        have FP := FP.below kq4 FP.lt
        have hb4 : Below xa.heap.size xa y4 := hb3.trans (kq4.mono hb3.size)
        have z4 := kq4.size
        refine hK _ _ ⟨hb4, ?_⟩
        clear hK K hi
        refine wpAnyH_all (rs := [7]) (by kernel_rfl) (by simp) ?_
        intro i hi; obtain rfl : i = 7 := by simpa using hi
        refine wpOp_step rfl (fun K hK => ?_)
        rw [if_pos (by kernel_rfl)]
        have FPQ := FP
        obtain ⟨⟨t0, t1, t2, t3, t4, t5, t6, t7, t8, t9, t10⟩, ff⟩ := FP
        go_simp
        clear ff t0 t1 t2 t3 t4 t5 t6 t7 t8 t9 t10
        obtain ⟨yf, hy⟩ : ∃ y, y = (((((((((((y4.setCell ⟨P, 0, none⟩ (.bool z.up)).setCell ⟨P, 1, none⟩ (.bool z.has)).setCell ⟨P, 2, none⟩ (.int .i64 z.r)).setCell ⟨P, 3, none⟩ (.int .i64 z.c)).setCell ⟨P, 4, none⟩ (.int .i64 z.b)).setCell ⟨P, 5, none⟩ (.int .i64 z.p)).setCell ⟨P, 6, none⟩ (.int .i64 z.h)).setCell ⟨P, 7, none⟩ (.int .i64 z.l)).setCell ⟨P, 8, none⟩ (.int .i64 z.ro)).setCell ⟨P, 9, none⟩ (.int .i64 z.wa)).setCell ⟨P, 10, none⟩ (.bool z.op)) := ⟨_, rfl⟩
        have FE : PBox yf P z := by rw [hy]; exact (((((((((((FPQ.set0 z.up).set1 z.has).set2 z.r).set3 z.c).set4 z.b).set5 z.p).set6 z.h).set7 z.l).set8 z.ro).set9 z.wa).set10 z.op)
        have hbf : Below xa.heap.size xa yf := by rw [hy]; exact (((((((((((hb4.setCell (by show _ ≤ P; omega) _).setCell (by show _ ≤ P; omega) _).setCell (by show _ ≤ P; omega) _).setCell (by show _ ≤ P; omega) _).setCell (by show _ ≤ P; omega) _).setCell (by show _ ≤ P; omega) _).setCell (by show _ ≤ P; omega) _).setCell (by show _ ≤ P; omega) _).setCell (by show _ ≤ P; omega) _).setCell (by show _ ≤ P; omega) _).setCell (by show _ ≤ P; omega) _)
        rw [← hy]
        clear hy
        refine hK _ _ ⟨hbf, ?_⟩
        clear hK K hi
        refine wpAnyH_done (by kernel_rfl) ?_ _
        exact hT.out _ _ ⟨P, [(.agg #[.bool x0.up, .bool x0.has, .int .i64 x0.r, .int .i64 x0.c, .int .i64 x0.b, .int .i64 x0.p, .int .i64 x0.h, .int .i64 x0.l, .int .i64 x0.ro, .int .i64 x0.wa, .bool x0.op]), (.agg #[.bool x0.up, .bool x0.has, .int .i64 x0.r, .int .i64 x0.c, .int .i64 x0.b, .int .i64 x0.p, .int .i64 x0.h, .int .i64 x0.l, .int .i64 x0.ro, .int .i64 x0.wa, .bool x0.op]), (.agg #[.int .i64 r1, .int .i64 c1, .int .i64 b1, .int .i64 p1]), (.agg #[.int .i64 r1, .int .i64 c1, .int .i64 b1, .int .i64 p1]), (.int .i64 n2), (.agg #[.bool z.up, .bool z.has, .int .i64 z.r, .int .i64 z.c, .int .i64 z.b, .int .i64 z.p, .int .i64 z.h, .int .i64 z.l, .int .i64 z.ro, .int .i64 z.wa, .bool z.op])], rfl, by kernel_rfl, FE.at_, pa, FE.lt, hbf⟩
    · refine wpOp_step rfl (fun K hK => ?_)
      rw [if_pos (by kernel_rfl)]
      go_simp
      obtain ⟨y1, hy⟩ : ∃ y, y = y0.alloc (Obj.cells #[.bool false, .bool false, .int .i64 0, .int .i64 0, .int .i64 0, .int .i64 0, .int .i64 0, .int .i64 0, .int .i64 0, .int .i64 0, .bool false] 27) := ⟨_, rfl⟩
      have FP : PBox y1 y0.heap.size ⟨false, false, 0, 0, 0, 0, 0, 0, 0, 0, false⟩ := by rw [hy]; exact PBox.new y0 _ ⟨false, false, 0, 0, 0, 0, 0, 0, 0, 0, false⟩
      have kq1 : Below y0.heap.size y0 y1 := by rw [hy]; exact (Below.refl _ _).alloc (Nat.le_refl _) _
      have hb1 : Below xa.heap.size xa y1 := hb0.trans (kq1.mono hb0.size)
      have z1 := kq1.size
      have pa : xa.heap.size ≤ y0.heap.size := by omega
      rw [← hy]
      clear hy
      generalize y0.heap.size = P at *
      refine hK _ _ ⟨hb1, ?_⟩
      clear hK K hi
      refine wpAnyH_all (rs := [1]) (by kernel_rfl) (by simp) ?_
      intro i hi; obtain rfl : i = 1 := by simpa using hi
      refine wpOp_step rfl (fun K hK => ?_)
      rw [if_pos (by kernel_rfl)]
      go_simp
      go_at_call 21
      refine (toP x0 y1).mono ?_
      rintro e y2 ⟨rfl, kq2⟩
      have FP := FP.below kq2 FP.lt
      have hb2 : Below xa.heap.size xa y2 := hb1.trans (kq2.mono hb1.size)
      have z2 := kq2.size
      refine hK _ _ ⟨hb2, ?_⟩
      clear hK K hi
      refine wpAnyH_all (rs := [3]) (by kernel_rfl) (by simp) ?_
      intro i hi; obtain rfl : i = 3 := by simpa using hi
      refine wpOp_step rfl (fun K hK => ?_)
      rw [if_pos (by kernel_rfl)]
      go_simp
      go_at_call 22
      refine (toV r1 c1 b1 p1 y2).mono ?_
      rintro e y3 ⟨rfl, kq3⟩
      have FP := FP.below kq3 FP.lt
      have hb3 : Below xa.heap.size xa y3 := hb2.trans (kq3.mono hb2.size)
      have z3 := kq3.size
      refine hK _ _ ⟨hb3, ?_⟩
      clear hK K hi
      refine wpAnyH_all (rs := [5]) (by kernel_rfl) (by simp) ?_
      intro i hi; obtain rfl : i = 5 := by simpa using hi
      refine wpOp_step rfl (fun K hK => ?_)
      rw [if_pos (by kernel_rfl)]
      go_simp
      go_at_call 10
      refine (claimI x0 r1 c1 b1 p1 n2 y3).mono ?_
      rintro e y4 ⟨rfl, kq4⟩
      rw [hz.out]
      have FP := FP.below kq4 FP.lt
      have hb4 : Below xa.heap.size xa y4 := hb3.trans (kq4.mono hb3.size)
      have z4 := kq4.size
      refine hK _ _ ⟨hb4, ?_⟩
      clear hK K hi
      refine wpAnyH_all (rs := [7]) (by kernel_rfl) (by simp) ?_
      intro i hi; obtain rfl : i = 7 := by simpa using hi
      refine wpOp_step rfl (fun K hK => ?_)
      rw [if_pos (by kernel_rfl)]
      have FPQ := FP
      obtain ⟨⟨t0, t1, t2, t3, t4, t5, t6, t7, t8, t9, t10⟩, ff⟩ := FP
      go_simp
      clear ff t0 t1 t2 t3 t4 t5 t6 t7 t8 t9 t10
      obtain ⟨yf, hy⟩ : ∃ y, y = (((((((((((y4.setCell ⟨P, 0, none⟩ (.bool z.up)).setCell ⟨P, 1, none⟩ (.bool z.has)).setCell ⟨P, 2, none⟩ (.int .i64 z.r)).setCell ⟨P, 3, none⟩ (.int .i64 z.c)).setCell ⟨P, 4, none⟩ (.int .i64 z.b)).setCell ⟨P, 5, none⟩ (.int .i64 z.p)).setCell ⟨P, 6, none⟩ (.int .i64 z.h)).setCell ⟨P, 7, none⟩ (.int .i64 z.l)).setCell ⟨P, 8, none⟩ (.int .i64 z.ro)).setCell ⟨P, 9, none⟩ (.int .i64 z.wa)).setCell ⟨P, 10, none⟩ (.bool z.op)) := ⟨_, rfl⟩
      have FE : PBox yf P z := by rw [hy]; exact (((((((((((FPQ.set0 z.up).set1 z.has).set2 z.r).set3 z.c).set4 z.b).set5 z.p).set6 z.h).set7 z.l).set8 z.ro).set9 z.wa).set10 z.op)
      have hbf : Below xa.heap.size xa yf := by rw [hy]; exact (((((((((((hb4.setCell (by show _ ≤ P; omega) _).setCell (by show _ ≤ P; omega) _).setCell (by show _ ≤ P; omega) _).setCell (by show _ ≤ P; omega) _).setCell (by show _ ≤ P; omega) _).setCell (by show _ ≤ P; omega) _).setCell (by show _ ≤ P; omega) _).setCell (by show _ ≤ P; omega) _).setCell (by show _ ≤ P; omega) _).setCell (by show _ ≤ P; omega) _).setCell (by show _ ≤ P; omega) _)
      rw [← hy]
      clear hy
      refine hK _ _ ⟨hbf, ?_⟩
      clear hK K hi
      refine wpAnyH_done (by kernel_rfl) ?_ _
      exact hT.out _ _ ⟨P, [(.agg #[.bool x0.up, .bool x0.has, .int .i64 x0.r, .int .i64 x0.c, .int .i64 x0.b, .int .i64 x0.p, .int .i64 x0.h, .int .i64 x0.l, .int .i64 x0.ro, .int .i64 x0.wa, .bool x0.op]), (.agg #[.bool x0.up, .bool x0.has, .int .i64 x0.r, .int .i64 x0.c, .int .i64 x0.b, .int .i64 x0.p, .int .i64 x0.h, .int .i64 x0.l, .int .i64 x0.ro, .int .i64 x0.wa, .bool x0.op]), (.agg #[.int .i64 r1, .int .i64 c1, .int .i64 b1, .int .i64 p1]), (.agg #[.int .i64 r1, .int .i64 c1, .int .i64 b1, .int .i64 p1]), (.int .i64 n2), (.agg #[.bool z.up, .bool z.has, .int .i64 z.r, .int .i64 z.c, .int .i64 z.b, .int .i64 z.p, .int .i64 z.h, .int .i64 z.l, .int .i64 z.ro, .int .i64 z.wa, .bool z.op])], rfl, by kernel_rfl, FE.at_, pa, FE.lt, hbf⟩
  rintro l' xb ⟨P2, us, hul, rfl, F2, pa2, pb2, kJ2⟩
  obtain ⟨u15, us, rfl⟩ : ∃ a b, us = a :: b := List.exists_cons_of_length_eq_add_one hul
  replace hul := Nat.succ.inj hul
  obtain ⟨u16, us, rfl⟩ : ∃ a b, us = a :: b := List.exists_cons_of_length_eq_add_one hul
  replace hul := Nat.succ.inj hul
  obtain ⟨u17, us, rfl⟩ : ∃ a b, us = a :: b := List.exists_cons_of_length_eq_add_one hul
  replace hul := Nat.succ.inj hul
  obtain ⟨u18, us, rfl⟩ : ∃ a b, us = a :: b := List.exists_cons_of_length_eq_add_one hul
  replace hul := Nat.succ.inj hul
  obtain ⟨u19, us, rfl⟩ : ∃ a b, us = a :: b := List.exists_cons_of_length_eq_add_one hul
  replace hul := Nat.succ.inj hul
  obtain ⟨u20, us, rfl⟩ : ∃ a b, us = a :: b := List.exists_cons_of_length_eq_add_one hul
  replace hul := Nat.succ.inj hul
  obtain rfl : us = [] := List.eq_nil_of_length_eq_zero hul
  clear hul
  simp only [List.take, List.drop, List.cons_append, List.nil_append]
  have F1 := F1.below kJ2 (by omega)
  have B2 := B1.trans (kJ2.mono B1.size)
  clear kJ2 B1 A0 A1 hz
  obtain ⟨d0, d1, d2, d3, d4, d5, d6, d7, d8, d9, d10⟩ := F1
  obtain ⟨e0, e1, e2, e3, e4, e5, e6, e7, e8, e9, e10⟩ := F2
  go_wp2_with fail
  go_at_call 23
  refine (eqP z xb).mono ?_
  rintro e w7 ⟨rfl, k7⟩
  have B7 := B2.trans (k7.mono B2.size)
  go_wp2
  go_ret
  exact ⟨rfl, B7⟩

set_option maxRecDepth 100000 in
theorem lifted (os : Os) (started : os.Started) (H : Type) (enc : TypeId × Value → H) :
    ReturnsInHanded {} Try.checked os 5 .any (Rows.fnExactClaimSpec.pre6 enc Try.prog Try.f5 Rows.fnExactClaimRow.domain false) (Rows.fnExactClaimSpec.post enc Try.prog Try.f5 false true false false) := by
  refine returnsInHanded_of_change (C := Try.checked) own started (by kernel_rfl) Try.func5
    (ChangeSpec.witness6 (enc := enc) (C := Try.checked) false ⟨#[], #[.agg #[.bool false, .bool false, .int .i64 0, .int .i64 0, .int .i64 0, .int .i64 0, .int .i64 0, .int .i64 0, .int .i64 0, .int .i64 0, .bool false], .agg #[.int .i64 0, .int .i64 0, .int .i64 0, .int .i64 0], .int .i64 0], []⟩ 8 (by kernel_rfl) (by kernel_rfl) (by kernel_rfl) (by kernel_rfl)) ?_
  intro W base args ds gs before hval0 hW hcnd _
  have hval : ∀ (j : Nat) t v, Try.f5.params[j]? = some t → args[j]? = some v → Value.okWide Try.prog W .any base t v := hval0
  have hW' := hW
  obtain ⟨p, q, hA0, hV, rfl, hfz, hnd⟩ := hW
  have hA : DataW.TrodAll enc Try.prog W 0 (fun _ => true) true Try.f5.params.toList args.toList ds p := hA0
  rw [Try.params5] at hA hval
  obtain ⟨v0, vs0, d0, ds0, q0, qq0, hargs, rfl, rfl, h0, rr0⟩ := trodAll_cons hA
  obtain ⟨v1, vs1, d1, ds1, q1, qq1, rfl, rfl, rfl, h1, rr1⟩ := trodAll_cons rr0
  obtain ⟨v2, vs2, d2, ds2, q2, qq2, rfl, rfl, rfl, h2, rr2⟩ := trodAll_cons rr1
  obtain ⟨rfl, rfl, rfl⟩ := trodAll_nil rr2
  obtain rfl : args = #[v0, v1, v2] := by cases args; simp_all
  obtain ⟨rfl, rfl⟩ := trodVars_none hV
  have lt0 : ∀ x ∈ q0, x.block < W.heap.size := by obtain ⟨m, hm⟩ := h0; exact DataW.trod_lt m _ _ _ hm
  obtain ⟨x0, rfl⟩ := portIn_open (hval 0 39 v0 rfl rfl) h0
  have lt1 : ∀ x ∈ q1, x.block < W.heap.size := by obtain ⟨m, hm⟩ := h1; exact DataW.trod_lt m _ _ _ hm
  obtain ⟨r1, c1, b1, p1, rfl, I1⟩ := vecIn_open (hval 1 37 v1 rfl rfl) h1
  have lt2 : ∀ x ∈ q2, x.block < W.heap.size := by obtain ⟨m, hm⟩ := h2; exact DataW.trod_lt m _ _ _ hm
  have g2 := h2
  obtain ⟨n2, rfl, _, _, I2⟩ := open_int Try.underlying3 (hval 2 3 v2 rfl rfl) g2
  clear hA0 hval0
  refine (walk x0 r1 c1 b1 p1 n2 W I1 I2).mono fun e W' ⟨he, bel⟩ => ?_
  subst he
  exact ⟨_, rfl, _, _, _, [], _, [], hW', trodAll_mk1 (shut_bool Try.underlying4 _), (trodAll_cons_mk (Below.trod laidOut (by kernel_rfl) (of_decide_eq_true (by kernel_rfl)) h0 bel lt0) (trodAll_cons_mk (Below.trod laidOut (by kernel_rfl) (of_decide_eq_true (by kernel_rfl)) h1 bel lt1) (trodAll_cons_mk (Below.trod laidOut (by kernel_rfl) (of_decide_eq_true (by kernel_rfl)) h2 bel lt2) trodAll_mk0))), rfl, bel.frame _, fun h => by cases h⟩

theorem over : Rows.fnExactClaimRow.holds Try.pinned (OpenSpec.ofChange Rows.fnExactClaimSpec) :=
  OpenClaim.holds_of_wide 5 Try.f5 rfl rfl rfl rfl rfl rfl rfl ⟨rfl, rfl, rfl, rfl, rfl⟩ rfl rfl rfl rfl rfl (by kernel_rfl) Try.func5 (by kernel_rfl)
    (of_decide_eq_true (by kernel_rfl)) (by unfold Func.isWrapper; first | (rw [if_pos (by decide +kernel)]; kernel_rfl) | (rw [if_neg (by decide +kernel)]; exact ⟨rfl, rfl⟩))
    (fun os started H enc _ => lifted os started H enc)

theorem proved : Rows.FnExactClaimSaid := over
end Go.Proofs.Ytnicogjnkdnhbaa.fnExactClaim
namespace Go.Proofs.Ytnicogjnkdnhbaa
theorem claim_holds : Rows.FnExactClaimSaid := fnExactClaim.proved
#print axioms claim_holds
end Go.Proofs.Ytnicogjnkdnhbaa
