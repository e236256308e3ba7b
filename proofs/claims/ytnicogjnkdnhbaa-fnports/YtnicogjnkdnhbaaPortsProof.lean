/- For every slice of bytes the call of FnPorts returns true: ports that are drawn of it claim, fade and turn as the specification says, and stay right (a slice of more than 1048576 bytes is answered true at once). -/
import Derived.Test.YtnicogjnkdnhbaaRows
import Derived.Test.YtnicogjnkdnhbaaPDraw3
import Derived.Test.YtnicogjnkdnhbaaPortMath
import Derived.Test.YtnicogjnkdnhbaaCodeIn
import Derived.Test.YtnicogjnkdnhbaaTakes
import Derived.Deep.Cut
import Derived.WalkKit
import Derived.Below
import Derived.ChangeOld
import Derived.WalkSmall
import Derived.ProofKit
import Derived.OpenShut
import Derived.ShutString
import Derived.BigQuiet
namespace Go.Proofs.Ytnicogjnkdnhbaa.fnPorts
open Go.ChangeShapes Go.WideShapes Go.ChangeAt Go.RowKit
set_option linter.unusedVariables false

theorem own : ownKnob Try.prog.godebug = none := by kernel_rfl
theorem laidOut : laidOutB Try.prog = true := by kernel_rfl

set_option maxHeartbeats 32000000 in
theorem walk (ad0 : Option Addr) (len0 cap0 : Nat) (f0 : Nat → Int) (w : World) (I0 : CodeIn w ad0 len0 f0) :
    Calls Try.prog 3 #[.slice ad0 len0 cap0] w fun e w' => e = .returned (.bool true) ∧ Below w.heap.size w w' := by
  obtain ⟨lm, hv, hB, hf⟩ := I0
  by_cases hbig : 1048576 < len0
  · have hbig' : (1048576 : Int) < (len0 : Int) := by omega
    go_enter Try.func3, Try.ntmps3
    go_wp2_with fail
    go_at_call 8
    refine (bigYes ad0 len0 cap0 w hbig').mono ?_
    rintro e w1 ⟨rfl, h1⟩
    rw [h1]
    clear h1 w1 hbig
    go_wp2
    go_ret
    exact ⟨rfl, Below.refl _ _⟩
  have hC : Code0 w ad0 len0 f0 := ⟨hv, hB, by omega, hf⟩
  go_enter Try.func3, Try.ntmps3
  go_wp2_with fail
  go_at_call 8
  refine (bigNo ad0 len0 cap0 w (by omega)).mono ?_
  rintro e w1 ⟨rfl, h1⟩
  rw [h1]
  clear h1 w1 hbig hv hB hf lm
  have BW : Below w.heap.size w w := Below.refl _ _
  go_wp2_with fail
  go_at_call 9
  refine (drawCl ad0 len0 cap0 f0 w hC).mono ?_
  rintro e x1 ⟨⟨x, r, c, b, p, k, rfl⟩, kq⟩
  have BW := BW.trans (kq.mono BW.size)
  clear kq
  obtain ⟨x2, hx⟩ : ∃ y_, y_ = ((x1.alloc (Obj.cells #[.bool x.up, .bool x.has, .int .i64 x.r, .int .i64 x.c, .int .i64 x.b, .int .i64 x.p, .int .i64 x.h, .int .i64 x.l, .int .i64 x.ro, .int .i64 x.wa, .bool x.op] 27)).alloc (Obj.cells #[.int .i64 r, .int .i64 c, .int .i64 b, .int .i64 p] 25)) := ⟨_, rfl⟩
  obtain ⟨bX, hP⟩ : ∃ P_, P_ = x1.heap.size := ⟨_, rfl⟩
  have X : PtAt x2 bX x := by rw [hx, hP]; constructor <;> simp [go_sem]
  have V : VecAt x2 (bX + 1) r c b p := by rw [hx, hP]; refine ⟨?_, ?_, ?_, ?_⟩ <;> simp [go_sem]
  have kq : Below x1.heap.size x1 x2 := by rw [hx]; exact ((Below.refl _ _).alloc (Nat.le_refl _) _).alloc (by simp) _
  go_upto_region 4 with fail
  rw [← hx, ← hP]
  clear hx hP
  have BW := BW.trans (kq.mono BW.size)
  clear kq
  obtain ⟨cx0, cx1, cx2, cx3, cx4, cx5, cx6, cx7, cx8, cx9, cx10⟩ := X
  obtain ⟨cv0, cv1, cv2, cv3⟩ := V
  go_wp2_with fail
  go_at_call 10
  have X : _ := (⟨cx0, cx1, cx2, cx3, cx4, cx5, cx6, cx7, cx8, cx9, cx10⟩ : PtAt x2 _ _)
  clear cx0 cx1 cx2 cx3 cx4 cx5 cx6 cx7 cx8 cx9 cx10
  have V : VecAt x2 _ _ _ _ _ := ⟨cv0, cv1, cv2, cv3⟩
  clear cv0 cv1 cv2 cv3
  refine (claimI x r c b p k x2).mono ?_
  rintro e x3 ⟨rfl, kq⟩
  have BW := BW.trans (kq.mono BW.size)
  have X := X.below kq X.lt
  have V := V.below kq (World.block_lt_of_cell? _ _ V.1)
  clear kq
  generalize hz1 : claimR x r c b p k = z1
  replace hz1 : Hid _ := hz1
  obtain ⟨x4, hx⟩ : ∃ y_, y_ = (x3.alloc (Obj.cells #[.bool z1.up, .bool z1.has, .int .i64 z1.r, .int .i64 z1.c, .int .i64 z1.b, .int .i64 z1.p, .int .i64 z1.h, .int .i64 z1.l, .int .i64 z1.ro, .int .i64 z1.wa, .bool z1.op] 27)) := ⟨_, rfl⟩
  obtain ⟨bA, hP⟩ : ∃ P_, P_ = x3.heap.size := ⟨_, rfl⟩
  have A : PtAt x4 bA z1 := by rw [hx, hP]; constructor <;> simp [go_sem]
  have kq : Below x3.heap.size x3 x4 := by rw [hx]; exact (Below.refl _ _).alloc (Nat.le_refl _) _
  go_upto_region 5 with fail
  rw [← hx, ← hP]
  clear hx hP
  have BW := BW.trans (kq.mono BW.size)
  have X := X.below kq X.lt
  have V := V.below kq (World.block_lt_of_cell? _ _ V.1)
  clear kq
  go_wp2_with fail
  go_at_call 11
  refine (drawFa ad0 len0 cap0 f0 x4 (hC.later BW (Nat.le_refl _))).mono ?_
  rintro e x5 ⟨⟨q, rfl⟩, kq⟩
  have BW := BW.trans (kq.mono BW.size)
  have X := X.below kq X.lt
  have V := V.below kq (World.block_lt_of_cell? _ _ V.1)
  have A := A.below kq A.lt
  clear kq
  obtain ⟨x6, hx⟩ : ∃ y_, y_ = (x5.alloc (Obj.cells #[.bool q.up, .bool q.has, .int .i64 q.r, .int .i64 q.c, .int .i64 q.b, .int .i64 q.p, .int .i64 q.h, .int .i64 q.l, .int .i64 q.ro, .int .i64 q.wa, .bool q.op] 27)) := ⟨_, rfl⟩
  obtain ⟨bQ, hP⟩ : ∃ P_, P_ = x5.heap.size := ⟨_, rfl⟩
  have Q : PtAt x6 bQ q := by rw [hx, hP]; constructor <;> simp [go_sem]
  have kq : Below x5.heap.size x5 x6 := by rw [hx]; exact (Below.refl _ _).alloc (Nat.le_refl _) _
  go_upto_region 6 with fail
  rw [← hx, ← hP]
  clear hx hP
  have BW := BW.trans (kq.mono BW.size)
  have X := X.below kq X.lt
  have V := V.below kq (World.block_lt_of_cell? _ _ V.1)
  have A := A.below kq A.lt
  clear kq
  obtain ⟨cq0, cq1, cq2, cq3, cq4, cq5, cq6, cq7, cq8, cq9, cq10⟩ := Q
  go_wp2_with fail
  go_at_call 12
  have Q : _ := (⟨cq0, cq1, cq2, cq3, cq4, cq5, cq6, cq7, cq8, cq9, cq10⟩ : PtAt x6 _ _)
  clear cq0 cq1 cq2 cq3 cq4 cq5 cq6 cq7 cq8 cq9 cq10
  refine (fadeI q x6).mono ?_
  rintro e x7 ⟨rfl, kq⟩
  have BW := BW.trans (kq.mono BW.size)
  have X := X.below kq X.lt
  have V := V.below kq (World.block_lt_of_cell? _ _ V.1)
  have A := A.below kq A.lt
  have Q := Q.below kq Q.lt
  clear kq
  generalize hz2 : fadeR q = fb
  replace hz2 : Hid _ := hz2
  obtain ⟨x8, hx⟩ : ∃ y_, y_ = (x7.alloc (Obj.cells #[.bool fb.up, .bool fb.has, .int .i64 fb.r, .int .i64 fb.c, .int .i64 fb.b, .int .i64 fb.p, .int .i64 fb.h, .int .i64 fb.l, .int .i64 fb.ro, .int .i64 fb.wa, .bool fb.op] 27)) := ⟨_, rfl⟩
  obtain ⟨bB, hP⟩ : ∃ P_, P_ = x7.heap.size := ⟨_, rfl⟩
  have B : PtAt x8 bB fb := by rw [hx, hP]; constructor <;> simp [go_sem]
  have kq : Below x7.heap.size x7 x8 := by rw [hx]; exact (Below.refl _ _).alloc (Nat.le_refl _) _
  go_upto_region 7 with fail
  rw [← hx, ← hP]
  clear hx hP
  have BW := BW.trans (kq.mono BW.size)
  have X := X.below kq X.lt
  have V := V.below kq (World.block_lt_of_cell? _ _ V.1)
  have A := A.below kq A.lt
  have Q := Q.below kq Q.lt
  clear kq
  go_wp2_with fail
  go_at_call 13
  refine (drawTu ad0 len0 cap0 f0 x8 (hC.later BW (Nat.le_refl _))).mono ?_
  rintro e x9 ⟨⟨tr, role, rfl⟩, kq⟩
  have BW := BW.trans (kq.mono BW.size)
  have X := X.below kq X.lt
  have V := V.below kq (World.block_lt_of_cell? _ _ V.1)
  have A := A.below kq A.lt
  have Q := Q.below kq Q.lt
  have B := B.below kq B.lt
  clear kq
  obtain ⟨x10, hx⟩ : ∃ y_, y_ = (x9.alloc (Obj.cells #[.bool tr.up, .bool tr.has, .int .i64 tr.r, .int .i64 tr.c, .int .i64 tr.b, .int .i64 tr.p, .int .i64 tr.h, .int .i64 tr.l, .int .i64 tr.ro, .int .i64 tr.wa, .bool tr.op] 27)) := ⟨_, rfl⟩
  obtain ⟨bT, hP⟩ : ∃ P_, P_ = x9.heap.size := ⟨_, rfl⟩
  have T : PtAt x10 bT tr := by rw [hx, hP]; constructor <;> simp [go_sem]
  have kq : Below x9.heap.size x9 x10 := by rw [hx]; exact (Below.refl _ _).alloc (Nat.le_refl _) _
  go_upto_region 8 with fail
  rw [← hx, ← hP]
  clear hx hP
  have BW := BW.trans (kq.mono BW.size)
  have X := X.below kq X.lt
  have V := V.below kq (World.block_lt_of_cell? _ _ V.1)
  have A := A.below kq A.lt
  have Q := Q.below kq Q.lt
  have B := B.below kq B.lt
  clear kq
  obtain ⟨ct0, ct1, ct2, ct3, ct4, ct5, ct6, ct7, ct8, ct9, ct10⟩ := T
  go_wp2_with fail
  go_at_call 14
  have T : _ := (⟨ct0, ct1, ct2, ct3, ct4, ct5, ct6, ct7, ct8, ct9, ct10⟩ : PtAt x10 _ _)
  clear ct0 ct1 ct2 ct3 ct4 ct5 ct6 ct7 ct8 ct9 ct10
  refine (turnI tr role x10).mono ?_
  rintro e x11 ⟨rfl, kq⟩
  have BW := BW.trans (kq.mono BW.size)
  have X := X.below kq X.lt
  have V := V.below kq (World.block_lt_of_cell? _ _ V.1)
  have A := A.below kq A.lt
  have Q := Q.below kq Q.lt
  have B := B.below kq B.lt
  have T := T.below kq T.lt
  clear kq
  generalize hz3 : turnR tr role = tc
  replace hz3 : Hid _ := hz3
  obtain ⟨x12, hx⟩ : ∃ y_, y_ = (x11.alloc (Obj.cells #[.bool tc.up, .bool tc.has, .int .i64 tc.r, .int .i64 tc.c, .int .i64 tc.b, .int .i64 tc.p, .int .i64 tc.h, .int .i64 tc.l, .int .i64 tc.ro, .int .i64 tc.wa, .bool tc.op] 27)) := ⟨_, rfl⟩
  obtain ⟨bC, hP⟩ : ∃ P_, P_ = x11.heap.size := ⟨_, rfl⟩
  have C : PtAt x12 bC tc := by rw [hx, hP]; constructor <;> simp [go_sem]
  have kq : Below x11.heap.size x11 x12 := by rw [hx]; exact (Below.refl _ _).alloc (Nat.le_refl _) _
  go_upto_region 9 with fail
  rw [← hx, ← hP]
  clear hx hP
  have BW := BW.trans (kq.mono BW.size)
  have X := X.below kq X.lt
  have V := V.below kq (World.block_lt_of_cell? _ _ V.1)
  have A := A.below kq A.lt
  have Q := Q.below kq Q.lt
  have B := B.below kq B.lt
  have T := T.below kq T.lt
  clear kq
  go_wp2_with fail
  go_at_call 15
  refine (drawPo ad0 len0 cap0 f0 x12 (hC.later BW (Nat.le_refl _))).mono ?_
  rintro e x13 ⟨⟨o, rfl⟩, kq⟩
  have BW := BW.trans (kq.mono BW.size)
  have X := X.below kq X.lt
  have V := V.below kq (World.block_lt_of_cell? _ _ V.1)
  have A := A.below kq A.lt
  have Q := Q.below kq Q.lt
  have B := B.below kq B.lt
  have T := T.below kq T.lt
  have C := C.below kq C.lt
  clear kq
  obtain ⟨x14, hx⟩ : ∃ y_, y_ = (x13.alloc (Obj.cells #[.bool o.up, .bool o.has, .int .i64 o.r, .int .i64 o.c, .int .i64 o.b, .int .i64 o.p, .int .i64 o.h, .int .i64 o.l, .int .i64 o.ro, .int .i64 o.wa, .bool o.op] 27)) := ⟨_, rfl⟩
  obtain ⟨bO, hP⟩ : ∃ P_, P_ = x13.heap.size := ⟨_, rfl⟩
  have O : PtAt x14 bO o := by rw [hx, hP]; constructor <;> simp [go_sem]
  have kq : Below x13.heap.size x13 x14 := by rw [hx]; exact (Below.refl _ _).alloc (Nat.le_refl _) _
  go_upto_region 10 with fail
  rw [← hx, ← hP]
  clear hx hP
  have BW := BW.trans (kq.mono BW.size)
  have X := X.below kq X.lt
  have V := V.below kq (World.block_lt_of_cell? _ _ V.1)
  have A := A.below kq A.lt
  have Q := Q.below kq Q.lt
  have B := B.below kq B.lt
  have T := T.below kq T.lt
  have C := C.below kq C.lt
  clear kq
  clear hC
  refine wp_region_held (S := fun Y => Below x14.heap.size x14 Y) (by kernel_rfl) ?_
  change wpAnyH _ _ _ _ _ _ _ _ (World.drew _)
  have hb0 : Below x14.heap.size x14 x14.drew := (Below.refl _ _).drew
  obtain ⟨y0, hy0⟩ : ∃ y, y = x14.drew := ⟨_, rfl⟩
  rw [← hy0] at hb0 ⊢
  clear hy0
  refine takeW 0 39 (.agg #[.bool z1.up, .bool z1.has, .int .i64 z1.r, .int .i64 z1.c, .int .i64 z1.b, .int .i64 z1.p, .int .i64 z1.h, .int .i64 z1.l, .int .i64 z1.ro, .int .i64 z1.wa, .bool z1.op]) rfl rfl (by kernel_rfl) (by kernel_rfl) (by kernel_rfl) (fun _ _ _ h => h) (by kernel_rfl) (by (intro Y hSw; obtain ⟨C0, C1, C2, C3, C4, C5, C6, C7, C8, C9, C10⟩ := A.below hSw A.lt; go_simp)) (by assumption) ?_
  simp only [List.set_cons_zero, List.set_cons_succ]
  refine takeW 1 40 (.agg #[.bool x.up, .bool x.has, .int .i64 x.r, .int .i64 x.c, .int .i64 x.b, .int .i64 x.p, .int .i64 x.h, .int .i64 x.l, .int .i64 x.ro, .int .i64 x.wa, .bool x.op]) rfl rfl (by kernel_rfl) (by kernel_rfl) (by kernel_rfl) (fun _ _ _ h => h) (by kernel_rfl) (by (intro Y hSw; obtain ⟨C0, C1, C2, C3, C4, C5, C6, C7, C8, C9, C10⟩ := X.below hSw X.lt; go_simp)) (by assumption) ?_
  simp only [List.set_cons_zero, List.set_cons_succ]
  refine takeW 2 41 (.agg #[.int .i64 r, .int .i64 c, .int .i64 b, .int .i64 p]) rfl rfl (by kernel_rfl) (by kernel_rfl) (by kernel_rfl) (fun _ _ _ h => h) (by kernel_rfl) (by (intro Y hSw; obtain ⟨C0, C1, C2, C3⟩ := V.below hSw (World.block_lt_of_cell? _ _ V.1); go_simp)) (by assumption) ?_
  simp only [List.set_cons_zero, List.set_cons_succ]
  refine takeW 3 42 (.int .i64 k) rfl rfl (by kernel_rfl) (by kernel_rfl) (by kernel_rfl) (fun _ _ _ h => h) (by kernel_rfl) (by (intro w hSw; go_simp)) (by assumption) ?_
  simp only [List.set_cons_zero, List.set_cons_succ]
  refine wpAnyH_all (rs := [4]) (by kernel_rfl) (by simp) ?_
  intro i hi; obtain rfl : i = 4 := by simpa using hi
  refine wpOp_step rfl (fun K hK => ?_)
  rw [if_pos (by kernel_rfl)]
  go_simp
  go_at_call 16
  refine (claimS x r c b p k y0).mono ?_
  rintro e y1 ⟨rfl, kq⟩
  rw [hz1.out]
  have hb1 : Below x14.heap.size x14 y1 := hb0.trans (kq.mono hb0.size)
  clear kq
  refine hK _ _ ⟨hb1, ?_⟩
  clear hK K hi
  refine takeW 5 44 (.bool false) rfl rfl (by kernel_rfl) (by kernel_rfl) (by kernel_rfl) (fun _ _ _ h => h) (by kernel_rfl) (by (intro w hSw; go_simp)) (by assumption) ?_
  simp only [List.set_cons_zero, List.set_cons_succ]
  refine takeW 6 45 (.bool false) rfl rfl (by kernel_rfl) (by kernel_rfl) (by kernel_rfl) (fun _ _ _ h => h) (by kernel_rfl) (by (intro w hSw; go_simp)) (by assumption) ?_
  simp only [List.set_cons_zero, List.set_cons_succ]
  refine takeW 7 46 (.agg #[.bool fb.up, .bool fb.has, .int .i64 fb.r, .int .i64 fb.c, .int .i64 fb.b, .int .i64 fb.p, .int .i64 fb.h, .int .i64 fb.l, .int .i64 fb.ro, .int .i64 fb.wa, .bool fb.op]) rfl rfl (by kernel_rfl) (by kernel_rfl) (by kernel_rfl) (fun _ _ _ h => h) (by kernel_rfl) (by (intro Y hSw; obtain ⟨C0, C1, C2, C3, C4, C5, C6, C7, C8, C9, C10⟩ := B.below hSw B.lt; go_simp)) (by assumption) ?_
  simp only [List.set_cons_zero, List.set_cons_succ]
  refine takeW 8 47 (.agg #[.bool q.up, .bool q.has, .int .i64 q.r, .int .i64 q.c, .int .i64 q.b, .int .i64 q.p, .int .i64 q.h, .int .i64 q.l, .int .i64 q.ro, .int .i64 q.wa, .bool q.op]) rfl rfl (by kernel_rfl) (by kernel_rfl) (by kernel_rfl) (fun _ _ _ h => h) (by kernel_rfl) (by (intro Y hSw; obtain ⟨C0, C1, C2, C3, C4, C5, C6, C7, C8, C9, C10⟩ := Q.below hSw Q.lt; go_simp)) (by assumption) ?_
  simp only [List.set_cons_zero, List.set_cons_succ]
  refine wpAnyH_all (rs := [9]) (by kernel_rfl) (by simp) ?_
  intro i hi; obtain rfl : i = 9 := by simpa using hi
  refine wpOp_step rfl (fun K hK => ?_)
  rw [if_pos (by kernel_rfl)]
  go_simp
  go_at_call 17
  refine (fadeS q y1).mono ?_
  rintro e y2 ⟨rfl, kq⟩
  rw [hz2.out]
  have hb2 : Below x14.heap.size x14 y2 := hb1.trans (kq.mono hb1.size)
  clear kq
  refine hK _ _ ⟨hb2, ?_⟩
  clear hK K hi
  refine takeW 10 49 (.bool false) rfl rfl (by kernel_rfl) (by kernel_rfl) (by kernel_rfl) (fun _ _ _ h => h) (by kernel_rfl) (by (intro w hSw; go_simp)) (by assumption) ?_
  simp only [List.set_cons_zero, List.set_cons_succ]
  refine takeW 11 50 (.bool false) rfl rfl (by kernel_rfl) (by kernel_rfl) (by kernel_rfl) (fun _ _ _ h => h) (by kernel_rfl) (by (intro w hSw; go_simp)) (by assumption) ?_
  simp only [List.set_cons_zero, List.set_cons_succ]
  refine takeW 12 51 (.bool false) rfl rfl (by kernel_rfl) (by kernel_rfl) (by kernel_rfl) (fun _ _ _ h => h) (by kernel_rfl) (by (intro w hSw; go_simp)) (by assumption) ?_
  simp only [List.set_cons_zero, List.set_cons_succ]
  refine takeW 13 52 (.agg #[.bool tc.up, .bool tc.has, .int .i64 tc.r, .int .i64 tc.c, .int .i64 tc.b, .int .i64 tc.p, .int .i64 tc.h, .int .i64 tc.l, .int .i64 tc.ro, .int .i64 tc.wa, .bool tc.op]) rfl rfl (by kernel_rfl) (by kernel_rfl) (by kernel_rfl) (fun _ _ _ h => h) (by kernel_rfl) (by (intro Y hSw; obtain ⟨C0, C1, C2, C3, C4, C5, C6, C7, C8, C9, C10⟩ := C.below hSw C.lt; go_simp)) (by assumption) ?_
  simp only [List.set_cons_zero, List.set_cons_succ]
  refine takeW 14 53 (.agg #[.bool tr.up, .bool tr.has, .int .i64 tr.r, .int .i64 tr.c, .int .i64 tr.b, .int .i64 tr.p, .int .i64 tr.h, .int .i64 tr.l, .int .i64 tr.ro, .int .i64 tr.wa, .bool tr.op]) rfl rfl (by kernel_rfl) (by kernel_rfl) (by kernel_rfl) (fun _ _ _ h => h) (by kernel_rfl) (by (intro Y hSw; obtain ⟨C0, C1, C2, C3, C4, C5, C6, C7, C8, C9, C10⟩ := T.below hSw T.lt; go_simp)) (by assumption) ?_
  simp only [List.set_cons_zero, List.set_cons_succ]
  refine takeW 15 54 (.int .i64 role) rfl rfl (by kernel_rfl) (by kernel_rfl) (by kernel_rfl) (fun _ _ _ h => h) (by kernel_rfl) (by (intro w hSw; go_simp)) (by assumption) ?_
  simp only [List.set_cons_zero, List.set_cons_succ]
  refine wpAnyH_all (rs := [16]) (by kernel_rfl) (by simp) ?_
  intro i hi; obtain rfl : i = 16 := by simpa using hi
  refine wpOp_step rfl (fun K hK => ?_)
  rw [if_pos (by kernel_rfl)]
  go_simp
  go_at_call 18
  refine (turnS tr role y2).mono ?_
  rintro e y3 ⟨rfl, kq⟩
  rw [hz3.out]
  have hb3 : Below x14.heap.size x14 y3 := hb2.trans (kq.mono hb2.size)
  clear kq
  refine hK _ _ ⟨hb3, ?_⟩
  clear hK K hi
  refine takeW 17 56 (.bool false) rfl rfl (by kernel_rfl) (by kernel_rfl) (by kernel_rfl) (fun _ _ _ h => h) (by kernel_rfl) (by (intro w hSw; go_simp)) (by assumption) ?_
  simp only [List.set_cons_zero, List.set_cons_succ]
  refine takeW 18 57 (.bool false) rfl rfl (by kernel_rfl) (by kernel_rfl) (by kernel_rfl) (fun _ _ _ h => h) (by kernel_rfl) (by (intro w hSw; go_simp)) (by assumption) ?_
  simp only [List.set_cons_zero, List.set_cons_succ]
  refine takeW 19 58 (.bool false) rfl rfl (by kernel_rfl) (by kernel_rfl) (by kernel_rfl) (fun _ _ _ h => h) (by kernel_rfl) (by (intro w hSw; go_simp)) (by assumption) ?_
  simp only [List.set_cons_zero, List.set_cons_succ]
  refine takeW 20 59 (.agg #[.bool o.up, .bool o.has, .int .i64 o.r, .int .i64 o.c, .int .i64 o.b, .int .i64 o.p, .int .i64 o.h, .int .i64 o.l, .int .i64 o.ro, .int .i64 o.wa, .bool o.op]) rfl rfl (by kernel_rfl) (by kernel_rfl) (by kernel_rfl) (fun _ _ _ h => h) (by kernel_rfl) (by (intro Y hSw; obtain ⟨C0, C1, C2, C3, C4, C5, C6, C7, C8, C9, C10⟩ := O.below hSw O.lt; go_simp)) (by assumption) ?_
  simp only [List.set_cons_zero, List.set_cons_succ]
  refine takeW 22 61 (.agg #[.bool o.up, .bool o.has, .int .i64 o.r, .int .i64 o.c, .int .i64 o.b, .int .i64 o.p, .int .i64 o.h, .int .i64 o.l, .int .i64 o.ro, .int .i64 o.wa, .bool o.op]) rfl rfl (by kernel_rfl) (by kernel_rfl) (by kernel_rfl) (fun _ _ _ h => h) (by kernel_rfl) (by (intro Y hSw; obtain ⟨C0, C1, C2, C3, C4, C5, C6, C7, C8, C9, C10⟩ := O.below hSw O.lt; go_simp)) (by assumption) ?_
  simp only [List.set_cons_zero, List.set_cons_succ]
  refine wpAnyH_all (rs := [21]) (by kernel_rfl) (by simp) ?_
  intro i hi; obtain rfl : i = 21 := by simpa using hi
  refine wpOp_step rfl (fun K hK => ?_)
  rw [if_pos (by kernel_rfl)]
  go_simp
  go_at_call 19
  refine (pOkI o y3).mono ?_
  rintro e y4 ⟨rfl, kq⟩
  have hb4 : Below x14.heap.size x14 y4 := hb3.trans (kq.mono hb3.size)
  clear kq
  refine hK _ _ ⟨hb4, ?_⟩
  clear hK K hi
  refine wpAnyH_all (rs := [23]) (by kernel_rfl) (by simp) ?_
  intro i hi; obtain rfl : i = 23 := by simpa using hi
  refine wpOp_step rfl (fun K hK => ?_)
  rw [if_pos (by kernel_rfl)]
  go_simp
  go_at_call 20
  refine (pOkS o y4).mono ?_
  rintro e y5 ⟨rfl, kq⟩
  have hb5 : Below x14.heap.size x14 y5 := hb4.trans (kq.mono hb4.size)
  clear kq
  refine hK _ _ ⟨hb5, ?_⟩
  clear hK K hi
  refine takeW 24 63 (.bool false) rfl rfl (by kernel_rfl) (by kernel_rfl) (by kernel_rfl) (fun _ _ _ h => h) (by kernel_rfl) (by (intro w hSw; go_simp)) (by assumption) ?_
  simp only [List.set_cons_zero, List.set_cons_succ]
  refine takeW 25 64 (.bool false) rfl rfl (by kernel_rfl) (by kernel_rfl) (by kernel_rfl) (fun _ _ _ h => h) (by kernel_rfl) (by (intro w hSw; go_simp)) (by assumption) ?_
  simp only [List.set_cons_zero, List.set_cons_succ]
  refine wpAnyH_done (by kernel_rfl) ?_ _
  have kq := hb5
  clear hb0 hb1 hb2 hb3 hb4 hb5
  have BW := BW.trans (kq.mono BW.size)
  have X := X.below kq X.lt
  have V := V.below kq (World.block_lt_of_cell? _ _ V.1)
  have A := A.below kq A.lt
  have Q := Q.below kq Q.lt
  have B := B.below kq B.lt
  have T := T.below kq T.lt
  have C := C.below kq C.lt
  have O := O.below kq O.lt
  clear kq
  clear O V
  have hk1 : Hid (pOk x = true → pOk z1 = true) := fun h => by rw [← hz1.out]; exact claim_ok h
  have hk2 : Hid (x.has = true → z1.has = true) := fun h => by rw [← hz1.out]; exact claim_has h
  have hk3 : Hid (pOk tr = true → pOk tc = true) := fun h => by rw [← hz3.out]; exact turn_ok h
  have hk4 : Hid (¬ fb.l < q.l → fb = q) := fun h => by rw [← hz2.out] at h ⊢; exact fade_less h
  clear hz1 hz2 hz3
  obtain ⟨cx0, cx1, cx2, cx3, cx4, cx5, cx6, cx7, cx8, cx9, cx10⟩ := X
  go_wp2_with fail
  go_at_call 19
  have X : _ := (⟨cx0, cx1, cx2, cx3, cx4, cx5, cx6, cx7, cx8, cx9, cx10⟩ : PtAt y5 _ _)
  clear cx0 cx1 cx2 cx3 cx4 cx5 cx6 cx7 cx8 cx9 cx10
  refine (pOkI x y5).mono ?_
  rintro e x15 ⟨rfl, kq⟩
  have BW := BW.trans (kq.mono BW.size)
  have X := X.below kq X.lt
  have A := A.below kq A.lt
  have Q := Q.below kq Q.lt
  have B := B.below kq B.lt
  have T := T.below kq T.lt
  have C := C.below kq C.lt
  clear kq
  cases hx0 : pOk x
  · clear hx0
    obtain ⟨ct0, ct1, ct2, ct3, ct4, ct5, ct6, ct7, ct8, ct9, ct10⟩ := T
    go_wp2_with fail
    go_at_call 19
    have T : _ := (⟨ct0, ct1, ct2, ct3, ct4, ct5, ct6, ct7, ct8, ct9, ct10⟩ : PtAt x15 _ _)
    clear ct0 ct1 ct2 ct3 ct4 ct5 ct6 ct7 ct8 ct9 ct10
    refine (pOkI tr x15).mono ?_
    rintro e x16 ⟨rfl, kq⟩
    have BW := BW.trans (kq.mono BW.size)
    have X := X.below kq X.lt
    have A := A.below kq A.lt
    have Q := Q.below kq Q.lt
    have B := B.below kq B.lt
    have T := T.below kq T.lt
    have C := C.below kq C.lt
    clear kq
    cases ht : pOk tr
    · clear ht
      obtain ⟨cq0, cq1, cq2, cq3, cq4, cq5, cq6, cq7, cq8, cq9, cq10⟩ := Q
      go_wp2_with fail
      go_at_call 19
      have Q : _ := (⟨cq0, cq1, cq2, cq3, cq4, cq5, cq6, cq7, cq8, cq9, cq10⟩ : PtAt x16 _ _)
      clear cq0 cq1 cq2 cq3 cq4 cq5 cq6 cq7 cq8 cq9 cq10
      refine (pOkI q x16).mono ?_
      rintro e x17 ⟨rfl, kq⟩
      have BW := BW.trans (kq.mono BW.size)
      have X := X.below kq X.lt
      have A := A.below kq A.lt
      have Q := Q.below kq Q.lt
      have B := B.below kq B.lt
      have T := T.below kq T.lt
      have C := C.below kq C.lt
      clear kq
      generalize pOk q = po
      cases po
      · go_wp2
        go_ret
        exact ⟨rfl, BW⟩
      obtain ⟨cq0, cq1, cq2, cq3, cq4, cq5, cq6, cq7, cq8, cq9, cq10⟩ := Q
      obtain ⟨cb0, cb1, cb2, cb3, cb4, cb5, cb6, cb7, cb8, cb9, cb10⟩ := B
      by_cases hlt : fb.l < q.l
      · have dl : decide (fb.l < q.l) = true := decide_eq_true hlt
        go_wp2
        go_ret
        exact ⟨rfl, BW⟩
      have hq := hk4.out (by omega)
      clear hk4 hlt
      subst hq
      go_wp2
      go_ret
      exact ⟨rfl, BW⟩
    replace ht := hk3.out ht
    replace ht : Hid _ := ht
    obtain ⟨cc0, cc1, cc2, cc3, cc4, cc5, cc6, cc7, cc8, cc9, cc10⟩ := C
    go_wp2_with fail
    go_at_call 19
    have C : _ := (⟨cc0, cc1, cc2, cc3, cc4, cc5, cc6, cc7, cc8, cc9, cc10⟩ : PtAt x16 _ _)
    clear cc0 cc1 cc2 cc3 cc4 cc5 cc6 cc7 cc8 cc9 cc10
    refine (pOkI tc x16).mono ?_
    rintro e x17 ⟨rfl, kq⟩
    have BW := BW.trans (kq.mono BW.size)
    have X := X.below kq X.lt
    have A := A.below kq A.lt
    have Q := Q.below kq Q.lt
    have B := B.below kq B.lt
    have T := T.below kq T.lt
    have C := C.below kq C.lt
    clear kq
    rw [ht.out]
    obtain ⟨cq0, cq1, cq2, cq3, cq4, cq5, cq6, cq7, cq8, cq9, cq10⟩ := Q
    go_wp2_with fail
    go_at_call 19
    have Q : _ := (⟨cq0, cq1, cq2, cq3, cq4, cq5, cq6, cq7, cq8, cq9, cq10⟩ : PtAt x17 _ _)
    clear cq0 cq1 cq2 cq3 cq4 cq5 cq6 cq7 cq8 cq9 cq10
    refine (pOkI q x17).mono ?_
    rintro e x18 ⟨rfl, kq⟩
    have BW := BW.trans (kq.mono BW.size)
    have X := X.below kq X.lt
    have A := A.below kq A.lt
    have Q := Q.below kq Q.lt
    have B := B.below kq B.lt
    have T := T.below kq T.lt
    have C := C.below kq C.lt
    clear kq
    generalize pOk q = po
    cases po
    · go_wp2
      go_ret
      exact ⟨rfl, BW⟩
    obtain ⟨cq0, cq1, cq2, cq3, cq4, cq5, cq6, cq7, cq8, cq9, cq10⟩ := Q
    obtain ⟨cb0, cb1, cb2, cb3, cb4, cb5, cb6, cb7, cb8, cb9, cb10⟩ := B
    by_cases hlt : fb.l < q.l
    · have dl : decide (fb.l < q.l) = true := decide_eq_true hlt
      go_wp2
      go_ret
      exact ⟨rfl, BW⟩
    have hq := hk4.out (by omega)
    clear hk4 hlt
    subst hq
    go_wp2
    go_ret
    exact ⟨rfl, BW⟩
  replace hx0 := hk1.out hx0
  replace hx0 : Hid _ := hx0
  obtain ⟨ca0, ca1, ca2, ca3, ca4, ca5, ca6, ca7, ca8, ca9, ca10⟩ := A
  go_wp2_with fail
  go_at_call 19
  have A : _ := (⟨ca0, ca1, ca2, ca3, ca4, ca5, ca6, ca7, ca8, ca9, ca10⟩ : PtAt x15 _ _)
  clear ca0 ca1 ca2 ca3 ca4 ca5 ca6 ca7 ca8 ca9 ca10
  refine (pOkI z1 x15).mono ?_
  rintro e x16 ⟨rfl, kq⟩
  have BW := BW.trans (kq.mono BW.size)
  have X := X.below kq X.lt
  have A := A.below kq A.lt
  have Q := Q.below kq Q.lt
  have B := B.below kq B.lt
  have T := T.below kq T.lt
  have C := C.below kq C.lt
  clear kq
  rw [hx0.out]
  cases hh : x.has
  · obtain ⟨cx0, cx1, cx2, cx3, cx4, cx5, cx6, cx7, cx8, cx9, cx10⟩ := X
    obtain ⟨ct0, ct1, ct2, ct3, ct4, ct5, ct6, ct7, ct8, ct9, ct10⟩ := T
    go_wp2_with fail
    go_at_call 19
    have T : _ := (⟨ct0, ct1, ct2, ct3, ct4, ct5, ct6, ct7, ct8, ct9, ct10⟩ : PtAt x16 _ _)
    clear ct0 ct1 ct2 ct3 ct4 ct5 ct6 ct7 ct8 ct9 ct10
    refine (pOkI tr x16).mono ?_
    rintro e x17 ⟨rfl, kq⟩
    have BW := BW.trans (kq.mono BW.size)
    have A := A.below kq A.lt
    have Q := Q.below kq Q.lt
    have B := B.below kq B.lt
    have T := T.below kq T.lt
    have C := C.below kq C.lt
    clear kq
    cases ht : pOk tr
    · clear ht
      obtain ⟨cq0, cq1, cq2, cq3, cq4, cq5, cq6, cq7, cq8, cq9, cq10⟩ := Q
      go_wp2_with fail
      go_at_call 19
      have Q : _ := (⟨cq0, cq1, cq2, cq3, cq4, cq5, cq6, cq7, cq8, cq9, cq10⟩ : PtAt x17 _ _)
      clear cq0 cq1 cq2 cq3 cq4 cq5 cq6 cq7 cq8 cq9 cq10
      refine (pOkI q x17).mono ?_
      rintro e x18 ⟨rfl, kq⟩
      have BW := BW.trans (kq.mono BW.size)
      have A := A.below kq A.lt
      have Q := Q.below kq Q.lt
      have B := B.below kq B.lt
      have T := T.below kq T.lt
      have C := C.below kq C.lt
      clear kq
      generalize pOk q = po
      cases po
      · go_wp2
        go_ret
        exact ⟨rfl, BW⟩
      obtain ⟨cq0, cq1, cq2, cq3, cq4, cq5, cq6, cq7, cq8, cq9, cq10⟩ := Q
      obtain ⟨cb0, cb1, cb2, cb3, cb4, cb5, cb6, cb7, cb8, cb9, cb10⟩ := B
      by_cases hlt : fb.l < q.l
      · have dl : decide (fb.l < q.l) = true := decide_eq_true hlt
        go_wp2
        go_ret
        exact ⟨rfl, BW⟩
      have hq := hk4.out (by omega)
      clear hk4 hlt
      subst hq
      go_wp2
      go_ret
      exact ⟨rfl, BW⟩
    replace ht := hk3.out ht
    replace ht : Hid _ := ht
    obtain ⟨cc0, cc1, cc2, cc3, cc4, cc5, cc6, cc7, cc8, cc9, cc10⟩ := C
    go_wp2_with fail
    go_at_call 19
    have C : _ := (⟨cc0, cc1, cc2, cc3, cc4, cc5, cc6, cc7, cc8, cc9, cc10⟩ : PtAt x17 _ _)
    clear cc0 cc1 cc2 cc3 cc4 cc5 cc6 cc7 cc8 cc9 cc10
    refine (pOkI tc x17).mono ?_
    rintro e x18 ⟨rfl, kq⟩
    have BW := BW.trans (kq.mono BW.size)
    have A := A.below kq A.lt
    have Q := Q.below kq Q.lt
    have B := B.below kq B.lt
    have T := T.below kq T.lt
    have C := C.below kq C.lt
    clear kq
    rw [ht.out]
    obtain ⟨cq0, cq1, cq2, cq3, cq4, cq5, cq6, cq7, cq8, cq9, cq10⟩ := Q
    go_wp2_with fail
    go_at_call 19
    have Q : _ := (⟨cq0, cq1, cq2, cq3, cq4, cq5, cq6, cq7, cq8, cq9, cq10⟩ : PtAt x18 _ _)
    clear cq0 cq1 cq2 cq3 cq4 cq5 cq6 cq7 cq8 cq9 cq10
    refine (pOkI q x18).mono ?_
    rintro e x19 ⟨rfl, kq⟩
    have BW := BW.trans (kq.mono BW.size)
    have A := A.below kq A.lt
    have Q := Q.below kq Q.lt
    have B := B.below kq B.lt
    have T := T.below kq T.lt
    have C := C.below kq C.lt
    clear kq
    generalize pOk q = po
    cases po
    · go_wp2
      go_ret
      exact ⟨rfl, BW⟩
    obtain ⟨cq0, cq1, cq2, cq3, cq4, cq5, cq6, cq7, cq8, cq9, cq10⟩ := Q
    obtain ⟨cb0, cb1, cb2, cb3, cb4, cb5, cb6, cb7, cb8, cb9, cb10⟩ := B
    by_cases hlt : fb.l < q.l
    · have dl : decide (fb.l < q.l) = true := decide_eq_true hlt
      go_wp2
      go_ret
      exact ⟨rfl, BW⟩
    have hq := hk4.out (by omega)
    clear hk4 hlt
    subst hq
    go_wp2
    go_ret
    exact ⟨rfl, BW⟩
  have ha := hk2.out hh
  obtain ⟨cx0, cx1, cx2, cx3, cx4, cx5, cx6, cx7, cx8, cx9, cx10⟩ := X
  obtain ⟨ca0, ca1, ca2, ca3, ca4, ca5, ca6, ca7, ca8, ca9, ca10⟩ := A
  obtain ⟨ct0, ct1, ct2, ct3, ct4, ct5, ct6, ct7, ct8, ct9, ct10⟩ := T
  go_wp2_with fail
  go_at_call 19
  have T : _ := (⟨ct0, ct1, ct2, ct3, ct4, ct5, ct6, ct7, ct8, ct9, ct10⟩ : PtAt x16 _ _)
  clear ct0 ct1 ct2 ct3 ct4 ct5 ct6 ct7 ct8 ct9 ct10
  refine (pOkI tr x16).mono ?_
  rintro e x17 ⟨rfl, kq⟩
  have BW := BW.trans (kq.mono BW.size)
  have Q := Q.below kq Q.lt
  have B := B.below kq B.lt
  have T := T.below kq T.lt
  have C := C.below kq C.lt
  clear kq
  cases ht : pOk tr
  · clear ht
    obtain ⟨cq0, cq1, cq2, cq3, cq4, cq5, cq6, cq7, cq8, cq9, cq10⟩ := Q
    go_wp2_with fail
    go_at_call 19
    have Q : _ := (⟨cq0, cq1, cq2, cq3, cq4, cq5, cq6, cq7, cq8, cq9, cq10⟩ : PtAt x17 _ _)
    clear cq0 cq1 cq2 cq3 cq4 cq5 cq6 cq7 cq8 cq9 cq10
    refine (pOkI q x17).mono ?_
    rintro e x18 ⟨rfl, kq⟩
    have BW := BW.trans (kq.mono BW.size)
    have Q := Q.below kq Q.lt
    have B := B.below kq B.lt
    have T := T.below kq T.lt
    have C := C.below kq C.lt
    clear kq
    generalize pOk q = po
    cases po
    · go_wp2
      go_ret
      exact ⟨rfl, BW⟩
    obtain ⟨cq0, cq1, cq2, cq3, cq4, cq5, cq6, cq7, cq8, cq9, cq10⟩ := Q
    obtain ⟨cb0, cb1, cb2, cb3, cb4, cb5, cb6, cb7, cb8, cb9, cb10⟩ := B
    by_cases hlt : fb.l < q.l
    · have dl : decide (fb.l < q.l) = true := decide_eq_true hlt
      go_wp2
      go_ret
      exact ⟨rfl, BW⟩
    have hq := hk4.out (by omega)
    clear hk4 hlt
    subst hq
    go_wp2
    go_ret
    exact ⟨rfl, BW⟩
  replace ht := hk3.out ht
  replace ht : Hid _ := ht
  obtain ⟨cc0, cc1, cc2, cc3, cc4, cc5, cc6, cc7, cc8, cc9, cc10⟩ := C
  go_wp2_with fail
  go_at_call 19
  have C : _ := (⟨cc0, cc1, cc2, cc3, cc4, cc5, cc6, cc7, cc8, cc9, cc10⟩ : PtAt x17 _ _)
  clear cc0 cc1 cc2 cc3 cc4 cc5 cc6 cc7 cc8 cc9 cc10
  refine (pOkI tc x17).mono ?_
  rintro e x18 ⟨rfl, kq⟩
  have BW := BW.trans (kq.mono BW.size)
  have Q := Q.below kq Q.lt
  have B := B.below kq B.lt
  have T := T.below kq T.lt
  have C := C.below kq C.lt
  clear kq
  rw [ht.out]
  obtain ⟨cq0, cq1, cq2, cq3, cq4, cq5, cq6, cq7, cq8, cq9, cq10⟩ := Q
  go_wp2_with fail
  go_at_call 19
  have Q : _ := (⟨cq0, cq1, cq2, cq3, cq4, cq5, cq6, cq7, cq8, cq9, cq10⟩ : PtAt x18 _ _)
  clear cq0 cq1 cq2 cq3 cq4 cq5 cq6 cq7 cq8 cq9 cq10
  refine (pOkI q x18).mono ?_
  rintro e x19 ⟨rfl, kq⟩
  have BW := BW.trans (kq.mono BW.size)
  have Q := Q.below kq Q.lt
  have B := B.below kq B.lt
  have T := T.below kq T.lt
  have C := C.below kq C.lt
  clear kq
  generalize pOk q = po
  cases po
  · go_wp2
    go_ret
    exact ⟨rfl, BW⟩
  obtain ⟨cq0, cq1, cq2, cq3, cq4, cq5, cq6, cq7, cq8, cq9, cq10⟩ := Q
  obtain ⟨cb0, cb1, cb2, cb3, cb4, cb5, cb6, cb7, cb8, cb9, cb10⟩ := B
  by_cases hlt : fb.l < q.l
  · have dl : decide (fb.l < q.l) = true := decide_eq_true hlt
    go_wp2
    go_ret
    exact ⟨rfl, BW⟩
  have hq := hk4.out (by omega)
  clear hk4 hlt
  subst hq
  go_wp2
  go_ret
  exact ⟨rfl, BW⟩

set_option maxRecDepth 100000 in
theorem lifted (os : Os) (started : os.Started) (H : Type) (enc : TypeId × Value → H) :
    ReturnsInHanded {} Try.checked os 3 .any (Rows.fnPortsSpec.pre6 enc Try.prog Try.f3 Rows.fnPortsRow.domain false) (Rows.fnPortsSpec.post enc Try.prog Try.f3 false true false false) := by
  refine returnsInHanded_of_change (C := Try.checked) own started (by kernel_rfl) Try.func3
    (ChangeSpec.witness6 (enc := enc) (C := Try.checked) false ⟨#[], #[.slice none 0 0], []⟩ 8 (by kernel_rfl) (by kernel_rfl) (by kernel_rfl) (by kernel_rfl)) ?_
  intro W base args ds gs before hval0 hW hcnd _
  have hval : ∀ (j : Nat) t v, Try.f3.params[j]? = some t → args[j]? = some v → Value.okWide Try.prog W .any base t v := hval0
  have hW' := hW
  obtain ⟨p, q, hA0, hV, rfl, hfz, hnd⟩ := hW
  have hA : DataW.TrodAll enc Try.prog W 0 (fun _ => true) true Try.f3.params.toList args.toList ds p := hA0
  rw [Try.params3] at hA hval
  obtain ⟨v0, vs0, d0, ds0, q0, qq0, hargs, rfl, rfl, h0, rr0⟩ := trodAll_cons hA
  obtain ⟨rfl, rfl, rfl⟩ := trodAll_nil rr0
  obtain rfl : args = #[v0] := by cases args; simp_all
  obtain ⟨rfl, rfl⟩ := trodVars_none hV
  have lt0 : ∀ x ∈ q0, x.block < W.heap.size := by obtain ⟨m, hm⟩ := h0; exact DataW.trod_lt m _ _ _ hm
  obtain ⟨ad0, len0, cap0, f0, rfl, I0⟩ := codeIn_open (hval 0 22 v0 rfl rfl) h0
  clear hA0 hval0
  refine (walk ad0 len0 cap0 f0 W I0).mono fun e W' ⟨he, bel⟩ => ?_
  subst he
  exact ⟨_, rfl, _, _, _, [], _, [], hW', trodAll_mk1 (shut_bool Try.underlying4 _), (trodAll_cons_mk (Below.trod laidOut (by kernel_rfl) (of_decide_eq_true (by kernel_rfl)) h0 bel lt0) trodAll_mk0), rfl, bel.frame _, fun h => by cases h⟩

theorem over : Rows.fnPortsRow.holds Try.pinned (OpenSpec.ofChange Rows.fnPortsSpec) :=
  OpenClaim.holds_of_wide 3 Try.f3 rfl rfl rfl rfl rfl rfl rfl ⟨rfl, rfl, rfl, rfl, rfl⟩ rfl rfl rfl rfl rfl (by kernel_rfl) Try.func3 (by kernel_rfl)
    (of_decide_eq_true (by kernel_rfl)) (by unfold Func.isWrapper; first | (rw [if_pos (by decide +kernel)]; kernel_rfl) | (rw [if_neg (by decide +kernel)]; exact ⟨rfl, rfl⟩))
    (fun os started H enc _ => lifted os started H enc)

theorem proved : Rows.FnPortsSaid := over
end Go.Proofs.Ytnicogjnkdnhbaa.fnPorts
namespace Go.Proofs.Ytnicogjnkdnhbaa
theorem ports_holds : Rows.FnPortsSaid := fnPorts.proved
#print axioms ports_holds
end Go.Proofs.Ytnicogjnkdnhbaa
