/- Bpdus that are drawn. -/
import Derived.Test.YtlgcjhebbmejaaaRows
import Derived.WalkKit
import Derived.ProofKit
import Derived.OpenShut
import Derived.ShutString
import Derived.ChangeOld
import Derived.Below
import Derived.Deep.QuietTactic
import Derived.BigQuiet
import Derived.WalkSmall
import Derived.Laws.OwnMore
import Derived.WalkSpells
import Derived.WalkLawsBesides
import Derived.Deep.Cut
import Derived.Test.YtlgcjhebbmejaaaBp8
import Derived.Test.YtlgcjhebbmejaaaVecDraw
import Derived.Test.YtlgcjhebbmejaaaCodeIn
namespace Go.Proofs.Ytlgcjhebbmejaaa
open Go.ChangeShapes Go.WideShapes Go.ChangeAt Go.RowKit
open Go.ChangeMaps (open_string shut_string)
set_option linter.unusedVariables false
set_option maxRecDepth 100000

def DrewB (w : World) (cb : Nat) (ad : Option Addr) (len cap : Nat) (f : Nat → Int) (e : Ending) (w' : World) : Prop := ∃ x : Bp, e = .returned (.agg #[.bool x.ch, .bool x.ak, .bool x.ag, .bool x.le, .bool x.op, .int .i64 x.ro, .int .i64 x.r, .int .i64 x.c, .int .i64 x.b, .int .i64 x.p, .int .i64 x.h]) ∧ Src w' cb ad len cap f ∧ w.grownBy w' (some cb)
theorem BpW.grown {w w' : World} {q cb : Nat} {x : Bp} (h : BpW w q x) (g : w.grownBy w' (some cb)) (hne : q ≠ cb) : BpW w' q x := h.keep (g.block q h.lt (by simpa using hne))
theorem DV.below {w y z : World} {cb : Nat} {ad : Option Addr} {len cap : Nat} (h : DV w cb ad len cap y) (k : Below y.heap.size y z) : DV w cb ad len cap z :=
  ⟨h.cur.carry (k.block cb h.cur.lt), k.os.trans h.gr.os, k.tape.trans h.gr.tape, k.output.trans h.gr.output, Nat.le_trans h.gr.size k.size, fun j hj hn => (k.block j (Nat.lt_of_lt_of_le hj h.gr.size)).trans (h.gr.block j hj hn)⟩
set_option linter.unusedSimpArgs false in
set_option maxHeartbeats 8000000 in
theorem drawBp {cb : Nat} {ad : Option Addr} {len cap : Nat} {f : Nat → Int} (w : World) (hs : Src w cb ad len cap f) (hcb : cb < w.heap.size) :
    Calls Try.prog 33 #[.pointer (some ⟨cb, 0, none⟩)] w fun e w' => DrewB w cb ad len cap f e w' := by
  obtain ⟨R, hRe⟩ : ∃ R, R = w.heap.size := ⟨_, rfl⟩
  have hR : w.heap.size ≤ R := by omega
  have hRc : R ≠ cb := by omega
  obtain ⟨x0, hx0⟩ : ∃ y_, y_ = w.alloc (Obj.cells #[.bool false, .bool false, .bool false, .bool false, .bool false, .int .i64 0, .int .i64 0, .int .i64 0, .int .i64 0, .int .i64 0, .int .i64 0] 27) := ⟨_, rfl⟩
  have D : DV w cb ad len cap x0 := by rw [hx0]; exact (DV.start hs).alloc _
  have B : BpW x0 R bpNil := by rw [hx0, hRe]; exact BpW.new w _ bpNil
  go_enter Try.func33, Try.ntmps33
  go_wp2_with fail
  go_at_call 55
  rw [← hx0, ← hRe]
  clear hx0 hRe
  refine (drawOnce (D.src hs) 2 (by decide) (by decide)).mono ?_
  rintro e w1 ⟨bh, rfl, s_, g_⟩
  have D := D.step s_ g_
  have B := B.grown g_ hRc
  clear s_ g_
  go_wp2_with fail
  go_at_call 55
  refine (drawOnce (D.src hs) 2 (by decide) (by decide)).mono ?_
  rintro e w2 ⟨bk, rfl, s_, g_⟩
  have D := D.step s_ g_
  have B := B.grown g_ hRc
  clear s_ g_
  go_wp2_with fail
  go_at_call 55
  refine (drawOnce (D.src hs) 2 (by decide) (by decide)).mono ?_
  rintro e w3 ⟨bg, rfl, s_, g_⟩
  have D := D.step s_ g_
  have B := B.grown g_ hRc
  clear s_ g_
  go_wp2_with fail
  go_at_call 55
  refine (drawOnce (D.src hs) 2 (by decide) (by decide)).mono ?_
  rintro e w4 ⟨bl, rfl, s_, g_⟩
  have D := D.step s_ g_
  have B := B.grown g_ hRc
  clear s_ g_
  go_wp2_with fail
  go_at_call 55
  refine (drawOnce (D.src hs) 2 (by decide) (by decide)).mono ?_
  rintro e w5 ⟨bo, rfl, s_, g_⟩
  have D := D.step s_ g_
  have B := B.grown g_ hRc
  clear s_ g_
  go_wp2_with fail
  go_at_call 38
  refine (drawBelow (D.src hs) 4 (by decide) (by decide)).mono ?_
  rintro e w6 ⟨ro, rfl, r0_, r1_, s_, g_⟩
  have D := D.step s_ g_
  have B := B.grown g_ hRc
  clear s_ g_
  go_wp2_with fail
  go_at_call 56
  refine (drawR6 w6 (D.src hs) D.cur.lt).mono ?_
  rintro e w7 ⟨vr, vc, vb, vp, rfl, -, s_, g_⟩
  have D := D.step s_ g_
  have B := B.grown g_ hRc
  clear s_ g_
  go_wp2_with fail
  go_at_call 38
  refine (drawBelow (D.src hs) 9 (by decide) (by decide)).mono ?_
  rintro e w8 ⟨hp, rfl, h0_, h1_, s_, g_⟩
  have D := D.step s_ g_
  have B := B.grown g_ hRc
  clear s_ g_
  have lw8 := D.gr.size
  obtain ⟨w9, hw9⟩ : ∃ y_, y_ = w8.alloc (Obj.cells #[.bool bh, .bool bk, .bool bg, .bool bl, .bool bo, .int .i64 ro, .int .i64 vr, .int .i64 vc, .int .i64 vb, .int .i64 vp, .int .i64 hp] 27) := ⟨_, rfl⟩
  have kq : Below w8.heap.size w8 w9 := by rw [hw9]; exact below_new _
  have X : BpW w9 w8.heap.size ⟨bh, bk, bg, bl, bo, ro, vr, vc, vb, vp, hp⟩ := by rw [hw9]; exact BpW.new w8 27 ⟨bh, bk, bg, bl, bo, ro, vr, vc, vb, vp, hp⟩
  have D := D.below kq
  have lB := B.lt
  have B := B.below kq lB
  have lw := D.gr.size
  have lc : cb < w8.heap.size := Nat.lt_of_lt_of_le hcb lw8
  clear kq
  go_wp2_with fail
  go_at_call 38
  rw [← hw9]
  clear hw9
  obtain ⟨q, hq⟩ : ∃ q, q = w8.heap.size := ⟨_, rfl⟩
  rw [← hq] at X lB lc ⊢
  have lq : w.heap.size ≤ q := by omega
  clear hq
  refine (drawBelow (D.src hs) 10 (by decide) (by decide)).mono ?_
  rintro e wa ⟨t, rfl, t0_, t1_, s_, g_⟩
  have D := D.step s_ g_
  have B := B.grown g_ hRc
  have X := X.grown g_ (by omega)
  clear s_ g_
  by_cases e0 : t = 0
  · subst e0
    obtain ⟨wb, hwb⟩ : ∃ y_, y_ = wa.alloc (Obj.cells #[.int .i64 (-1), .int .i64 3, .int .i64 4] 3) := ⟨_, rfl⟩
    have kq : Below wa.heap.size wa wb := by rw [hwb]; exact below_new _
    have hg : ∀ i, i < 3 → ∃ y, wb.cell? ⟨wa.heap.size, i, none⟩ = some (.int .i64 y) ∧ True := by
      intro i hi
      rcases (by omega : i = 0 ∨ i = 1 ∨ i = 2) with rfl | rfl | rfl
      · exact ⟨-1, by rw [hwb]; simp [go_sem], trivial⟩
      · exact ⟨3, by rw [hwb]; simp [go_sem], trivial⟩
      · exact ⟨4, by rw [hwb]; simp [go_sem], trivial⟩
    have lX := X.lt
    have lC := D.cur.lt
    have D := D.below kq
    have B := B.below kq B.lt
    have X := X.below kq lX
    clear kq
    go_wp2_with fail
    go_at_call 39
    rw [← hwb]
    clear hwb
    refine (pickIntP (D.src hs) (fun _ => True) wa.heap.size 3 3 (by omega) (by decide) (by decide) hg).mono ?_
    rintro e wc ⟨z, rfl, -, s_, g_⟩
    have D := D.step s_ g_
    have B := B.grown g_ hRc
    have X := X.grown g_ (by omega)
    clear s_ g_ hg
    have x_ := X.at_.c5
    have y_ := X.fr 5
    obtain ⟨wd, hwd⟩ : ∃ y_, y_ = wc.setCell ⟨q, 5, none⟩ (.int .i64 z) := ⟨_, rfl⟩
    have D : DV w cb ad len cap wd := by rw [hwd]; exact D.set (N := q) lq hcb _
    have X := X.set5 z
    rw [← hwd] at X
    have B : BpW wd R bpNil := by rw [hwd]; exact B.keep (Below.heap_setCell _ _ _ _ (by show R ≠ q; omega))
    dsimp only at X
    obtain ⟨⟨q0, q1, q2, q3, q4, q5, q6, q7, q8, q9, q10⟩, _⟩ := X
    obtain ⟨⟨b0, b1, b2, b3, b4, b5, b6, b7, b8, b9, b10⟩, bf⟩ := B
    have f0 := bf 0
    have f1 := bf 1
    have f2 := bf 2
    have f3 := bf 3
    have f4 := bf 4
    have f5 := bf 5
    have f6 := bf 6
    have f7 := bf 7
    have f8 := bf 8
    have f9 := bf 9
    have f10 := bf 10
    clear bf
    have DZ := (((((((((((D.set (N := R) (i := 0) hR hcb (.bool bh)).set (N := R) (i := 1) hR hcb (.bool bk)).set (N := R) (i := 2) hR hcb (.bool bg)).set (N := R) (i := 3) hR hcb (.bool bl)).set (N := R) (i := 4) hR hcb (.bool bo)).set (N := R) (i := 5) hR hcb (.int .i64 z)).set (N := R) (i := 6) hR hcb (.int .i64 vr)).set (N := R) (i := 7) hR hcb (.int .i64 vc)).set (N := R) (i := 8) hR hcb (.int .i64 vb)).set (N := R) (i := 9) hR hcb (.int .i64 vp)).set (N := R) (i := 10) hR hcb (.int .i64 hp))
    clear D
    rw [hwd] at q0 b0 f0 q1 b1 f1 q2 b2 f2 q3 b3 f3 q4 b4 f4 q5 b5 f5 q6 b6 f6 q7 b7 f7 q8 b8 f8 q9 b9 f9 q10 b10 f10 DZ
    clear hwd
    go_wp2
    refine bodyPost_ret (v := .agg #[.bool bh, .bool bk, .bool bg, .bool bl, .bool bo, .int .i64 z, .int .i64 vr, .int .i64 vc, .int .i64 vb, .int .i64 vp, .int .i64 hp]) (by simp [results, Try.results33, go_sem, *]) rfl ⟨⟨bh, bk, bg, bl, bo, z, vr, vc, vb, vp, hp⟩, rfl, DZ.src hs, DZ.gr⟩
  have d0 : (t == 0) = false := by simpa using e0
  by_cases e1 : t = 1
  · subst e1
    go_wp2_with fail
    go_at_call 57
    refine (drawL6 wa (D.src hs) D.cur.lt).mono ?_
    rintro e wc ⟨ur, uc, ub, up, rfl, -, s_, g_⟩
    have D := D.step s_ g_
    have B := B.grown g_ hRc
    have X := X.grown g_ (by omega)
    clear s_ g_
    have x6 := X.at_.c6
    have y6 := X.fr 6
    have x7 := X.at_.c7
    have y7 := X.fr 7
    have x8 := X.at_.c8
    have y8 := X.fr 8
    have x9 := X.at_.c9
    have y9 := X.fr 9
    obtain ⟨wd, hwd⟩ : ∃ y_, y_ = (((wc.setCell ⟨q, 6, none⟩ (.int .i64 ur)).setCell ⟨q, 7, none⟩ (.int .i64 uc)).setCell ⟨q, 8, none⟩ (.int .i64 ub)).setCell ⟨q, 9, none⟩ (.int .i64 up) := ⟨_, rfl⟩
    have D : DV w cb ad len cap wd := by rw [hwd]; exact (((D.set (N := q) lq hcb _).set (N := q) lq hcb _).set (N := q) lq hcb _).set (N := q) lq hcb _
    have X := (((X.set6 ur).set7 uc).set8 ub).set9 up
    rw [← hwd] at X
    have B : BpW wd R bpNil := by rw [hwd]; exact (((B.keep (Below.heap_setCell _ _ _ _ (by show R ≠ q; omega))).keep (Below.heap_setCell _ _ _ _ (by show R ≠ q; omega))).keep (Below.heap_setCell _ _ _ _ (by show R ≠ q; omega))).keep (Below.heap_setCell _ _ _ _ (by show R ≠ q; omega))
    dsimp only at X
    obtain ⟨⟨q0, q1, q2, q3, q4, q5, q6, q7, q8, q9, q10⟩, _⟩ := X
    obtain ⟨⟨b0, b1, b2, b3, b4, b5, b6, b7, b8, b9, b10⟩, bf⟩ := B
    have f0 := bf 0
    have f1 := bf 1
    have f2 := bf 2
    have f3 := bf 3
    have f4 := bf 4
    have f5 := bf 5
    have f6 := bf 6
    have f7 := bf 7
    have f8 := bf 8
    have f9 := bf 9
    have f10 := bf 10
    clear bf
    have DZ := (((((((((((D.set (N := R) (i := 0) hR hcb (.bool bh)).set (N := R) (i := 1) hR hcb (.bool bk)).set (N := R) (i := 2) hR hcb (.bool bg)).set (N := R) (i := 3) hR hcb (.bool bl)).set (N := R) (i := 4) hR hcb (.bool bo)).set (N := R) (i := 5) hR hcb (.int .i64 ro)).set (N := R) (i := 6) hR hcb (.int .i64 ur)).set (N := R) (i := 7) hR hcb (.int .i64 uc)).set (N := R) (i := 8) hR hcb (.int .i64 ub)).set (N := R) (i := 9) hR hcb (.int .i64 up)).set (N := R) (i := 10) hR hcb (.int .i64 hp))
    clear D
    rw [hwd] at q0 b0 f0 q1 b1 f1 q2 b2 f2 q3 b3 f3 q4 b4 f4 q5 b5 f5 q6 b6 f6 q7 b7 f7 q8 b8 f8 q9 b9 f9 q10 b10 f10 DZ
    clear hwd
    go_wp2
    refine bodyPost_ret (v := .agg #[.bool bh, .bool bk, .bool bg, .bool bl, .bool bo, .int .i64 ro, .int .i64 ur, .int .i64 uc, .int .i64 ub, .int .i64 up, .int .i64 hp]) (by simp [results, Try.results33, go_sem, *]) rfl ⟨⟨bh, bk, bg, bl, bo, ro, ur, uc, ub, up, hp⟩, rfl, DZ.src hs, DZ.gr⟩
  have d1 : (t == 1) = false := by simpa using e1
  by_cases e2 : t = 2
  · subst e2
    obtain ⟨wb, hwb⟩ : ∃ y_, y_ = wa.alloc (Obj.cells #[.int .i64 (-1), .int .i64 8, .int .i64 9] 3) := ⟨_, rfl⟩
    have kq : Below wa.heap.size wa wb := by rw [hwb]; exact below_new _
    have hg : ∀ i, i < 3 → ∃ y, wb.cell? ⟨wa.heap.size, i, none⟩ = some (.int .i64 y) ∧ True := by
      intro i hi
      rcases (by omega : i = 0 ∨ i = 1 ∨ i = 2) with rfl | rfl | rfl
      · exact ⟨-1, by rw [hwb]; simp [go_sem], trivial⟩
      · exact ⟨8, by rw [hwb]; simp [go_sem], trivial⟩
      · exact ⟨9, by rw [hwb]; simp [go_sem], trivial⟩
    have lX := X.lt
    have lC := D.cur.lt
    have D := D.below kq
    have B := B.below kq B.lt
    have X := X.below kq lX
    clear kq
    go_wp2_with fail
    go_at_call 39
    rw [← hwb]
    clear hwb
    refine (pickIntP (D.src hs) (fun _ => True) wa.heap.size 3 3 (by omega) (by decide) (by decide) hg).mono ?_
    rintro e wc ⟨z, rfl, -, s_, g_⟩
    have D := D.step s_ g_
    have B := B.grown g_ hRc
    have X := X.grown g_ (by omega)
    clear s_ g_ hg
    have x_ := X.at_.c10
    have y_ := X.fr 10
    obtain ⟨wd, hwd⟩ : ∃ y_, y_ = wc.setCell ⟨q, 10, none⟩ (.int .i64 z) := ⟨_, rfl⟩
    have D : DV w cb ad len cap wd := by rw [hwd]; exact D.set (N := q) lq hcb _
    have X := X.set10 z
    rw [← hwd] at X
    have B : BpW wd R bpNil := by rw [hwd]; exact B.keep (Below.heap_setCell _ _ _ _ (by show R ≠ q; omega))
    dsimp only at X
    obtain ⟨⟨q0, q1, q2, q3, q4, q5, q6, q7, q8, q9, q10⟩, _⟩ := X
    obtain ⟨⟨b0, b1, b2, b3, b4, b5, b6, b7, b8, b9, b10⟩, bf⟩ := B
    have f0 := bf 0
    have f1 := bf 1
    have f2 := bf 2
    have f3 := bf 3
    have f4 := bf 4
    have f5 := bf 5
    have f6 := bf 6
    have f7 := bf 7
    have f8 := bf 8
    have f9 := bf 9
    have f10 := bf 10
    clear bf
    have DZ := (((((((((((D.set (N := R) (i := 0) hR hcb (.bool bh)).set (N := R) (i := 1) hR hcb (.bool bk)).set (N := R) (i := 2) hR hcb (.bool bg)).set (N := R) (i := 3) hR hcb (.bool bl)).set (N := R) (i := 4) hR hcb (.bool bo)).set (N := R) (i := 5) hR hcb (.int .i64 ro)).set (N := R) (i := 6) hR hcb (.int .i64 vr)).set (N := R) (i := 7) hR hcb (.int .i64 vc)).set (N := R) (i := 8) hR hcb (.int .i64 vb)).set (N := R) (i := 9) hR hcb (.int .i64 vp)).set (N := R) (i := 10) hR hcb (.int .i64 z))
    clear D
    rw [hwd] at q0 b0 f0 q1 b1 f1 q2 b2 f2 q3 b3 f3 q4 b4 f4 q5 b5 f5 q6 b6 f6 q7 b7 f7 q8 b8 f8 q9 b9 f9 q10 b10 f10 DZ
    clear hwd
    go_wp2
    refine bodyPost_ret (v := .agg #[.bool bh, .bool bk, .bool bg, .bool bl, .bool bo, .int .i64 ro, .int .i64 vr, .int .i64 vc, .int .i64 vb, .int .i64 vp, .int .i64 z]) (by simp [results, Try.results33, go_sem, *]) rfl ⟨⟨bh, bk, bg, bl, bo, ro, vr, vc, vb, vp, z⟩, rfl, DZ.src hs, DZ.gr⟩
  have d2 : (t == 2) = false := by simpa using e2
  have DZ := (((((((((((D.set (N := R) (i := 0) hR hcb (.bool bh)).set (N := R) (i := 1) hR hcb (.bool bk)).set (N := R) (i := 2) hR hcb (.bool bg)).set (N := R) (i := 3) hR hcb (.bool bl)).set (N := R) (i := 4) hR hcb (.bool bo)).set (N := R) (i := 5) hR hcb (.int .i64 ro)).set (N := R) (i := 6) hR hcb (.int .i64 vr)).set (N := R) (i := 7) hR hcb (.int .i64 vc)).set (N := R) (i := 8) hR hcb (.int .i64 vb)).set (N := R) (i := 9) hR hcb (.int .i64 vp)).set (N := R) (i := 10) hR hcb (.int .i64 hp))
  obtain ⟨⟨q0, q1, q2, q3, q4, q5, q6, q7, q8, q9, q10⟩, _⟩ := X
  obtain ⟨⟨b0, b1, b2, b3, b4, b5, b6, b7, b8, b9, b10⟩, bf⟩ := B
  have f0 := bf 0
  have f1 := bf 1
  have f2 := bf 2
  have f3 := bf 3
  have f4 := bf 4
  have f5 := bf 5
  have f6 := bf 6
  have f7 := bf 7
  have f8 := bf 8
  have f9 := bf 9
  have f10 := bf 10
  clear bf D
  go_wp2
  refine bodyPost_ret (v := .agg #[.bool bh, .bool bk, .bool bg, .bool bl, .bool bo, .int .i64 ro, .int .i64 vr, .int .i64 vc, .int .i64 vb, .int .i64 vp, .int .i64 hp]) (by simp [results, Try.results33, go_sem, *]) rfl ⟨⟨bh, bk, bg, bl, bo, ro, vr, vc, vb, vp, hp⟩, rfl, DZ.src hs, DZ.gr⟩

end Go.Proofs.Ytlgcjhebbmejaaa
