import Derived.Test.YtnpiljegdiconaaQM16
namespace Go.Proofs.Ytnpiljegdiconaa.minWalkK
open Go.RowKit
set_option linter.unusedVariables false
set_option maxHeartbeats 16000000 in
set_option maxRecDepth 100000 in
theorem walk (ad0 : Option Addr) (len0 cap0 : Nat) (f0 : Nat → Int) (w : World) (hR : BoxesDrawn) (I0 : CodeIn w ad0 len0 f0) :
  Calls Try.prog 3 #[.slice ad0 len0 cap0] w fun e w' => e = .returned (.bool true) ∧ Below w.heap.size w w' := by
 obtain ⟨lm, hv, hB, hf⟩ := I0
 by_cases hbig : 1048576 < len0
 ·
  have hbig' : (1048576 : Int) < (len0 : Int) := by omega
  go_enter Try.func3, Try.ntmps3
  go_wp2_with fail
  go_at_call 4
  refine (bigYes ad0 len0 cap0 w hbig').mono ?_
  rintro e w1 ⟨rfl, h1⟩
  rw [h1]
  clear h1 w1 hbig
  go_wp2
  go_ret
  exact ⟨rfl, Below.refl _ _⟩
 have hC : Code0 w ad0 len0 f0 := ⟨hv, hB, by omega, hf⟩
 go_enter Try.func3, Try.ntmps3
 go_wp2_with fail
 go_at_call 4
 refine (bigNo ad0 len0 cap0 w (by omega)).mono ?_
 rintro e w1 ⟨rfl, h1⟩
 rw [h1]
 clear h1 w1 hbig hv hB hf lm
 have BW : Below w.heap.size w w := Below.refl _ _
 have sw := BW.size
 go_wp2_with fail
 go_at_call 5
 refine (drawNo hR ad0 len0 cap0 f0 w (hC.later BW (Nat.le_refl _))).mono ?_
 rintro e wd1 ⟨m, a, c, x, rfl, hm, O, kq⟩
 have swd1 := kq.size
 have BW := BW.trans (kq.mono BW.size)
 clear kq
 have iO : ∀ g, (Value.slice a m.lg.length c).ownBlock = some g → w.heap.size ≤ g ∧ g < wd1.heap.size := fun g e => O.lt g e
 obtain ⟨wd2, hwd2⟩ := mk_ ((wd1.alloc (Obj.cells #[.bool m.up, .int .i64 m.li, .int .i64 m.ep, .slice a m.lg.length c, .int .i64 m.sd, .int .i64 m.ac, .int .i64 m.al] 26)).alloc (Obj.cells #[.int .i64 x.k, .int .i64 x.q, .int .i64 x.r, .int .i64 x.c, .int .i64 x.b, .int .i64 x.p, .int .i64 x.h, .bool x.up] 30))
 have AM : MiAt wd2 wd1.heap.size m (.slice a m.lg.length c) := by rw [hwd2]; constructor <;> simp [go_sem]
 have AX : InAt wd2 (wd1.heap.size + 1) x := by rw [hwd2]; constructor <;> simp [go_sem]
 have kq : Below wd1.heap.size wd1 wd2 := by rw [hwd2]; exact ((Below.refl _ _).alloc (Nat.le_refl _) _).alloc (by simp) _
 have lwd2 := AX.lt
 have swd2 := kq.size
 have O := O.later kq
 have BW := BW.trans (kq.mono BW.size)
 clear kq
 go_upto_region 4 with fail
 rw [← hwd2]
 clear hwd2
 obtain ⟨D, hD⟩ : ∃ D, noteR m x = D := ⟨_, rfl⟩
 have hDl : D.lg.length ≤ 1048576 := by rw [← hD]; exact noteR_len (by omega)
 obtain ⟨nb, hnb⟩ : ∃ b, noteB m x = b := ⟨_, rfl⟩
 replace hD : Hid _ := hD
 replace hnb : Hid _ := hnb
 have cc := AM
 obtain ⟨m0_0, m0_1, m0_2, m0_3, m0_4, m0_5, m0_6⟩ := cc
 have cc := AX
 obtain ⟨m1_0, m1_1, m1_2, m1_3, m1_4, m1_5, m1_6, m1_7⟩ := cc
 go_wp2_with fail
 go_at_call 6
 clear m0_0 m0_1 m0_2 m0_3 m0_4 m0_5 m0_6 m1_0 m1_1 m1_2 m1_3 m1_4 m1_5 m1_6 m1_7
 refine (noteI m x a c wd2 O.view.2 (by omega)).mono ?_
 rintro e wd3 ⟨aA, cA, rfl, OA, kq⟩
 have swd3 := kq.size
 have AM := AM.below kq AM.lt
 have O := O.later kq
 have AX := AX.below kq AX.lt
 have BW := BW.trans (kq.mono BW.size)
 clear kq
 rw [hD.out] at OA ⊢
 rw [hnb.out]
 have iOA : ∀ g, (Value.slice aA D.lg.length cA).ownBlock = some g → wd2.heap.size ≤ g ∧ g < wd3.heap.size := fun g e => OA.lt g e
 obtain ⟨wd4, hwd4⟩ := mk_ (wd3.alloc (Obj.cells #[.bool D.up, .int .i64 D.li, .int .i64 D.ep, .slice aA D.lg.length cA, .int .i64 D.sd, .int .i64 D.ac, .int .i64 D.al] 26))
 have AA : MiAt wd4 wd3.heap.size D (.slice aA D.lg.length cA) := by rw [hwd4]; exact MiAt.new wd3 _ _ _
 have kq : Below wd3.heap.size wd3 wd4 := by rw [hwd4]; exact below_new _
 have lwd4 := AA.lt
 have swd4 := kq.size
 have AM := AM.below kq AM.lt
 have O := O.later kq
 have OA := OA.later kq
 have AX := AX.below kq AX.lt
 have BW := BW.trans (kq.mono BW.size)
 clear kq
 go_upto_region 5 with fail
 rw [← hwd4]
 clear hwd4
 have cc := AM
 obtain ⟨m0_0, m0_1, m0_2, m0_3, m0_4, m0_5, m0_6⟩ := cc
 have cc := AX
 obtain ⟨m1_0, m1_1, m1_2, m1_3, m1_4, m1_5, m1_6, m1_7⟩ := cc
 go_wp2_with fail
 go_at_call 7
 clear m0_0 m0_1 m0_2 m0_3 m0_4 m0_5 m0_6 m1_0 m1_1 m1_2 m1_3 m1_4 m1_5 m1_6 m1_7
 refine (noteS m x a c wd4 O.view.2 (by omega) O.capn).mono ?_
 rintro e wd5 ⟨aB, cB, rfl, OB, kq⟩
 have swd5 := kq.size
 have AM := AM.below kq AM.lt
 have AA := AA.below kq AA.lt
 have O := O.later kq
 have OA := OA.later kq
 have AX := AX.below kq AX.lt
 have BW := BW.trans (kq.mono BW.size)
 clear kq
 rw [hD.out] at OB ⊢
 rw [hnb.out]
 have iOB : ∀ g, (Value.slice aB D.lg.length cB).ownBlock = some g → wd4.heap.size ≤ g ∧ g < wd5.heap.size := fun g e => OB.lt g e
 obtain ⟨wd6, hwd6⟩ := mk_ (wd5.alloc (Obj.cells #[.bool D.up, .int .i64 D.li, .int .i64 D.ep, .slice aB D.lg.length cB, .int .i64 D.sd, .int .i64 D.ac, .int .i64 D.al] 26))
 have AB : MiAt wd6 wd5.heap.size D (.slice aB D.lg.length cB) := by rw [hwd6]; exact MiAt.new wd5 _ _ _
 have kq : Below wd5.heap.size wd5 wd6 := by rw [hwd6]; exact below_new _
 have lwd6 := AB.lt
 have swd6 := kq.size
 have AM := AM.below kq AM.lt
 have AA := AA.below kq AA.lt
 have O := O.later kq
 have OA := OA.later kq
 have OB := OB.later kq
 have AX := AX.below kq AX.lt
 have BW := BW.trans (kq.mono BW.size)
 clear kq
 go_upto_region 6 with fail
 rw [← hwd6]
 clear hwd6
 go_wp2_with fail
 go_at_call 8
 refine (drawRd hR ad0 len0 cap0 f0 wd6 (hC.later BW (Nat.le_refl _))).mono ?_
 rintro e wd7 ⟨r, ar, cr, pr, rfl, hr, OR, kq⟩
 have swd7 := kq.size
 have AM := AM.below kq AM.lt
 have AA := AA.below kq AA.lt
 have AB := AB.below kq AB.lt
 have O := O.later kq
 have OA := OA.later kq
 have OB := OB.later kq
 have AX := AX.below kq AX.lt
 have BW := BW.trans (kq.mono BW.size)
 clear kq
 obtain ⟨wd8, hwd8⟩ := mk_ (wd7.alloc (Obj.cells #[.bool r.up, .int .i64 r.li, .int .i64 r.ep, .slice ar r.lg.length cr, .int .i64 r.sd, .int .i64 r.ac, .int .i64 r.al] 26))
 have AR : MiAt wd8 wd7.heap.size r (.slice ar r.lg.length cr) := by rw [hwd8]; exact MiAt.new wd7 _ _ _
 have kq : Below wd7.heap.size wd7 wd8 := by rw [hwd8]; exact below_new _
 have lwd8 := AR.lt
 have swd8 := kq.size
 have AM := AM.below kq AM.lt
 have AA := AA.below kq AA.lt
 have AB := AB.below kq AB.lt
 have O := O.later kq
 have OA := OA.later kq
 have OB := OB.later kq
 have OR := OR.later kq
 have AX := AX.below kq AX.lt
 have BW := BW.trans (kq.mono BW.size)
 clear kq
 go_upto_region 7 with fail
 rw [← hwd8]
 clear hwd8
 go_wp2_with fail
 go_at_call 9
 refine (drawMO hR ad0 len0 cap0 f0 wd8 (hC.later BW (Nat.le_refl _))).mono ?_
 rintro e wd9 ⟨o, ao, co, rfl, ho, OO, kq⟩
 have swd9 := kq.size
 have AM := AM.below kq AM.lt
 have AA := AA.below kq AA.lt
 have AB := AB.below kq AB.lt
 have AR := AR.below kq AR.lt
 have O := O.later kq
 have OA := OA.later kq
 have OB := OB.later kq
 have OR := OR.later kq
 have AX := AX.below kq AX.lt
 have BW := BW.trans (kq.mono BW.size)
 clear kq
 obtain ⟨wd10, hwd10⟩ := mk_ (wd9.alloc (Obj.cells #[.bool o.up, .int .i64 o.li, .int .i64 o.ep, .slice ao o.lg.length co, .int .i64 o.sd, .int .i64 o.ac, .int .i64 o.al] 26))
 have AO : MiAt wd10 wd9.heap.size o (.slice ao o.lg.length co) := by rw [hwd10]; exact MiAt.new wd9 _ _ _
 have kq : Below wd9.heap.size wd9 wd10 := by rw [hwd10]; exact below_new _
 have lwd10 := AO.lt
 have swd10 := kq.size
 have AM := AM.below kq AM.lt
 have AA := AA.below kq AA.lt
 have AB := AB.below kq AB.lt
 have AR := AR.below kq AR.lt
 have O := O.later kq
 have OA := OA.later kq
 have OB := OB.later kq
 have OR := OR.later kq
 have OO := OO.later kq
 have AX := AX.below kq AX.lt
 have BW := BW.trans (kq.mono BW.size)
 clear kq
 go_upto_region 8 with fail
 rw [← hwd10]
 clear hwd10
 have cc := AR
 obtain ⟨m0_0, m0_1, m0_2, m0_3, m0_4, m0_5, m0_6⟩ := cc
 go_wp2_with fail
 go_at_call 10
 clear m0_0 m0_1 m0_2 m0_3 m0_4 m0_5 m0_6
 refine (readyI r ar cr pr wd10 (by unfold maxLen; omega)).mono ?_
 rintro e wd11 ⟨rfl, kq⟩
 have swd11 := kq.size
 have AM := AM.below kq AM.lt
 have AA := AA.below kq AA.lt
 have AB := AB.below kq AB.lt
 have AR := AR.below kq AR.lt
 have AO := AO.below kq AO.lt
 have O := O.later kq
 have OA := OA.later kq
 have OB := OB.later kq
 have OR := OR.later kq
 have OO := OO.later kq
 have AX := AX.below kq AX.lt
 have BW := BW.trans (kq.mono BW.size)
 clear kq
 obtain ⟨rb, hrb⟩ : ∃ b, readyB r pr = b := ⟨_, rfl⟩
 have hri := ready_is (m := r) (p := pr)
 rw [hrb] at hri ⊢
 obtain ⟨ob, hob⟩ : ∃ b, miOk o = b := ⟨_, rfl⟩
 replace hrb : Hid _ := hrb
 replace hob : Hid _ := hob
 replace hri : Hid _ := hri
 go_upto_region 9 with fail
 refine wp_region_held (S := fun Y => Below wd11.heap.size wd11 Y) (by kernel_rfl) ?_
 change wpAnyH _ _ _ _ _ _ _ _ (World.drew _)
 have hb0 : Below wd11.heap.size wd11 wd11.drew := (Below.refl _ _).drew
 obtain ⟨u0, hy0⟩ := mk_ wd11.drew
 rw [← hy0] at hb0 ⊢
 clear hy0
 refine tw 0 42 (.bool nb) ?_
 refine tw 1 43 (.bool nb) ?_
 refine tw 2 44 (.bool false) ?_
 refine tw 3 45 (.bool false) ?_
 refine tw 4 46 (.agg #[.bool D.up, .int .i64 D.li, .int .i64 D.ep, .slice aA D.lg.length cA, .int .i64 D.sd, .int .i64 D.ac, .int .i64 D.al]) ?_ (hy := by intro Y hSw; obtain ⟨Z0, Z1, Z2, Z3, Z4, Z5, Z6⟩ := AA.below hSw AA.lt; go_simp)
 refine tw 5 47 (.agg #[.bool D.up, .int .i64 D.li, .int .i64 D.ep, .slice aB D.lg.length cB, .int .i64 D.sd, .int .i64 D.ac, .int .i64 D.al]) ?_ (hy := by intro Y hSw; obtain ⟨Z0, Z1, Z2, Z3, Z4, Z5, Z6⟩ := AB.below hSw AB.lt; go_simp)
 refine w1 6 fun Kz hKz => ?_
 go_simp
 go_at_call 11
 refine (sameMi D aA aB cA cB u0 (OA.later hb0).view.2 (OB.later hb0).view.2 hDl).mono ?_
 rintro e u1 ⟨rfl, kq⟩
 have hb1 : Below wd11.heap.size wd11 u1 := hb0.trans (kq.mono hb0.size)
 clear kq
 refine hKz _ _ ⟨hb1, ?_⟩
 clear hKz Kz
 refine tw 7 49 (.bool false) ?_
 refine tw 8 50 (.bool false) ?_
 refine tw 9 51 (.bool false) ?_
 refine tw 10 52 (.bool rb) ?_
 refine tw 11 53 (.agg #[.bool r.up, .int .i64 r.li, .int .i64 r.ep, .slice ar r.lg.length cr, .int .i64 r.sd, .int .i64 r.ac, .int .i64 r.al]) ?_ (hy := by intro Y hSw; obtain ⟨Z0, Z1, Z2, Z3, Z4, Z5, Z6⟩ := AR.below hSw AR.lt; go_simp)
 refine tw 12 54 (.int .i64 pr) ?_
 refine w1 13 fun Kz hKz => ?_
 go_simp
 go_at_call 12
 refine (readyS r ar cr pr u1 (by unfold maxLen; omega)).mono ?_
 rintro e u2 ⟨rfl, kq⟩
 have hb2 : Below wd11.heap.size wd11 u2 := hb1.trans (kq.mono hb1.size)
 clear kq
 rw [hrb.out]
 refine hKz _ _ ⟨hb2, ?_⟩
 clear hKz Kz
 refine tw 14 56 (.bool false) ?_
 refine tw 15 57 (.bool false) ?_
 refine tw 16 58 (.bool false) ?_
 refine tw 17 59 (.agg #[.bool o.up, .int .i64 o.li, .int .i64 o.ep, .slice ao o.lg.length co, .int .i64 o.sd, .int .i64 o.ac, .int .i64 o.al]) ?_ (hy := by intro Y hSw; obtain ⟨Z0, Z1, Z2, Z3, Z4, Z5, Z6⟩ := AO.below hSw AO.lt; go_simp)
 refine tw 19 61 (.agg #[.bool o.up, .int .i64 o.li, .int .i64 o.ep, .slice ao o.lg.length co, .int .i64 o.sd, .int .i64 o.ac, .int .i64 o.al]) ?_ (hy := by intro Y hSw; obtain ⟨Z0, Z1, Z2, Z3, Z4, Z5, Z6⟩ := AO.below hSw AO.lt; go_simp)
 refine w1 18 fun Kz hKz => ?_
 go_simp
 go_at_call 13
 refine (miOkI o ao co u2 (OO.later hb2).view.2 (by omega)).mono ?_
 rintro e u3 ⟨rfl, kq⟩
 have hb3 : Below wd11.heap.size wd11 u3 := hb2.trans (kq.mono hb2.size)
 clear kq
 rw [hob.out]
 refine hKz _ _ ⟨hb3, ?_⟩
 clear hKz Kz
 refine w1 20 fun Kz hKz => ?_
 go_simp
 go_at_call 14
 refine (miOkS o ao co u3 (OO.later hb3).view.2 (by omega)).mono ?_
 rintro e u4 ⟨rfl, kq⟩
 have hb4 : Below wd11.heap.size wd11 u4 := hb3.trans (kq.mono hb3.size)
 clear kq
 rw [hob.out]
 refine hKz _ _ ⟨hb4, ?_⟩
 clear hKz Kz
 refine tw 21 63 (.bool false) ?_
 refine tw 22 64 (.bool false) ?_
 refine wpAnyH_done (by kernel_rfl) ?_ _
 have su4 := hb4.size
 have AM := AM.below hb4 AM.lt
 have AA := AA.below hb4 AA.lt
 have AR := AR.below hb4 AR.lt
 have O := O.later hb4
 have OA := OA.later hb4
 have OR := OR.later hb4
 have AX := AX.below hb4 AX.lt
 have BW := BW.trans (hb4.mono BW.size)
 clear hb4
 clear hb0 hb1 hb2 hb3
 have cc := AR
 obtain ⟨r0, r1, r2, r3, r4, r5, r6⟩ := cc
 cases rb
 ·
  go_upto_region 13 with fail
  clear r0 r1 r2 r3 r4 r5 r6
  cases nb
  ·
   have e1 : D = m := by rw [← hD.out]; exact note_not hnb.out
   rw [e1] at OA AA ⊢
   clear e1
   have cc := AA
   obtain ⟨m0_0, m0_1, m0_2, m0_3, m0_4, m0_5, m0_6⟩ := cc
   have cc := AM
   obtain ⟨m1_0, m1_1, m1_2, m1_3, m1_4, m1_5, m1_6⟩ := cc
   go_wp2_with fail
   go_at_call 11
   clear m0_0 m0_1 m0_2 m0_3 m0_4 m0_5 m0_6 m1_0 m1_1 m1_2 m1_3 m1_4 m1_5 m1_6
   refine (sameMi m aA a cA c u4 OA.view.2 O.view.2 (by omega)).mono ?_
   rintro e wd12 ⟨rfl, kq⟩
   have swd12 := kq.size
   have AM := AM.below kq AM.lt
   have AA := AA.below kq AA.lt
   have AR := AR.below kq AR.lt
   have O := O.later kq
   have OA := OA.later kq
   have OR := OR.later kq
   have AX := AX.below kq AX.lt
   have BW := BW.trans (kq.mono BW.size)
   clear kq
   go_wp2
   go_ret
   exact ⟨rfl, BW⟩
  ·
   have hlen : Hid (D.lg.length = m.lg.length + 1) := by unfold Hid; rw [← hD.out]; exact note_len hnb.out
   have hlast : Hid (D.lg.getD m.lg.length Ik.nil = x) := by unfold Hid; rw [← hD.out]; exact note_last hnb.out Ik.nil
   have hok : Hid (miOk D = true) := by unfold Hid; rw [← hD.out]; exact note_ok hnb.out
   obtain ⟨bA, oA, rfl, _⟩ := OA.view.2 (by rw [hlen.out]; omega)
   have hck : ∀ Y, Below u4.heap.size u4 Y → IkAtO Y bA (oA + m.lg.length * 8) x := fun Y hY => by rw [← hlast.out]; exact ikAtO_of ((OA.later hY).view.2.at_ ikEnc_len Ik.nil (by rw [hlen.out]; omega))
   go_upto_region 15 with fail
   refine wp_region_held (S := fun Y => Below u4.heap.size u4 Y) (by kernel_rfl) ?_
   change wpAnyH _ _ _ _ _ _ _ _ (World.drew _)
   have hb0 : Below u4.heap.size u4 u4.drew := (Below.refl _ _).drew
   obtain ⟨u0, hy0⟩ := mk_ u4.drew
   rw [← hy0] at hb0 ⊢
   clear hy0
   refine tw 0 90 (.pointer (some ⟨wd3.heap.size, 3, none⟩)) ?_
   refine tw 1 91 (.slice (some ⟨bA, oA, none⟩) D.lg.length cA) ?_ (hy := by intro Y hSw; obtain ⟨Z0, Z1, Z2, Z3, Z4, Z5, Z6⟩ := AA.below hSw AA.lt; go_simp)
   refine tw 2 92 (.int .i64 (D.lg.length : Int)) ?_
   refine tw 3 93 (.pointer (some ⟨wd1.heap.size, 3, none⟩)) ?_
   refine tw 4 94 (.slice a m.lg.length c) ?_ (hy := by intro Y hSw; obtain ⟨Z0, Z1, Z2, Z3, Z4, Z5, Z6⟩ := AM.below hSw AM.lt; go_simp)
   refine tw 5 95 (.int .i64 (m.lg.length : Int)) ?_
   refine tw 6 96 (.int .i64 ((m.lg.length : Int) + 1)) ?_ (hy := by intro Y hSw; have hwr : IntKind.i64.wrap ((m.lg.length : Int) + 1) = (m.lg.length : Int) + 1 := (by rw [IntKind.wrap_i64]; omega); go_simp)
   have heq : ((D.lg.length : Int) == (m.lg.length : Int) + 1) = true := by rw [beq_iff_eq, hlen.out]; omega
   refine tw 7 97 (.bool true) ?_
   clear heq
   refine tw 8 98 (.bool true) ?_
   refine tw 9 99 (.pointer (some ⟨wd3.heap.size, 3, none⟩)) ?_
   refine tw 10 100 (.slice (some ⟨bA, oA, none⟩) D.lg.length cA) ?_ (hy := by intro Y hSw; obtain ⟨Z0, Z1, Z2, Z3, Z4, Z5, Z6⟩ := AA.below hSw AA.lt; go_simp)
   refine tw 11 101 (.pointer (some ⟨wd1.heap.size, 3, none⟩)) ?_
   refine tw 12 102 (.slice a m.lg.length c) ?_ (hy := by intro Y hSw; obtain ⟨Z0, Z1, Z2, Z3, Z4, Z5, Z6⟩ := AM.below hSw AM.lt; go_simp)
   refine tw 13 103 (.int .i64 (m.lg.length : Int)) ?_
   have hidx : m.lg.length < D.lg.length := by rw [hlen.out]; omega
   refine tw 14 104 (.pointer (some ⟨bA, oA + m.lg.length * 8, none⟩)) ?_ (hy := by intro Y hSw; go_simp; try omega)
   refine tw 15 105 (.agg #[.int .i64 x.k, .int .i64 x.q, .int .i64 x.r, .int .i64 x.c, .int .i64 x.b, .int .i64 x.p, .int .i64 x.h, .bool x.up]) ?_ (hy := by intro Y hSw; obtain ⟨X0, X1, X2, X3, X4, X5, X6, X7⟩ := hck Y hSw; go_simp)
   refine tw 16 106 (.agg #[.int .i64 x.k, .int .i64 x.q, .int .i64 x.r, .int .i64 x.c, .int .i64 x.b, .int .i64 x.p, .int .i64 x.h, .bool x.up]) ?_ (hy := by intro Y hSw; obtain ⟨X0, X1, X2, X3, X4, X5, X6, X7⟩ := AX.below hSw AX.lt; go_simp)
   refine tw 17 107 (.bool true) ?_ (hy := by intro Y hSw; go_simp)
   refine tw 18 108 (.bool true) ?_
   refine tw 19 109 (.bool true) ?_
   refine tw 20 110 (.agg #[.bool D.up, .int .i64 D.li, .int .i64 D.ep, .slice (some ⟨bA, oA, none⟩) D.lg.length cA, .int .i64 D.sd, .int .i64 D.ac, .int .i64 D.al]) ?_ (hy := by intro Y hSw; obtain ⟨Z0, Z1, Z2, Z3, Z4, Z5, Z6⟩ := AA.below hSw AA.lt; go_simp)
   refine w1 21 fun Kz hKz => ?_
   go_simp
   go_at_call 13
   refine (miOkI D (some ⟨bA, oA, none⟩) cA u0 (OA.later hb0).view.2 (by omega)).mono ?_
   rintro e u1 ⟨rfl, kq⟩
   have hb1 : Below u4.heap.size u4 u1 := hb0.trans (kq.mono hb0.size)
   clear kq
   rw [hok.out]
   refine hKz _ _ ⟨hb1, ?_⟩
   clear hKz Kz
   refine tw 22 112 (.bool true) ?_
   refine tw 23 2 (.bool true) ?_
   refine wpAnyH_done (by kernel_rfl) ?_ _
   have BZ := BW.trans (hb1.mono BW.size)
   go_wp2
   go_ret
   exact ⟨rfl, BZ⟩
 ·
  obtain ⟨hq1, hq2⟩ := hri.out rfl
  have d1 : decide ((r.lg.length : Int) ≤ r.sd) = false := decide_eq_false (by omega)
  by_cases hp : pr = 0
  focus
   have d2 : (pr != 0) = false := by simpa using hp
   replace hp : Hid _ := hp
   go_upto_region 13 with fail
   clear r0 r1 r2 r3 r4 r5 r6 d1 d2
  rotate_left
  focus
   have d2 : (pr != 0) = true := by simpa using hp
   have d3 : decide (r.ac ≤ r.sd) = false := decide_eq_false (by have := hq2 hp; omega)
   replace hp : Hid (¬ pr = 0) := hp
   go_upto_region 13 with fail
   clear r0 r1 r2 r3 r4 r5 r6 d1 d2 d3
  rotate_left
  all_goals
   cases nb
   ·
    have e1 : D = m := by rw [← hD.out]; exact note_not hnb.out
    rw [e1] at OA AA ⊢
    clear e1
    have cc := AA
    obtain ⟨m0_0, m0_1, m0_2, m0_3, m0_4, m0_5, m0_6⟩ := cc
    have cc := AM
    obtain ⟨m1_0, m1_1, m1_2, m1_3, m1_4, m1_5, m1_6⟩ := cc
    go_wp2_with fail
    go_at_call 11
    clear m0_0 m0_1 m0_2 m0_3 m0_4 m0_5 m0_6 m1_0 m1_1 m1_2 m1_3 m1_4 m1_5 m1_6
    refine (sameMi m aA a cA c u4 OA.view.2 O.view.2 (by omega)).mono ?_
    rintro e wd13 ⟨rfl, kq⟩
    have swd13 := kq.size
    have AM := AM.below kq AM.lt
    have AA := AA.below kq AA.lt
    have AR := AR.below kq AR.lt
    have O := O.later kq
    have OA := OA.later kq
    have OR := OR.later kq
    have AX := AX.below kq AX.lt
    have BW := BW.trans (kq.mono BW.size)
    clear kq
    go_wp2
    go_ret
    exact ⟨rfl, BW⟩
   ·
    have hlen : Hid (D.lg.length = m.lg.length + 1) := by unfold Hid; rw [← hD.out]; exact note_len hnb.out
    have hlast : Hid (D.lg.getD m.lg.length Ik.nil = x) := by unfold Hid; rw [← hD.out]; exact note_last hnb.out Ik.nil
    have hok : Hid (miOk D = true) := by unfold Hid; rw [← hD.out]; exact note_ok hnb.out
    obtain ⟨bA, oA, rfl, _⟩ := OA.view.2 (by rw [hlen.out]; omega)
    have hck : ∀ Y, Below u4.heap.size u4 Y → IkAtO Y bA (oA + m.lg.length * 8) x := fun Y hY => by rw [← hlast.out]; exact ikAtO_of ((OA.later hY).view.2.at_ ikEnc_len Ik.nil (by rw [hlen.out]; omega))
    go_upto_region 15 with fail
    refine wp_region_held (S := fun Y => Below u4.heap.size u4 Y) (by kernel_rfl) ?_
    change wpAnyH _ _ _ _ _ _ _ _ (World.drew _)
    have hb0 : Below u4.heap.size u4 u4.drew := (Below.refl _ _).drew
    obtain ⟨u0, hy0⟩ := mk_ u4.drew
    rw [← hy0] at hb0 ⊢
    clear hy0
    refine tw 0 90 (.pointer (some ⟨wd3.heap.size, 3, none⟩)) ?_
    refine tw 1 91 (.slice (some ⟨bA, oA, none⟩) D.lg.length cA) ?_ (hy := by intro Y hSw; obtain ⟨Z0, Z1, Z2, Z3, Z4, Z5, Z6⟩ := AA.below hSw AA.lt; go_simp)
    refine tw 2 92 (.int .i64 (D.lg.length : Int)) ?_
    refine tw 3 93 (.pointer (some ⟨wd1.heap.size, 3, none⟩)) ?_
    refine tw 4 94 (.slice a m.lg.length c) ?_ (hy := by intro Y hSw; obtain ⟨Z0, Z1, Z2, Z3, Z4, Z5, Z6⟩ := AM.below hSw AM.lt; go_simp)
    refine tw 5 95 (.int .i64 (m.lg.length : Int)) ?_
    refine tw 6 96 (.int .i64 ((m.lg.length : Int) + 1)) ?_ (hy := by intro Y hSw; have hwr : IntKind.i64.wrap ((m.lg.length : Int) + 1) = (m.lg.length : Int) + 1 := (by rw [IntKind.wrap_i64]; omega); go_simp)
    have heq : ((D.lg.length : Int) == (m.lg.length : Int) + 1) = true := by rw [beq_iff_eq, hlen.out]; omega
    refine tw 7 97 (.bool true) ?_
    clear heq
    refine tw 8 98 (.bool true) ?_
    refine tw 9 99 (.pointer (some ⟨wd3.heap.size, 3, none⟩)) ?_
    refine tw 10 100 (.slice (some ⟨bA, oA, none⟩) D.lg.length cA) ?_ (hy := by intro Y hSw; obtain ⟨Z0, Z1, Z2, Z3, Z4, Z5, Z6⟩ := AA.below hSw AA.lt; go_simp)
    refine tw 11 101 (.pointer (some ⟨wd1.heap.size, 3, none⟩)) ?_
    refine tw 12 102 (.slice a m.lg.length c) ?_ (hy := by intro Y hSw; obtain ⟨Z0, Z1, Z2, Z3, Z4, Z5, Z6⟩ := AM.below hSw AM.lt; go_simp)
    refine tw 13 103 (.int .i64 (m.lg.length : Int)) ?_
    have hidx : m.lg.length < D.lg.length := by rw [hlen.out]; omega
    refine tw 14 104 (.pointer (some ⟨bA, oA + m.lg.length * 8, none⟩)) ?_ (hy := by intro Y hSw; go_simp; try omega)
    refine tw 15 105 (.agg #[.int .i64 x.k, .int .i64 x.q, .int .i64 x.r, .int .i64 x.c, .int .i64 x.b, .int .i64 x.p, .int .i64 x.h, .bool x.up]) ?_ (hy := by intro Y hSw; obtain ⟨X0, X1, X2, X3, X4, X5, X6, X7⟩ := hck Y hSw; go_simp)
    refine tw 16 106 (.agg #[.int .i64 x.k, .int .i64 x.q, .int .i64 x.r, .int .i64 x.c, .int .i64 x.b, .int .i64 x.p, .int .i64 x.h, .bool x.up]) ?_ (hy := by intro Y hSw; obtain ⟨X0, X1, X2, X3, X4, X5, X6, X7⟩ := AX.below hSw AX.lt; go_simp)
    refine tw 17 107 (.bool true) ?_ (hy := by intro Y hSw; go_simp)
    refine tw 18 108 (.bool true) ?_
    refine tw 19 109 (.bool true) ?_
    refine tw 20 110 (.agg #[.bool D.up, .int .i64 D.li, .int .i64 D.ep, .slice (some ⟨bA, oA, none⟩) D.lg.length cA, .int .i64 D.sd, .int .i64 D.ac, .int .i64 D.al]) ?_ (hy := by intro Y hSw; obtain ⟨Z0, Z1, Z2, Z3, Z4, Z5, Z6⟩ := AA.below hSw AA.lt; go_simp)
    refine w1 21 fun Kz hKz => ?_
    go_simp
    go_at_call 13
    refine (miOkI D (some ⟨bA, oA, none⟩) cA u0 (OA.later hb0).view.2 (by omega)).mono ?_
    rintro e u1 ⟨rfl, kq⟩
    have hb1 : Below u4.heap.size u4 u1 := hb0.trans (kq.mono hb0.size)
    clear kq
    rw [hok.out]
    refine hKz _ _ ⟨hb1, ?_⟩
    clear hKz Kz
    refine tw 22 112 (.bool true) ?_
    refine tw 23 2 (.bool true) ?_
    refine wpAnyH_done (by kernel_rfl) ?_ _
    have BZ := BW.trans (hb1.mono BW.size)
    go_wp2
    go_ret
    exact ⟨rfl, BZ⟩
end Go.Proofs.Ytnpiljegdiconaa.minWalkK
