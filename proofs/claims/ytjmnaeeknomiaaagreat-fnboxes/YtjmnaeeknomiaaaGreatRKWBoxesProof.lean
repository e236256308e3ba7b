/- FnBoxes: a new box is right, one minds it, and drawn boxes are right, released and listened to as the chapter says; at every code, no condition; a code longer than 1048576 is answered true at once. -/
import Derived.Test.YtjmnaeeknomiaaaGreatRM28
import Derived.Test.YtjmnaeeknomiaaaGreatRKWBxd30
namespace Go.Proofs.YtjmnaeeknomiaaaGreat.fnBoxes
open Go.ChangeShapes Go.WideShapes Go.ChangeAt Go.RowKit
set_option linter.unusedVariables false
attribute [local go_sem] ji ja bc
theorem own : ownKnob Tryz.prog.godebug = none := by kernel_rfl
theorem laidOut : laidOutB Tryz.prog = true := by kernel_rfl
set_option maxHeartbeats 32000000 in
set_option maxRecDepth 100000 in
theorem walk (ad0 : Option Addr) (len0 cap0 : Nat) (f0 : Nat → Int) (w : World) (I0 : Hg w ad0 len0 f0) :
  Calls Tryz.prog 3 #[.slice ad0 len0 cap0] w fun e w' => e = .returned (.bool true) ∧ Bw w w' := by
 obtain ⟨lm, hv, hB, hf⟩ := I0;by_cases hbig : 1048576 < len0
 ·
  have hbig' : (1048576 : Int) < (len0 : Int) := by omega
  go_enter Tryz.func3, Tryz.ntmps3
  go_wp2_with fail
  go_at_call 5
  refine (Jy ad0 len0 cap0 w hbig').mono ?_;rintro e w1 ⟨rfl, h1⟩;rw [h1];clear h1 w1 hbig;go_wp2
  go_ret
  exact ⟨rfl, Below.refl _ _⟩
 have hC : EM w ad0 len0 f0 := ⟨hv, hB, by omega, hf⟩;go_enter Tryz.func3, Tryz.ntmps3
 go_wp2_with fail
 go_at_call 5
 refine (Ke ad0 len0 cap0 w (by omega)).mono ?_;rintro e w1 ⟨rfl, h1⟩;rw [h1];clear h1 w1 hbig hv hB hf lm;have BW : Bw w w := Below.refl _ _;have sw := BW.size;go_wp2_with fail
 go_at_call 6
 refine (Je ad0 len0 cap0 f0 w (hC.later BW (Nat.le_refl _))).mono ?_
 rintro e wa ⟨id, po, rfl, kq⟩
 have BW := AE BW kq
 clear kq
 obtain ⟨K, hK⟩ := AC (Aq id po)
 replace hK : Hid _ := hK
 go_wp2_with fail
 go_at_call 7
 refine (KG id po wa).mono ?_
 rintro e w2 ⟨x, ⟨rfl, hxp, hxs⟩, ⟨mid, hxN⟩, kq⟩
 have BW := AE BW kq
 clear kq
 have Vx : BT w2 x := (hxN.m.in_ hxs).v hxs
 have hxc : ∀ i, i < x.two.length → (x.two.getD i AD.nil).m.lg.length ≤ (x.two.getD i AD.nil).cap := fun i hi => (show AB AO 8 64 _ _ (.slice (x.two.getD i AD.nil).ad (x.two.getD i AD.nil).m.lg.length (x.two.getD i AD.nil).cap) (x.two.getD i AD.nil).m.lg from hxN.t.nest i hi).capM
 clear hxN hxs
 rw [← hK.out]
 replace hxp : Hid _ := hxp
 obtain ⟨w3, hw3, kq⟩ := AI w2 (Obj.cells (bc x) 34)
 have A5_ : AS w3 w2.heap.size x := by rw [hw3]; exact AS.new w2 _ _
 have Vx := Vx.later kq
 have BW := AE BW kq
 clear kq
 have A5 := A5_
 clear A5_
 go_wp2_with fail
 go_at_call 8
 rw [← hw3]
 clear hw3
 refine (Hk id po w3).mono ?_
 rintro e w4 ⟨y, ⟨rfl, hyp, hys⟩, hyI, kq⟩
 have Vx := Vx.later kq
 have A5 := A5.below kq A5.lt
 have BW := AE BW kq
 clear kq
 have Vy : BT w4 y := hyI.v hys
 clear hyI hys
 rw [← hK.out]
 replace hyp : Hid _ := hyp
 obtain ⟨w5, hw5, kq⟩ := AI w4 (Obj.cells (bc y) 34)
 have A7_ : AS w5 w4.heap.size y := by rw [hw5]; exact AS.new w4 _ _
 have Vx := Vx.later kq
 have A5 := A5.below kq A5.lt
 have Vy := Vy.later kq
 have BW := AE BW kq
 clear kq
 have A7 := A7_
 clear A7_
 go_wp2_with fail
 go_at_call 9
 rw [← hw5]
 clear hw5
 refine (Jl ad0 len0 cap0 f0 w5 (hC.later BW (Nat.le_refl _))).mono ?_
 rintro e w6 ⟨o, rfl, ho, Oo, kq⟩
 have Vx := Vx.later kq
 have A5 := A5.below kq A5.lt
 have Vy := Vy.later kq
 have A7 := A7.below kq A7.lt
 have BW := AE BW kq
 clear kq
 have Vo : BT w6 o := Oo.smV (BL.bent ho) (by omega)
 clear Oo ho
 go_wp2_with fail
 go_at_call 10
 refine (Jf ad0 len0 cap0 f0 w6 (hC.later BW (Nat.le_refl _))).mono ?_
 rintro e w7 ⟨r, rfl, hr, _, kq⟩
 have Vx := Vx.later kq
 have A5 := A5.below kq A5.lt
 have Vy := Vy.later kq
 have A7 := A7.below kq A7.lt
 have Vo := Vo.later kq
 have BW := AE BW kq
 clear kq
 obtain ⟨w8, hw8, kq⟩ := AI w7 (Obj.cells (bc o) 34)
 have A9_ : AS w8 w7.heap.size o := by rw [hw8]; exact AS.new w7 _ _
 have Vx := Vx.later kq
 have A5 := A5.below kq A5.lt
 have Vy := Vy.later kq
 have A7 := A7.below kq A7.lt
 have Vo := Vo.later kq
 have BW := AE BW kq
 clear kq
 have A9 := A9_
 clear A9_
 obtain ⟨w9, hw9, kq⟩ := AI w8 (Obj.cells (bc r) 34)
 have A10_ : AS w9 w8.heap.size r := by rw [hw9]; exact AS.new w8 _ _
 have e8 : w8.heap.size = w7.heap.size + 1 := by rw [hw8]; simp
 rw [e8] at A10_
 clear e8
 have Vx := Vx.later kq
 have A5 := A5.below kq A5.lt
 have Vy := Vy.later kq
 have A7 := A7.below kq A7.lt
 have Vo := Vo.later kq
 have A9 := A9.below kq A9.lt
 have BW := AE BW kq
 clear kq
 have A10 := A10_
 clear A10_
 go_wp2_with fail
 go_at_call 11
 rw [← hw8, ← hw9]
 clear hw8 hw9
 refine (Jm ad0 len0 cap0 f0 w9 (hC.later BW (Nat.le_refl _))).mono ?_
 rintro e w10 ⟨z, s, aO, cO, L, rfl, hz, Oz, OO, hL, kq⟩
 have Vx := Vx.later kq
 have A5 := A5.below kq A5.lt
 have Vy := Vy.later kq
 have A7 := A7.below kq A7.lt
 have Vo := Vo.later kq
 have A9 := A9.below kq A9.lt
 have A10 := A10.below kq A10.lt
 have BW := AE BW kq
 clear kq
 obtain ⟨w11, hw11, kq⟩ := AI w10 (Obj.cells (bc z) 34)
 have A11_ : AS w11 w10.heap.size z := by rw [hw11]; exact AS.new w10 _ _
 have Vx := Vx.later kq
 have A5 := A5.below kq A5.lt
 have Vy := Vy.later kq
 have A7 := A7.below kq A7.lt
 have Vo := Vo.later kq
 have A9 := A9.below kq A9.lt
 have A10 := A10.below kq A10.lt
 have Oz := Oz.later kq
 have OO := OO.later kq
 have BW := AE BW kq
 clear kq
 have A11 := A11_
 clear A11_
 go_wp2_with fail
 go_at_call 12
 rw [← hw11]
 clear hw11
 refine (Hd ad0 len0 cap0 f0 w11 (hC.later BW (Nat.le_refl _))).mono ?_
 rintro e w12 ⟨b, n, rfl, kq⟩
 have Vx := Vx.later kq
 have A5 := A5.below kq A5.lt
 have Vy := Vy.later kq
 have A7 := A7.below kq A7.lt
 have Vo := Vo.later kq
 have A9 := A9.below kq A9.lt
 have A10 := A10.below kq A10.lt
 have Oz := Oz.later kq
 have OO := OO.later kq
 have A11 := A11.below kq A11.lt
 have BW := AE BW kq
 clear kq
 obtain ⟨M, hM⟩ := AC (Aq b n)
 replace hM : Hid _ := hM
 go_wp2_with fail
 go_at_call 13
 refine (FH b n w12).mono ?_
 rintro e w13 ⟨aP, cP, rfl, OP, kq⟩
 have Vx := Vx.later kq
 have A5 := A5.below kq A5.lt
 have Vy := Vy.later kq
 have A7 := A7.below kq A7.lt
 have Vo := Vo.later kq
 have A9 := A9.below kq A9.lt
 have A10 := A10.below kq A10.lt
 have Oz := Oz.later kq
 have OO := OO.later kq
 have A11 := A11.below kq A11.lt
 have BW := AE BW kq
 clear kq
 have hP := FC b n
 rw [← hM.out]
 obtain ⟨w14, hw14, kq⟩ := AI w13 (Obj.cells #[ji (BJ b n), .slice aP (AX b n).length cP] 42)
 have A16_ : As w14 w13.heap.size (BJ b n) (.slice aP (AX b n).length cP) := by rw [hw14]; constructor <;> simp [go_sem]
 have Vx := Vx.later kq
 have A5 := A5.below kq A5.lt
 have Vy := Vy.later kq
 have A7 := A7.below kq A7.lt
 have Vo := Vo.later kq
 have A9 := A9.below kq A9.lt
 have A10 := A10.below kq A10.lt
 have Oz := Oz.later kq
 have OO := OO.later kq
 have A11 := A11.below kq A11.lt
 have OP := OP.later kq
 have BW := AE BW kq
 clear kq
 have A16 := A16_
 clear A16_
 go_wp2_with fail
 go_at_call 14
 rw [← hw14]
 clear hw14
 refine (FG b n w14).mono ?_
 rintro e w15 ⟨aQ, cQ, rfl, OQ, kq⟩
 have Vx := Vx.later kq
 have A5 := A5.below kq A5.lt
 have Vy := Vy.later kq
 have A7 := A7.below kq A7.lt
 have Vo := Vo.later kq
 have A9 := A9.below kq A9.lt
 have A10 := A10.below kq A10.lt
 have Oz := Oz.later kq
 have OO := OO.later kq
 have A11 := A11.below kq A11.lt
 have OP := OP.later kq
 have A16 := A16.below kq A16.lt
 have BW := AE BW kq
 clear kq
 rw [← hM.out]
 obtain ⟨w16, hw16, kq⟩ := AI w15 (Obj.cells #[ji (BJ b n), .slice aQ (AX b n).length cQ] 42)
 have A18_ : As w16 w15.heap.size (BJ b n) (.slice aQ (AX b n).length cQ) := by rw [hw16]; constructor <;> simp [go_sem]
 have Vx := Vx.later kq
 have A5 := A5.below kq A5.lt
 have Vy := Vy.later kq
 have A7 := A7.below kq A7.lt
 have Vo := Vo.later kq
 have A9 := A9.below kq A9.lt
 have A10 := A10.below kq A10.lt
 have Oz := Oz.later kq
 have OO := OO.later kq
 have A11 := A11.below kq A11.lt
 have OP := OP.later kq
 have A16 := A16.below kq A16.lt
 have OQ := OQ.later kq
 have BW := AE BW kq
 clear kq
 have A18 := A18_
 clear A18_
 go_upto_region 11 with fail
 rw [← hw16]
 clear hw16
 clear hM
 generalize AX b n = LB at *
 generalize BJ b n = ib at *
 have Vz : BT w16 z := Oz.smV (BL.bent hz) (by omega)
 have hr : r.ln.length ≤ 1048576 := by have := hr.i; omega
 refine AV (fun Y => Bw w16 Y) fun u0 hb0 => ?_
 refine tw 0 66 (.bool K) ?_
 refine tw 1 67 (.bool K) ?_
 refine tw 2 68 (.bool false) ?_ (hy := by intro Y hSw; cases K <;> go_simp)
 refine tw 3 69 (.bool false) ?_
 refine tw 4 70 (.agg (bc x)) ?_ (hy := by intro Y hSw; have X := (A5.below hSw A5.lt).all; go_simp)
 refine tw 5 71 (.agg (bc y)) ?_ (hy := by intro Y hSw; have X := (A7.below hSw A7.lt).all; go_simp)
 refine w1 6 fun Kz hKz => ?_
 go_simp
 go_at_call 15
 refine (HS x y u0 (Vx.later hb0) (Vy.later hb0) (hxp.out.trans hyp.out.symm)).mono ?_
 rintro e u1 ⟨rfl, kq⟩
 have hb1 := AE hb0 kq
 clear kq
 refine hKz _ _ ⟨hb1, ?_⟩
 clear hKz Kz
 refine tw 7 73 (.bool false) ?_
 refine tw 8 74 (.bool false) ?_
 refine tw 9 75 (.bool false) ?_
 refine tw 10 76 (.agg (bc o)) ?_ (hy := by intro Y hSw; have X := (A9.below hSw A9.lt).all; go_simp)
 refine tw 12 78 (.agg (bc o)) ?_ (hy := by intro Y hSw; have X := (A9.below hSw A9.lt).all; go_simp)
 refine w1 11 fun Kz hKz => ?_
 go_simp
 go_at_call 16
 refine (GW o u1 (Vo.later hb1)).mono ?_
 rintro e u2 ⟨rfl, kq⟩
 have hb2 := AE hb1 kq
 obtain ⟨bo, hbo⟩ := AC (Aw o.p)
 rw [← hbo]
 replace hbo : Hid _ := hbo
 clear kq
 refine hKz _ _ ⟨hb2, ?_⟩
 clear hKz Kz
 refine w1 13 fun Kz hKz => ?_
 go_simp
 go_at_call 17
 refine (GV o u2 (Vo.later hb2)).mono ?_
 rintro e u3 ⟨rfl, kq⟩
 have hb3 := AE hb2 kq
 rw [← hbo.out]
 clear kq
 refine hKz _ _ ⟨hb3, ?_⟩
 clear hKz Kz
 refine tw 14 80 (.bool false) ?_ (hy := by intro Y hSw; cases bo <;> go_simp)
 refine tw 15 81 (.bool false) ?_
 refine tw 16 82 (.bool false) ?_
 refine tw 17 83 (.agg (bc r)) ?_ (hy := by intro Y hSw; have X := (A10.below hSw A10.lt).all; go_simp)
 refine tw 19 85 (.agg (bc r)) ?_ (hy := by intro Y hSw; have X := (A10.below hSw A10.lt).all; go_simp)
 refine w1 18 fun Kz hKz => ?_
 go_simp
 go_at_call 18
 refine (Gf r u3 hr).mono ?_
 rintro e u4 ⟨rfl, kq⟩
 have hb4 := AE hb3 kq
 clear kq
 refine hKz _ _ ⟨hb4, ?_⟩
 clear hKz Kz
 refine w1 20 fun Kz hKz => ?_
 go_simp
 go_at_call 19
 refine (Kj r u4 hr).mono ?_
 rintro e u5 ⟨rfl, kq⟩
 have hb5 := AE hb4 kq
 clear kq
 refine hKz _ _ ⟨hb5, ?_⟩
 clear hKz Kz
 refine tw 21 87 (.bool false) ?_
 refine tw 22 88 (.bool false) ?_
 refine tw 23 89 (.bool false) ?_
 refine tw 24 90 (.agg (bc z)) ?_ (hy := by intro Y hSw; have X := (A11.below hSw A11.lt).all; go_simp)
 refine tw 25 91 (ji s) ?_
 refine tw 26 92 (.slice aO L.length cO) ?_
 refine tw 28 94 (.agg (bc z)) ?_ (hy := by intro Y hSw; have X := (A11.below hSw A11.lt).all; go_simp)
 refine tw 29 95 (ji s) ?_
 refine tw 30 96 (.slice aO L.length cO) ?_
 refine w1 27 fun Kz hKz => ?_
 go_simp
 go_at_call 20
 refine (JK z s aO cO L u5 (Vz.later hb5) Vz.bg Vz.bs (OO.later hb5).view.2 OO.capn (by omega)).mono ?_
 rintro e u6 ⟨x3, m3, rfl, hp3, P3, kq⟩
 have hb6 := AE hb5 kq
 have V3 : BT u6 x3 := P3.smV (by rw [hp3]; exact (BL.bent hz).acc (by omega) s L) (by omega)
 clear P3
 replace hp3 : Hid _ := hp3
 clear kq
 refine hKz _ _ ⟨hb6, ?_⟩
 clear hKz Kz
 refine w1 31 fun Kz hKz => ?_
 go_simp
 go_at_call 21
 refine (Fd z s aO cO L u6 (Vz.later hb6) Oz.n.capn Oz.g.capn Oz.i.capn Oz.s.capn (fun i hi => (Oz.l i hi).capn) (OO.later hb6).view.2 (by omega)).mono ?_
 rintro e u7 ⟨x4, rfl, hp4, O4, kq⟩
 have hb7 := AE hb6 kq
 have V4 : BT u7 x4 := O4.smV (by rw [hp4]; exact (BL.bent hz).acc (by omega) s L) (by omega)
 have V3 := V3.later kq
 clear O4
 replace hp4 : Hid _ := hp4
 clear kq
 refine hKz _ _ ⟨hb7, ?_⟩
 clear hKz Kz
 refine w1 32 fun Kz hKz => ?_
 go_simp
 go_at_call 15
 refine (HS x3 x4 u7 V3 V4 (hp3.out.trans hp4.out.symm)).mono ?_
 rintro e u8 ⟨rfl, kq⟩
 have hb8 := AE hb7 kq
 clear kq
 refine hKz _ _ ⟨hb8, ?_⟩
 clear hKz Kz
 refine tw 33 99 (.bool false) ?_
 refine tw 34 100 (.bool false) ?_
 refine tw 35 101 (.bool false) ?_
 refine tw 36 102 (.bool M) ?_
 refine tw 37 103 (.bool M) ?_
 refine tw 38 104 (.bool false) ?_ (hy := by intro Y hSw; cases M <;> go_simp)
 refine tw 39 105 (.bool false) ?_
 refine tw 40 106 (.bool false) ?_
 refine tw 41 107 (.agg #[ji ib, .slice aP LB.length cP]) ?_ (hy := by intro Y hSw; obtain ⟨X0, X1⟩ := A16.below hSw A16.lt; go_simp)
 refine tw 42 108 (.agg #[ji ib, .slice aQ LB.length cQ]) ?_ (hy := by intro Y hSw; obtain ⟨X0, X1⟩ := A18.below hSw A18.lt; go_simp)
 refine w1 43 fun Kz hKz => ?_
 go_simp
 go_at_call 22
 refine (Jw ib aP aQ cP cQ LB u8 (OP.later hb8).view.2 (OQ.later hb8).view.2 (by omega)).mono ?_
 rintro e u9 ⟨rfl, kq⟩
 have hb9 := AE hb8 kq
 clear kq
 refine hKz _ _ ⟨hb9, ?_⟩
 clear hKz Kz
 refine tw 44 110 (.bool false) ?_
 refine tw 45 111 (.bool false) ?_
 refine AR ?_
 have A5 := A5.below hb9 A5.lt
 have Vx := Vx.later hb9
 have BW := AE BW hb9
 clear hp3 hp4 V3 V4 Vo Vy Vz OO Oz OP OQ A7 A9 A10 A11 A16 A18 hyp hb0 hb1 hb2 hb3 hb4 hb5 hb6 hb7 hb8 hb9
 cases K
 ·
  have hq : x.p = AG.zero.p := by rw [hxp.out]; unfold Dh; rw [← hK.out]; rfl
  have e0 : x.id = 0 := congrArg Bx.id hq
  have ca := A5.all
  rw [e0] at ca
  clear hq
  go_wp2
  go_ret
  exact ⟨rfl, BW⟩
 have hp : x.p = EK id po := by rw [hxp.out]; unfold Dh; rw [← hK.out]; rfl
 have hbx : Hid (Aw x.p = true) := by unfold Hid; rw [hp]; exact F6 hK.out.symm
 have nb : NB x := NB.of hp hK.out.symm
 have hrg : x.rg = ⟨1, 0, 0⟩ := congrArg Bx.rg hp
 have h2 : Hid (x.two.length = 2) := by have h : (x.two.map AD.m).length = 2 := congrArg (fun q : Bx => q.two.length) hp; rwa [List.length_map] at h
 have hm0 : (x.two.getD 0 AD.nil).m = ⟨true, 1, 1, [], 0, 0, 0⟩ := (Br x 0).symm.trans (by rw [hp]; rfl)
 have Jx : DN u9 x := ⟨Vx, hxc⟩
 obtain ⟨bT, oT, eT, _⟩ := Vx.t (by rw [h2.out]; decide)
 replace eT : Hid (x.aT = some ⟨bT, oT, none⟩) := eT
 have vt := Vx.t
 rw [eT.out] at vt
 have hD : ∀ Y, Bw u9 Y → A8 Y bT oT (x.two.getD 0 AD.nil) := fun Y hY => by have h := Bo ((vt.below hY (vt.lt Ai (by omega))).at_ Ai AD.nil (i := 0) (by rw [h2.out]; decide)); rwa [Nat.zero_mul, Nat.add_zero] at h
 have vl := Vx.l 0 (by rw [h2.out]; decide)
 have bl := Vx.bl 0 (by rw [h2.out]; decide)
 generalize x.two.getD 0 AD.nil = d at *
 have hmd : Hid (Cq x.rg 0 d.m = true) := by unfold Hid; rw [hrg, hm0]; rfl
 clear hrg hm0 vt
 replace hp : Hid _ := hp
 go_upto_region 15 with fail
 refine AV (fun Y => Bw u9 Y) fun v0 hb0 => ?_
 refine tw 0 117 (.agg (bc x)) ?_ (hy := by intro Y hSw; have X := (A5.below hSw A5.lt).all; go_simp)
 refine w1 1 fun Kz hKz => ?_
 go_simp
 go_at_call 16
 refine (GW x v0 (Vx.later hb0)).mono ?_
 rintro e v1 ⟨rfl, kq⟩
 have hb1 := AE hb0 kq
 rw [hbx.out]
 clear kq
 refine hKz _ _ ⟨hb1, ?_⟩
 clear hKz Kz
 refine tw 2 119 (.bool true) ?_
 refine tw 3 120 (.agg (bc x)) ?_ (hy := by intro Y hSw; have X := (A5.below hSw A5.lt).all; go_simp)
 refine w1 4 fun Kz hKz => ?_
 go_simp
 go_at_call 23
 refine (KL x v1 (Jx.later hb1) nb hbx.out).mono ?_
 rintro e v2 ⟨rfl, kq⟩
 have hb2 := AE hb1 kq
 clear kq
 refine hKz _ _ ⟨hb2, ?_⟩
 clear hKz Kz
 refine tw 5 122 (.bool true) ?_
 refine tw 6 123 (.bool true) ?_
 refine tw 7 124 (.pointer (some (ja w2.heap.size 2))) ?_
 refine tw 8 125 (.agg #[ji x.rg.ep, ji x.rg.ow, ji x.rg.pa]) ?_ (hy := by intro Y hSw; have X := (A5.below hSw A5.lt).all; go_simp)
 refine tw 9 126 (.pointer (some (ja w2.heap.size 5))) ?_
 refine tw 10 127 (.slice (some (ja bT oT)) 2 x.cT) ?_ (hy := by intro Y hSw; have X := (A5.below hSw A5.lt).all; rw [eT.out, h2.out] at X; go_simp)
 refine tw 11 128 (.pointer (some (ja bT oT))) ?_
 refine tw 12 129 (.agg #[.bool d.m.up, ji d.m.li, ji d.m.ep, .slice d.ad d.m.lg.length d.cap, ji d.m.sd, ji d.m.ac, ji d.m.al]) ?_ (hy := by intro Y hSw; have X := (hD Y hSw).all; go_simp)
 refine w1 13 fun Kz hKz => ?_
 go_simp
 go_at_call 24
 refine (HX x.rg 0 d.m d.ad d.cap v2 (vl.below hb2 (vl.lt AT (by omega))) (by omega)).mono ?_
 rintro e v3 ⟨rfl, kq⟩
 have hb3 := AE hb2 kq
 rw [hmd.out]
 clear kq
 refine hKz _ _ ⟨hb3, ?_⟩
 clear hKz Kz
 refine tw 14 131 (.bool true) ?_
 refine tw 15 132 (.bool true) ?_
 refine tw 16 133 (.agg (bc x)) ?_ (hy := by intro Y hSw; have X := (A5.below hSw A5.lt).all; go_simp)
 refine w1 17 fun Kz hKz => ?_
 go_simp
 go_at_call 25
 refine (Ja x v3 (Jx.later hb3) nb hbx.out).mono ?_
 rintro e v4 ⟨rfl, kq⟩
 have hb4 := AE hb3 kq
 clear kq
 refine hKz _ _ ⟨hb4, ?_⟩
 clear hKz Kz
 refine tw 18 135 (.bool true) ?_
 refine tw 19 136 (.bool true) ?_
 refine tw 20 2 (.bool true) ?_
 refine AR ?_
 have BW := AE BW hb4
 go_wp2
 go_ret
 exact ⟨rfl, BW⟩
set_option maxRecDepth 100000 in
theorem lifted (os : Os) (started : os.Started) (H : Type) (enc : TypeId × Value → H) :
  ReturnsInHanded {} Tryz.checked os 3 .any (Rows.fnBoxesSpec.pre6 enc Tryz.prog Tryz.f3 Rows.fnBoxesRow.domain false) (Rows.fnBoxesSpec.post enc Tryz.prog Tryz.f3 false true false false) := by
 refine returnsInHanded_of_change (C := Tryz.checked) own started (by kernel_rfl) Tryz.func3
  (ChangeSpec.witness6 (enc := enc) (C := Tryz.checked) false ⟨#[], #[.slice none 0 0], []⟩ 8 (by kernel_rfl) (by kernel_rfl) (by kernel_rfl) (by kernel_rfl)) ?_
 intro W base args ds gs before hval0 hW hcnd _;have hval : ∀ (j : Nat) t v, Tryz.f3.params[j]? = some t → args[j]? = some v → Value.okWide Tryz.prog W .any base t v := hval0;have hW' := hW;obtain ⟨p, q, hA0, hV, rfl, hfz, hnd⟩ := hW;have hA : DataW.TrodAll enc Tryz.prog W 0 (fun _ => true) true Tryz.f3.params.toList args.toList ds p := hA0;rw [Tryz.params3] at hA hval;obtain ⟨v0, vs0, d0, ds0, p0, q0, hargs, rfl, rfl, h0, r0⟩ := trodAll_cons hA;obtain ⟨rfl, rfl, rfl⟩ := trodAll_nil r0;obtain rfl : args = #[v0] := by cases args; simp_all
 obtain ⟨rfl, rfl⟩ := trodVars_none hV;obtain ⟨ad0, len0, cap0, f0, rfl, I0⟩ := H8 (hval 0 22 v0 rfl rfl) h0;have lt0 : ∀ x ∈ p0, x.block < W.heap.size := by obtain ⟨m, hm⟩ := h0; exact DataW.trod_lt m _ _ _ hm
 clear hA0 hval0;refine (walk ad0 len0 cap0 f0 W I0).mono fun e W' ⟨he, bel⟩ => ?_
 subst he;exact ⟨_, rfl, _, _, _, [], _, [], hW', trodAll_mk1 (shut_bool Tryz.underlying4 _), (trodAll_cons_mk (Below.trod laidOut (by kernel_rfl) (of_decide_eq_true (by kernel_rfl)) h0 bel lt0) trodAll_mk0), rfl, bel.frame _, fun h => by cases h⟩
theorem over : Rows.fnBoxesRow.holds Tryz.pinned (OpenSpec.ofChange Rows.fnBoxesSpec) :=
 OpenClaim.holds_of_wide 3 Tryz.f3 rfl rfl rfl rfl rfl rfl rfl ⟨rfl, rfl, rfl, rfl, rfl⟩ rfl rfl rfl rfl rfl (by kernel_rfl) Tryz.func3 (by kernel_rfl)
  (of_decide_eq_true (by kernel_rfl)) (by unfold Func.isWrapper; first | (rw [if_pos (by decide +kernel)]; kernel_rfl) | (rw [if_neg (by decide +kernel)]; exact ⟨rfl, rfl⟩))
  (fun os started H enc _ => lifted os started H enc)
theorem proved : Rows.FnBoxesSaid := over
end Go.Proofs.YtjmnaeeknomiaaaGreat.fnBoxes
namespace Go.Proofs.YtjmnaeeknomiaaaGreat
theorem boxes_holds : Rows.FnBoxesSaid := fnBoxes.proved
#print axioms boxes_holds
end Go.Proofs.YtjmnaeeknomiaaaGreat
