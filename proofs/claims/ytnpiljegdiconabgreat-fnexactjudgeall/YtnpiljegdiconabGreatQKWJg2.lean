import Derived.Test.YtnpiljegdiconabGreatQKWJq
namespace Go.Proofs.YtnpiljegdiconabGreat
open Go.ChangeShapes Go.WideShapes Go.ChangeAt Go.RowKit
open Go.ChangeMaps (open_string shut_string)
set_option linter.unusedVariables false
set_option maxRecDepth 100000
set_option linter.unusedSimpArgs false in
set_option maxHeartbeats 4000000 in
theorem pairedI (x : BxD) (w : World) (hJ : BxJ w x) (hb : bxOk x.p = true) :
  Calls Tryz.prog 57 #[.agg #[.int .i64 x.id, .int .i64 x.po, .int .i64 x.rg.ep, .int .i64 x.rg.ow, .int .i64 x.rg.pa, .slice x.aT x.two.length x.cT, .slice x.aN x.net.length x.cN, .slice x.aG x.ga.length x.cG, .slice x.aL x.ln.length x.cL, .slice x.aS x.sd.length x.cS]] w fun e w' => YN e (pairJ x.p) ∧ Below w.heap.size w w' := by
 obtain ⟨Q, hQ⟩ : ∃ Q : Prop, Q = (pairJ x.p) := ⟨_, rfl⟩
 rw [← hQ]
 replace hQ : Hid _ := hQ
 obtain ⟨y, hy⟩ := mk_ (w.alloc (Obj.cells #[.int .i64 x.id, .int .i64 x.po, .int .i64 x.rg.ep, .int .i64 x.rg.ow, .int .i64 x.rg.pa, .slice x.aT x.two.length x.cT, .slice x.aN x.net.length x.cN, .slice x.aG x.ga.length x.cG, .slice x.aL x.ln.length x.cL, .slice x.aS x.sd.length x.cS] 39))
 have B : Below w.heap.size w y := by rw [hy]; exact below_new _
 have A : BxAt y w.heap.size x := by rw [hy]; exact BxAt.new w _ x
 have J := hJ.later B
 obtain ⟨o0, o1⟩ := bxOk_ow hb
 obtain ⟨h2, _⟩ := bxOk_smJ hb
 obtain ⟨k, hk⟩ : ∃ k : Nat, 1 - x.rg.ow = (k : Int) := ⟨(1 - x.rg.ow).toNat, by omega⟩
 have hkl : k < x.two.length := by omega
 have hwr : IntKind.i64.wrap (1 - x.rg.ow) = (k : Int) := by rw [IntKind.wrap_i64]; omega
 obtain ⟨g, off, hat, _⟩ := J.v.t (by omega)
 obtain ⟨m, hm⟩ : ∃ m, x.two.getD k MiD.nil = m := ⟨_, rfl⟩
 have M0 : MdAtO y g (off + k * 7) m := by have h1 := J.v.t; rw [hat] at h1; have := mdAtO_of (h1.at_ mdEnc_len MiD.nil hkl); rw [hm] at this; exact this
 have gl : g < y.heap.size := J.v.t.lt mdEnc_len (by omega) _ hat (by omega)
 have hmo : mOf x.p (1 - x.rg.ow) = m.m := by rw [hk, mOf_p]; simp only [Int.toNat_natCast]; rw [hm]
 have hQ2 : Hid (Q ↔ m.m.up = true ∧ 0 < m.m.li ∧ m.m.li = x.rg.pa ∧ m.m.ep = 0) := by unfold Hid; rw [hQ.out]; unfold pairJ; show ((mOf x.p (1 - x.rg.ow)).up = true ∧ 0 < (mOf x.p (1 - x.rg.ow)).li ∧ (mOf x.p (1 - x.rg.ow)).li = x.rg.pa ∧ (mOf x.p (1 - x.rg.ow)).ep = 0) ↔ _; rw [hmo]
 clear hQ hmo hm hk o0 o1 h2 hb J hJ
 replace hat : Hid _ := hat
 go_enter Tryz.func57, Tryz.ntmps57
 go_upto_region 1 with fail
 rw [← hy]
 clear hy
 have cc := A
 obtain ⟨a0, a1, a2, a3, a4, a5, a6, a7, a8, a9⟩ := cc
 rw [hat.out] at a5
 obtain ⟨m0, m1, m2, m3, m4, m5, m6⟩ := M0
 go_upto_region 2 with fail
 clear m0 m1 m2 m3 m4 m5 m6 hwr hat
 obtain ⟨⟨up, li, ep, lg, sd, ac, al⟩, ad, cap⟩ := m
 dsimp only at hQ2 ⊢
 obtain ⟨y2, hy2⟩ := mk_ (y.alloc (Obj.cells #[.bool up, .int .i64 li, .int .i64 ep, .slice ad lg.length cap, .int .i64 sd, .int .i64 ac, .int .i64 al] 49))
 rw [← hy2]
 have kq : Below y.heap.size y y2 := by rw [hy2]; exact below_new _
 have M2 : MiAt y2 y.heap.size ⟨up, li, ep, lg, sd, ac, al⟩ (.slice ad lg.length cap) := by rw [hy2]; constructor <;> simp [go_sem]
 have A2 := A.below kq A.lt
 have B := B.trans (kq.mono B.size)
 clear a0 a1 a2 a3 a4 a5 a6 a7 a8 a9 A hy2 kq gl
 obtain ⟨n0, n1, n2, n3, n4, n5, n6⟩ := M2
 obtain ⟨a0, a1, a2, a3, a4, a5, a6, a7, a8, a9⟩ := A2
 cases up
 ·
  go_wp2
  go_ret
  exact ⟨YN.no (fun q_ => by have q2 := (hQ2.out.1 q_).1; first | cases q2 | exact q2.elim | simp at q2), B⟩
 ·
  by_cases h1 : 0 < li
  ·
   have d1 : decide (li > 0) = true := by simpa using h1
   have d1' : decide (0 < li) = true := by simpa using h1
   replace h1 : Hid _ := h1
   by_cases h2 : li = x.rg.pa
   ·
    have d2 : (li == x.rg.pa) = true := by simpa using h2
    replace h2 : Hid _ := h2
    by_cases h3 : ep = 0
    ·
     have d3 : (ep == 0) = true := by simpa using h3
     replace h3 : Hid _ := h3
     go_wp2
     go_ret
     exact ⟨YN.yes (hQ2.out.2 (by have q1 := h1.out; have q2 := h2.out; have q3 := h3.out; simp_all)), B⟩
    ·
     have d3 : (ep == 0) = false := by simpa using h3
     replace h3 : Hid (¬ ep = 0) := h3
     go_wp2
     go_ret
     exact ⟨YN.no (fun q_ => by have q1 := h3.out; have q2 := (hQ2.out.1 q_).2.2.2; omega), B⟩
   ·
    have d2 : (li == x.rg.pa) = false := by simpa using h2
    replace h2 : Hid (¬ li = x.rg.pa) := h2
    go_wp2
    go_ret
    exact ⟨YN.no (fun q_ => by have q1 := h2.out; have q2 := (hQ2.out.1 q_).2.2.1; omega), B⟩
  ·
   have d1 : decide (li > 0) = false := by simpa using h1
   have d1' : decide (0 < li) = false := by simpa using h1
   replace h1 : Hid (¬ 0 < li) := h1
   go_wp2
   go_ret
   exact ⟨YN.no (fun q_ => by have q1 := h1.out; have q2 := (hQ2.out.1 q_).2.1; omega), B⟩
set_option linter.unusedSimpArgs false in
set_option maxHeartbeats 4000000 in
theorem beginsI (x : BxD) (k : Nat) (hk : k < 2) (w : World) (hJ : BxJ w x) (hb : bxOk x.p = true) :
  Calls Tryz.prog 55 #[.agg #[.int .i64 x.id, .int .i64 x.po, .int .i64 x.rg.ep, .int .i64 x.rg.ow, .int .i64 x.rg.pa, .slice x.aT x.two.length x.cT, .slice x.aN x.net.length x.cN, .slice x.aG x.ga.length x.cG, .slice x.aL x.ln.length x.cL, .slice x.aS x.sd.length x.cS], .int .i64 (k : Int)] w fun e w' => YN e (begJ x.ln (x.two.getD k MiD.nil).m.lg) ∧ Below w.heap.size w w' := by
 obtain ⟨Q, hQ⟩ : ∃ Q : Prop, Q = (begJ x.ln (x.two.getD k MiD.nil).m.lg) := ⟨_, rfl⟩
 rw [← hQ]
 replace hQ : Hid _ := hQ
 obtain ⟨y, hy⟩ := mk_ (w.alloc (Obj.cells #[.int .i64 x.id, .int .i64 x.po, .int .i64 x.rg.ep, .int .i64 x.rg.ow, .int .i64 x.rg.pa, .slice x.aT x.two.length x.cT, .slice x.aN x.net.length x.cN, .slice x.aG x.ga.length x.cG, .slice x.aL x.ln.length x.cL, .slice x.aS x.sd.length x.cS] 39))
 have B : Below w.heap.size w y := by rw [hy]; exact below_new _
 have A : BxAt y w.heap.size x := by rw [hy]; exact BxAt.new w _ x
 have J := hJ.later B
 obtain ⟨h2, hmi, _, _, hln, _⟩ := bxOk_smJ hb
 have hkl : k < x.two.length := by omega
 obtain ⟨g, off, hat, _⟩ := J.v.t (by omega)
 obtain ⟨m, hm⟩ : ∃ m, x.two.getD k MiD.nil = m := ⟨_, rfl⟩
 have M0 : MdAtO y g (off + k * 7) m := by have h1 := J.v.t; rw [hat] at h1; have := mdAtO_of (h1.at_ mdEnc_len MiD.nil hkl); rw [hm] at this; exact this
 have gl : g < y.heap.size := J.v.t.lt mdEnc_len (by omega) _ hat (by omega)
 have hml := miOk_lgJ (hmi k (by omega))
 have hvl := J.v.l k hkl
 have hcl := J.c k hkl
 rw [hm] at hml hvl hcl hQ
 clear h2 hmi hb hJ
 have hBl := hvl.lt ikEnc_len (by omega)
 have hBn := J.v.i.lt ikEnc_len (by omega)
 replace hat : Hid _ := hat
 replace hm : Hid _ := hm
 go_enter Tryz.func55, Tryz.ntmps55
 go_upto_region 1 with fail
 rw [← hy]
 clear hy
 refine wp_region_held (S := fun Y => Below y.heap.size y Y) (by kernel_rfl) ?_
 change wpAnyH _ _ _ _ _ _ _ _ (World.drew _)
 have hb0 : Below y.heap.size y y.drew := (Below.refl _ _).drew
 obtain ⟨u0, hu0⟩ := mk_ y.drew
 rw [← hu0] at hb0 ⊢
 clear hu0
 refine tw 0 7 (.pointer (some ⟨w.heap.size, 5, none⟩)) ?_
 refine tw 1 8 (.slice (some ⟨g, off, none⟩) x.two.length x.cT) ?_ (hy := by intro Y hSw; obtain ⟨X0, X1, X2, X3, X4, X5, X6, X7, X8, X9⟩ := A.below hSw A.lt; rw [hat.out] at X5; go_simp)
 refine tw 2 9 (.int .i64 (k : Int)) ?_
 refine tw 3 10 (.pointer (some ⟨g, off + k * 7, none⟩)) ?_ (hy := by intro Y hSw; go_simp; try omega)
 refine tw 4 11 (.pointer (some ⟨g, off + k * 7 + 3, none⟩)) ?_
 refine tw 5 12 (.slice m.ad m.m.lg.length m.cap) ?_ (hy := by intro Y hSw; obtain ⟨X0, X1, X2, X3, X4, X5, X6⟩ := M0.belowJ hSw gl; go_simp)
 refine tw 6 13 (.agg #[.int .i64 x.id, .int .i64 x.po, .int .i64 x.rg.ep, .int .i64 x.rg.ow, .int .i64 x.rg.pa, .slice x.aT x.two.length x.cT, .slice x.aN x.net.length x.cN, .slice x.aG x.ga.length x.cG, .slice x.aL x.ln.length x.cL, .slice x.aS x.sd.length x.cS]) ?_ (hy := by intro Y hSw; obtain ⟨X0, X1, X2, X3, X4, X5, X6, X7, X8, X9⟩ := A.below hSw A.lt; go_simp)
 refine w1 7 fun Kz hKz => ?_
 go_simp
 go_at_call 56
 refine (relI x u0 (by omega)).mono ?_
 rintro e u1 ⟨rfl, kq⟩
 have hb1 : Below y.heap.size y u1 := hb0.trans (kq.mono hb0.size)
 clear kq
 refine hKz _ _ ⟨hb1, ?_⟩
 clear hKz Kz
 refine tw 8 5 (.slice m.ad m.m.lg.length m.cap) ?_
 refine tw 9 6 (.int .i64 (x.ln.length : Int)) ?_
 refine wpAnyH_done (by kernel_rfl) ?_ _
 clear hb0 u0 M0 gl hat
 have J := J.later hb1
 have A := A.below hb1 A.lt
 have B := B.trans (hb1.mono B.size)
 have hvl := hvl.below hb1 hBl
 have hvn := J.v.i
 have hBl := hvl.lt ikEnc_len (by omega)
 have hBn := hvn.lt ikEnc_len (by omega)
 clear hb1
 by_cases hle : x.ln.length ≤ m.m.lg.length
 ·
  have d1 : decide ((m.m.lg.length : Int) ≥ (x.ln.length : Int)) = true := decide_eq_true (by omega)
  have d1' : decide ((x.ln.length : Int) ≤ (m.m.lg.length : Int)) = true := decide_eq_true (by omega)
  have d1'' : decide (x.ln.length ≤ m.m.lg.length) = true := decide_eq_true hle
  have hcx : x.ln.length ≤ m.cap := by omega
  have htl : (m.m.lg.take x.ln.length).length = x.ln.length := by rw [List.length_take]; omega
  replace htl : Hid _ := htl
  go_upto_region 2 with fail
  refine wp_region_held (S := fun Y => Below u1.heap.size u1 Y) (by kernel_rfl) ?_
  change wpAnyH _ _ _ _ _ _ _ _ (World.drew _)
  have hb0 : Below u1.heap.size u1 u1.drew := (Below.refl _ _).drew
  obtain ⟨u0, hu0⟩ := mk_ u1.drew
  rw [← hu0] at hb0 ⊢
  clear hu0
  refine tw 0 15 (.slice m.ad m.m.lg.length m.cap) ?_
  refine tw 1 16 (.int .i64 (m.m.lg.length : Int)) ?_
  refine tw 2 17 (.int .i64 (x.ln.length : Int)) ?_
  refine tw 3 18 (.bool true) ?_
  refine tw 4 19 (.bool true) ?_
  refine tw 5 20 (.slice m.ad m.m.lg.length m.cap) ?_
  refine tw 6 21 (.int .i64 (x.ln.length : Int)) ?_
  refine tw 7 22 (.slice m.ad x.ln.length m.cap) ?_ (hy := by intro Y hSw; go_simp; try omega)
  refine tw 8 23 (.pointer (some ⟨w.heap.size, 8, none⟩)) ?_
  refine tw 9 24 (.slice x.aL x.ln.length x.cL) ?_ (hy := by intro Y hSw; obtain ⟨X0, X1, X2, X3, X4, X5, X6, X7, X8, X9⟩ := A.below hSw A.lt; go_simp)
  refine w1 10 fun Kz hKz => ?_
  go_simp
  go_at_call 84
  refine (show Calls _ _ _ _ _ by have h_ := ikEql m.ad x.aL m.cap x.cL (m.m.lg.take x.ln.length) x.ln u0 ((hvl.below hb0 hBl).take _) (hvn.below hb0 hBn) (by rw [htl.out]; omega) (by omega); rw [htl.out] at h_; exact h_).mono ?_
  rintro e u2 ⟨⟨rb, rfl, hrb⟩, kq⟩
  have hb1 : Below u1.heap.size u1 u2 := hb0.trans (kq.mono hb0.size)
  clear kq
  replace hrb : Hid _ := hrb
  refine hKz _ _ ⟨hb1, ?_⟩
  clear hKz Kz
  refine tw 11 26 (.bool rb) ?_
  refine tw 12 4 (.bool rb) ?_
  refine wpAnyH_done (by kernel_rfl) ?_ _
  have B := B.trans (hb1.mono B.size)
  go_wp2
  go_ret
  exact ⟨YN.is (by rw [hQ.out]; exact hrb.out), B⟩
 ·
  have d1 : decide ((m.m.lg.length : Int) ≥ (x.ln.length : Int)) = false := decide_eq_false (by omega)
  have d1' : decide ((x.ln.length : Int) ≤ (m.m.lg.length : Int)) = false := decide_eq_false (by omega)
  have d1'' : decide (x.ln.length ≤ m.m.lg.length) = false := decide_eq_false hle
  replace hle : Hid (¬ x.ln.length ≤ m.m.lg.length) := hle
  go_upto_region 2 with fail
  refine wp_region_held (S := fun Y => Below u1.heap.size u1 Y) (by kernel_rfl) ?_
  change wpAnyH _ _ _ _ _ _ _ _ (World.drew _)
  have hb0 : Below u1.heap.size u1 u1.drew := (Below.refl _ _).drew
  obtain ⟨u0, hu0⟩ := mk_ u1.drew
  rw [← hu0] at hb0 ⊢
  clear hu0
  refine tw 0 15 (.slice m.ad m.m.lg.length m.cap) ?_
  refine tw 1 16 (.int .i64 (m.m.lg.length : Int)) ?_
  refine tw 2 17 (.int .i64 (x.ln.length : Int)) ?_
  refine tw 3 18 (.bool false) ?_
  refine tw 4 19 (.bool false) ?_
  refine ts 5 20 ?_
  refine ts 6 21 ?_
  refine ts 7 22 ?_
  refine ts 8 23 ?_
  refine ts 9 24 ?_
  refine ts 10 25 ?_
  refine tw 11 26 (.bool false) ?_
  refine tw 12 4 (.bool false) ?_
  refine wpAnyH_done (by kernel_rfl) ?_ _
  have B := B.trans (hb0.mono B.size)
  go_wp2
  go_ret
  exact ⟨YN.no (fun q_ => hle.out (begJ_len (by rw [← hQ.out]; exact q_))), B⟩
set_option linter.unusedSimpArgs false in
set_option maxHeartbeats 4000000 in
theorem heirI (x : BxD) (w : World) (hJ : BxJ w x) (hb : bxOk x.p = true) :
  Calls Tryz.prog 29 #[.agg #[.int .i64 x.id, .int .i64 x.po, .int .i64 x.rg.ep, .int .i64 x.rg.ow, .int .i64 x.rg.pa, .slice x.aT x.two.length x.cT, .slice x.aN x.net.length x.cN, .slice x.aG x.ga.length x.cG, .slice x.aL x.ln.length x.cL, .slice x.aS x.sd.length x.cS]] w fun e w' => YN e (hasJ x.p) ∧ Below w.heap.size w w' := by
 obtain ⟨Q, hQ⟩ : ∃ Q : Prop, Q = (hasJ x.p) := ⟨_, rfl⟩
 rw [← hQ]
 replace hQ : Hid _ := hQ
 obtain ⟨y, hy⟩ := mk_ (w.alloc (Obj.cells #[.int .i64 x.id, .int .i64 x.po, .int .i64 x.rg.ep, .int .i64 x.rg.ow, .int .i64 x.rg.pa, .slice x.aT x.two.length x.cT, .slice x.aN x.net.length x.cN, .slice x.aG x.ga.length x.cG, .slice x.aL x.ln.length x.cL, .slice x.aS x.sd.length x.cS] 39))
 have B : Below w.heap.size w y := by rw [hy]; exact below_new _
 have A : BxAt y w.heap.size x := by rw [hy]; exact BxAt.new w _ x
 have J := hJ.later B
 obtain ⟨o0, o1⟩ := bxOk_ow hb
 obtain ⟨k, hk⟩ : ∃ k : Nat, 1 - x.rg.ow = (k : Int) := ⟨(1 - x.rg.ow).toNat, by omega⟩
 have hk2 : k < 2 := by omega
 have hwr : IntKind.i64.wrap (1 - x.rg.ow) = (k : Int) := by rw [IntKind.wrap_i64]; omega
 have hmo : mOf x.p (1 - x.rg.ow) = (x.two.getD k MiD.nil).m := by rw [hk, mOf_p]; simp only [Int.toNat_natCast]
 have hQ2 : Hid (Q ↔ (pairJ x.p → begJ x.ln (x.two.getD k MiD.nil).m.lg)) := by unfold Hid; rw [hQ.out]; unfold hasJ; show (pairJ x.p → begJ x.ln (mOf x.p (1 - x.rg.ow)).lg) ↔ _; rw [hmo]
 clear hQ hmo hk o0 o1 hJ
 replace hb : Hid _ := hb
 go_enter Tryz.func29, Tryz.ntmps29
 go_upto_region 1 with fail
 rw [← hy]
 clear hy
 have cc := A
 obtain ⟨a0, a1, a2, a3, a4, a5, a6, a7, a8, a9⟩ := cc
 go_wp2_with fail
 go_at_call 57
 clear a0 a1 a2 a3 a4 a5 a6 a7 a8 a9
 refine (pairedI x y J hb.out).mono ?_
 rintro e u1 ⟨⟨rb, rfl, hrb⟩, kq⟩
 have A := A.below kq A.lt
 have J := J.later kq
 have B := B.trans (kq.mono B.size)
 clear kq
 replace hrb : Hid _ := hrb
 cases rb
 ·
  go_wp2
  go_ret
  exact ⟨YN.yes (hQ2.out.2 (fun p => by have := hrb.out.2 p; first | cases this | exact absurd this id)), B⟩
 ·
  have cc := A
  obtain ⟨a0, a1, a2, a3, a4, a5, a6, a7, a8, a9⟩ := cc
  go_wp2_with fail
  go_at_call 55
  clear a0 a1 a2 a3 a4 a5 a6 a7 a8 a9
  refine (beginsI x k hk2 u1 J hb.out).mono ?_
  rintro e u2 ⟨⟨rc, rfl, hrc⟩, kq⟩
  have B := B.trans (kq.mono B.size)
  clear kq
  replace hrc : Hid _ := hrc
  go_wp2
  go_ret
  exact ⟨YN.is (by rw [hrc.out, hQ2.out]; exact ⟨fun h _ => h, fun h => h (by first | exact hrb.out.1 rfl | exact hrb.out.1 trivial)⟩), B⟩
end Go.Proofs.YtnpiljegdiconabGreat
