import Derived.Test.YtnpiljegdiconabGreatQKWJg2
namespace Go.Proofs.YtnpiljegdiconabGreat
open Go.ChangeShapes Go.WideShapes Go.ChangeAt Go.RowKit
open Go.ChangeMaps (open_string shut_string)
set_option linter.unusedVariables false
set_option maxRecDepth 100000
theorem MdAtO.below {w w' : World} {q o n : Nat} {x : MiD} (h : MdAtO w q o x) (k : Below n w w') (hq : q < n) : MdAtO w' q o x :=
 ⟨(World.cell?_of_block (a := ⟨q, o, none⟩) (k.block q hq)).trans h.c0, (World.cell?_of_block (a := ⟨q, o + 1, none⟩) (k.block q hq)).trans h.c1, (World.cell?_of_block (a := ⟨q, o + 2, none⟩) (k.block q hq)).trans h.c2, (World.cell?_of_block (a := ⟨q, o + 3, none⟩) (k.block q hq)).trans h.c3, (World.cell?_of_block (a := ⟨q, o + 4, none⟩) (k.block q hq)).trans h.c4, (World.cell?_of_block (a := ⟨q, o + 5, none⟩) (k.block q hq)).trans h.c5, (World.cell?_of_block (a := ⟨q, o + 6, none⟩) (k.block q hq)).trans h.c6⟩
theorem dec40 (n : Nat) : (true && (true && (true && (true && (true && (true && decide (n ≤ 40))))))) = decide ((n : Int) ≤ 40) := by
 by_cases h : n ≤ 40
 ·
  rw [decide_eq_true h, decide_eq_true (show (n : Int) ≤ 40 by omega)]; rfl
 ·
  rw [decide_eq_false h, decide_eq_false (show ¬ (n : Int) ≤ 40 by omega)]; rfl
set_option maxHeartbeats 8000000 in
theorem boxOkS (x : BxD) (w : World) (hV : BxV w x) :
  Calls Tryz.prog 17 #[.agg #[.int .i64 x.id, .int .i64 x.po, .int .i64 x.rg.ep, .int .i64 x.rg.ow, .int .i64 x.rg.pa, .slice x.aT x.two.length x.cT, .slice x.aN x.net.length x.cN, .slice x.aG x.ga.length x.cG, .slice x.aL x.ln.length x.cL, .slice x.aS x.sd.length x.cS]] w fun e w' => e = .returned (.bool (bxOk x.p)) ∧ Below w.heap.size w w' := by
 obtain ⟨R, hR⟩ := mk_ (bxOk x.p)
 rw [← hR]
 replace hR : Hid _ := hR
 obtain ⟨y, hy⟩ := mk_ (w.alloc (Obj.cells #[.int .i64 x.id, .int .i64 x.po, .int .i64 x.rg.ep, .int .i64 x.rg.ow, .int .i64 x.rg.pa, .slice x.aT x.two.length x.cT, .slice x.aN x.net.length x.cN, .slice x.aG x.ga.length x.cG, .slice x.aL x.ln.length x.cL, .slice x.aS x.sd.length x.cS] 39))
 have B0 : Below w.heap.size w y := by rw [hy]; exact below_new _
 have A : BxAt y w.heap.size x := by rw [hy]; exact BxAt.new w _ x
 have V := hV.later B0
 go_enter Tryz.func17, Tryz.ntmps17
 have cc := A
 obtain ⟨a0, a1, a2, a3, a4, a5, a6, a7, a8, a9⟩ := cc
 go_wp2_with fail
 go_at_call 41
 rw [← hy]
 clear hy hV a0 a1 a2 a3 a4 a5 a6 a7 a8 a9
 refine (newBS x.id x.po y).mono ?_
 rintro e u1 ⟨ab, cb, rfl, _, k1⟩
 have A := A.below k1 A.lt
 have V := V.later k1
 have B1 := B0.trans (k1.mono B0.size)
 clear k1 B0
 obtain ⟨u2, hu2⟩ := mk_ (u1.alloc (Obj.cells #[.int .i64 (newI x.id x.po), .slice ab (newL x.id x.po).length cb] 69))
 have k2 : Below u1.heap.size u1 u2 := by rw [hu2]; exact below_new _
 have A := A.below k2 A.lt
 have V := V.later k2
 have B2 := B1.trans (k2.mono B1.size)
 go_upto_region 2 with fail
 rw [← hu2]
 clear hu2 k2 B1
 cases h1 : nOk x.id x.po
 ·
  have hN : Hid (R = false) := by unfold Hid; rw [hR.out]; unfold bxOk; rw [show nOk x.p.id x.p.po = _ from h1]; rfl
  go_wp2
  go_ret
  exact ⟨by rw [hN.out]; rfl, B2⟩
 ·
  replace h1 : Hid _ := h1
  have cc := A
  obtain ⟨a0, a1, a2, a3, a4, a5, a6, a7, a8, a9⟩ := cc
  go_wp2_with fail
  go_at_call 42
  clear a0 a1 a2 a3 a4 a5 a6 a7 a8 a9
  refine (regOkS x.rg u2).mono ?_
  rintro e u3 ⟨rfl, k3⟩
  have A := A.below k3 A.lt
  have V := V.later k3
  have B3 := B2.trans (k3.mono B2.size)
  clear k3 B2
  cases h2 : rgOk x.rg
  ·
   have hN : Hid (R = false) := by unfold Hid; rw [hR.out]; unfold bxOk; rw [show nOk x.p.id x.p.po = _ from h1.out, show rgOk x.p.rg = _ from h2]; rfl
   clear h2
   go_wp2
   go_ret
   exact ⟨by rw [hN.out]; rfl, B3⟩
  ·
   replace h2 : Hid _ := h2
   by_cases h3 : x.two.length = 2
   ·
    have d3 : ((x.two.length : Int) != 2) = false := by rw [bne_eq_false_iff_eq]; omega
    have h3' : Hid (decide (x.two.length = 2) = true) := decide_eq_true h3
    replace h3 : Hid (decide (x.p.two.length = 2) = true) := decide_eq_true (by rw [p_two_len]; exact of_decide_eq_true h3'.out)
    have h3n : 1 < x.two.length := by have := of_decide_eq_true h3'.out; omega
    clear h3'
    obtain ⟨d, hd⟩ : ∃ d, x.two.getD 0 MiD.nil = d := ⟨_, rfl⟩
    obtain ⟨d2, hd2⟩ : ∃ d, x.two.getD 1 MiD.nil = d := ⟨_, rfl⟩
    have vl1 := V.l 0 (by omega)
    have vl2 := V.l 1 h3n
    have ll1 := V.bl 0 (by omega)
    have ll2 := V.bl 1 h3n
    rw [hd] at vl1 ll1
    rw [hd2] at vl2 ll2
    have m0 : Hid (mOf x.p 0 = d.m) := by unfold Hid; rw [mOf_p]; show (x.two.getD 0 MiD.nil).m = _; rw [hd]
    have m1 : Hid (mOf x.p 1 = d2.m) := by unfold Hid; rw [mOf_p]; show (x.two.getD 1 MiD.nil).m = _; rw [hd2]
    obtain ⟨b, off, hat, _⟩ := V.t (by omega)
    have hc0 : MdAtO u3 b off d := by have ht := V.t; rw [hat] at ht; have := mdAtO_of (ht.at_ mdEnc_len MiD.nil (show 0 < x.two.length by omega)); rw [hd, Nat.zero_mul, Nat.add_zero] at this; exact this
    have hc1 : MdAtO u3 b (off + 7) d2 := by have ht := V.t; rw [hat] at ht; have := mdAtO_of (ht.at_ mdEnc_len MiD.nil h3n); rw [hd2, Nat.one_mul] at this; exact this
    have hbl : b < u3.heap.size := World.block_lt_of_cell? _ _ hc0.c0
    replace hat : Hid _ := hat
    replace hd : Hid _ := hd
    replace hd2 : Hid _ := hd2
    have cc := A
    obtain ⟨a0, a1, a2, a3, a4, a5, a6, a7, a8, a9⟩ := cc
    rw [hat.out] at a5
    have cc := hc0
    obtain ⟨e0, e1, e2, e3, e4, e5, e6⟩ := cc
    go_wp2_with fail
    go_at_call 43
    clear a0 a1 a2 a3 a4 a5 a6 a7 a8 a9 e0 e1 e2 e3 e4 e5 e6 d3
    refine (miOkS d.m d.ad d.cap u3 vl1 (by omega)).mono ?_
    rintro e u5 ⟨rfl, k5⟩
    have vl2 := vl2.below k5 (vl2.lt ikEnc_len (by omega))
    have hc1 : MdAtO u5 b (off + 7) d2 := hc1.below k5 hbl
    have A := A.below k5 A.lt
    have V := V.later k5
    have B5 := B3.trans (k5.mono B3.size)
    clear k5 B3
    cases h4 : miOk d.m
    ·
     have hN : Hid (R = false) := by unfold Hid; rw [hR.out]; unfold bxOk; rw [show nOk x.p.id x.p.po = _ from h1.out, show rgOk x.p.rg = _ from h2.out, h3.out, show miOk (mOf x.p 0) = false by rw [m0.out]; exact h4]; rfl
     clear h4
     go_wp2
     go_ret
     exact ⟨by rw [hN.out]; rfl, B5⟩
    ·
     replace h4 : Hid (miOk (mOf x.p 0) = true) := by unfold Hid; rw [m0.out]; exact h4
     have cc := A
     obtain ⟨a0, a1, a2, a3, a4, a5, a6, a7, a8, a9⟩ := cc
     rw [hat.out] at a5
     have cc := hc1
     obtain ⟨e0, e1, e2, e3, e4, e5, e6⟩ := cc
     go_wp2_with fail
     go_at_call 43
     clear a0 a1 a2 a3 a4 a5 a6 a7 a8 a9 e0 e1 e2 e3 e4 e5 e6
     refine (miOkS d2.m d2.ad d2.cap u5 vl2 (by omega)).mono ?_
     rintro e u6 ⟨rfl, k6⟩
     have A := A.below k6 A.lt
     have V := V.later k6
     have B6 := B5.trans (k6.mono B5.size)
     clear k6 B5
     cases h5 : miOk d2.m
     ·
      have hN : Hid (R = false) := by unfold Hid; rw [hR.out]; unfold bxOk; rw [show nOk x.p.id x.p.po = _ from h1.out, show rgOk x.p.rg = _ from h2.out, h3.out, h4.out, show miOk (mOf x.p 1) = false by rw [m1.out]; exact h5]; rfl
      clear h5
      go_wp2
      go_ret
      exact ⟨by rw [hN.out]; rfl, B6⟩
     ·
      replace h5 : Hid (miOk (mOf x.p 1) = true) := by unfold Hid; rw [m1.out]; exact h5
      have cc := A
      obtain ⟨a0, a1, a2, a3, a4, a5, a6, a7, a8, a9⟩ := cc
      go_wp2_with fail
      go_at_call 44
      clear a0 a1 a2 a3 a4 a5 a6 a7 a8 a9
      refine (netS x u6 V).mono ?_
      rintro e u7 ⟨rfl, k7⟩
      have A := A.below k7 A.lt
      have V := V.later k7
      have B7 := B6.trans (k7.mono B6.size)
      clear k7 B6
      cases h6 : x.net.all wiOk && decide (x.net.length ≤ 20)
      ·
       have h6' : (x.p.net.all wiOk && (decide (x.p.net.length ≤ 20) && (decide ((x.p.ga.length : Int) = x.p.po) && (insB x.p.ln && decide (x.p.sd.length ≤ 40))))) = false := by rw [← Bool.and_assoc, show (x.p.net.all wiOk && decide (x.p.net.length ≤ 20)) = false from h6]; rfl
       have hN : Hid (R = false) := by unfold Hid; rw [hR.out]; unfold bxOk; rw [show nOk x.p.id x.p.po = _ from h1.out, show rgOk x.p.rg = _ from h2.out, show decide (x.p.two.length = 2) = _ from h3.out, h4.out, h5.out, h6']; rfl
       clear h6 h6'
       go_wp2
       go_ret
       exact ⟨by rw [hN.out]; rfl, B7⟩
      ·
       replace h6 : Hid _ := h6
       have h6' : Hid (∀ t, (x.p.net.all wiOk && (decide (x.p.net.length ≤ 20) && t)) = t) := fun t => by rw [← Bool.and_assoc, show (x.p.net.all wiOk && decide (x.p.net.length ≤ 20)) = true from h6.out]; rfl
       by_cases h7 : (x.ga.length : Int) = x.po
       ·
        have d7 : ((x.ga.length : Int) == x.po) = true := by simpa using h7
        have h7' : Hid (decide ((x.p.ga.length : Int) = x.p.po) = true) := decide_eq_true h7
        replace h7 : Hid _ := h7
        have cc := A
        obtain ⟨a0, a1, a2, a3, a4, a5, a6, a7, a8, a9⟩ := cc
        go_wp2_with fail
        go_at_call 45
        clear a0 a1 a2 a3 a4 a5 a6 a7 a8 a9
        refine (insS x.aL x.cL x.ln u7 V.i (by have := V.bi; omega)).mono ?_
        rintro e u8 ⟨rfl, k8⟩
        have bs := V.bs
        have A := A.below k8 A.lt
        have V := V.later k8
        have B8 := B7.trans (k8.mono B7.size)
        clear k8 B7
        cases h8 : insB x.ln
        ·
         have hN : Hid (R = false) := by unfold Hid; rw [hR.out]; unfold bxOk; rw [show nOk x.p.id x.p.po = _ from h1.out, show rgOk x.p.rg = _ from h2.out, show decide (x.p.two.length = 2) = _ from h3.out, h4.out, h5.out, h6'.out, h7'.out, show insB x.p.ln = _ from h8]; rfl
         clear h8
         go_wp2
         go_ret
         exact ⟨by rw [hN.out]; rfl, B8⟩
        ·
         replace h8 : Hid _ := h8
         have cc := A
         obtain ⟨a0, a1, a2, a3, a4, a5, a6, a7, a8, a9⟩ := cc
         have hN : Hid (R = decide ((x.sd.length : Int) ≤ 40)) := by unfold Hid; rw [hR.out]; unfold bxOk; rw [show nOk x.p.id x.p.po = _ from h1.out, show rgOk x.p.rg = _ from h2.out, show decide (x.p.two.length = 2) = _ from h3.out, h4.out, h5.out, h6'.out, h7'.out, show insB x.p.ln = _ from h8.out]; exact dec40 x.sd.length
         go_wp2
         go_ret
         exact ⟨by rw [hN.out]; rfl, B8⟩
       ·
        have d7 : ((x.ga.length : Int) == x.po) = false := by rw [beq_eq_false_iff_ne]; exact h7
        have cc := A
        obtain ⟨a0, a1, a2, a3, a4, a5, a6, a7, a8, a9⟩ := cc
        have hN : Hid (R = false) := by unfold Hid; rw [hR.out]; unfold bxOk; rw [show nOk x.p.id x.p.po = _ from h1.out, show rgOk x.p.rg = _ from h2.out, show decide (x.p.two.length = 2) = _ from h3.out, h4.out, h5.out, h6'.out, show decide ((x.p.ga.length : Int) = x.p.po) = false from decide_eq_false h7]; rfl
        clear h7
        go_wp2
        go_ret
        exact ⟨by rw [hN.out]; rfl, B7⟩
   ·
    have d3 : ((x.two.length : Int) != 2) = true := by rw [bne_iff_ne]; omega
    have cc := A
    obtain ⟨a0, a1, a2, a3, a4, a5, a6, a7, a8, a9⟩ := cc
    have hN : Hid (R = false) := by unfold Hid; rw [hR.out]; unfold bxOk; rw [show nOk x.p.id x.p.po = _ from h1.out, show rgOk x.p.rg = _ from h2.out, show decide (x.p.two.length = 2) = false from decide_eq_false (by rw [p_two_len]; exact h3)]; rfl
    clear h3
    go_wp2
    go_ret
    exact ⟨by rw [hN.out]; rfl, B3⟩
set_option linter.unusedSimpArgs false in
set_option maxHeartbeats 4000000 in
theorem heirS (x : BxD) (w : World) (hJ : BxJ w x) :
  Calls Tryz.prog 20 #[.agg #[.int .i64 x.id, .int .i64 x.po, .int .i64 x.rg.ep, .int .i64 x.rg.ow, .int .i64 x.rg.pa, .slice x.aT x.two.length x.cT, .slice x.aN x.net.length x.cN, .slice x.aG x.ga.length x.cG, .slice x.aL x.ln.length x.cL, .slice x.aS x.sd.length x.cS]] w fun e w' => YN e (bxOk x.p = true ∧ pairJ x.p) ∧ Below w.heap.size w w' := by
 obtain ⟨Q, hQ⟩ : ∃ Q : Prop, Q = (bxOk x.p = true ∧ pairJ x.p) := ⟨_, rfl⟩
 rw [← hQ]
 replace hQ : Hid _ := hQ
 obtain ⟨y, hy⟩ := mk_ (w.alloc (Obj.cells #[.int .i64 x.id, .int .i64 x.po, .int .i64 x.rg.ep, .int .i64 x.rg.ow, .int .i64 x.rg.pa, .slice x.aT x.two.length x.cT, .slice x.aN x.net.length x.cN, .slice x.aG x.ga.length x.cG, .slice x.aL x.ln.length x.cL, .slice x.aS x.sd.length x.cS] 39))
 have B : Below w.heap.size w y := by rw [hy]; exact below_new _
 have A : BxAt y w.heap.size x := by rw [hy]; exact BxAt.new w _ x
 have J := hJ.later B
 go_enter Tryz.func20, Tryz.ntmps20
 go_upto_region 1 with fail
 rw [← hy]
 clear hy
 have cc := A
 obtain ⟨a0, a1, a2, a3, a4, a5, a6, a7, a8, a9⟩ := cc
 go_wp2_with fail
 go_at_call 17
 clear a0 a1 a2 a3 a4 a5 a6 a7 a8 a9
 refine (boxOkS x y J.v).mono ?_
 rintro e u1 ⟨rfl, kq⟩
 have A := A.below kq A.lt
 have J := J.later kq
 have B := B.trans (kq.mono B.size)
 clear kq
 obtain ⟨ob, hob⟩ : ∃ b, bxOk x.p = b := ⟨_, rfl⟩
 rw [hob]
 cases ob
 ·
  replace hob : Hid _ := hob
  go_wp2
  go_ret
  exact ⟨YN.no (fun q_ => by have h1 := (hQ.out ▸ q_ : bxOk x.p = true ∧ pairJ x.p).1; rw [hob.out] at h1; cases h1), B⟩
 have hb := hob
 have hQ1 : Hid (Q ↔ pairJ x.p) := by unfold Hid; rw [hQ.out]; exact ⟨fun h => h.2, fun h => ⟨hb, h⟩⟩
 clear hQ hob
 obtain ⟨o0, o1⟩ := bxOk_ow hb
 obtain ⟨h2, _⟩ := bxOk_smJ hb
 obtain ⟨k, hk⟩ : ∃ k : Nat, 1 - x.rg.ow = (k : Int) := ⟨(1 - x.rg.ow).toNat, by omega⟩
 have hkl : k < x.two.length := by omega
 have hwr : IntKind.i64.wrap (1 - x.rg.ow) = (k : Int) := by rw [IntKind.wrap_i64]; omega
 obtain ⟨g, off, hat, _⟩ := J.v.t (by omega)
 obtain ⟨m, hm⟩ : ∃ m, x.two.getD k MiD.nil = m := ⟨_, rfl⟩
 have M0 : MdAtO u1 g (off + k * 7) m := by have h1 := J.v.t; rw [hat] at h1; have := mdAtO_of (h1.at_ mdEnc_len MiD.nil hkl); rw [hm] at this; exact this
 have gl : g < u1.heap.size := J.v.t.lt mdEnc_len (by omega) _ hat (by omega)
 have hmo : mOf x.p (1 - x.rg.ow) = m.m := by rw [hk, mOf_p]; simp only [Int.toNat_natCast]; rw [hm]
 have hQ2 : Hid (Q ↔ m.m.up = true ∧ 0 < m.m.li ∧ m.m.li = x.rg.pa ∧ m.m.ep = 0) := by unfold Hid; rw [hQ1.out]; unfold pairJ; show ((mOf x.p (1 - x.rg.ow)).up = true ∧ 0 < (mOf x.p (1 - x.rg.ow)).li ∧ (mOf x.p (1 - x.rg.ow)).li = x.rg.pa ∧ (mOf x.p (1 - x.rg.ow)).ep = 0) ↔ _; rw [hmo]
 clear hQ1 hmo hm hk o0 o1 h2 hb J hJ
 replace hat : Hid _ := hat
 have cc := A
 obtain ⟨a0, a1, a2, a3, a4, a5, a6, a7, a8, a9⟩ := cc
 rw [hat.out] at a5
 obtain ⟨m0, m1, m2, m3, m4, m5, m6⟩ := M0
 go_upto_region 4 with fail
 clear m0 m1 m2 m3 m4 m5 m6 hwr hat
 obtain ⟨⟨up, li, ep, lg, sd, ac, al⟩, ad, cap⟩ := m
 dsimp only at hQ2 ⊢
 obtain ⟨y2, hy2⟩ := mk_ (u1.alloc (Obj.cells #[.bool up, .int .i64 li, .int .i64 ep, .slice ad lg.length cap, .int .i64 sd, .int .i64 ac, .int .i64 al] 49))
 rw [← hy2]
 have kq : Below u1.heap.size u1 y2 := by rw [hy2]; exact below_new _
 have M2 : MiAt y2 u1.heap.size ⟨up, li, ep, lg, sd, ac, al⟩ (.slice ad lg.length cap) := by rw [hy2]; constructor <;> simp [go_sem]
 have A2 := A.below kq A.lt
 have B := B.trans (kq.mono B.size)
 clear a0 a1 a2 a3 a4 a5 a6 a7 a8 a9 A hy2 kq gl
 obtain ⟨n0, n1, n2, n3, n4, n5, n6⟩ := M2
 obtain ⟨a0, a1, a2, a3, a4, a5, a6, a7, a8, a9⟩ := A2
 cases up
 ·
  go_wp2
  go_ret
  exact ⟨YN.no (fun q_ => by have q2 := (hQ2.out.1 q_).1; first | cases q2 | exact q2.elim | simp at q2), B⟩
 ·
  by_cases h1 : 0 < li
  ·
   have d1 : decide (li > 0) = true := by simpa using h1
   have d1' : decide (0 < li) = true := by simpa using h1
   replace h1 : Hid _ := h1
   by_cases h2 : li = x.rg.pa
   ·
    have d2 : (li == x.rg.pa) = true := by simpa using h2
    replace h2 : Hid _ := h2
    by_cases h3 : ep = 0
    ·
     have d3 : (ep == 0) = true := by simpa using h3
     replace h3 : Hid _ := h3
     go_wp2
     go_ret
     exact ⟨YN.yes (hQ2.out.2 (by have q1 := h1.out; have q2 := h2.out; have q3 := h3.out; simp_all)), B⟩
    ·
     have d3 : (ep == 0) = false := by simpa using h3
     replace h3 : Hid (¬ ep = 0) := h3
     go_wp2
     go_ret
     exact ⟨YN.no (fun q_ => by have q1 := h3.out; have q2 := (hQ2.out.1 q_).2.2.2; omega), B⟩
   ·
    have d2 : (li == x.rg.pa) = false := by simpa using h2
    replace h2 : Hid (¬ li = x.rg.pa) := h2
    go_wp2
    go_ret
    exact ⟨YN.no (fun q_ => by have q1 := h2.out; have q2 := (hQ2.out.1 q_).2.2.1; omega), B⟩
  ·
   have d1 : decide (li > 0) = false := by simpa using h1
   have d1' : decide (0 < li) = false := by simpa using h1
   replace h1 : Hid (¬ 0 < li) := h1
   go_wp2
   go_ret
   exact ⟨YN.no (fun q_ => by have q1 := h1.out; have q2 := (hQ2.out.1 q_).2.1; omega), B⟩
end Go.Proofs.YtnpiljegdiconabGreat
