import Derived.Test.YtnpiljegdiconabGreatQKWJg8
import Derived.Test.YtnpiljegdiconabGreatQM21
namespace Go.Proofs.YtnpiljegdiconabGreat
open Go.ChangeShapes Go.WideShapes Go.ChangeAt Go.RowKit
open Go.ChangeMaps (open_string shut_string)
set_option linter.unusedVariables false
set_option maxRecDepth 100000
set_option maxHeartbeats 2000000 in
theorem bxSz (x : BxD) (w : World) (I : BxIn w x) :
  Calls Tryz.prog 5 #[.agg #[.int .i64 x.id, .int .i64 x.po, .int .i64 x.rg.ep, .int .i64 x.rg.ow, .int .i64 x.rg.pa, .slice x.aT x.two.length x.cT, .slice x.aN x.net.length x.cN, .slice x.aG x.ga.length x.cG, .slice x.aL x.ln.length x.cL, .slice x.aS x.sd.length x.cS], .int .i64 1048576] w fun e w' => ∃ c : Int, e = .returned (.int .i64 c) ∧ (c < 0 ∨ (0 ≤ c ∧ c ≤ 1048576 ∧ BxSm x)) ∧ Below w.heap.size w w' := by
 obtain ⟨y, hy⟩ := mk_ (w.alloc (Obj.cells #[.int .i64 x.id, .int .i64 x.po, .int .i64 x.rg.ep, .int .i64 x.rg.ow, .int .i64 x.rg.pa, .slice x.aT x.two.length x.cT, .slice x.aN x.net.length x.cN, .slice x.aG x.ga.length x.cG, .slice x.aL x.ln.length x.cL, .slice x.aS x.sd.length x.cS] 30))
 have B0 : Below w.heap.size w y := by rw [hy]; exact below_new _
 have A : BxAt y w.heap.size x := by rw [hy]; exact BxAt.new w _ x
 have I := I.below B0
 go_enter Tryz.func5, Tryz.ntmps5
 have cc := A
 obtain ⟨a0, a1, a2, a3, a4, a5, a6, a7, a8, a9⟩ := cc
 go_wp2_with fail
 go_at_call 12
 rw [← hy]
 clear hy a0 a1 a2 a3 a4 a5 a6 a7 a8 a9
 refine (mdSz x.aT x.cT x.two 1048576 y I.t (by decide) (by decide) I.tm I.ts).mono ?_
 rintro e u0 ⟨rfl, k0⟩
 have A := A.below k0 A.lt
 have B0 := B0.trans (k0.mono B0.size)
 clear k0
 by_cases h0 : ((x.two.length + lToM x.two x.two.length : Nat) : Int) ≤ 1048576
 rotate_left
 ·
  rw [if_neg h0]
  go_wp2
  go_ret
  exact ⟨_, rfl, .inl (by decide), B0⟩
 rw [if_pos h0]
 have l0 : 0 ≤ 1048576 - ((x.two.length + lToM x.two x.two.length : Nat) : Int) := by omega
 have l1 : 1048576 - ((x.two.length + lToM x.two x.two.length : Nat) : Int) ≤ 1048576 := by omega
 generalize 1048576 - ((x.two.length + lToM x.two x.two.length : Nat) : Int) = c0 at l0 l1 ⊢
 have l2 : ¬ c0 < 0 := by omega
 have cc := A
 obtain ⟨a0, a1, a2, a3, a4, a5, a6, a7, a8, a9⟩ := cc
 go_wp2_with fail
 go_at_call 13
 clear a0 a1 a2 a3 a4 a5 a6 a7 a8 a9
 refine (wiSz x.aN x.net.length x.cN c0 u0 l0 l1 I.nm).mono ?_
 rintro e u1 ⟨rfl, hw⟩
 have A : BxAt u1 w.heap.size x := by rw [hw]; exact A
 have B0 : Below w.heap.size w u1 := by rw [hw]; exact B0
 clear hw
 by_cases h1 : (x.net.length : Int) ≤ c0
 rotate_left
 ·
  rw [if_neg h1]
  go_wp2
  go_ret
  exact ⟨_, rfl, .inl (by decide), B0⟩
 rw [if_pos h1]
 have l0' : 0 ≤ c0 - (x.net.length : Int) := by omega
 have l1' : c0 - (x.net.length : Int) ≤ 1048576 := by omega
 replace h1 : x.net.length ≤ 1048576 := by omega
 clear l0 l1 l2
 generalize c0 - (x.net.length : Int) = c1 at l0' l1' ⊢
 have l0 := l0'
 have l1 := l1'
 have l2 : ¬ c1 < 0 := by omega
 clear l0' l1'
 have cc := A
 obtain ⟨a0, a1, a2, a3, a4, a5, a6, a7, a8, a9⟩ := cc
 go_wp2_with fail
 go_at_call 14
 clear a0 a1 a2 a3 a4 a5 a6 a7 a8 a9
 refine (szBo x.aG x.ga.length x.cG c1 u1 l0 l1 I.gm).mono ?_
 rintro e u2 ⟨rfl, hw⟩
 have A : BxAt u2 w.heap.size x := by rw [hw]; exact A
 have B0 : Below w.heap.size w u2 := by rw [hw]; exact B0
 clear hw
 by_cases h2 : (x.ga.length : Int) ≤ c1
 rotate_left
 ·
  rw [if_neg h2]
  go_wp2
  go_ret
  exact ⟨_, rfl, .inl (by decide), B0⟩
 rw [if_pos h2]
 have l0' : 0 ≤ c1 - (x.ga.length : Int) := by omega
 have l1' : c1 - (x.ga.length : Int) ≤ 1048576 := by omega
 replace h2 : x.ga.length ≤ 1048576 := by omega
 clear l0 l1 l2
 generalize c1 - (x.ga.length : Int) = c2 at l0' l1' ⊢
 have l0 := l0'
 have l1 := l1'
 have l2 : ¬ c2 < 0 := by omega
 clear l0' l1'
 have cc := A
 obtain ⟨a0, a1, a2, a3, a4, a5, a6, a7, a8, a9⟩ := cc
 go_wp2_with fail
 go_at_call 15
 clear a0 a1 a2 a3 a4 a5 a6 a7 a8 a9
 refine (ikSz x.aL x.ln.length x.cL c2 u2 l0 l1 I.im).mono ?_
 rintro e u3 ⟨rfl, hw⟩
 have A : BxAt u3 w.heap.size x := by rw [hw]; exact A
 have B0 : Below w.heap.size w u3 := by rw [hw]; exact B0
 clear hw
 by_cases h3 : (x.ln.length : Int) ≤ c2
 rotate_left
 ·
  rw [if_neg h3]
  go_wp2
  go_ret
  exact ⟨_, rfl, .inl (by decide), B0⟩
 rw [if_pos h3]
 have l0' : 0 ≤ c2 - (x.ln.length : Int) := by omega
 have l1' : c2 - (x.ln.length : Int) ≤ 1048576 := by omega
 replace h3 : x.ln.length ≤ 1048576 := by omega
 clear l0 l1 l2
 generalize c2 - (x.ln.length : Int) = c3 at l0' l1' ⊢
 have l0 := l0'
 have l1 := l1'
 have l2 : ¬ c3 < 0 := by omega
 clear l0' l1'
 have cc := A
 obtain ⟨a0, a1, a2, a3, a4, a5, a6, a7, a8, a9⟩ := cc
 go_wp2_with fail
 go_at_call 16
 clear a0 a1 a2 a3 a4 a5 a6 a7 a8 a9
 refine (ouSz x.aS x.sd.length x.cS c3 u3 l0 l1 I.sm).mono ?_
 rintro e u4 ⟨rfl, hw⟩
 have A : BxAt u4 w.heap.size x := by rw [hw]; exact A
 have B0 : Below w.heap.size w u4 := by rw [hw]; exact B0
 clear hw
 by_cases h4 : (x.sd.length : Int) ≤ c3
 rotate_left
 ·
  rw [if_neg h4]
  go_wp2
  go_ret
  exact ⟨_, rfl, .inl (by decide), B0⟩
 rw [if_pos h4]
 have l0' : 0 ≤ c3 - (x.sd.length : Int) := by omega
 have l1' : c3 - (x.sd.length : Int) ≤ 1048576 := by omega
 replace h4 : x.sd.length ≤ 1048576 := by omega
 clear l0 l1 l2
 generalize c3 - (x.sd.length : Int) = c4 at l0' l1' ⊢
 have l0 := l0'
 have l1 := l1'
 have l2 : ¬ c4 < 0 := by omega
 clear l0' l1'
 go_wp2
 go_ret
 exact ⟨_, rfl, .inr ⟨l0, l1, by omega, by omega, h1, h2, h3, h4⟩, B0⟩
set_option maxHeartbeats 4000000 in
theorem bofS (id n : Int) (ad : Option Addr) (cap : Nat) (X : List Ik) (w : World) (hv : FView ikEnc w ad X) (hl : X.length ≤ 1048576) :
  Calls Tryz.prog 63 #[.int .i64 id, .int .i64 n, .slice ad X.length cap] w fun e w' => ∃ a c, e = .returned (.agg #[.int .i64 (newI id n), .slice a (ofR id n X).length c]) ∧ FOwn ptEnc 11 113 w.heap.size w' (.slice a (ofR id n X).length c) (ofR id n X) ∧ Below w.heap.size w w' := by
 have hB := hv.lt ikEnc_len (by omega)
 obtain ⟨y, hy⟩ := mk_ (w.alloc (Obj.cells #[.int .i64 0, .slice none 0 0] 69))
 have B0 : Below w.heap.size w y := by rw [hy]; exact below_new _
 have A0 : BBox y w.heap.size 0 (.slice none 0 0) := by rw [hy]; exact BBox.new w _ _ _
 have S0 := A0.lt
 have hR : ofR id n X = ofL (newI id n) (newL id n) X := rfl
 have hNl := newL_small id n
 have hno := fun h => ofR_not (id := id) (n := n) X h
 obtain ⟨I, hI⟩ : ∃ v, newI id n = v := ⟨_, rfl⟩
 obtain ⟨N, hN⟩ : ∃ v, newL id n = v := ⟨_, rfl⟩
 obtain ⟨ok, hok⟩ : ∃ v, nOk id n = v := ⟨_, rfl⟩
 obtain ⟨D, hD⟩ : ∃ v, ofR id n X = v := ⟨_, rfl⟩
 rw [hI, hN, hD] at hR
 rw [hI, hD, hok] at hno
 rw [hN] at hNl
 rw [hI, hD]
 replace hR : Hid _ := hR
 replace hno : Hid _ := hno
 replace hI : Hid _ := hI
 replace hN : Hid _ := hN
 replace hok : Hid _ := hok
 clear hD
 go_enter Tryz.func63, Tryz.ntmps63
 go_wp2_with fail
 go_at_call 41
 rw [← hy]
 clear hy
 refine (newBS id n y).mono ?_
 rintro e u1 ⟨a1, c1, rfl, O1, k1⟩
 rw [hN.out] at O1
 rw [hI.out, hN.out, hok.out]
 clear hI hN hok
 have B1 := B0.trans (k1.mono B0.size)
 have A0 := A0.below k1 A0.lt
 have s1 := k1.size
 have lo1 := O1.lt
 clear k1 B0
 obtain ⟨u2, hu2⟩ := mk_ (u1.alloc (Obj.cells #[.int .i64 I, .slice a1 N.length c1] 69))
 have k2 : Below u1.heap.size u1 u2 := by rw [hu2]; exact below_new _
 have P2 : BBox u2 u1.heap.size I (.slice a1 N.length c1) := by rw [hu2]; exact BBox.new u1 _ _ _
 have B2 := B1.trans (k2.mono B1.size)
 have A0 := A0.below k2 A0.lt
 have O1 := O1.later k2
 have s2 := P2.lt
 go_upto_region 2 with fail
 rw [← hu2]
 clear hu2 k2 B1
 obtain ⟨p, hp⟩ := mk_ u1.heap.size
 rw [← hp] at P2 s1 s2 lo1 ⊢
 clear hp
 have lp : w.heap.size < p := by omega
 clear hno
 go_wp2
 go_loopw [9] (fun i wr => ∃ (k : Nat) (a : Option Addr) (c : Nat) (L : List Pt), k ≤ X.length ∧ i = .int .i64 k ∧ ofL I N (X.take k) = L ∧ BBox wr p I (.slice a L.length c) ∧ FOwn ptEnc 11 113 w.heap.size wr (.slice a L.length c) L ∧ (∀ g, (Value.slice a L.length c).ownBlock = some g → g ≠ p ∧ g ≠ w.heap.size) ∧ BBox wr w.heap.size 0 (.slice none 0 0) ∧ Below w.heap.size w wr) (fun i _ => X.length - (intOf i).toNat)
 case atStart => exact ⟨0, a1, c1, N, Nat.zero_le _, rfl, rfl, P2, O1.base (by omega), fun g e => by have := lo1 g e; omega, A0, B2⟩
 case round =>
  obtain ⟨k, a, c, L, hk, rfl, hL, P, O, hne, A, B⟩ := hrel
  have hLl : L.length ≤ 4 := by rw [← hL, ofL_len]; exact hNl
  clear A0 P2 O1 B2 lo1
  by_cases hlt : k < X.length
  ·
   have hst := ofL_step I N X Ik.nil hlt
   rw [hL] at hst
   replace hL : Hid _ := hL
   obtain ⟨b, off, rfl, _⟩ := hv (by omega)
   obtain ⟨x, hh⟩ : ∃ x, X.getD k Ik.nil = x := ⟨_, rfl⟩
   rw [hh] at hst
   have hck : IkAtO wr b (off + k * 8) x := by
    rw [← hh]
    exact ikAtO_of ((hv.below B hB).at_ ikEnc_len Ik.nil hlt)
   have hcB : b < w.heap.size := hB ⟨b, off, none⟩ rfl (by omega)
   replace hst : Hid _ := hst
   clear hh
   have lp2 := P.lt
   have bs := B.size
   have ln := O.lt
   go_upto_region 5 with fail
   refine wp_region_held (S := fun Y => Below w.heap.size wr Y) (by kernel_rfl) ?_
   change wpAnyH _ _ _ _ _ _ _ _ (World.drew _)
   have hb0 : Below wr.heap.size wr wr.drew := (Below.refl _ _).drew
   obtain ⟨u, hy0'⟩ : ∃ y_, y_ = wr.drew := ⟨_, rfl⟩
   rw [← hy0'] at hb0 ⊢
   clear hy0'
   have hc0 : Below w.heap.size wr u := hb0.mono (by omega)
   refine tw 1 24 (.slice (some ⟨b, off, none⟩) X.length cap) ?_
   refine tw 2 25 (.int .i64 (k : Int)) ?_
   refine tw 3 26 (.pointer (some ⟨b, off + k * 8, none⟩)) ?_
   refine tw 4 27 (.agg #[.int .i64 x.k, .int .i64 x.q, .int .i64 x.r, .int .i64 x.c, .int .i64 x.b, .int .i64 x.p, .int .i64 x.h, .bool x.up]) ?_ (hy := by intro Y hSw; obtain ⟨X0, X1, X2, X3, X4, X5, X6, X7⟩ := hck.below hSw hcB; go_simp)
   have P := P.below hb0 P.lt
   have A := A.below hb0 A.lt
   have O := O.later hb0
   have B3 := B.trans (hb0.mono B.size)
   have su := hb0.size
   refine w1 0 fun Kz hKz => ?_
   have cc := P
   obtain ⟨⟨p0, p1⟩, pf⟩ := cc
   go_simp
   clear p0 p1 pf
   refine hKz _ _ ⟨hc0, ?_⟩
   clear hKz Kz
   refine w1 5 fun Kz hKz => ?_
   go_simp
   go_at_call 64
   refine (reactS I a c L x u O.view.2 (by omega) O.capn).mono ?_
   rintro e w2 ⟨a2, c2, o2, d2, rfl, O2, _, _, k2⟩
   obtain ⟨M, hM⟩ : ∃ M, reactL I L x = M := ⟨_, rfl⟩
   obtain ⟨OO, hOO⟩ : ∃ M, reactO I L x = M := ⟨_, rfl⟩
   rw [hM] at O2 ⊢
   rw [hOO]
   have hst2 : Hid (ofL I N (X.take (k + 1)) = M) := by unfold Hid; rw [hst.out]; exact hM
   clear hM hOO hst
   have hc1 : Below w.heap.size wr w2 := hc0.trans (k2.mono (by omega))
   have P := P.below k2 P.lt
   have A := A.below k2 A.lt
   have B3 := B3.trans (k2.mono B3.size)
   refine hKz _ _ ⟨hc1, ?_⟩
   clear hKz Kz
   refine tw 6 22 (.tuple #[.agg #[.int .i64 I, .slice a2 M.length c2], .slice o2 OO.length d2]) ?_
   refine tw 7 29 (.agg #[.int .i64 I, .slice a2 M.length c2]) ?_
   refine tw 8 30 (.slice o2 OO.length d2) ?_
   refine w1 9 fun Kz hKz => ?_
   have cc := P
   obtain ⟨⟨p0, p1⟩, pf⟩ := cc
   have g0 := pf 0
   have g1 := pf 1
   clear pf
   go_simp
   clear p0 p1 g0 g1
   have hc2 : Below w.heap.size wr ((w2.setCell ⟨p, 0, none⟩ (.int .i64 I)).setCell ⟨p, 1, none⟩ (.slice a2 M.length c2)) := (hc1.setCell (p := ⟨p, 0, none⟩) (by show _ ≤ p; omega) _).setCell (p := ⟨p, 1, none⟩) (by show _ ≤ p; omega) _
   refine hKz _ _ ⟨hc2, ?_⟩
   clear hKz Kz
   refine wpAnyH_done (by kernel_rfl) ?_ _
   have P9 := P.put I (.slice a2 M.length c2)
   have lo2 := O2.lt
   have O9 : FOwn ptEnc 11 113 w.heap.size ((w2.setCell ⟨p, 0, none⟩ (.int .i64 I)).setCell ⟨p, 1, none⟩ (.slice a2 M.length c2)) (.slice a2 M.length c2) M := (O2.base (by omega)).keep (fun g e => P.put1 I _ g (by have := lo2 g e; omega))
   have A9 := A.keep (P.put1 I (.slice a2 M.length c2) w.heap.size (by omega))
   have B9 : Below w.heap.size w ((w2.setCell ⟨p, 0, none⟩ (.int .i64 I)).setCell ⟨p, 1, none⟩ (.slice a2 M.length c2)) := (B3.setCell (p := ⟨p, 0, none⟩) (by show _ ≤ p; omega) _).setCell (p := ⟨p, 1, none⟩) (by show _ ≤ p; omega) _
   have hne9 : ∀ g, (Value.slice a2 M.length c2).ownBlock = some g → g ≠ p ∧ g ≠ w.heap.size := fun g e => by have := lo2 g e; omega
   clear O O2 hne ln A k2 B3 lo2 P
   go_wp2
   go_roundw
   case rel => exact ⟨k + 1, a2, c2, M, by omega, by go_num, hst2.out, P9, O9, hne9, A9, B9⟩
   case measure => simp [intOf]; omega
  ·
   obtain rfl : k = X.length := by omega
   rw [List.take_length] at hL
   obtain rfl : D = L := hR.out.trans hL
   have O9 : FOwn ptEnc 11 113 w.heap.size ((wr.setCell ⟨w.heap.size, 0, none⟩ (.int .i64 I)).setCell ⟨w.heap.size, 1, none⟩ (.slice a D.length c)) (.slice a D.length c) D := O.keep (fun g e => A.put1 I _ g (hne g e).2)
   have B9 : Below w.heap.size w ((wr.setCell ⟨w.heap.size, 0, none⟩ (.int .i64 I)).setCell ⟨w.heap.size, 1, none⟩ (.slice a D.length c)) := (B.setCell (p := ⟨w.heap.size, 0, none⟩) (Nat.le_refl _) _).setCell (p := ⟨w.heap.size, 1, none⟩) (Nat.le_refl _) _
   obtain ⟨⟨p0, p1⟩, pf⟩ := P
   obtain ⟨⟨z0, z1⟩, zf⟩ := A
   have g0 := zf 0
   have g1 := zf 1
   clear pf zf hne O B hL hR
   go_wp2
   refine bodyPost_ret (v := .agg #[.int .i64 I, .slice a D.length c]) (by simp [results, Tryz.results63, go_sem, *]) rfl ⟨a, c, rfl, O9, B9⟩
set_option linter.unusedSimpArgs false in
set_option maxHeartbeats 8000000 in
theorem jGatesS (x : BxD) (w : World) (hJ : BxJ w x) :
  Calls Tryz.prog 36 #[.agg #[.int .i64 x.id, .int .i64 x.po, .int .i64 x.rg.ep, .int .i64 x.rg.ow, .int .i64 x.rg.pa, .slice x.aT x.two.length x.cT, .slice x.aN x.net.length x.cN, .slice x.aG x.ga.length x.cG, .slice x.aL x.ln.length x.cL, .slice x.aS x.sd.length x.cS]] w fun e w' => YN e (bxOk x.p = true ∧ gatesJ x.p) ∧ Below w.heap.size w w' := by
 obtain ⟨Q, hQ⟩ : ∃ Q : Prop, Q = (bxOk x.p = true ∧ gatesJ x.p) := ⟨_, rfl⟩
 rw [← hQ]
 replace hQ : Hid _ := hQ
 obtain ⟨y, hy⟩ := mk_ (w.alloc (Obj.cells #[.int .i64 x.id, .int .i64 x.po, .int .i64 x.rg.ep, .int .i64 x.rg.ow, .int .i64 x.rg.pa, .slice x.aT x.two.length x.cT, .slice x.aN x.net.length x.cN, .slice x.aG x.ga.length x.cG, .slice x.aL x.ln.length x.cL, .slice x.aS x.sd.length x.cS] 39))
 have B : Below w.heap.size w y := by rw [hy]; exact below_new _
 have A : BxAt y w.heap.size x := by rw [hy]; exact BxAt.new w _ x
 have J := hJ.later B
 go_enter Tryz.func36, Tryz.ntmps36
 go_upto_region 1 with fail
 rw [← hy]
 clear hy
 have cc := A
 obtain ⟨a0, a1, a2, a3, a4, a5, a6, a7, a8, a9⟩ := cc
 go_wp2_with fail
 go_at_call 17
 clear a0 a1 a2 a3 a4 a5 a6 a7 a8 a9
 refine (boxOkS x y J.v).mono ?_
 rintro e u1 ⟨rfl, kq⟩
 have A := A.below kq A.lt
 have J := J.later kq
 have B := B.trans (kq.mono B.size)
 clear kq
 obtain ⟨ob, hob⟩ : ∃ b, bxOk x.p = b := ⟨_, rfl⟩
 rw [hob]
 cases ob
 ·
  replace hob : Hid _ := hob
  go_wp2
  go_ret
  exact ⟨YN.no (fun q_ => by have h1 := (hQ.out ▸ q_ : bxOk x.p = true ∧ gatesJ x.p).1; rw [hob.out] at h1; cases h1), B⟩
 have hb := hob
 have hln : x.ln.length ≤ 60 := (bxOk_smJ hb).2.2.2.2.1
 have hga : x.ga.length ≤ 4 := (bxOk_smJ hb).2.2.2.1
 have hQ2 : Hid (Q ↔ gatesR (ofR x.id x.po x.ln) = x.ga) := by unfold Hid; rw [hQ.out]; exact ⟨fun h => h.2, fun h => ⟨hb, h⟩⟩
 have hR4 := ofR_len x.id x.po x.ln
 have hG4 := gatesR_len (ofR x.id x.po x.ln)
 obtain ⟨I, hI⟩ : ∃ v, newI x.id x.po = v := ⟨_, rfl⟩
 obtain ⟨D, hD⟩ : ∃ v, ofR x.id x.po x.ln = v := ⟨_, rfl⟩
 rw [hD] at hQ2 hR4 hG4
 obtain ⟨G, hG⟩ : ∃ v, gatesR D = v := ⟨_, rfl⟩
 rw [hG] at hQ2 hG4
 have hG5 : G.length ≤ 4 := by omega
 replace hI : Hid _ := hI
 replace hD : Hid _ := hD
 replace hG : Hid _ := hG
 replace hb : Hid _ := hb
 clear hQ hob hG4
 have cc := A
 obtain ⟨a0, a1, a2, a3, a4, a5, a6, a7, a8, a9⟩ := cc
 go_wp2_with fail
 go_at_call 63
 clear a0 a1 a2 a3 a4 a5 a6 a7 a8 a9
 refine (bofS x.id x.po x.aL x.cL x.ln u1 J.v.i (by omega)).mono ?_
 rintro e u2 ⟨a1, c1, rfl, O1, kq⟩
 rw [hD.out] at O1
 rw [hI.out, hD.out]
 have A := A.below kq A.lt
 have J := J.later kq
 have B := B.trans (kq.mono B.size)
 clear kq
 go_wp2_with fail
 go_at_call 62
 refine (gatesS12 I a1 c1 D u2 O1.view.2 (by omega)).mono ?_
 rintro e u3 ⟨a2, c2, rfl, O2, kq⟩
 rw [hG.out] at O2 ⊢
 have A := A.below kq A.lt
 have J := J.later kq
 have B := B.trans (kq.mono B.size)
 have VG := O2.view.2
 have VX := J.v.g
 clear kq O1 O2 J
 have hBg := VG.lt boEnc_len (by omega)
 have hBx := VX.lt boEnc_len (by omega)
 replace hI : True := trivial
 clear hD hG
 go_upto_region 5 with fail
 go_loopw [4] (fun i wr => ∃ k : Nat, k ≤ G.length ∧ k ≤ x.ga.length ∧ i = .int .i64 (k : Int) ∧ Hid (∀ j, j < k → G.getD j false = x.ga.getD j false) ∧ Below u3.heap.size u3 wr) (fun i _ => G.length - (intOf i).toNat)
 case atStart => exact ⟨0, Nat.zero_le _, Nat.zero_le _, rfl, fun j hj => absurd hj (by omega), Below.refl _ _⟩
 case round =>
  obtain ⟨k, hk, hk', rfl, hF, hb9⟩ := hrel
  have A := A.below hb9 A.lt
  have B := B.trans (hb9.mono B.size)
  have cc := A
  obtain ⟨a0, a1, a2, a3, a4, a5, a6, a7, a8, a9⟩ := cc
  by_cases hlt : k < G.length
  ·
   have d1 : decide ((k : Int) < (G.length : Int)) = true := decide_eq_true (by omega)
   by_cases hlt' : k < x.ga.length
   ·
    have d2 : decide ((k : Int) < (x.ga.length : Int)) = true := decide_eq_true (by omega)
    obtain ⟨b, off, rfl, _⟩ := VG (by omega)
    obtain ⟨b', off', hat, _⟩ := VX (by omega)
    obtain ⟨h, hh⟩ : ∃ h, G.getD k false = h := ⟨_, rfl⟩
    obtain ⟨h', hh'⟩ : ∃ h, x.ga.getD k false = h := ⟨_, rfl⟩
    have hc : ∀ Y, Below wr.heap.size wr Y → Y.cell? ⟨b, off + k, none⟩ = some (.bool h) := fun Y hY => by have h1 := (VG.below (hb9.trans (hY.mono hb9.size)) hBg).at_ boEnc_len false hlt 0 (.bool (G.getD k false)) rfl; rw [hh] at h1; simpa using h1
    have hc' : ∀ Y, Below wr.heap.size wr Y → Y.cell? ⟨b', off' + k, none⟩ = some (.bool h') := fun Y hY => by have h0 := VX.below (hb9.trans (hY.mono hb9.size)) hBx; rw [hat] at h0; have h1 := h0.at_ boEnc_len false hlt' 0 (.bool (x.ga.getD k false)) rfl; rw [hh'] at h1; simpa using h1
    replace hh : Hid _ := hh
    replace hh' : Hid _ := hh'
    replace hat : Hid _ := hat
    clear VG VX hBg hBx
    by_cases he : h = h'
    ·
     have heq : ∀ w, (binOp .neq 4 (.bool h) (.bool h')).run Tryz.prog w = .ok (.bool false) w := fun w => by subst he; exact neqBo_same h w
     replace he : Hid _ := he
     go_upto_region 7 with fail
     clear a0 a1 a2 a3 a4 a5 a6 a7 a8 a9
     refine wp_region_held (S := fun Y => Below wr.heap.size wr Y) (by kernel_rfl) ?_
     change wpAnyH _ _ _ _ _ _ _ _ (World.drew _)
     have hb0 : Below wr.heap.size wr wr.drew := (Below.refl _ _).drew
     obtain ⟨u0, hu0⟩ := mk_ wr.drew
     rw [← hu0] at hb0 ⊢
     clear hu0
     refine tw 0 29 (.slice (some ⟨b, off, none⟩) G.length c2) ?_
     refine tw 1 30 (.int .i64 (k : Int)) ?_
     refine tw 2 31 (.pointer (some ⟨b, off + k, none⟩)) ?_ (hy := by intro Y hSw; go_simp; try omega)
     refine tw 3 32 (.bool h) ?_ (hy := by intro Y hSw; have X0 := hc Y hSw; go_simp)
     refine tw 4 33 (.pointer (some ⟨w.heap.size, 7, none⟩)) ?_
     refine tw 5 34 (.slice (some ⟨b', off', none⟩) x.ga.length x.cG) ?_ (hy := by intro Y hSw; obtain ⟨X0, X1, X2, X3, X4, X5, X6, X7, X8, X9⟩ := A.below hSw A.lt; rw [hat.out] at X7; go_simp)
     refine tw 6 35 (.int .i64 (k : Int)) ?_
     refine tw 7 36 (.pointer (some ⟨b', off' + k, none⟩)) ?_ (hy := by intro Y hSw; go_simp; try omega)
     refine tw 8 37 (.bool h') ?_ (hy := by intro Y hSw; have X0 := hc' Y hSw; go_simp)
     refine tw 9 38 (.bool false) ?_ (hy := by intro w hSw; have hq := heq w; go_simp)
     refine wpAnyH_done (by kernel_rfl) ?_ _
     go_wp2
     go_roundw
     case rel =>
      refine ⟨k + 1, by omega, by omega, by go_num, fun j hj => ?_, hb9.trans (hb0.mono hb9.size)⟩
      by_cases ej : j = k
      ·
       rw [ej, hh.out, hh'.out]; exact he.out
      ·
       exact hF.out j (by omega)
     case measure => simp [intOf]; omega
    ·
     have heq : ∀ w, (binOp .neq 4 (.bool h) (.bool h')).run Tryz.prog w = .ok (.bool true) w := fun w => neqBo_else he w
     replace he : Hid (¬ h = h') := he
     go_upto_region 7 with fail
     clear a0 a1 a2 a3 a4 a5 a6 a7 a8 a9
     refine wp_region_held (S := fun Y => Below wr.heap.size wr Y) (by kernel_rfl) ?_
     change wpAnyH _ _ _ _ _ _ _ _ (World.drew _)
     have hb0 : Below wr.heap.size wr wr.drew := (Below.refl _ _).drew
     obtain ⟨u0, hu0⟩ := mk_ wr.drew
     rw [← hu0] at hb0 ⊢
     clear hu0
     refine tw 0 29 (.slice (some ⟨b, off, none⟩) G.length c2) ?_
     refine tw 1 30 (.int .i64 (k : Int)) ?_
     refine tw 2 31 (.pointer (some ⟨b, off + k, none⟩)) ?_ (hy := by intro Y hSw; go_simp; try omega)
     refine tw 3 32 (.bool h) ?_ (hy := by intro Y hSw; have X0 := hc Y hSw; go_simp)
     refine tw 4 33 (.pointer (some ⟨w.heap.size, 7, none⟩)) ?_
     refine tw 5 34 (.slice (some ⟨b', off', none⟩) x.ga.length x.cG) ?_ (hy := by intro Y hSw; obtain ⟨X0, X1, X2, X3, X4, X5, X6, X7, X8, X9⟩ := A.below hSw A.lt; rw [hat.out] at X7; go_simp)
     refine tw 6 35 (.int .i64 (k : Int)) ?_
     refine tw 7 36 (.pointer (some ⟨b', off' + k, none⟩)) ?_ (hy := by intro Y hSw; go_simp; try omega)
     refine tw 8 37 (.bool h') ?_ (hy := by intro Y hSw; have X0 := hc' Y hSw; go_simp)
     refine tw 9 38 (.bool true) ?_ (hy := by intro w hSw; have hq := heq w; go_simp)
     refine wpAnyH_done (by kernel_rfl) ?_ _
     have B := B.trans (hb0.mono B.size)
     go_wp2
     go_ret
     exact ⟨YN.no (fun q_ => he.out (hh.out.symm.trans ((congrArg (fun z => z.getD k false) (hQ2.out.1 q_)).trans hh'.out))), B⟩
   ·
    have d2 : decide ((k : Int) < (x.ga.length : Int)) = false := decide_eq_false (by omega)
    have d3 : ((G.length : Int) == (x.ga.length : Int)) = false := by rw [beq_eq_false_iff_ne]; omega
    have d3' : (G.length == x.ga.length) = false := by rw [beq_eq_false_iff_ne]; omega
    have hn : Hid (¬ G.length = x.ga.length) := by unfold Hid; omega
    go_wp2
    go_ret
    exact ⟨YN.no (fun q_ => hn.out (congrArg List.length (hQ2.out.1 q_))), B⟩
  ·
   obtain rfl : k = G.length := by omega
   have d1 : decide ((G.length : Int) < (G.length : Int)) = false := decide_eq_false (by omega)
   by_cases hn : G.length = x.ga.length
   ·
    have d3 : ((G.length : Int) == (x.ga.length : Int)) = true := by rw [beq_iff_eq]; omega
    have d3' : (G.length == x.ga.length) = true := by rw [beq_iff_eq]; exact hn
    replace hn : Hid _ := hn
    go_wp2
    go_ret
    exact ⟨YN.yes (hQ2.out.2 (by apply List.ext_getElem hn.out; intro i h1 h2; have h3 := hF.out i h1; rw [List.getD_eq_getElem?_getD, List.getD_eq_getElem?_getD, List.getElem?_eq_getElem h1, List.getElem?_eq_getElem h2] at h3; exact h3)), B⟩
   ·
    have d3 : ((G.length : Int) == (x.ga.length : Int)) = false := by rw [beq_eq_false_iff_ne]; omega
    have d3' : (G.length == x.ga.length) = false := by rw [beq_eq_false_iff_ne]; exact hn
    replace hn : Hid (¬ G.length = x.ga.length) := hn
    go_wp2
    go_ret
    exact ⟨YN.no (fun q_ => hn.out (congrArg List.length (hQ2.out.1 q_))), B⟩
set_option linter.unusedSimpArgs false in
set_option maxHeartbeats 4000000 in
theorem jAllS (x : BxD) (w : World) (hJ : BxJ w x) :
  Calls Tryz.prog 10 #[.agg #[.int .i64 x.id, .int .i64 x.po, .int .i64 x.rg.ep, .int .i64 x.rg.ow, .int .i64 x.rg.pa, .slice x.aT x.two.length x.cT, .slice x.aN x.net.length x.cN, .slice x.aG x.ga.length x.cG, .slice x.aL x.ln.length x.cL, .slice x.aS x.sd.length x.cS]] w fun e w' => YN e (bxOk x.p = true ∧ gatesJ x.p ∧ saidJ x.p ∧ ownJ x.p ∧ hasJ x.p) ∧ Below w.heap.size w w' := by
 obtain ⟨Q, hQ⟩ : ∃ Q : Prop, Q = (bxOk x.p = true ∧ gatesJ x.p ∧ saidJ x.p ∧ ownJ x.p ∧ hasJ x.p) := ⟨_, rfl⟩
 rw [← hQ]
 replace hQ : Hid _ := hQ
 obtain ⟨y, hy⟩ := mk_ (w.alloc (Obj.cells #[.int .i64 x.id, .int .i64 x.po, .int .i64 x.rg.ep, .int .i64 x.rg.ow, .int .i64 x.rg.pa, .slice x.aT x.two.length x.cT, .slice x.aN x.net.length x.cN, .slice x.aG x.ga.length x.cG, .slice x.aL x.ln.length x.cL, .slice x.aS x.sd.length x.cS] 39))
 have B : Below w.heap.size w y := by rw [hy]; exact below_new _
 have A : BxAt y w.heap.size x := by rw [hy]; exact BxAt.new w _ x
 have J := hJ.later B
 go_enter Tryz.func10, Tryz.ntmps10
 go_upto_region 1 with fail
 rw [← hy]
 clear hy
 have cc := A
 obtain ⟨a0, a1, a2, a3, a4, a5, a6, a7, a8, a9⟩ := cc
 go_wp2_with fail
 go_at_call 36
 clear a0 a1 a2 a3 a4 a5 a6 a7 a8 a9
 refine (jGatesS x y J).mono ?_
 rintro e u1 ⟨⟨ra, rfl, ha⟩, kq⟩
 have A := A.below kq A.lt
 have J := J.later kq
 have B := B.trans (kq.mono B.size)
 clear kq
 replace ha : Hid _ := ha
 cases ra
 ·
  go_wp2
  go_ret
  exact ⟨YN.no (fun q_ => by have h9 := hQ.out ▸ q_; have h8 := ha.out.2 (⟨h9.1, h9.2.1⟩); first | cases h8 | exact h8.elim), B⟩
 ·
  have ta : Hid (bxOk x.p = true ∧ gatesJ x.p) := by unfold Hid; first | exact ha.out.1 rfl | exact ha.out.1 trivial
  clear ha
  have cc := A
  obtain ⟨a0, a1, a2, a3, a4, a5, a6, a7, a8, a9⟩ := cc
  go_wp2_with fail
  go_at_call 37
  clear a0 a1 a2 a3 a4 a5 a6 a7 a8 a9
  refine (jSaidS x u1 J).mono ?_
  rintro e u2 ⟨⟨rb, rfl, hb⟩, kq⟩
  have A := A.below kq A.lt
  have J := J.later kq
  have B := B.trans (kq.mono B.size)
  clear kq
  replace hb : Hid _ := hb
  cases rb
  ·
   go_wp2
   go_ret
   exact ⟨YN.no (fun q_ => by have h9 := hQ.out ▸ q_; have h8 := hb.out.2 (⟨h9.1, h9.2.2.1⟩); first | cases h8 | exact h8.elim), B⟩
  ·
   have tb : Hid (bxOk x.p = true ∧ saidJ x.p) := by unfold Hid; first | exact hb.out.1 rfl | exact hb.out.1 trivial
   clear hb
   have cc := A
   obtain ⟨a0, a1, a2, a3, a4, a5, a6, a7, a8, a9⟩ := cc
   go_wp2_with fail
   go_at_call 6
   clear a0 a1 a2 a3 a4 a5 a6 a7 a8 a9
   refine (jLogsS x u2 J).mono ?_
   rintro e u3 ⟨⟨rc, rfl, hc⟩, kq⟩
   have A := A.below kq A.lt
   have J := J.later kq
   have B := B.trans (kq.mono B.size)
   clear kq
   replace hc : Hid _ := hc
   go_wp2
   go_ret
   exact ⟨YN.is (by rw [hQ.out]; exact ⟨fun h => ⟨ta.out.1, ta.out.2, tb.out.2, (hc.out.1 h).2⟩, fun h => hc.out.2 ⟨h.1, h.2.2.2⟩⟩), B⟩
end Go.Proofs.YtnpiljegdiconabGreat
