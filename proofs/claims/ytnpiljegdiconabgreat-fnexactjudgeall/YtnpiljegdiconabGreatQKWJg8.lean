import Derived.Test.YtnpiljegdiconabGreatQM17
namespace Go.Proofs.YtnpiljegdiconabGreat
open Go.ChangeShapes Go.WideShapes Go.ChangeAt Go.RowKit
open Go.ChangeMaps (open_string shut_string)
set_option linter.unusedVariables false
set_option maxRecDepth 100000
set_option linter.unusedSimpArgs false in
set_option maxHeartbeats 16000000 in
theorem jSaidS (x : BxD) (w : World) (hJ : BxJ w x) :
  Calls Tryz.prog 37 #[.agg #[.int .i64 x.id, .int .i64 x.po, .int .i64 x.rg.ep, .int .i64 x.rg.ow, .int .i64 x.rg.pa, .slice x.aT x.two.length x.cT, .slice x.aN x.net.length x.cN, .slice x.aG x.ga.length x.cG, .slice x.aL x.ln.length x.cL, .slice x.aS x.sd.length x.cS]] w fun e w' => YN e (bxOk x.p = true ∧ saidJ x.p) ∧ Below w.heap.size w w' := by
 obtain ⟨i0, hi, hz0, hz1, hz2⟩ := info_parts ouInfo
 obtain ⟨Q, hQ⟩ : ∃ Q : Prop, Q = (bxOk x.p = true ∧ saidJ x.p) := ⟨_, rfl⟩
 rw [← hQ]
 replace hQ : Hid _ := hQ
 obtain ⟨y, hy⟩ := mk_ (w.alloc (Obj.cells #[.int .i64 x.id, .int .i64 x.po, .int .i64 x.rg.ep, .int .i64 x.rg.ow, .int .i64 x.rg.pa, .slice x.aT x.two.length x.cT, .slice x.aN x.net.length x.cN, .slice x.aG x.ga.length x.cG, .slice x.aL x.ln.length x.cL, .slice x.aS x.sd.length x.cS] 39))
 have B : Below w.heap.size w y := by rw [hy]; exact below_new _
 have A : BxAt y w.heap.size x := by rw [hy]; exact BxAt.new w _ x
 have J := hJ.later B
 go_enter Tryz.func37, Tryz.ntmps37
 go_upto_region 1 with fail
 rw [← hy]
 clear hy
 have cc := A
 obtain ⟨a0, a1, a2, a3, a4, a5, a6, a7, a8, a9⟩ := cc
 go_wp2_with fail
 go_at_call 17
 clear a0 a1 a2 a3 a4 a5 a6 a7 a8 a9
 refine (boxOkS x y J.v).mono ?_
 rintro e u1 ⟨rfl, kq⟩
 have A := A.below kq A.lt
 have J := J.later kq
 have B := B.trans (kq.mono B.size)
 clear kq
 obtain ⟨ob, hob⟩ : ∃ b, bxOk x.p = b := ⟨_, rfl⟩
 rw [hob]
 cases ob
 ·
  replace hob : Hid _ := hob
  go_wp2
  go_ret
  exact ⟨YN.no (fun q_ => by have h1 := (hQ.out ▸ q_ : bxOk x.p = true ∧ saidJ x.p).1; rw [hob.out] at h1; cases h1), B⟩
 have hb := hob
 have hln : x.ln.length ≤ 60 := (bxOk_smJ hb).2.2.2.2.1
 have hsd : x.sd.length ≤ 40 := (bxOk_smJ hb).2.2.2.2.2
 have hNl := newL_small x.id x.po
 obtain ⟨I, hI⟩ : ∃ v, newI x.id x.po = v := ⟨_, rfl⟩
 obtain ⟨N, hN⟩ : ∃ v, newL x.id x.po = v := ⟨_, rfl⟩
 have hQ2 : Hid (Q ↔ lastS (outsA I N x.ln) = x.sd) := by unfold Hid; rw [hQ.out, ← hI, ← hN]; exact ⟨fun h => h.2, fun h => ⟨hb, h⟩⟩
 rw [hN] at hNl
 replace hI : Hid _ := hI
 replace hN : Hid _ := hN
 clear hQ hob hb
 go_upto_region 4 with fail
 obtain ⟨y1, hy1⟩ := mk_ (u1.alloc (Obj.cells #[] 92))
 rw [← hy1]
 have F0 : FOwn ouEnc 8 92 u1.heap.size y1 (.slice (some ⟨u1.heap.size, 0, none⟩) 0 0) [] := by rw [hy1]; exact FOwn.empty u1
 have kq : Below u1.heap.size u1 y1 := by rw [hy1]; exact below_new _
 clear hy1
 have lA := A.lt
 have A := A.below kq A.lt
 have B := B.trans (kq.mono B.size)
 have F := F0.base (base' := w.heap.size + 1) (by omega)
 have lF0 := F0.lt
 have sy1 := kq.size
 clear kq F0 J
 have cc := A
 obtain ⟨a0, a1, a2, a3, a4, a5, a6, a7, a8, a9⟩ := cc
 go_wp2_with fail
 go_at_call 41
 clear a0 a1 a2 a3 a4 a5 a6 a7 a8 a9
 refine (newBS x.id x.po y1).mono ?_
 rintro e u2 ⟨a1, c1, rfl, O1, kq⟩
 rw [hN.out] at O1
 rw [hI.out, hN.out]
 obtain ⟨nk, hnk⟩ : ∃ b, nOk x.id x.po = b := ⟨_, rfl⟩
 rw [hnk]
 clear hI hN hnk
 have A := A.below kq A.lt
 have F := F.later kq
 have B := B.trans (kq.mono B.size)
 have s1 := kq.size
 have lo1 := O1.lt
 clear kq
 obtain ⟨u3, hu3⟩ := mk_ (u2.alloc (Obj.cells #[.int .i64 I, .slice a1 N.length c1] 69))
 have k2 : Below u2.heap.size u2 u3 := by rw [hu3]; exact below_new _
 have P := BBox.new u2 69 I (.slice a1 N.length c1)
 rw [← hu3] at P
 have B := B.trans (k2.mono B.size)
 have A := A.below k2 A.lt
 have F := F.later k2
 have O1 := O1.later k2
 go_upto_region 6 with fail
 rw [← hu3]
 clear hu3 k2
 obtain ⟨p, hp⟩ := mk_ u2.heap.size
 rw [← hp] at P s1 lo1 ⊢
 clear hp
 have lp : w.heap.size < p := by omega
 have e0 : ∀ g, (Value.slice (some ⟨u1.heap.size, 0, none⟩) 0 0).ownBlock = some g → g ≠ p := fun g e => by have := (lF0 g e).2; omega
 have e1 : ∀ g, (Value.slice a1 N.length c1).ownBlock = some g → g ≠ p := fun g e => by have := lo1 g e; omega
 go_loopw [3, 6] (fun v i wr => ∃ (k : Nat) (a : Option Addr) (c : Nat) (L : List Pt) (W : List Ou), k ≤ x.ln.length ∧ i = .int .i64 (k : Int) ∧ Hid (ofL I N (x.ln.take k) = L) ∧ Hid (outsA I N (x.ln.take k) = W) ∧ BBox wr p I (.slice a L.length c) ∧ FOwn ptEnc 11 113 w.heap.size wr (.slice a L.length c) L ∧ (∀ g, (Value.slice a L.length c).ownBlock = some g → g ≠ p) ∧ FOwn ouEnc 8 92 (w.heap.size + 1) wr v W ∧ (∀ g, v.ownBlock = some g → g ≠ p) ∧ BxAt wr w.heap.size x ∧ Below w.heap.size w wr) (fun _ i _ => x.ln.length - (intOf i).toNat)
 case atStart => exact ⟨0, a1, c1, N, [], Nat.zero_le _, rfl, rfl, rfl, P, O1.base (by omega), e1, F, e0, A, B⟩
 case round =>
  obtain ⟨k, a, c, L, W, hk, rfl, hL, hS, P, O, hne, F, hnv, A, B⟩ := hrel
  have hLl : L.length ≤ 4 := by rw [← hL.out, ofL_len]; exact hNl
  have hWl : W.length ≤ 8 * k := by rw [← hS.out]; have h1 := outsA_len I N (x.ln.take k); rw [List.length_take] at h1; omega
  clear O1 lo1 e0 e1 lF0
  have J := hJ.later B
  by_cases hlt : k < x.ln.length
  ·
   have hst := ofL_step I N x.ln ikN hlt
   have hso := outsA_step I N x.ln ikN hlt
   rw [hL.out] at hst hso
   rw [hS.out] at hso
   clear hL hS
   obtain ⟨b, off, hat, _⟩ := J.v.i (by omega)
   obtain ⟨d, hh⟩ : ∃ d, x.ln.getD k ikN = d := ⟨_, rfl⟩
   rw [hh] at hst hso
   have gl : b < wr.heap.size := J.v.i.lt ikEnc_len (by omega) _ hat (by omega)
   have hck : IkAtO wr b (off + k * 8) d := by have h1 := J.v.i; rw [hat] at h1; rw [← hh]; exact ikAtO_of (h1.at_ ikEnc_len ikN hlt)
   have hOl := reactO_len I L d
   obtain ⟨M, hM⟩ : ∃ M, reactL I L d = M := ⟨_, rfl⟩
   obtain ⟨OO, hOO⟩ : ∃ M, reactO I L d = M := ⟨_, rfl⟩
   rw [hM] at hst
   rw [hOO] at hso hOl
   replace hst : Hid _ := hst
   replace hso : Hid _ := hso
   replace hat : Hid _ := hat
   replace hM : Hid _ := hM
   replace hOO : Hid _ := hOO
   clear hh J
   have d0 : decide ((k : Int) < (x.ln.length : Int)) = true := decide_eq_true (by omega)
   have cc := A
   obtain ⟨a0, a1, a2, a3, a4, a5, a6, a7, a8, a9⟩ := cc
   go_upto_region 8 with fail
   clear a0 a1 a2 a3 a4 a5 a6 a7 a8 a9 d0
   refine wp_region_held (S := fun Y => Below wr.heap.size wr Y) (by kernel_rfl) ?_
   change wpAnyH _ _ _ _ _ _ _ _ (World.drew _)
   have hb0 : Below wr.heap.size wr wr.drew := (Below.refl _ _).drew
   obtain ⟨u0, hu0⟩ := mk_ wr.drew
   rw [← hu0] at hb0 ⊢
   clear hu0
   refine tw 0 30 (.agg #[.int .i64 I, .slice a L.length c]) ?_ (hy := by intro Y hSw; obtain ⟨X0, X1⟩ := P.at_.below hSw P.lt; go_simp)
   refine tw 1 31 (.pointer (some ⟨w.heap.size, 8, none⟩)) ?_
   refine tw 2 32 (.slice (some ⟨b, off, none⟩) x.ln.length x.cL) ?_ (hy := by intro Y hSw; obtain ⟨X0, X1, X2, X3, X4, X5, X6, X7, X8, X9⟩ := A.below hSw A.lt; rw [hat.out] at X8; go_simp)
   refine tw 3 33 (.int .i64 (k : Int)) ?_
   refine tw 4 34 (.pointer (some ⟨b, off + k * 8, none⟩)) ?_ (hy := by intro Y hSw; go_simp; try omega)
   refine tw 5 35 (.agg #[.int .i64 d.k, .int .i64 d.q, .int .i64 d.r, .int .i64 d.c, .int .i64 d.b, .int .i64 d.p, .int .i64 d.h, .bool d.up]) ?_ (hy := by intro Y hSw; obtain ⟨X0, X1, X2, X3, X4, X5, X6, X7⟩ := IkAtO.below hck hSw gl; go_simp)
   refine wpAnyH_all (rs := [6, 10]) (by kernel_rfl) (by simp) ?_
   intro i hi; rcases (by simpa using hi : i = 6 ∨ i = 10) with rfl | rfl
   ·
    refine wpOp_step rfl (fun Kz hKz => ?_)
    rw [if_pos (by kernel_rfl)]
    go_simp
    go_at_call 64
    refine (reactS I a c L d u0 (O.later hb0).view.2 (by omega) (O.later hb0).capn).mono ?_
    rintro e v1 ⟨a2, c2, o2, d2, rfl, O2, Q2, hap_, k2⟩
    clear hap_
    rw [hM.out] at O2 ⊢
    rw [hOO.out] at Q2 ⊢
    have szc := hb0.size
    have hb1 : Below wr.heap.size wr v1 := hb0.trans (k2.mono szc)
    have O2 := O2.base (base' := wr.heap.size) szc
    have Q2 := Q2.base (base' := wr.heap.size) szc
    clear k2 szc
    refine hKz _ _ ⟨hb1, ?_⟩
    clear hKz Kz hi
    refine tw 7 29 (.tuple #[.agg #[.int .i64 I, .slice a2 M.length c2], .slice o2 OO.length d2]) ?_
    refine tw 8 37 (.agg #[.int .i64 I, .slice a2 M.length c2]) ?_
    refine tw 9 38 (.slice o2 OO.length d2) ?_
    refine w1 10 fun Kz hKz => ?_
    go_simp
    obtain ⟨v2, hal⟩ := mk_ (v1.alloc (Obj.cells #[.int .i64 0, .slice none 0 0] 69))
    have N7 : BBox v2 v1.heap.size 0 (.slice none 0 0) := by rw [hal]; exact BBox.new v1 _ _ _
    have ka : Below v1.heap.size v1 v2 := by rw [hal]; exact below_new _
    rw [← hal]
    have hq7 := hb1.size
    have hb2 : Below wr.heap.size wr v2 := hb1.trans (ka.mono hq7)
    have ap1 : ∀ g, (Value.slice a2 M.length c2).ownBlock = some g → g ≠ v1.heap.size := fun g e => by have := (O2.lt g e).2; omega
    have ap2 : ∀ g, (Value.slice o2 OO.length d2).ownBlock = some g → g ≠ v1.heap.size := fun g e => by have := (Q2.lt g e).2; omega
    have O2 := O2.later ka
    have Q2 := Q2.later ka
    obtain ⟨p7, h7⟩ := mk_ v1.heap.size
    have hp7 : wr.heap.size ≤ p7 := by rw [h7]; exact hq7
    rw [← h7] at N7 ap1 ap2 ⊢
    clear hal ka h7 hq7
    refine hKz _ _ ⟨hb2, ?_⟩
    clear hKz Kz
    refine w1 11 fun Kz hKz => ?_
    have cc := N7
    obtain ⟨⟨r0, r1⟩, rf⟩ := cc
    have g0 := rf 0
    have g1 := rf 1
    clear rf
    go_simp
    clear r0 r1 g0 g1
    obtain ⟨v9, hv9⟩ := mk_ ((v2.setCell ⟨p7, 0, none⟩ (.int .i64 I)).setCell ⟨p7, 1, none⟩ (.slice a2 M.length c2))
    have kp : ∀ g, g ≠ p7 → v9.heap[g]? = v2.heap[g]? := fun g hg => by rw [hv9]; exact N7.put1 I _ g hg
    have N9 : BBox v9 p7 I (.slice a2 M.length c2) := by rw [hv9]; exact N7.put I _
    have O2 := O2.keep (fun g e => kp g (ap1 g e))
    have Q2 := Q2.keep (fun g e => kp g (ap2 g e))
    have hb9 : Below wr.heap.size wr v9 := by rw [hv9]; exact (hb2.setCell (p := ⟨p7, 0, none⟩) (by show _ ≤ p7; omega) _).setCell (p := ⟨p7, 1, none⟩) (by show _ ≤ p7; omega) _
    rw [← hv9]
    clear hv9 kp N7 ap1 ap2
    refine hKz _ _ ⟨hb9, ?_⟩
    clear hKz Kz
    refine tw 12 8 (.slice o2 OO.length d2) ?_
    refine wpAnyH_done (by kernel_rfl) ?_ _
    have A := A.below hb9 A.lt
    have lP := P.lt
    have P := P.below hb9 P.lt
    have F := F.later hb9
    have B9 := B.trans (hb9.mono B.size)
    have lo2 := O2.lt
    have lq2 := Q2.lt
    have sB := B.size
    have s9 := hb9.size
    clear O hb9
    have cc := N9
    obtain ⟨⟨r0, r1⟩, rf⟩ := cc
    have cc := P
    obtain ⟨⟨q0, q1⟩, qf⟩ := cc
    have g0 := qf 0
    have g1 := qf 1
    clear qf rf
    go_upto_region 10 with fail
    clear r0 r1 q0 q1 g0 g1
    obtain ⟨w3, hw3⟩ := mk_ ((v9.setCell ⟨p, 0, none⟩ (.int .i64 I)).setCell ⟨p, 1, none⟩ (.slice a2 M.length c2))
    have kp : ∀ g, g ≠ p → w3.heap[g]? = v9.heap[g]? := fun g hg => by rw [hw3]; exact P.put1 I _ g hg
    have P9 : BBox w3 p I (.slice a2 M.length c2) := by rw [hw3]; exact P.put I _
    have O9 := (O2.base (base' := w.heap.size) (by omega)).keep (fun g e => kp g (by have := lo2 g e; omega))
    have Q9 := Q2.keep (fun g e => kp g (by have := lq2 g e; omega))
    have F9 := F.keep (fun g e => kp g (hnv g e))
    have A9 := A.keep (kp w.heap.size (by omega))
    have B9 : Below w.heap.size w w3 := by rw [hw3]; exact (B9.setCell (p := ⟨p, 0, none⟩) (by show _ ≤ p; omega) _).setCell (p := ⟨p, 1, none⟩) (by show _ ≤ p; omega) _
    have hne9 : ∀ g, (Value.slice a2 M.length c2).ownBlock = some g → g ≠ p := fun g e => by have := lo2 g e; omega
    rw [← hw3]
    clear hw3 kp O2 Q2 F A P N9 lo2 lq2 hne
    have lp9 := P9.lt
    have sz9 := B9.size
    have l60 : W.length + OO.length ≤ 3000000 := by omega
    go_wp2_with (first | (at_builtin; refine fappL ouEnc_len ouEnc_ones rfl _ _ 37 rfl (w.heap.size + 1) 92 i0 (.agg #[.int .i64 0, .int .i64 0, .int .i64 0, .int .i64 0, .int .i64 0, .int .i64 0, .int .i64 0, .bool false]) 64 Tryz.underlying37 hi hz0 hz1 hz2 rfl (by decide) (by decide) _ W rfl F9 o2 d2 OO rfl Q9.capn Q9.view.2 l60 (by omega) ?_))
    intro v4 w4 F4 g4 hob
    have hW2 : Hid (outsA I N (x.ln.take (k + 1)) = W ++ OO) := hso
    obtain ⟨T, hT⟩ := mk_ (W ++ OO)
    rw [← hT] at F4 hW2
    clear hT hso
    have hnv4 : ∀ g, v4.ownBlock = some g → g ≠ p := fun g e => by rcases hob with h | h <;> rw [h] at e; exact hnv g e; cases e; omega
    have P9 := P9.keep (g4.block _ lp9 (fun e => hnv p e.symm rfl))
    have O9 := O9.keep (fun g e => g4.block g (O9.lt g e).2 (fun e2 => F9.apart O9 (by decide) e2.symm e))
    have A9 := A9.keep (g4.block _ A9.lt (fun e => by have := (F9.lt _ e.symm).1; omega))
    have B9 : Below w.heap.size w w4 := B9.grown g4 sz9 (fun g e => by have := (F9.lt g e).1; omega)
    clear F9 g4 hob Q9 hnv
    go_wp2
    go_roundw
    case rel => exact ⟨k + 1, a2, c2, M, T, by omega, by go_num, hst, hW2, P9, O9, hne9, F4, hnv4, A9, B9⟩
    case measure => simp [intOf]; omega
   ·
    refine wpOp_step rfl (fun Kz hKz => ?_)
    rw [if_pos (by kernel_rfl)]
    go_simp
    obtain ⟨v1, hal⟩ := mk_ (u0.alloc (Obj.cells #[.int .i64 0, .slice none 0 0] 69))
    have N7 : BBox v1 u0.heap.size 0 (.slice none 0 0) := by rw [hal]; exact BBox.new u0 _ _ _
    have ka : Below u0.heap.size u0 v1 := by rw [hal]; exact below_new _
    rw [← hal]
    have hq7 := hb0.size
    have hb1 : Below wr.heap.size wr v1 := hb0.trans (ka.mono hq7)
    obtain ⟨p7, h7⟩ := mk_ u0.heap.size
    have hp7 : wr.heap.size ≤ p7 := by rw [h7]; exact hq7
    rw [← h7] at N7 ⊢
    have l7 := N7.lt
    clear hal ka h7 hq7
    refine hKz _ _ ⟨hb1, ?_⟩
    clear hKz Kz hi
    refine w1 6 fun Kz hKz => ?_
    go_simp
    go_at_call 64
    refine (reactS I a c L d v1 (O.later hb1).view.2 (by omega) (O.later hb1).capn).mono ?_
    rintro e v2 ⟨a2, c2, o2, d2, rfl, O2, Q2, hap_, k2⟩
    clear hap_
    rw [hM.out] at O2 ⊢
    rw [hOO.out] at Q2 ⊢
    have szc := hb1.size
    have hb2 : Below wr.heap.size wr v2 := hb1.trans (k2.mono szc)
    have N7 := N7.below k2 N7.lt
    have ap1 : ∀ g, (Value.slice a2 M.length c2).ownBlock = some g → g ≠ p7 := fun g e => by have := (O2.lt g e).1; have := l7; omega
    have ap2 : ∀ g, (Value.slice o2 OO.length d2).ownBlock = some g → g ≠ p7 := fun g e => by have := (Q2.lt g e).1; have := l7; omega
    have O2 := O2.base (base' := wr.heap.size) szc
    have Q2 := Q2.base (base' := wr.heap.size) szc
    clear k2 szc
    refine hKz _ _ ⟨hb2, ?_⟩
    clear hKz Kz
    refine tw 7 29 (.tuple #[.agg #[.int .i64 I, .slice a2 M.length c2], .slice o2 OO.length d2]) ?_
    refine tw 8 37 (.agg #[.int .i64 I, .slice a2 M.length c2]) ?_
    refine tw 9 38 (.slice o2 OO.length d2) ?_
    refine w1 11 fun Kz hKz => ?_
    have cc := N7
    obtain ⟨⟨r0, r1⟩, rf⟩ := cc
    have g0 := rf 0
    have g1 := rf 1
    clear rf
    go_simp
    clear r0 r1 g0 g1
    obtain ⟨v9, hv9⟩ := mk_ ((v2.setCell ⟨p7, 0, none⟩ (.int .i64 I)).setCell ⟨p7, 1, none⟩ (.slice a2 M.length c2))
    have kp : ∀ g, g ≠ p7 → v9.heap[g]? = v2.heap[g]? := fun g hg => by rw [hv9]; exact N7.put1 I _ g hg
    have N9 : BBox v9 p7 I (.slice a2 M.length c2) := by rw [hv9]; exact N7.put I _
    have O2 := O2.keep (fun g e => kp g (ap1 g e))
    have Q2 := Q2.keep (fun g e => kp g (ap2 g e))
    have hb9 : Below wr.heap.size wr v9 := by rw [hv9]; exact (hb2.setCell (p := ⟨p7, 0, none⟩) (by show _ ≤ p7; omega) _).setCell (p := ⟨p7, 1, none⟩) (by show _ ≤ p7; omega) _
    rw [← hv9]
    clear hv9 kp N7 ap1 ap2
    refine hKz _ _ ⟨hb9, ?_⟩
    clear hKz Kz
    refine tw 12 8 (.slice o2 OO.length d2) ?_
    refine wpAnyH_done (by kernel_rfl) ?_ _
    have A := A.below hb9 A.lt
    have lP := P.lt
    have P := P.below hb9 P.lt
    have F := F.later hb9
    have B9 := B.trans (hb9.mono B.size)
    have lo2 := O2.lt
    have lq2 := Q2.lt
    have sB := B.size
    have s9 := hb9.size
    clear O hb9
    have cc := N9
    obtain ⟨⟨r0, r1⟩, rf⟩ := cc
    have cc := P
    obtain ⟨⟨q0, q1⟩, qf⟩ := cc
    have g0 := qf 0
    have g1 := qf 1
    clear qf rf
    go_upto_region 10 with fail
    clear r0 r1 q0 q1 g0 g1
    obtain ⟨w3, hw3⟩ := mk_ ((v9.setCell ⟨p, 0, none⟩ (.int .i64 I)).setCell ⟨p, 1, none⟩ (.slice a2 M.length c2))
    have kp : ∀ g, g ≠ p → w3.heap[g]? = v9.heap[g]? := fun g hg => by rw [hw3]; exact P.put1 I _ g hg
    have P9 : BBox w3 p I (.slice a2 M.length c2) := by rw [hw3]; exact P.put I _
    have O9 := (O2.base (base' := w.heap.size) (by omega)).keep (fun g e => kp g (by have := lo2 g e; omega))
    have Q9 := Q2.keep (fun g e => kp g (by have := lq2 g e; omega))
    have F9 := F.keep (fun g e => kp g (hnv g e))
    have A9 := A.keep (kp w.heap.size (by omega))
    have B9 : Below w.heap.size w w3 := by rw [hw3]; exact (B9.setCell (p := ⟨p, 0, none⟩) (by show _ ≤ p; omega) _).setCell (p := ⟨p, 1, none⟩) (by show _ ≤ p; omega) _
    have hne9 : ∀ g, (Value.slice a2 M.length c2).ownBlock = some g → g ≠ p := fun g e => by have := lo2 g e; omega
    rw [← hw3]
    clear hw3 kp O2 Q2 F A P N9 lo2 lq2 hne
    have lp9 := P9.lt
    have sz9 := B9.size
    have l60 : W.length + OO.length ≤ 3000000 := by omega
    go_wp2_with (first | (at_builtin; refine fappL ouEnc_len ouEnc_ones rfl _ _ 37 rfl (w.heap.size + 1) 92 i0 (.agg #[.int .i64 0, .int .i64 0, .int .i64 0, .int .i64 0, .int .i64 0, .int .i64 0, .int .i64 0, .bool false]) 64 Tryz.underlying37 hi hz0 hz1 hz2 rfl (by decide) (by decide) _ W rfl F9 o2 d2 OO rfl Q9.capn Q9.view.2 l60 (by omega) ?_))
    intro v4 w4 F4 g4 hob
    have hW2 : Hid (outsA I N (x.ln.take (k + 1)) = W ++ OO) := hso
    obtain ⟨T, hT⟩ := mk_ (W ++ OO)
    rw [← hT] at F4 hW2
    clear hT hso
    have hnv4 : ∀ g, v4.ownBlock = some g → g ≠ p := fun g e => by rcases hob with h | h <;> rw [h] at e; exact hnv g e; cases e; omega
    have P9 := P9.keep (g4.block _ lp9 (fun e => hnv p e.symm rfl))
    have O9 := O9.keep (fun g e => g4.block g (O9.lt g e).2 (fun e2 => F9.apart O9 (by decide) e2.symm e))
    have A9 := A9.keep (g4.block _ A9.lt (fun e => by have := (F9.lt _ e.symm).1; omega))
    have B9 : Below w.heap.size w w4 := B9.grown g4 sz9 (fun g e => by have := (F9.lt g e).1; omega)
    clear F9 g4 hob Q9 hnv
    go_wp2
    go_roundw
    case rel => exact ⟨k + 1, a2, c2, M, T, by omega, by go_num, hst, hW2, P9, O9, hne9, F4, hnv4, A9, B9⟩
    case measure => simp [intOf]; omega
  ·
   obtain rfl : k = x.ln.length := by omega
   rw [List.take_length] at hS
   have hQ3 : Hid (Q ↔ lastS W = x.sd) := by unfold Hid; rw [hQ2.out, hS.out]
   clear hQ2 hS hL O P hne hnv
   obtain ⟨aW, cW, rfl⟩ := F.open_
   have VS := J.v.s
   have hBs := VS.lt ouEnc_len (by omega)
   have hcW := F.capM
   have d0 : decide ((x.ln.length : Int) < (x.ln.length : Int)) = false := decide_eq_false (by omega)
   have cc := A
   obtain ⟨a0, a1, a2, a3, a4, a5, a6, a7, a8, a9⟩ := cc
   by_cases h40 : W.length ≤ 40
   ·
    have hG0 : lastS W = W := by unfold lastS; rw [show W.length - 40 = 0 by omega, List.drop_zero]
    have hQG : Hid (Q ↔ W = x.sd) := by unfold Hid; rw [hQ3.out, hG0]
    have dg : decide ((W.length : Int) > 40) = false := decide_eq_false (by omega)
    have dg' : decide ((40 : Int) < (W.length : Int)) = false := decide_eq_false (by omega)
    have dg'' : decide (40 < W.length) = false := decide_eq_false (by omega)
    clear hG0 hQ3
    have VG := F.view.2
    have hBg := VG.lt ouEnc_len (by omega)
    go_upto_region 14 with fail
    clear d0 a0 a1 a2 a3 a4 a5 a6 a7 a8 a9 dg dg' dg'' F hWl
    obtain ⟨G, rfl⟩ : ∃ G, G = W := ⟨W, rfl⟩
    obtain ⟨cG, rfl⟩ : ∃ c_, c_ = cW := ⟨cW, rfl⟩
    go_loopw [9] (fun i wq => ∃ k : Nat, k ≤ G.length ∧ k ≤ x.sd.length ∧ i = .int .i64 (k : Int) ∧ Hid (∀ j, j < k → G.getD j Ou.nil = x.sd.getD j Ou.nil) ∧ Below wr.heap.size wr wq) (fun i _ => G.length - (intOf i).toNat)
    case atStart => exact ⟨0, Nat.zero_le _, Nat.zero_le _, rfl, fun j hj => absurd hj (by omega), Below.refl _ _⟩
    case round =>
     obtain ⟨k, hk, hk', rfl, hF, hb9⟩ := hrel
     have A := A.below hb9 A.lt
     have B := B.trans (hb9.mono B.size)
     have cc := A
     obtain ⟨a0, a1, a2, a3, a4, a5, a6, a7, a8, a9⟩ := cc
     by_cases hlt : k < G.length
     ·
      have d1 : decide ((k : Int) < (G.length : Int)) = true := decide_eq_true (by omega)
      by_cases hlt' : k < x.sd.length
      ·
       have d2 : decide ((k : Int) < (x.sd.length : Int)) = true := decide_eq_true (by omega)
       obtain ⟨bG, oG, rfl, _⟩ := VG (by omega)
       obtain ⟨b', off', hat, _⟩ := VS (by omega)
       obtain ⟨h, hh⟩ : ∃ h, G.getD k Ou.nil = h := ⟨_, rfl⟩
       obtain ⟨h', hh'⟩ : ∃ h, x.sd.getD k Ou.nil = h := ⟨_, rfl⟩
       have hc : ∀ Y, Below wr.heap.size wr Y → OuAtO Y bG (oG + k * 8) h := fun Y hY => by rw [← hh]; exact ouAtO_of ((VG.below (hb9.trans (hY.mono hb9.size)) hBg).at_ ouEnc_len Ou.nil hlt)
       have hc' : ∀ Y, Below wr.heap.size wr Y → OuAtO Y b' (off' + k * 8) h' := fun Y hY => by have h0 := VS.below (hb9.trans (hY.mono hb9.size)) hBs; rw [hat] at h0; rw [← hh']; exact ouAtO_of (h0.at_ ouEnc_len Ou.nil hlt')
       replace hh : Hid _ := hh
       replace hh' : Hid _ := hh'
       replace hat : Hid _ := hat
       by_cases he : h = h'
       ·
        have heq : ∀ w, (binOp .neq 92 (.agg #[.int .i64 h.k, .int .i64 h.pt, .int .i64 h.r, .int .i64 h.c, .int .i64 h.b, .int .i64 h.p, .int .i64 h.h, .bool h.on]) (.agg #[.int .i64 h'.k, .int .i64 h'.pt, .int .i64 h'.r, .int .i64 h'.c, .int .i64 h'.b, .int .i64 h'.p, .int .i64 h'.h, .bool h'.on])).run Tryz.prog w = .ok (.bool false) w := fun w => by subst he; exact neqOu_same h w
        replace he : Hid _ := he
        go_upto_region 16 with fail
        clear a0 a1 a2 a3 a4 a5 a6 a7 a8 a9
        refine wp_region_held (S := fun Y => Below wr.heap.size wr Y) (by kernel_rfl) ?_
        change wpAnyH _ _ _ _ _ _ _ _ (World.drew _)
        have hb0 : Below wr.heap.size wr wr.drew := (Below.refl _ _).drew
        obtain ⟨u0, hu0⟩ := mk_ wr.drew
        rw [← hu0] at hb0 ⊢
        clear hu0
        refine tw 0 64 (.slice (some ⟨bG, oG, none⟩) G.length cG) ?_
        refine tw 1 65 (.int .i64 (k : Int)) ?_
        refine tw 2 66 (.pointer (some ⟨bG, oG + k * 8, none⟩)) ?_ (hy := by intro Y hSw; go_simp; try omega)
        refine tw 3 67 (.agg #[.int .i64 h.k, .int .i64 h.pt, .int .i64 h.r, .int .i64 h.c, .int .i64 h.b, .int .i64 h.p, .int .i64 h.h, .bool h.on]) ?_ (hy := by intro Y hSw; obtain ⟨X0, X1, X2, X3, X4, X5, X6, X7⟩ := hc Y hSw; go_simp)
        refine tw 4 68 (.pointer (some ⟨w.heap.size, 9, none⟩)) ?_
        refine tw 5 69 (.slice (some ⟨b', off', none⟩) x.sd.length x.cS) ?_ (hy := by intro Y hSw; obtain ⟨X0, X1, X2, X3, X4, X5, X6, X7, X8, X9⟩ := A.below hSw A.lt; rw [hat.out] at X9; go_simp)
        refine tw 6 70 (.int .i64 (k : Int)) ?_
        refine tw 7 71 (.pointer (some ⟨b', off' + k * 8, none⟩)) ?_ (hy := by intro Y hSw; go_simp; try omega)
        refine tw 8 72 (.agg #[.int .i64 h'.k, .int .i64 h'.pt, .int .i64 h'.r, .int .i64 h'.c, .int .i64 h'.b, .int .i64 h'.p, .int .i64 h'.h, .bool h'.on]) ?_ (hy := by intro Y hSw; obtain ⟨X0, X1, X2, X3, X4, X5, X6, X7⟩ := hc' Y hSw; go_simp)
        refine tw 9 73 (.bool false) ?_ (hy := by intro w hSw; have hq := heq w; go_simp)
        refine wpAnyH_done (by kernel_rfl) ?_ _
        go_wp2
        go_roundw
        case rel =>
         refine ⟨k + 1, by omega, by omega, by go_num, fun j hj => ?_, hb9.trans (hb0.mono hb9.size)⟩
         by_cases ej : j = k
         ·
          rw [ej, hh.out, hh'.out]; exact he.out
         ·
          exact hF.out j (by omega)
        case measure => simp [intOf]; omega
       ·
        have heq : ∀ w, (binOp .neq 92 (.agg #[.int .i64 h.k, .int .i64 h.pt, .int .i64 h.r, .int .i64 h.c, .int .i64 h.b, .int .i64 h.p, .int .i64 h.h, .bool h.on]) (.agg #[.int .i64 h'.k, .int .i64 h'.pt, .int .i64 h'.r, .int .i64 h'.c, .int .i64 h'.b, .int .i64 h'.p, .int .i64 h'.h, .bool h'.on])).run Tryz.prog w = .ok (.bool true) w := fun w => neqOu_else he w
        replace he : Hid (¬ h = h') := he
        go_upto_region 16 with fail
        clear a0 a1 a2 a3 a4 a5 a6 a7 a8 a9
        refine wp_region_held (S := fun Y => Below wr.heap.size wr Y) (by kernel_rfl) ?_
        change wpAnyH _ _ _ _ _ _ _ _ (World.drew _)
        have hb0 : Below wr.heap.size wr wr.drew := (Below.refl _ _).drew
        obtain ⟨u0, hu0⟩ := mk_ wr.drew
        rw [← hu0] at hb0 ⊢
        clear hu0
        refine tw 0 64 (.slice (some ⟨bG, oG, none⟩) G.length cG) ?_
        refine tw 1 65 (.int .i64 (k : Int)) ?_
        refine tw 2 66 (.pointer (some ⟨bG, oG + k * 8, none⟩)) ?_ (hy := by intro Y hSw; go_simp; try omega)
        refine tw 3 67 (.agg #[.int .i64 h.k, .int .i64 h.pt, .int .i64 h.r, .int .i64 h.c, .int .i64 h.b, .int .i64 h.p, .int .i64 h.h, .bool h.on]) ?_ (hy := by intro Y hSw; obtain ⟨X0, X1, X2, X3, X4, X5, X6, X7⟩ := hc Y hSw; go_simp)
        refine tw 4 68 (.pointer (some ⟨w.heap.size, 9, none⟩)) ?_
        refine tw 5 69 (.slice (some ⟨b', off', none⟩) x.sd.length x.cS) ?_ (hy := by intro Y hSw; obtain ⟨X0, X1, X2, X3, X4, X5, X6, X7, X8, X9⟩ := A.below hSw A.lt; rw [hat.out] at X9; go_simp)
        refine tw 6 70 (.int .i64 (k : Int)) ?_
        refine tw 7 71 (.pointer (some ⟨b', off' + k * 8, none⟩)) ?_ (hy := by intro Y hSw; go_simp; try omega)
        refine tw 8 72 (.agg #[.int .i64 h'.k, .int .i64 h'.pt, .int .i64 h'.r, .int .i64 h'.c, .int .i64 h'.b, .int .i64 h'.p, .int .i64 h'.h, .bool h'.on]) ?_ (hy := by intro Y hSw; obtain ⟨X0, X1, X2, X3, X4, X5, X6, X7⟩ := hc' Y hSw; go_simp)
        refine tw 9 73 (.bool true) ?_ (hy := by intro w hSw; have hq := heq w; go_simp)
        refine wpAnyH_done (by kernel_rfl) ?_ _
        have B := B.trans (hb0.mono B.size)
        go_wp2
        go_ret
        exact ⟨YN.no (fun q_ => he.out (hh.out.symm.trans ((congrArg (fun z => z.getD k Ou.nil) (hQG.out.1 q_)).trans hh'.out))), B⟩
      ·
       have d2 : decide ((k : Int) < (x.sd.length : Int)) = false := decide_eq_false (by omega)
       have d3 : ((G.length : Int) == (x.sd.length : Int)) = false := by rw [beq_eq_false_iff_ne]; omega
       have d3' : (G.length == x.sd.length) = false := by rw [beq_eq_false_iff_ne]; omega
       have hn : Hid (¬ G.length = x.sd.length) := by unfold Hid; omega
       go_wp2
       go_ret
       exact ⟨YN.no (fun q_ => hn.out (congrArg List.length (hQG.out.1 q_))), B⟩
     ·
      obtain rfl : k = G.length := by omega
      have d1 : decide ((G.length : Int) < (G.length : Int)) = false := decide_eq_false (by omega)
      by_cases hn : G.length = x.sd.length
      ·
       have d3 : ((G.length : Int) == (x.sd.length : Int)) = true := by rw [beq_iff_eq]; omega
       have d3' : (G.length == x.sd.length) = true := by rw [beq_iff_eq]; exact hn
       replace hn : Hid _ := hn
       go_wp2
       go_ret
       exact ⟨YN.yes (hQG.out.2 (by apply List.ext_getElem hn.out; intro i h1 h2; have h3 := hF.out i h1; rw [List.getD_eq_getElem?_getD, List.getD_eq_getElem?_getD, List.getElem?_eq_getElem h1, List.getElem?_eq_getElem h2] at h3; exact h3)), B⟩
      ·
       have d3 : ((G.length : Int) == (x.sd.length : Int)) = false := by rw [beq_eq_false_iff_ne]; omega
       have d3' : (G.length == x.sd.length) = false := by rw [beq_eq_false_iff_ne]; exact hn
       replace hn : Hid (¬ G.length = x.sd.length) := hn
       go_wp2
       go_ret
       exact ⟨YN.no (fun q_ => hn.out (congrArg List.length (hQG.out.1 q_))), B⟩
   ·
    obtain ⟨n, hn⟩ : ∃ n, W.length = n + 40 := ⟨W.length - 40, by omega⟩
    have hG0 : lastS W = W.drop n := by unfold lastS; rw [show W.length - 40 = n by omega]
    have hGl : (W.drop n).length = 40 := by rw [List.length_drop]; omega
    have hQG : Hid (Q ↔ W.drop n = x.sd) := by unfold Hid; rw [hQ3.out, hG0]
    have hw_ : IntKind.i64.wrap ((W.length : Int) - 40) = (n : Int) := by rw [IntKind.wrap_i64]; omega
    have dg : decide ((W.length : Int) > 40) = true := decide_eq_true (by omega)
    have dg' : decide ((40 : Int) < (W.length : Int)) = true := decide_eq_true (by omega)
    have dg'' : decide (40 < W.length) = true := decide_eq_true (by omega)
    obtain ⟨g, hg, _, _⟩ := F.row (by omega)
    subst hg
    have VG := F.view.2.dropO (k := n) (by omega)
    have hn2 : W.length - n = 40 := by omega
    have hq2 : n ≤ W.length := by omega
    have hlt2 : n < cW := by omega
    clear hG0 hQ3
    replace hGl : Hid _ := hGl
    replace hn : Hid _ := hn
    go_upto_region 14 with fail
    clear hn2 hw_ hq2 hlt2 dg dg' dg'' F hWl d0 a0 a1 a2 a3 a4 a5 a6 a7 a8 a9
    obtain ⟨G, hG_⟩ := mk_ (W.drop n)
    rw [← hG_] at VG hQG hGl
    have hGz : (40 : Nat) = G.length := hGl.out.symm
    clear hG_ hn
    obtain ⟨cG, hcG⟩ := mk_ (cW - n)
    obtain ⟨aG, haG⟩ := mk_ (some (⟨g, n * 8, none⟩ : Addr))
    rw [← haG] at VG
    have hBg := VG.lt ouEnc_len (by omega)
    rw [show (Value.slice (some ⟨g, n * 8, none⟩) 40 (cW - n)) = Value.slice aG G.length cG from by rw [haG, hcG, hGl.out]]
    have hG41 : G.length ≤ 40 := by omega
    clear haG hcG hGl hGz
    go_loopw [9] (fun i wq => ∃ k : Nat, k ≤ G.length ∧ k ≤ x.sd.length ∧ i = .int .i64 (k : Int) ∧ Hid (∀ j, j < k → G.getD j Ou.nil = x.sd.getD j Ou.nil) ∧ Below wr.heap.size wr wq) (fun i _ => G.length - (intOf i).toNat)
    case atStart => exact ⟨0, Nat.zero_le _, Nat.zero_le _, rfl, fun j hj => absurd hj (by omega), Below.refl _ _⟩
    case round =>
     obtain ⟨k, hk, hk', rfl, hF, hb9⟩ := hrel
     have A := A.below hb9 A.lt
     have B := B.trans (hb9.mono B.size)
     have cc := A
     obtain ⟨a0, a1, a2, a3, a4, a5, a6, a7, a8, a9⟩ := cc
     by_cases hlt : k < G.length
     ·
      have d1 : decide ((k : Int) < (G.length : Int)) = true := decide_eq_true (by omega)
      by_cases hlt' : k < x.sd.length
      ·
       have d2 : decide ((k : Int) < (x.sd.length : Int)) = true := decide_eq_true (by omega)
       obtain ⟨bG, oG, rfl, _⟩ := VG (by omega)
       obtain ⟨b', off', hat, _⟩ := VS (by omega)
       obtain ⟨h, hh⟩ : ∃ h, G.getD k Ou.nil = h := ⟨_, rfl⟩
       obtain ⟨h', hh'⟩ : ∃ h, x.sd.getD k Ou.nil = h := ⟨_, rfl⟩
       have hc : ∀ Y, Below wr.heap.size wr Y → OuAtO Y bG (oG + k * 8) h := fun Y hY => by rw [← hh]; exact ouAtO_of ((VG.below (hb9.trans (hY.mono hb9.size)) hBg).at_ ouEnc_len Ou.nil hlt)
       have hc' : ∀ Y, Below wr.heap.size wr Y → OuAtO Y b' (off' + k * 8) h' := fun Y hY => by have h0 := VS.below (hb9.trans (hY.mono hb9.size)) hBs; rw [hat] at h0; rw [← hh']; exact ouAtO_of (h0.at_ ouEnc_len Ou.nil hlt')
       replace hh : Hid _ := hh
       replace hh' : Hid _ := hh'
       replace hat : Hid _ := hat
       by_cases he : h = h'
       ·
        have heq : ∀ w, (binOp .neq 92 (.agg #[.int .i64 h.k, .int .i64 h.pt, .int .i64 h.r, .int .i64 h.c, .int .i64 h.b, .int .i64 h.p, .int .i64 h.h, .bool h.on]) (.agg #[.int .i64 h'.k, .int .i64 h'.pt, .int .i64 h'.r, .int .i64 h'.c, .int .i64 h'.b, .int .i64 h'.p, .int .i64 h'.h, .bool h'.on])).run Tryz.prog w = .ok (.bool false) w := fun w => by subst he; exact neqOu_same h w
        replace he : Hid _ := he
        go_upto_region 16 with fail
        clear a0 a1 a2 a3 a4 a5 a6 a7 a8 a9
        refine wp_region_held (S := fun Y => Below wr.heap.size wr Y) (by kernel_rfl) ?_
        change wpAnyH _ _ _ _ _ _ _ _ (World.drew _)
        have hb0 : Below wr.heap.size wr wr.drew := (Below.refl _ _).drew
        obtain ⟨u0, hu0⟩ := mk_ wr.drew
        rw [← hu0] at hb0 ⊢
        clear hu0
        refine tw 0 64 (.slice (some ⟨bG, oG, none⟩) G.length cG) ?_
        refine tw 1 65 (.int .i64 (k : Int)) ?_
        refine tw 2 66 (.pointer (some ⟨bG, oG + k * 8, none⟩)) ?_ (hy := by intro Y hSw; go_simp; try omega)
        refine tw 3 67 (.agg #[.int .i64 h.k, .int .i64 h.pt, .int .i64 h.r, .int .i64 h.c, .int .i64 h.b, .int .i64 h.p, .int .i64 h.h, .bool h.on]) ?_ (hy := by intro Y hSw; obtain ⟨X0, X1, X2, X3, X4, X5, X6, X7⟩ := hc Y hSw; go_simp)
        refine tw 4 68 (.pointer (some ⟨w.heap.size, 9, none⟩)) ?_
        refine tw 5 69 (.slice (some ⟨b', off', none⟩) x.sd.length x.cS) ?_ (hy := by intro Y hSw; obtain ⟨X0, X1, X2, X3, X4, X5, X6, X7, X8, X9⟩ := A.below hSw A.lt; rw [hat.out] at X9; go_simp)
        refine tw 6 70 (.int .i64 (k : Int)) ?_
        refine tw 7 71 (.pointer (some ⟨b', off' + k * 8, none⟩)) ?_ (hy := by intro Y hSw; go_simp; try omega)
        refine tw 8 72 (.agg #[.int .i64 h'.k, .int .i64 h'.pt, .int .i64 h'.r, .int .i64 h'.c, .int .i64 h'.b, .int .i64 h'.p, .int .i64 h'.h, .bool h'.on]) ?_ (hy := by intro Y hSw; obtain ⟨X0, X1, X2, X3, X4, X5, X6, X7⟩ := hc' Y hSw; go_simp)
        refine tw 9 73 (.bool false) ?_ (hy := by intro w hSw; have hq := heq w; go_simp)
        refine wpAnyH_done (by kernel_rfl) ?_ _
        go_wp2
        go_roundw
        case rel =>
         refine ⟨k + 1, by omega, by omega, by go_num, fun j hj => ?_, hb9.trans (hb0.mono hb9.size)⟩
         by_cases ej : j = k
         ·
          rw [ej, hh.out, hh'.out]; exact he.out
         ·
          exact hF.out j (by omega)
        case measure => simp [intOf]; omega
       ·
        have heq : ∀ w, (binOp .neq 92 (.agg #[.int .i64 h.k, .int .i64 h.pt, .int .i64 h.r, .int .i64 h.c, .int .i64 h.b, .int .i64 h.p, .int .i64 h.h, .bool h.on]) (.agg #[.int .i64 h'.k, .int .i64 h'.pt, .int .i64 h'.r, .int .i64 h'.c, .int .i64 h'.b, .int .i64 h'.p, .int .i64 h'.h, .bool h'.on])).run Tryz.prog w = .ok (.bool true) w := fun w => neqOu_else he w
        replace he : Hid (¬ h = h') := he
        go_upto_region 16 with fail
        clear a0 a1 a2 a3 a4 a5 a6 a7 a8 a9
        refine wp_region_held (S := fun Y => Below wr.heap.size wr Y) (by kernel_rfl) ?_
        change wpAnyH _ _ _ _ _ _ _ _ (World.drew _)
        have hb0 : Below wr.heap.size wr wr.drew := (Below.refl _ _).drew
        obtain ⟨u0, hu0⟩ := mk_ wr.drew
        rw [← hu0] at hb0 ⊢
        clear hu0
        refine tw 0 64 (.slice (some ⟨bG, oG, none⟩) G.length cG) ?_
        refine tw 1 65 (.int .i64 (k : Int)) ?_
        refine tw 2 66 (.pointer (some ⟨bG, oG + k * 8, none⟩)) ?_ (hy := by intro Y hSw; go_simp; try omega)
        refine tw 3 67 (.agg #[.int .i64 h.k, .int .i64 h.pt, .int .i64 h.r, .int .i64 h.c, .int .i64 h.b, .int .i64 h.p, .int .i64 h.h, .bool h.on]) ?_ (hy := by intro Y hSw; obtain ⟨X0, X1, X2, X3, X4, X5, X6, X7⟩ := hc Y hSw; go_simp)
        refine tw 4 68 (.pointer (some ⟨w.heap.size, 9, none⟩)) ?_
        refine tw 5 69 (.slice (some ⟨b', off', none⟩) x.sd.length x.cS) ?_ (hy := by intro Y hSw; obtain ⟨X0, X1, X2, X3, X4, X5, X6, X7, X8, X9⟩ := A.below hSw A.lt; rw [hat.out] at X9; go_simp)
        refine tw 6 70 (.int .i64 (k : Int)) ?_
        refine tw 7 71 (.pointer (some ⟨b', off' + k * 8, none⟩)) ?_ (hy := by intro Y hSw; go_simp; try omega)
        refine tw 8 72 (.agg #[.int .i64 h'.k, .int .i64 h'.pt, .int .i64 h'.r, .int .i64 h'.c, .int .i64 h'.b, .int .i64 h'.p, .int .i64 h'.h, .bool h'.on]) ?_ (hy := by intro Y hSw; obtain ⟨X0, X1, X2, X3, X4, X5, X6, X7⟩ := hc' Y hSw; go_simp)
        refine tw 9 73 (.bool true) ?_ (hy := by intro w hSw; have hq := heq w; go_simp)
        refine wpAnyH_done (by kernel_rfl) ?_ _
        have B := B.trans (hb0.mono B.size)
        go_wp2
        go_ret
        exact ⟨YN.no (fun q_ => he.out (hh.out.symm.trans ((congrArg (fun z => z.getD k Ou.nil) (hQG.out.1 q_)).trans hh'.out))), B⟩
      ·
       have d2 : decide ((k : Int) < (x.sd.length : Int)) = false := decide_eq_false (by omega)
       have d3 : ((G.length : Int) == (x.sd.length : Int)) = false := by rw [beq_eq_false_iff_ne]; omega
       have d3' : (G.length == x.sd.length) = false := by rw [beq_eq_false_iff_ne]; omega
       have hn : Hid (¬ G.length = x.sd.length) := by unfold Hid; omega
       go_wp2
       go_ret
       exact ⟨YN.no (fun q_ => hn.out (congrArg List.length (hQG.out.1 q_))), B⟩
     ·
      obtain rfl : k = G.length := by omega
      have d1 : decide ((G.length : Int) < (G.length : Int)) = false := decide_eq_false (by omega)
      by_cases hn : G.length = x.sd.length
      ·
       have d3 : ((G.length : Int) == (x.sd.length : Int)) = true := by rw [beq_iff_eq]; omega
       have d3' : (G.length == x.sd.length) = true := by rw [beq_iff_eq]; exact hn
       replace hn : Hid _ := hn
       go_wp2
       go_ret
       exact ⟨YN.yes (hQG.out.2 (by apply List.ext_getElem hn.out; intro i h1 h2; have h3 := hF.out i h1; rw [List.getD_eq_getElem?_getD, List.getD_eq_getElem?_getD, List.getElem?_eq_getElem h1, List.getElem?_eq_getElem h2] at h3; exact h3)), B⟩
      ·
       have d3 : ((G.length : Int) == (x.sd.length : Int)) = false := by rw [beq_eq_false_iff_ne]; omega
       have d3' : (G.length == x.sd.length) = false := by rw [beq_eq_false_iff_ne]; exact hn
       replace hn : Hid (¬ G.length = x.sd.length) := hn
       go_wp2
       go_ret
       exact ⟨YN.no (fun q_ => hn.out (congrArg List.length (hQG.out.1 q_))), B⟩
end Go.Proofs.YtnpiljegdiconabGreat
