import Derived.Test.YtnpiljegdiconaaGreatQKWBxd14
import Derived.Test.YtnpiljegdiconaaGreatQKWBxd17
import Derived.Test.YtnpiljegdiconaaGreatQKWBxd19
import Derived.Test.YtnpiljegdiconaaGreatQKWBxd20
namespace Go.Proofs.YtnpiljegdiconaaGreat
open Go.ChangeShapes Go.WideShapes Go.ChangeAt Go.RowKit
open Go.ChangeMaps (open_string shut_string)
set_option linter.unusedVariables false
set_option maxRecDepth 100000
theorem numB_is {v : Int} (h : numB v = true) : 0 ≤ v ∧ v ≤ 100000 := by unfold numB at h; simpa using h
set_option linter.unusedSimpArgs false in
set_option maxHeartbeats 16000000 in
theorem oneS15 (x : BxD) (d : De) (w : World) (base : Nat) (hO : BxO base w x) (hbw : base ≤ w.heap.size) (hb : bxOk x.p = true) :
  Calls Tryz.prog 200 #[.agg #[.int .i64 x.id, .int .i64 x.po, .int .i64 x.rg.ep, .int .i64 x.rg.ow, .int .i64 x.rg.pa, .slice x.aT x.two.length x.cT, .slice x.aN x.net.length x.cN, .slice x.aG x.ga.length x.cG, .slice x.aL x.ln.length x.cL, .slice x.aS x.sd.length x.cS], .agg #[.int .i64 d.k, .int .i64 d.a, .int .i64 d.x.k, .int .i64 d.x.q, .int .i64 d.x.r, .int .i64 d.x.c, .int .i64 d.x.b, .int .i64 d.x.p, .int .i64 d.x.h, .bool d.x.up]] w fun e w' => ∃ x2 : BxD, ∃ c : Int, e = .returned (.tuple #[.agg #[.int .i64 x2.id, .int .i64 x2.po, .int .i64 x2.rg.ep, .int .i64 x2.rg.ow, .int .i64 x2.rg.pa, .slice x2.aT x2.two.length x2.cT, .slice x2.aN x2.net.length x2.cN, .slice x2.aG x2.ga.length x2.cG, .slice x2.aL x2.ln.length x2.cL, .slice x2.aS x2.sd.length x2.cS], .int .i64 c]) ∧ (x2.p, c) = oneX x.p d ∧ BxO base w' x2 ∧ Below base w w' ∧ PZ w w' := by
 obtain ⟨y, hy⟩ := mk_ (((w.alloc (Obj.cells #[.int .i64 x.id, .int .i64 x.po, .int .i64 x.rg.ep, .int .i64 x.rg.ow, .int .i64 x.rg.pa, .slice x.aT x.two.length x.cT, .slice x.aN x.net.length x.cN, .slice x.aG x.ga.length x.cG, .slice x.aL x.ln.length x.cL, .slice x.aS x.sd.length x.cS] 48)).alloc (Obj.cells #[.int .i64 d.k, .int .i64 d.a, .int .i64 d.x.k, .int .i64 d.x.q, .int .i64 d.x.r, .int .i64 d.x.c, .int .i64 d.x.b, .int .i64 d.x.p, .int .i64 d.x.h, .bool d.x.up] 236)).alloc (Obj.cells #[.int .i64 0, .int .i64 0, .int .i64 0, .int .i64 0, .int .i64 0, .slice none 0 0, .slice none 0 0, .slice none 0 0, .slice none 0 0, .slice none 0 0] 48));obtain ⟨S, D, B0, ND⟩ := stepStartD x d w y hO hbw hy;obtain ⟨hl2, hmi, _, _, _, _⟩ := bxOk_small hb;have V := S.O.okV hb;have li0 := numB_is (miOk_iff.1 (hmi 0 (by omega))).1;have li1 := numB_is (miOk_iff.1 (hmi 1 (by omega))).1;obtain ⟨R, hR⟩ := mk_ (oneX x.p d);rw [← hR];replace hR : Hid _ := hR;replace hb : Hid _ := hb;replace hl2 : Hid _ := hl2;clear hO hmi;have PZ_ := PZ.of B0;go_enter Tryz.func200, Tryz.ntmps200
 go_upto_region 1 with fail
 rw [← hy];clear hy;have c0 := D.c0;go_upto_region 2 with fail
 by_cases h1 : d.k = 1
 ·
  have q1 : (d.k == 1) = true := by simpa using h1
  replace h1 : Hid _ := h1;obtain ⟨a0, a1, a2, a3, a4, a5, a6, a7, a8, a9⟩ := S.A.at_;obtain ⟨e0, e1, e2, e3, e4, e5, e6, e7, e8, e9⟩ := id D;go_wp2_with fail
  go_at_call 224
  clear a0 a1 a2 a3 a4 a5 a6 a7 a8 a9 e0 e1 e2 e3 e4 e5 e6 e7 e8 e9;refine (inS15 x d y base S.O V S.sz hl2.out).mono ?_;rintro e u1 ⟨x2, c2, rfl, hp, O2, B2, P2⟩;have hX : Hid ((x2.p, c2) = R) := by unfold Hid; rw [hp, hR.out]; unfold oneX; rw [if_pos h1.out]
  clear hp;go_upto_region 4 with fail
  obtain ⟨u2, hu2⟩ := mk_ (u1.alloc (Obj.cells #[.int .i64 x2.id, .int .i64 x2.po, .int .i64 x2.rg.ep, .int .i64 x2.rg.ow, .int .i64 x2.rg.pa, .slice x2.aT x2.two.length x2.cT, .slice x2.aN x2.net.length x2.cN, .slice x2.aG x2.ga.length x2.cG, .slice x2.aL x2.ln.length x2.cL, .slice x2.aS x2.sd.length x2.cS] 48));rw [← hu2];have kq : Below u1.heap.size u1 u2 := by rw [hu2]; exact below_new _
  have A2 : BxAt u2 u1.heap.size x2 := by rw [hu2]; exact BxAt.new u1 _ x2
  clear hu2;have Z := P2.2 _ S.Z;have Z : ZBx u2 (w.heap.size + 1 + 1) := Z.keep (kq.block _ Z.lt_);have O := O2.later kq;have B1 := (S.B.trans B2).trans (kq.mono (Nat.le_trans S.sz P2.1));have P1 := (PZ_.trans P2).later kq;have O9 : BxO base (P10 u2 (w.heap.size + 1 + 1) x2) x2 := O.keepZ Z (fun g_ hg_ => heap_put10 u2 (w.heap.size + 1 + 1) g_ x2 hg_);have B9 : Below base w (P10 u2 (w.heap.size + 1 + 1) x2) := below_put10 (q := w.heap.size + 1 + 1) x2 B1 (by omega);have P9 : PZ w (P10 u2 (w.heap.size + 1 + 1) x2) := P1.keep (n := w.heap.size + 1 + 1) (by omega) (fun g_ hg_ => heap_put10 u2 (w.heap.size + 1 + 1) g_ x2 hg_) (by simp);have ZB := Z.box;obtain ⟨r0, r1, r2, r3, r4, r5, r6, r7, r8, r9, g0, g1, g2, g3, g4, g5, g6, g7, g8, g9⟩ := zten ZB;clear S Z O B1 P1 O2 B2 P2;obtain ⟨a0, a1, a2, a3, a4, a5, a6, a7, a8, a9⟩ := id A2;clear A2;go_wp2
  refine bodyPost_ret (v := .tuple #[bvx x2, .int .i64 c2]) (by simp [bvx, results, Tryz.results200, go_sem, *]) rfl ⟨x2, c2, rfl, hX.out, O9, B9, P9⟩
 have q1 : (d.k == 1) = false := by simpa using h1
 replace h1 : Hid (¬ d.k = 1) := h1;by_cases h6 : d.k = 6
 ·
  have q6 : (d.k == 6) = true := by simpa using h6
  replace h6 : Hid _ := h6;obtain ⟨a0, a1, a2, a3, a4, a5, a6, a7, a8, a9⟩ := S.A.at_;obtain ⟨e0, e1, e2, e3, e4, e5, e6, e7, e8, e9⟩ := id D;go_wp2_with fail
  go_at_call 225
  clear a0 a1 a2 a3 a4 a5 a6 a7 a8 a9 e0 e1 e2 e3 e4 e5 e6 e7 e8 e9;refine (sayS15 x y base S.O S.sz hb.out).mono ?_;rintro e u1 ⟨x2, c2, rfl, hp, O2, B2, P2⟩;have hX : Hid ((x2.p, c2) = R) := by unfold Hid; rw [hp, hR.out]; unfold oneX; rw [if_neg h1.out, if_pos h6.out]
  clear hp;go_upto_region 7 with fail
  obtain ⟨u2, hu2⟩ := mk_ (u1.alloc (Obj.cells #[.int .i64 x2.id, .int .i64 x2.po, .int .i64 x2.rg.ep, .int .i64 x2.rg.ow, .int .i64 x2.rg.pa, .slice x2.aT x2.two.length x2.cT, .slice x2.aN x2.net.length x2.cN, .slice x2.aG x2.ga.length x2.cG, .slice x2.aL x2.ln.length x2.cL, .slice x2.aS x2.sd.length x2.cS] 48));rw [← hu2];have kq : Below u1.heap.size u1 u2 := by rw [hu2]; exact below_new _
  have A2 : BxAt u2 u1.heap.size x2 := by rw [hu2]; exact BxAt.new u1 _ x2
  clear hu2;have Z := P2.2 _ S.Z;have Z : ZBx u2 (w.heap.size + 1 + 1) := Z.keep (kq.block _ Z.lt_);have O := O2.later kq;have B1 := (S.B.trans B2).trans (kq.mono (Nat.le_trans S.sz P2.1));have P1 := (PZ_.trans P2).later kq;have O9 : BxO base (P10 u2 (w.heap.size + 1 + 1) x2) x2 := O.keepZ Z (fun g_ hg_ => heap_put10 u2 (w.heap.size + 1 + 1) g_ x2 hg_);have B9 : Below base w (P10 u2 (w.heap.size + 1 + 1) x2) := below_put10 (q := w.heap.size + 1 + 1) x2 B1 (by omega);have P9 : PZ w (P10 u2 (w.heap.size + 1 + 1) x2) := P1.keep (n := w.heap.size + 1 + 1) (by omega) (fun g_ hg_ => heap_put10 u2 (w.heap.size + 1 + 1) g_ x2 hg_) (by simp);have ZB := Z.box;obtain ⟨r0, r1, r2, r3, r4, r5, r6, r7, r8, r9, g0, g1, g2, g3, g4, g5, g6, g7, g8, g9⟩ := zten ZB;clear S Z O B1 P1 O2 B2 P2;obtain ⟨a0, a1, a2, a3, a4, a5, a6, a7, a8, a9⟩ := id A2;clear A2;go_wp2
  refine bodyPost_ret (v := .tuple #[bvx x2, .int .i64 c2]) (by simp [bvx, results, Tryz.results200, go_sem, *]) rfl ⟨x2, c2, rfl, hX.out, O9, B9, P9⟩
 have q6 : (d.k == 6) = false := by simpa using h6
 replace h6 : Hid (¬ d.k = 6) := h6;by_cases h3 : d.k = 3
 ·
  have q3 : (d.k == 3) = true := by simpa using h3
  replace h3 : Hid _ := h3;obtain ⟨a0, a1, a2, a3, a4, a5, a6, a7, a8, a9⟩ := S.A.at_;obtain ⟨e0, e1, e2, e3, e4, e5, e6, e7, e8, e9⟩ := id D;go_wp2_with fail
  go_at_call 226
  clear a0 a1 a2 a3 a4 a5 a6 a7 a8 a9 e0 e1 e2 e3 e4 e5 e6 e7 e8 e9;refine (netS15 x d y base S.O S.sz hb.out).mono ?_;rintro e u1 ⟨x2, c2, rfl, hp, O2, B2, P2⟩;have hX : Hid ((x2.p, c2) = R) := by unfold Hid; rw [hp, hR.out]; unfold oneX; rw [if_neg h1.out, if_neg h6.out, if_pos (Or.inl h3.out)]
  clear hp;go_upto_region 12 with fail
  obtain ⟨u2, hu2⟩ := mk_ (u1.alloc (Obj.cells #[.int .i64 x2.id, .int .i64 x2.po, .int .i64 x2.rg.ep, .int .i64 x2.rg.ow, .int .i64 x2.rg.pa, .slice x2.aT x2.two.length x2.cT, .slice x2.aN x2.net.length x2.cN, .slice x2.aG x2.ga.length x2.cG, .slice x2.aL x2.ln.length x2.cL, .slice x2.aS x2.sd.length x2.cS] 48));rw [← hu2];have kq : Below u1.heap.size u1 u2 := by rw [hu2]; exact below_new _
  have A2 : BxAt u2 u1.heap.size x2 := by rw [hu2]; exact BxAt.new u1 _ x2
  clear hu2;have Z := P2.2 _ S.Z;have Z : ZBx u2 (w.heap.size + 1 + 1) := Z.keep (kq.block _ Z.lt_);have O := O2.later kq;have B1 := (S.B.trans B2).trans (kq.mono (Nat.le_trans S.sz P2.1));have P1 := (PZ_.trans P2).later kq;have O9 : BxO base (P10 u2 (w.heap.size + 1 + 1) x2) x2 := O.keepZ Z (fun g_ hg_ => heap_put10 u2 (w.heap.size + 1 + 1) g_ x2 hg_);have B9 : Below base w (P10 u2 (w.heap.size + 1 + 1) x2) := below_put10 (q := w.heap.size + 1 + 1) x2 B1 (by omega);have P9 : PZ w (P10 u2 (w.heap.size + 1 + 1) x2) := P1.keep (n := w.heap.size + 1 + 1) (by omega) (fun g_ hg_ => heap_put10 u2 (w.heap.size + 1 + 1) g_ x2 hg_) (by simp);have ZB := Z.box;obtain ⟨r0, r1, r2, r3, r4, r5, r6, r7, r8, r9, g0, g1, g2, g3, g4, g5, g6, g7, g8, g9⟩ := zten ZB;clear S Z O B1 P1 O2 B2 P2;obtain ⟨a0, a1, a2, a3, a4, a5, a6, a7, a8, a9⟩ := id A2;clear A2;go_wp2
  refine bodyPost_ret (v := .tuple #[bvx x2, .int .i64 c2]) (by simp [bvx, results, Tryz.results200, go_sem, *]) rfl ⟨x2, c2, rfl, hX.out, O9, B9, P9⟩
 have q3 : (d.k == 3) = false := by simpa using h3
 replace h3 : Hid (¬ d.k = 3) := h3;by_cases h4 : d.k = 4
 ·
  have q4 : (d.k == 4) = true := by simpa using h4
  replace h4 : Hid _ := h4;obtain ⟨a0, a1, a2, a3, a4, a5, a6, a7, a8, a9⟩ := S.A.at_;obtain ⟨e0, e1, e2, e3, e4, e5, e6, e7, e8, e9⟩ := id D;go_wp2_with fail
  go_at_call 226
  clear a0 a1 a2 a3 a4 a5 a6 a7 a8 a9 e0 e1 e2 e3 e4 e5 e6 e7 e8 e9;refine (netS15 x d y base S.O S.sz hb.out).mono ?_;rintro e u1 ⟨x2, c2, rfl, hp, O2, B2, P2⟩;have hX : Hid ((x2.p, c2) = R) := by unfold Hid; rw [hp, hR.out]; unfold oneX; rw [if_neg h1.out, if_neg h6.out, if_pos (Or.inr (Or.inl h4.out))]
  clear hp;go_upto_region 12 with fail
  obtain ⟨u2, hu2⟩ := mk_ (u1.alloc (Obj.cells #[.int .i64 x2.id, .int .i64 x2.po, .int .i64 x2.rg.ep, .int .i64 x2.rg.ow, .int .i64 x2.rg.pa, .slice x2.aT x2.two.length x2.cT, .slice x2.aN x2.net.length x2.cN, .slice x2.aG x2.ga.length x2.cG, .slice x2.aL x2.ln.length x2.cL, .slice x2.aS x2.sd.length x2.cS] 48));rw [← hu2];have kq : Below u1.heap.size u1 u2 := by rw [hu2]; exact below_new _
  have A2 : BxAt u2 u1.heap.size x2 := by rw [hu2]; exact BxAt.new u1 _ x2
  clear hu2;have Z := P2.2 _ S.Z;have Z : ZBx u2 (w.heap.size + 1 + 1) := Z.keep (kq.block _ Z.lt_);have O := O2.later kq;have B1 := (S.B.trans B2).trans (kq.mono (Nat.le_trans S.sz P2.1));have P1 := (PZ_.trans P2).later kq;have O9 : BxO base (P10 u2 (w.heap.size + 1 + 1) x2) x2 := O.keepZ Z (fun g_ hg_ => heap_put10 u2 (w.heap.size + 1 + 1) g_ x2 hg_);have B9 : Below base w (P10 u2 (w.heap.size + 1 + 1) x2) := below_put10 (q := w.heap.size + 1 + 1) x2 B1 (by omega);have P9 : PZ w (P10 u2 (w.heap.size + 1 + 1) x2) := P1.keep (n := w.heap.size + 1 + 1) (by omega) (fun g_ hg_ => heap_put10 u2 (w.heap.size + 1 + 1) g_ x2 hg_) (by simp);have ZB := Z.box;obtain ⟨r0, r1, r2, r3, r4, r5, r6, r7, r8, r9, g0, g1, g2, g3, g4, g5, g6, g7, g8, g9⟩ := zten ZB;clear S Z O B1 P1 O2 B2 P2;obtain ⟨a0, a1, a2, a3, a4, a5, a6, a7, a8, a9⟩ := id A2;clear A2;go_wp2
  refine bodyPost_ret (v := .tuple #[bvx x2, .int .i64 c2]) (by simp [bvx, results, Tryz.results200, go_sem, *]) rfl ⟨x2, c2, rfl, hX.out, O9, B9, P9⟩
 have q4 : (d.k == 4) = false := by simpa using h4
 replace h4 : Hid (¬ d.k = 4) := h4;by_cases h5 : d.k = 5
 ·
  have q5 : (d.k == 5) = true := by simpa using h5
  replace h5 : Hid _ := h5;obtain ⟨a0, a1, a2, a3, a4, a5, a6, a7, a8, a9⟩ := S.A.at_;obtain ⟨e0, e1, e2, e3, e4, e5, e6, e7, e8, e9⟩ := id D;go_wp2_with fail
  go_at_call 226
  clear a0 a1 a2 a3 a4 a5 a6 a7 a8 a9 e0 e1 e2 e3 e4 e5 e6 e7 e8 e9;refine (netS15 x d y base S.O S.sz hb.out).mono ?_;rintro e u1 ⟨x2, c2, rfl, hp, O2, B2, P2⟩;have hX : Hid ((x2.p, c2) = R) := by unfold Hid; rw [hp, hR.out]; unfold oneX; rw [if_neg h1.out, if_neg h6.out, if_pos (Or.inr (Or.inr h5.out))]
  clear hp;go_upto_region 12 with fail
  obtain ⟨u2, hu2⟩ := mk_ (u1.alloc (Obj.cells #[.int .i64 x2.id, .int .i64 x2.po, .int .i64 x2.rg.ep, .int .i64 x2.rg.ow, .int .i64 x2.rg.pa, .slice x2.aT x2.two.length x2.cT, .slice x2.aN x2.net.length x2.cN, .slice x2.aG x2.ga.length x2.cG, .slice x2.aL x2.ln.length x2.cL, .slice x2.aS x2.sd.length x2.cS] 48));rw [← hu2];have kq : Below u1.heap.size u1 u2 := by rw [hu2]; exact below_new _
  have A2 : BxAt u2 u1.heap.size x2 := by rw [hu2]; exact BxAt.new u1 _ x2
  clear hu2;have Z := P2.2 _ S.Z;have Z : ZBx u2 (w.heap.size + 1 + 1) := Z.keep (kq.block _ Z.lt_);have O := O2.later kq;have B1 := (S.B.trans B2).trans (kq.mono (Nat.le_trans S.sz P2.1));have P1 := (PZ_.trans P2).later kq;have O9 : BxO base (P10 u2 (w.heap.size + 1 + 1) x2) x2 := O.keepZ Z (fun g_ hg_ => heap_put10 u2 (w.heap.size + 1 + 1) g_ x2 hg_);have B9 : Below base w (P10 u2 (w.heap.size + 1 + 1) x2) := below_put10 (q := w.heap.size + 1 + 1) x2 B1 (by omega);have P9 : PZ w (P10 u2 (w.heap.size + 1 + 1) x2) := P1.keep (n := w.heap.size + 1 + 1) (by omega) (fun g_ hg_ => heap_put10 u2 (w.heap.size + 1 + 1) g_ x2 hg_) (by simp);have ZB := Z.box;obtain ⟨r0, r1, r2, r3, r4, r5, r6, r7, r8, r9, g0, g1, g2, g3, g4, g5, g6, g7, g8, g9⟩ := zten ZB;clear S Z O B1 P1 O2 B2 P2;obtain ⟨a0, a1, a2, a3, a4, a5, a6, a7, a8, a9⟩ := id A2;clear A2;go_wp2
  refine bodyPost_ret (v := .tuple #[bvx x2, .int .i64 c2]) (by simp [bvx, results, Tryz.results200, go_sem, *]) rfl ⟨x2, c2, rfl, hX.out, O9, B9, P9⟩
 have q5 : (d.k == 5) = false := by simpa using h5
 replace h5 : Hid (¬ d.k = 5) := h5;go_upto_region 13 with fail
 have c1 := D.c1;go_wp2_with fail
 go_at_call 65
 clear c1;refine (inB d.a 0 1 y).mono ?_;rintro e u9 ⟨rfl, hw_⟩;rw [hw_];clear hw_ u9;cases hI : decide (0 ≤ d.a ∧ d.a ≤ 1)
 ·
  have hX1 : Hid (d.a < 0 ∨ 1 < d.a) := by unfold Hid; have := of_decide_eq_false hI; omega
  obtain ⟨O9, B9⟩ := S.ret;have P9 := S.pz PZ_ (by omega);have ZB := S.Z.box;obtain ⟨a0, a1, a2, a3, a4, a5, a6, a7, a8, a9⟩ := S.A.at_;obtain ⟨r0, r1, r2, r3, r4, r5, r6, r7, r8, r9, g0, g1, g2, g3, g4, g5, g6, g7, g8, g9⟩ := zten ZB;clear S;go_wp2
  refine bodyPost_ret (v := .tuple #[bvx x, .int .i64 2]) (by simp [bvx, results, Tryz.results200, go_sem, *]) rfl ⟨x, 2, rfl, by rw [hR.out]; unfold oneX; rw [if_neg h1.out, if_neg h6.out, if_neg (by rintro (h | h | h); exact h3.out h; exact h4.out h; exact h5.out h), if_pos hX1.out], O9, B9, P9⟩
 have ha : Hid (0 ≤ d.a ∧ d.a ≤ 1) := by unfold Hid; exact of_decide_eq_true hI
 clear hI;by_cases h2 : d.k = 2
 ·
  have q2 : (d.k == 2) = true := by simpa using h2
  replace h2 : Hid _ := h2;obtain ⟨a0, a1, a2, a3, a4, a5, a6, a7, a8, a9⟩ := S.A.at_;obtain ⟨e0, e1, e2, e3, e4, e5, e6, e7, e8, e9⟩ := id D;go_wp2_with fail
  go_at_call 227
  clear a0 a1 a2 a3 a4 a5 a6 a7 a8 a9 e0 e1 e2 e3 e4 e5 e6 e7 e8 e9;refine (shipS x d.a y base S.O S.sz hb.out ha.out).mono ?_;rintro e u1 ⟨x2, c2, rfl, hp, O2, B2, P2⟩;have hX : Hid ((x2.p, c2) = R) := by unfold Hid; rw [hp, hR.out]; unfold oneX; rw [if_neg h1.out, if_neg h6.out, if_neg (by rintro (h | h | h); exact h3.out h; exact h4.out h; exact h5.out h), if_neg (by have := ha.out; omega), if_pos h2.out]
  clear hp;go_upto_region 18 with fail
  obtain ⟨u2, hu2⟩ := mk_ (u1.alloc (Obj.cells #[.int .i64 x2.id, .int .i64 x2.po, .int .i64 x2.rg.ep, .int .i64 x2.rg.ow, .int .i64 x2.rg.pa, .slice x2.aT x2.two.length x2.cT, .slice x2.aN x2.net.length x2.cN, .slice x2.aG x2.ga.length x2.cG, .slice x2.aL x2.ln.length x2.cL, .slice x2.aS x2.sd.length x2.cS] 48));rw [← hu2];have kq : Below u1.heap.size u1 u2 := by rw [hu2]; exact below_new _
  have A2 : BxAt u2 u1.heap.size x2 := by rw [hu2]; exact BxAt.new u1 _ x2
  clear hu2;have Z := P2.2 _ S.Z;have Z : ZBx u2 (w.heap.size + 1 + 1) := Z.keep (kq.block _ Z.lt_);have O := O2.later kq;have B1 := (S.B.trans B2).trans (kq.mono (Nat.le_trans S.sz P2.1));have P1 := (PZ_.trans P2).later kq;have O9 : BxO base (P10 u2 (w.heap.size + 1 + 1) x2) x2 := O.keepZ Z (fun g_ hg_ => heap_put10 u2 (w.heap.size + 1 + 1) g_ x2 hg_);have B9 : Below base w (P10 u2 (w.heap.size + 1 + 1) x2) := below_put10 (q := w.heap.size + 1 + 1) x2 B1 (by omega);have P9 : PZ w (P10 u2 (w.heap.size + 1 + 1) x2) := P1.keep (n := w.heap.size + 1 + 1) (by omega) (fun g_ hg_ => heap_put10 u2 (w.heap.size + 1 + 1) g_ x2 hg_) (by simp);have ZB := Z.box;obtain ⟨r0, r1, r2, r3, r4, r5, r6, r7, r8, r9, g0, g1, g2, g3, g4, g5, g6, g7, g8, g9⟩ := zten ZB;clear S Z O B1 P1 O2 B2 P2;obtain ⟨a0, a1, a2, a3, a4, a5, a6, a7, a8, a9⟩ := id A2;clear A2;go_wp2
  refine bodyPost_ret (v := .tuple #[bvx x2, .int .i64 c2]) (by simp [bvx, results, Tryz.results200, go_sem, *]) rfl ⟨x2, c2, rfl, hX.out, O9, B9, P9⟩
 have q2 : (d.k == 2) = false := by simpa using h2
 replace h2 : Hid (¬ d.k = 2) := h2;by_cases h7 : d.k = 7
 ·
  have q7 : (d.k == 7) = true := by simpa using h7
  replace h7 : Hid _ := h7;obtain ⟨a0, a1, a2, a3, a4, a5, a6, a7, a8, a9⟩ := S.A.at_;obtain ⟨e0, e1, e2, e3, e4, e5, e6, e7, e8, e9⟩ := id D;go_wp2_with fail
  go_at_call 228
  clear a0 a1 a2 a3 a4 a5 a6 a7 a8 a9 e0 e1 e2 e3 e4 e5 e6 e7 e8 e9;refine (fallS x d y base S.O V S.sz hl2.out ha.out (by omega) (by omega)).mono ?_;rintro e u1 ⟨x2, c2, rfl, hp, O2, B2, P2⟩;have hX : Hid ((x2.p, c2) = R) := by unfold Hid; rw [hp, hR.out]; unfold oneX; rw [if_neg h1.out, if_neg h6.out, if_neg (by rintro (h | h | h); exact h3.out h; exact h4.out h; exact h5.out h), if_neg (by have := ha.out; omega), if_neg h2.out, if_pos (Or.inl h7.out)]
  clear hp;go_upto_region 23 with fail
  obtain ⟨u2, hu2⟩ := mk_ (u1.alloc (Obj.cells #[.int .i64 x2.id, .int .i64 x2.po, .int .i64 x2.rg.ep, .int .i64 x2.rg.ow, .int .i64 x2.rg.pa, .slice x2.aT x2.two.length x2.cT, .slice x2.aN x2.net.length x2.cN, .slice x2.aG x2.ga.length x2.cG, .slice x2.aL x2.ln.length x2.cL, .slice x2.aS x2.sd.length x2.cS] 48));rw [← hu2];have kq : Below u1.heap.size u1 u2 := by rw [hu2]; exact below_new _
  have A2 : BxAt u2 u1.heap.size x2 := by rw [hu2]; exact BxAt.new u1 _ x2
  clear hu2;have Z := P2.2 _ S.Z;have Z : ZBx u2 (w.heap.size + 1 + 1) := Z.keep (kq.block _ Z.lt_);have O := O2.later kq;have B1 := (S.B.trans B2).trans (kq.mono (Nat.le_trans S.sz P2.1));have P1 := (PZ_.trans P2).later kq;have O9 : BxO base (P10 u2 (w.heap.size + 1 + 1) x2) x2 := O.keepZ Z (fun g_ hg_ => heap_put10 u2 (w.heap.size + 1 + 1) g_ x2 hg_);have B9 : Below base w (P10 u2 (w.heap.size + 1 + 1) x2) := below_put10 (q := w.heap.size + 1 + 1) x2 B1 (by omega);have P9 : PZ w (P10 u2 (w.heap.size + 1 + 1) x2) := P1.keep (n := w.heap.size + 1 + 1) (by omega) (fun g_ hg_ => heap_put10 u2 (w.heap.size + 1 + 1) g_ x2 hg_) (by simp);have ZB := Z.box;obtain ⟨r0, r1, r2, r3, r4, r5, r6, r7, r8, r9, g0, g1, g2, g3, g4, g5, g6, g7, g8, g9⟩ := zten ZB;clear S Z O B1 P1 O2 B2 P2;obtain ⟨a0, a1, a2, a3, a4, a5, a6, a7, a8, a9⟩ := id A2;clear A2;go_wp2
  refine bodyPost_ret (v := .tuple #[bvx x2, .int .i64 c2]) (by simp [bvx, results, Tryz.results200, go_sem, *]) rfl ⟨x2, c2, rfl, hX.out, O9, B9, P9⟩
 have q7 : (d.k == 7) = false := by simpa using h7
 replace h7 : Hid (¬ d.k = 7) := h7;by_cases h8 : d.k = 8
 ·
  have q8 : (d.k == 8) = true := by simpa using h8
  replace h8 : Hid _ := h8;obtain ⟨a0, a1, a2, a3, a4, a5, a6, a7, a8, a9⟩ := S.A.at_;obtain ⟨e0, e1, e2, e3, e4, e5, e6, e7, e8, e9⟩ := id D;go_wp2_with fail
  go_at_call 228
  clear a0 a1 a2 a3 a4 a5 a6 a7 a8 a9 e0 e1 e2 e3 e4 e5 e6 e7 e8 e9;refine (fallS x d y base S.O V S.sz hl2.out ha.out (by omega) (by omega)).mono ?_;rintro e u1 ⟨x2, c2, rfl, hp, O2, B2, P2⟩;have hX : Hid ((x2.p, c2) = R) := by unfold Hid; rw [hp, hR.out]; unfold oneX; rw [if_neg h1.out, if_neg h6.out, if_neg (by rintro (h | h | h); exact h3.out h; exact h4.out h; exact h5.out h), if_neg (by have := ha.out; omega), if_neg h2.out, if_pos (Or.inr (Or.inl h8.out))]
  clear hp;go_upto_region 23 with fail
  obtain ⟨u2, hu2⟩ := mk_ (u1.alloc (Obj.cells #[.int .i64 x2.id, .int .i64 x2.po, .int .i64 x2.rg.ep, .int .i64 x2.rg.ow, .int .i64 x2.rg.pa, .slice x2.aT x2.two.length x2.cT, .slice x2.aN x2.net.length x2.cN, .slice x2.aG x2.ga.length x2.cG, .slice x2.aL x2.ln.length x2.cL, .slice x2.aS x2.sd.length x2.cS] 48));rw [← hu2];have kq : Below u1.heap.size u1 u2 := by rw [hu2]; exact below_new _
  have A2 : BxAt u2 u1.heap.size x2 := by rw [hu2]; exact BxAt.new u1 _ x2
  clear hu2;have Z := P2.2 _ S.Z;have Z : ZBx u2 (w.heap.size + 1 + 1) := Z.keep (kq.block _ Z.lt_);have O := O2.later kq;have B1 := (S.B.trans B2).trans (kq.mono (Nat.le_trans S.sz P2.1));have P1 := (PZ_.trans P2).later kq;have O9 : BxO base (P10 u2 (w.heap.size + 1 + 1) x2) x2 := O.keepZ Z (fun g_ hg_ => heap_put10 u2 (w.heap.size + 1 + 1) g_ x2 hg_);have B9 : Below base w (P10 u2 (w.heap.size + 1 + 1) x2) := below_put10 (q := w.heap.size + 1 + 1) x2 B1 (by omega);have P9 : PZ w (P10 u2 (w.heap.size + 1 + 1) x2) := P1.keep (n := w.heap.size + 1 + 1) (by omega) (fun g_ hg_ => heap_put10 u2 (w.heap.size + 1 + 1) g_ x2 hg_) (by simp);have ZB := Z.box;obtain ⟨r0, r1, r2, r3, r4, r5, r6, r7, r8, r9, g0, g1, g2, g3, g4, g5, g6, g7, g8, g9⟩ := zten ZB;clear S Z O B1 P1 O2 B2 P2;obtain ⟨a0, a1, a2, a3, a4, a5, a6, a7, a8, a9⟩ := id A2;clear A2;go_wp2
  refine bodyPost_ret (v := .tuple #[bvx x2, .int .i64 c2]) (by simp [bvx, results, Tryz.results200, go_sem, *]) rfl ⟨x2, c2, rfl, hX.out, O9, B9, P9⟩
 have q8 : (d.k == 8) = false := by simpa using h8
 replace h8 : Hid (¬ d.k = 8) := h8;by_cases h12 : d.k = 12
 focus
  have q12 : (d.k == 12) = true := by simpa using h12
  replace h12 : Hid _ := h12;obtain ⟨a0, a1, a2, a3, a4, a5, a6, a7, a8, a9⟩ := S.A.at_;obtain ⟨e0, e1, e2, e3, e4, e5, e6, e7, e8, e9⟩ := id D;go_wp2_with fail
  go_at_call 228
  clear a0 a1 a2 a3 a4 a5 a6 a7 a8 a9 e0 e1 e2 e3 e4 e5 e6 e7 e8 e9;refine (fallS x d y base S.O V S.sz hl2.out ha.out (by omega) (by omega)).mono ?_;rintro e u1 ⟨x2, c2, rfl, hp, O2, B2, P2⟩;have hX : Hid ((x2.p, c2) = R) := by unfold Hid; rw [hp, hR.out]; unfold oneX; rw [if_neg h1.out, if_neg h6.out, if_neg (by rintro (h | h | h); exact h3.out h; exact h4.out h; exact h5.out h), if_neg (by have := ha.out; omega), if_neg h2.out, if_pos (Or.inr (Or.inr h12.out))]
  clear hp;go_upto_region 23 with fail
 rotate_left;focus
  have q12 : (d.k == 12) = false := by simpa using h12
  replace h12 : Hid (¬ d.k = 12) := h12;obtain ⟨a0, a1, a2, a3, a4, a5, a6, a7, a8, a9⟩ := S.A.at_;obtain ⟨e0, e1, e2, e3, e4, e5, e6, e7, e8, e9⟩ := id D;go_wp2_with fail
  go_at_call 229
  clear a0 a1 a2 a3 a4 a5 a6 a7 a8 a9 e0 e1 e2 e3 e4 e5 e6 e7 e8 e9;refine (regS x d y base S.O S.sz hb.out ha.out).mono ?_;rintro e u1 ⟨x2, c2, rfl, hp, O2, B2, P2⟩;have hX : Hid ((x2.p, c2) = R) := by unfold Hid; rw [hp, hR.out]; unfold oneX; rw [if_neg h1.out, if_neg h6.out, if_neg (by rintro (h | h | h); exact h3.out h; exact h4.out h; exact h5.out h), if_neg (by have := ha.out; omega), if_neg h2.out, if_neg (by rintro (h | h | h); exact h7.out h; exact h8.out h; exact h12.out h)]
  clear hp;go_upto_region 25 with fail
 rotate_left;all_goals
  obtain ⟨u2, hu2⟩ := mk_ (u1.alloc (Obj.cells #[.int .i64 x2.id, .int .i64 x2.po, .int .i64 x2.rg.ep, .int .i64 x2.rg.ow, .int .i64 x2.rg.pa, .slice x2.aT x2.two.length x2.cT, .slice x2.aN x2.net.length x2.cN, .slice x2.aG x2.ga.length x2.cG, .slice x2.aL x2.ln.length x2.cL, .slice x2.aS x2.sd.length x2.cS] 48));rw [← hu2];have kq : Below u1.heap.size u1 u2 := by rw [hu2]; exact below_new _
  have A2 : BxAt u2 u1.heap.size x2 := by rw [hu2]; exact BxAt.new u1 _ x2
  clear hu2;have Z := P2.2 _ S.Z;have Z : ZBx u2 (w.heap.size + 1 + 1) := Z.keep (kq.block _ Z.lt_);have O := O2.later kq;have B1 := (S.B.trans B2).trans (kq.mono (Nat.le_trans S.sz P2.1));have P1 := (PZ_.trans P2).later kq;have O9 : BxO base (P10 u2 (w.heap.size + 1 + 1) x2) x2 := O.keepZ Z (fun g_ hg_ => heap_put10 u2 (w.heap.size + 1 + 1) g_ x2 hg_);have B9 : Below base w (P10 u2 (w.heap.size + 1 + 1) x2) := below_put10 (q := w.heap.size + 1 + 1) x2 B1 (by omega);have P9 : PZ w (P10 u2 (w.heap.size + 1 + 1) x2) := P1.keep (n := w.heap.size + 1 + 1) (by omega) (fun g_ hg_ => heap_put10 u2 (w.heap.size + 1 + 1) g_ x2 hg_) (by simp);have ZB := Z.box;obtain ⟨r0, r1, r2, r3, r4, r5, r6, r7, r8, r9, g0, g1, g2, g3, g4, g5, g6, g7, g8, g9⟩ := zten ZB;clear S Z O B1 P1 O2 B2 P2;obtain ⟨a0, a1, a2, a3, a4, a5, a6, a7, a8, a9⟩ := id A2;clear A2;go_wp2
  refine bodyPost_ret (v := .tuple #[bvx x2, .int .i64 c2]) (by simp [bvx, results, Tryz.results200, go_sem, *]) rfl ⟨x2, c2, rfl, hX.out, O9, B9, P9⟩
end Go.Proofs.YtnpiljegdiconaaGreat
