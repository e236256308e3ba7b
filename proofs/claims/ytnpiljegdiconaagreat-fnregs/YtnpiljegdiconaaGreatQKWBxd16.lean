import Derived.Test.YtnpiljegdiconaaGreatQM16
namespace Go.Proofs.YtnpiljegdiconaaGreat
open Go.ChangeShapes Go.WideShapes Go.ChangeAt Go.RowKit
open Go.ChangeMaps (open_string shut_string)
set_option linter.unusedVariables false
set_option maxRecDepth 100000
theorem IkAtO.keep {w w' : World} {q o : Nat} {x : Ik} (h : IkAtO w q o x) (k : w'.heap[q]? = w.heap[q]?) : IkAtO w' q o x :=
 ⟨(World.cell?_of_block (a := ⟨q, o, none⟩) k).trans h.c0, (World.cell?_of_block (a := ⟨q, o + 1, none⟩) k).trans h.c1, (World.cell?_of_block (a := ⟨q, o + 2, none⟩) k).trans h.c2, (World.cell?_of_block (a := ⟨q, o + 3, none⟩) k).trans h.c3, (World.cell?_of_block (a := ⟨q, o + 4, none⟩) k).trans h.c4, (World.cell?_of_block (a := ⟨q, o + 5, none⟩) k).trans h.c5, (World.cell?_of_block (a := ⟨q, o + 6, none⟩) k).trans h.c6, (World.cell?_of_block (a := ⟨q, o + 7, none⟩) k).trans h.c7⟩
theorem IkAtO.lt {w : World} {q o : Nat} {x : Ik} (h : IkAtO w q o x) : q < w.heap.size := World.block_lt_of_cell? w _ h.c0
set_option linter.unusedSimpArgs false in
set_option maxHeartbeats 4000000 in
theorem shipS (x : BxD) (s : Int) (w : World) (base : Nat) (hO : BxO base w x) (hbw : base ≤ w.heap.size) (hb : bxOk x.p = true) (hs : 0 ≤ s ∧ s ≤ 1) :
  Calls Tryz.prog 227 #[.agg #[.int .i64 x.id, .int .i64 x.po, .int .i64 x.rg.ep, .int .i64 x.rg.ow, .int .i64 x.rg.pa, .slice x.aT x.two.length x.cT, .slice x.aN x.net.length x.cN, .slice x.aG x.ga.length x.cG, .slice x.aL x.ln.length x.cL, .slice x.aS x.sd.length x.cS], .int .i64 s] w fun e w' => ∃ x2 : BxD, ∃ c : Int, e = .returned (.tuple #[.agg #[.int .i64 x2.id, .int .i64 x2.po, .int .i64 x2.rg.ep, .int .i64 x2.rg.ow, .int .i64 x2.rg.pa, .slice x2.aT x2.two.length x2.cT, .slice x2.aN x2.net.length x2.cN, .slice x2.aG x2.ga.length x2.cG, .slice x2.aL x2.ln.length x2.cL, .slice x2.aS x2.sd.length x2.cS], .int .i64 c]) ∧ (x2.p, c) = shipX x.p s ∧ BxO base w' x2 ∧ Below base w w' ∧ PZ w w' := by
 obtain ⟨y, hy⟩ := mk_ ((w.alloc (Obj.cells #[.int .i64 x.id, .int .i64 x.po, .int .i64 x.rg.ep, .int .i64 x.rg.ow, .int .i64 x.rg.pa, .slice x.aT x.two.length x.cT, .slice x.aN x.net.length x.cN, .slice x.aG x.ga.length x.cG, .slice x.aL x.ln.length x.cL, .slice x.aS x.sd.length x.cS] 48)).alloc (Obj.cells #[.int .i64 0, .int .i64 0, .int .i64 0, .int .i64 0, .int .i64 0, .slice none 0 0, .slice none 0 0, .slice none 0 0, .slice none 0 0, .slice none 0 0] 48));obtain ⟨S, B0⟩ := stepStart1 x w y hO hbw hy;have PZ_ := PZ.of B0;obtain ⟨hl2, hmi, hnl, _, _, _⟩ := bxOk_small hb;have V := S.O.okV hb;clear hb hO;obtain ⟨k, rfl⟩ : ∃ k : Nat, s = (k : Int) := ⟨s.toNat, by omega⟩;have hk2 : k < 2 := by omega
 obtain ⟨j, hj⟩ : ∃ j : Nat, (1 : Int) - (k : Int) = (j : Int) := ⟨1 - k, by omega⟩;have hj2 : j < 2 := by omega
 have hkl : k < x.two.length := by omega
 have hjl : j < x.two.length := by omega
 obtain ⟨g, hat, _, gl⟩ := S.O.t.blk (by omega);obtain ⟨m, hm⟩ : ∃ m, x.two.getD k MiD.nil = m := ⟨_, rfl⟩;obtain ⟨m1, hm1⟩ : ∃ m, x.two.getD j MiD.nil = m := ⟨_, rfl⟩;have M0 : MdAtO y g (k * 7) m := by have h1 := S.O.t.view.2; rw [hat] at h1; have := mdAtO_of (h1.at_ mdEnc_len MiD.nil hkl); rw [hm] at this; simpa using this
 have M1 : MdAtO y g (j * 7) m1 := by have h1 := S.O.t.view.2; rw [hat] at h1; have := mdAtO_of (h1.at_ mdEnc_len MiD.nil hjl); rw [hm1] at this; simpa using this
 have hmo : mOf x.p (k : Int) = m.m := by rw [mOf_p]; simp only [Int.toNat_natCast]; rw [hm]
 have hmj : mOf x.p (1 - (k : Int)) = m1.m := by rw [mOf_p, hj]; simp only [Int.toNat_natCast]; rw [hm1]
 have hok : miOk m.m = true := by have := hmi k hk2; rw [hm] at this; exact this
 obtain ⟨_, _, _, _, _, hac, _⟩ := miOk_iff.1 hok;have hlg := miOk_lg hok;have hwr : IntKind.i64.wrap (1 - (k : Int)) = (j : Int) := by rw [IntKind.wrap_i64]; omega
 have hct := V.ct;have hL := S.O.l k hkl;rw [hm] at hL;obtain ⟨n, hn⟩ : ∃ n : Nat, m.m.ac = (n : Int) := ⟨m.m.ac.toNat, by omega⟩;obtain ⟨R, hR⟩ := mk_ (shipX x.p (k : Int));rw [← hR];replace hR : Hid _ := hR;replace hj : Hid _ := hj;replace hat : Hid _ := hat;replace hm : Hid _ := hm;replace hm1 : Hid _ := hm1;replace hmo : Hid _ := hmo;replace hmj : Hid _ := hmj;replace hok : Hid _ := hok;replace hl2 : Hid _ := hl2;replace hac : Hid _ := hac;replace hn : Hid _ := hn;clear hs hmi;obtain ⟨i1, hi1, hz10, hz11, hz12⟩ := info_parts wiInfo;go_enter Tryz.func227, Tryz.ntmps227
 go_upto_region 1 with fail
 rw [← hy];clear hy;obtain ⟨a0, a1, a2, a3, a4, a5, a6, a7, a8, a9⟩ := S.A.at_;rw [hat.out] at a5;obtain ⟨v0, v1, v2, v3, v4, v5, v6⟩ := id M0;go_upto_region 2 with fail
 clear v0 v1 v2 v3 v4 v5 v6 a0 a1 a2 a3 a4 a5 a6 a7 a8 a9;obtain ⟨u1, hu1⟩ := mk_ (y.alloc (Obj.cells #[.bool m.m.up, .int .i64 m.m.li, .int .i64 m.m.ep, .slice m.ad m.m.lg.length m.cap, .int .i64 m.m.sd, .int .i64 m.m.ac, .int .i64 m.m.al] 28));rw [← hu1];have kq : Below y.heap.size y u1 := by rw [hu1]; exact below_new _
 have N : MiAt u1 y.heap.size m.m (.slice m.ad m.m.lg.length m.cap) := by rw [hu1]; exact MiAt.new y _ m.m _
 have NN : BxNe y.heap.size x := S.O.ne (Nat.le_refl _);have nq := S.A.lt;have nz := zb_lt S.Z;clear hu1;have S := S.later kq;have PZ_ := PZ_.later kq;have V := V.later kq;have hL := hL.later kq;have M1 := M1.below kq gl;obtain ⟨qn, hqn⟩ := mk_ y.heap.size;rw [← hqn] at N NN nq nz ⊢;clear hqn kq M0;obtain ⟨a0, a1, a2, a3, a4, a5, a6, a7, a8, a9⟩ := S.A.at_;rw [hat.out] at a5;have c1 := M1.c1;go_upto_region 4 with fail
 clear c1 M1 a0 a1 a2 a3 a4 a5 a6 a7 a8 a9 hwr;by_cases hal : m.m.al = m1.m.li
 focus
  have d0 : (m.m.al == m1.m.li) = true := by simpa using hal
  obtain ⟨n0, n1, n2, n3, n4, n5, n6⟩ := id N;go_upto_region 6 with fail
  clear d0 n0 n1 n2 n3 n4 n5 n6;have hsn : Hid (shipN x.p (k : Int) = (n : Int)) := by unfold Hid shipN; rw [hmo.out, hmj.out, if_pos hal]; exact hn.out
  rw [hn.out];clear hal
 rotate_left;focus
  have d0 : (m.m.al == m1.m.li) = false := by simpa using hal
  obtain ⟨n0, n1, n2, n3, n4, n5, n6⟩ := id N;go_upto_region 6 with fail
  clear d0 n0 n1 n2 n3 n4 n5 n6 hn n;obtain ⟨n, hn0⟩ : ∃ n : Nat, (0 : Int) = (n : Int) := ⟨0, rfl⟩;have hsn : Hid (shipN x.p (k : Int) = (n : Int)) := by unfold Hid shipN; rw [hmo.out, hmj.out, if_neg hal]; exact hn0
  rw [hn0];clear hal hn0
 rotate_left;all_goals
  obtain ⟨a0, a1, a2, a3, a4, a5, a6, a7, a8, a9⟩ := S.A.at_;go_wp2_with fail
  go_at_call 96
  clear a0 a1 a2 a3 a4 a5 a6 a7 a8 a9;refine (mindsXS x (k : Int) u1 V).mono ?_;rintro e u2 ⟨rfl, kq⟩;have S := S.later kq;have PZ_ := PZ_.later kq;have N := N.below kq N.lt;have hL := hL.later kq;clear kq V;cases hM : mindsX x.p (k : Int)
  ·
   replace hM : Hid _ := hM;obtain ⟨O9, B9⟩ := S.ret;have P9 := S.pz PZ_ (by omega);have ZB := S.Z.box;obtain ⟨a0, a1, a2, a3, a4, a5, a6, a7, a8, a9⟩ := S.A.at_;obtain ⟨r0, r1, r2, r3, r4, r5, r6, r7, r8, r9, g0, g1, g2, g3, g4, g5, g6, g7, g8, g9⟩ := zten ZB;clear S;obtain ⟨n0, n1, n2, n3, n4, n5, n6⟩ := id N;go_wp2
   refine bodyPost_ret (v := .tuple #[bvx x, .int .i64 3]) (by simp [bvx, results, Tryz.results227, go_sem, *]) rfl ⟨x, 3, rfl, by rw [hR.out]; unfold shipX; rw [if_pos (Or.inl hM.out)], O9, B9, P9⟩
  ·
   replace hM : Hid _ := hM;by_cases hle : (m.m.lg.length : Int) ≤ (n : Int)
   ·
    have d1 : decide ((m.m.lg.length : Int) ≤ (n : Int)) = true := decide_eq_true hle;obtain ⟨O9, B9⟩ := S.ret;have P9 := S.pz PZ_ (by omega);have ZB := S.Z.box;obtain ⟨a0, a1, a2, a3, a4, a5, a6, a7, a8, a9⟩ := S.A.at_;obtain ⟨r0, r1, r2, r3, r4, r5, r6, r7, r8, r9, g0, g1, g2, g3, g4, g5, g6, g7, g8, g9⟩ := zten ZB;clear S;obtain ⟨n0, n1, n2, n3, n4, n5, n6⟩ := id N;go_wp2
    refine bodyPost_ret (v := .tuple #[bvx x, .int .i64 3]) (by simp [bvx, results, Tryz.results227, go_sem, *]) rfl ⟨x, 3, rfl, by rw [hR.out]; unfold shipX; rw [hsn.out, hmo.out, if_pos (Or.inr hle)], O9, B9, P9⟩
   ·
    have d1 : decide ((m.m.lg.length : Int) ≤ (n : Int)) = false := decide_eq_false hle;by_cases h20 : 20 ≤ x.net.length
    ·
     have d2 : decide ((20 : Int) ≤ (x.net.length : Int)) = true := decide_eq_true (by omega);obtain ⟨O9, B9⟩ := S.ret;have P9 := S.pz PZ_ (by omega);have ZB := S.Z.box;obtain ⟨a0, a1, a2, a3, a4, a5, a6, a7, a8, a9⟩ := S.A.at_;obtain ⟨r0, r1, r2, r3, r4, r5, r6, r7, r8, r9, g0, g1, g2, g3, g4, g5, g6, g7, g8, g9⟩ := zten ZB;clear S;obtain ⟨n0, n1, n2, n3, n4, n5, n6⟩ := id N;go_wp2
     refine bodyPost_ret (v := .tuple #[bvx x, .int .i64 4]) (by simp [bvx, results, Tryz.results227, go_sem, *]) rfl ⟨x, 4, rfl, by rw [hR.out]; unfold shipX; rw [hsn.out, hmo.out, if_neg (by rintro (h | h); (rw [hM.out] at h; cases h); have h' : (m.m.lg.length : Int) ≤ (n : Int) := h; omega), if_pos (by show 20 ≤ x.net.length; omega)], O9, B9, P9⟩
    ·
     have d2 : decide ((20 : Int) ≤ (x.net.length : Int)) = false := decide_eq_false (by omega);obtain ⟨n0, n1, n2, n3, n4, n5, n6⟩ := id N;obtain ⟨a0, a1, a2, a3, a4, a5, a6, a7, a8, a9⟩ := S.A.at_;go_upto_region 10 with fail
     clear n0 n1 n2 n3 n4 n5 n6 a0 a1 a2 a3 a4 a5 a6 a7 a8 a9 d1 d2;have hnl : n < m.m.lg.length := by omega
     obtain ⟨bl, hab, _, hbl⟩ := hL.blk (by omega);obtain ⟨e, he⟩ : ∃ e, m.m.lg.getD n ikN = e := ⟨_, rfl⟩;have E : IkAtO u2 bl (n * 8) e := by have h1 := hL.view.2; rw [hab] at h1; have := ikAtO_of (h1.at_ ikEnc_len ikN hnl); rw [he] at this; simpa using this
     have hcl := hL.capM;have hlw : m.m.lg.length ≤ 60 := hlg;have bq : bl ≠ w.heap.size := S.NA.l k hkl bl (by rw [hm.out, hab]; rfl);have aE : (Value.slice m.ad m.m.lg.length m.cap).ownBlock = some bl := by rw [hab]; rfl
     replace hab : Hid _ := hab;replace he : Hid _ := he;replace hle : Hid _ := hle;have aN_ : ∀ b : Nat, b = qn → (Value.slice x.aN x.net.length x.cN).ownBlock ≠ some b := fun b e1 e2 => NN.n b e2 e1
     have aL_ : (Value.slice x.aN x.net.length x.cN).ownBlock ≠ some bl := fun e2 => S.O.n.apart hL (by decide) e2 aE
     clear aE;refine wp_region_held (S := fun Y => MiAt Y qn m.m (.slice m.ad m.m.lg.length m.cap) ∧ IkAtO Y bl (n * 8) e) (by kernel_rfl) ?_;change wpAnyH _ _ _ _ _ _ _ _ (World.drew _);have kd : Below u2.heap.size u2 u2.drew := (Below.refl _ _).drew;obtain ⟨u3, hu3⟩ := mk_ u2.drew;rw [← hu3] at kd ⊢;clear hu3;have S := S.later kd;have PZ_ := PZ_.later kd;have N := N.below kd N.lt;have E := E.below kd E.lt;clear kd;have hs0 : MiAt u3 qn m.m (.slice m.ad m.m.lg.length m.cap) ∧ IkAtO u3 bl (n * 8) e := ⟨N, E⟩;refine tw 0 44 (.pointer (some ⟨w.heap.size, 6, none⟩)) ?_;refine tw 2 46 (.int .i64 (k : Int)) ?_;refine tw 3 47 (.int .i64 m1.m.li) ?_;refine tw 4 48 (.int .i64 (n : Int)) ?_;refine tw 5 49 (.pointer (some ⟨qn, 3, none⟩)) ?_;refine tw 6 50 (.slice (some ⟨bl, 0, none⟩) m.m.lg.length m.cap) ?_ (hy := by intro Y hSw; obtain ⟨⟨X0, X1, X2, X3, X4, X5, X6⟩, _⟩ := hSw; rw [hab.out] at X3; go_simp);refine tw 7 51 (.int .i64 (n : Int)) ?_;refine tw 8 52 (.pointer (some ⟨bl, n * 8, none⟩)) ?_ (hy := by intro Y hSw; go_simp; try omega);refine tw 9 53 (.agg #[.int .i64 e.k, .int .i64 e.q, .int .i64 e.r, .int .i64 e.c, .int .i64 e.b, .int .i64 e.p, .int .i64 e.h, .bool e.up]) ?_ (hy := by intro Y hSw; obtain ⟨_, X0, X1, X2, X3, X4, X5, X6, X7⟩ := hSw; go_simp);refine tw 10 54 (.agg #[.int .i64 (k : Int), .bool false, .int .i64 m1.m.li, .int .i64 (n : Int), .int .i64 e.k, .int .i64 e.q, .int .i64 e.r, .int .i64 e.c, .int .i64 e.b, .int .i64 e.p, .int .i64 e.h, .bool e.up]) ?_;clear hs0;refine wpAnyH_all (rs := [1, 11]) (by kernel_rfl) (by simp) ?_;intro i hi; rcases (by simpa using hi : i = 1 ∨ i = 11) with rfl | rfl
     focus
      refine wpOp_step rfl (fun Kz hKz => ?_);rw [if_pos (by kernel_rfl)];obtain ⟨a0, a1, a2, a3, a4, a5, a6, a7, a8, a9⟩ := S.A.at_;go_simp
      clear a0 a1 a2 a3 a4 a5 a6 a7 a8 a9;refine hKz _ _ ⟨⟨N, E⟩, ?_⟩;clear hKz Kz hi;refine w1 11 fun Kz hKz => ?_
      go_simp
      obtain ⟨v1, hv1⟩ := mk_ (u3.alloc (Obj.cells #[.int .i64 (k : Int), .bool false, .int .i64 m1.m.li, .int .i64 (n : Int), .int .i64 e.k, .int .i64 e.q, .int .i64 e.r, .int .i64 e.c, .int .i64 e.b, .int .i64 e.p, .int .i64 e.h, .bool e.up] 112));have V1 : FView wiEnc v1 (some ⟨u3.heap.size, 0, none⟩) [(⟨(k : Int), false, m1.m.li, (n : Int), e⟩ : Wi)] := by rw [hv1]; exact FView.oneW u3 _ ⟨(k : Int), false, m1.m.li, (n : Int), e⟩
      have k1 : Below u3.heap.size u3 v1 := by rw [hv1]; exact below_new _
      have S := S.later k1;have PZ_ := PZ_.later k1;have N := N.below k1 N.lt;have E := E.below k1 E.lt;rw [← hv1];clear hv1 k1
     rotate_left;focus
      refine wpOp_step rfl (fun Kz hKz => ?_);rw [if_pos (by kernel_rfl)];go_simp
      obtain ⟨v1, hv1⟩ := mk_ (u3.alloc (Obj.cells #[.int .i64 (k : Int), .bool false, .int .i64 m1.m.li, .int .i64 (n : Int), .int .i64 e.k, .int .i64 e.q, .int .i64 e.r, .int .i64 e.c, .int .i64 e.b, .int .i64 e.p, .int .i64 e.h, .bool e.up] 112));have V1 : FView wiEnc v1 (some ⟨u3.heap.size, 0, none⟩) [(⟨(k : Int), false, m1.m.li, (n : Int), e⟩ : Wi)] := by rw [hv1]; exact FView.oneW u3 _ ⟨(k : Int), false, m1.m.li, (n : Int), e⟩
      have k1 : Below u3.heap.size u3 v1 := by rw [hv1]; exact below_new _
      have S := S.later k1;have PZ_ := PZ_.later k1;have N := N.below k1 N.lt;have E := E.below k1 E.lt;rw [← hv1];clear hv1 k1;refine hKz _ _ ⟨⟨N, E⟩, ?_⟩;clear hKz Kz hi;refine w1 1 fun Kz hKz => ?_
      obtain ⟨a0, a1, a2, a3, a4, a5, a6, a7, a8, a9⟩ := S.A.at_;go_simp
      clear a0 a1 a2 a3 a4 a5 a6 a7 a8 a9
     rotate_left;all_goals
      refine hKz _ _ ⟨⟨N, E⟩, ?_⟩;clear hKz Kz;refine w1 12 fun Kz hKz => ?_
      have sz := S.sz;refine fapp wiEnc_len wiEnc_ones 56 _ _ 44 rfl rfl base 112 i1 (.agg #[.int .i64 0, .bool false, .int .i64 0, .int .i64 0, .int .i64 0, .int .i64 0, .int .i64 0, .int .i64 0, .int .i64 0, .int .i64 0, .int .i64 0, .bool false]) 96 Tryz.underlying44 hi1 hz10 hz11 hz12 rfl (by decide) (by decide) (.slice x.aN x.net.length x.cN) x.net rfl S.O.n (some ⟨u3.heap.size, 0, none⟩) 1 [(⟨(k : Int), false, m1.m.li, (n : Int), e⟩ : Wi)] rfl (fun e => by cases e) V1 (by simp; omega) sz ?_;intro vN v2 oN gN hob;replace oN : FOwn wiEnc 12 112 base v2 vN (x.net ++ [(⟨(k : Int), false, m1.m.li, (n : Int), e⟩ : Wi)]) := oN;obtain ⟨N_, hN_⟩ := mk_ (x.net ++ [(⟨(k : Int), false, m1.m.li, (n : Int), e⟩ : Wi)]);rw [← hN_] at oN;replace hN_ : Hid _ := hN_;have N := N.keep (gN.block _ N.lt (fun e => (aN_ _ rfl) e.symm));have E := E.keep (gN.block _ E.lt (fun e => aL_ e.symm));have szN := gN.size;have PZ_ := PZ_.grown S.O.n (by decide) gN;obtain ⟨aN, cN, rfl, A2, S2, hno⟩ := S.addN N_ vN oN gN hob;clear gN hob V1 sz S oN hno szN;simp only [List.set_cons_zero, List.set_cons_succ];refine hKz _ _ ⟨⟨N, E⟩, ?_⟩;clear hKz Kz;have hsA : MiAt v2 qn m.m (.slice m.ad m.m.lg.length m.cap) ∧ IkAtO v2 bl (n * 8) e := ⟨N, E⟩;refine tw 13 57 (.pointer (some ⟨w.heap.size, 6, none⟩)) ?_;refine w1 14 fun Kz hKz => ?_
      obtain ⟨⟨q0, q1, q2, q3, q4, q5, q6, q7, q8, q9⟩, qf⟩ := id A2;have f6 := qf 6;go_simp
      clear q0 q1 q2 q3 q4 q5 q6 q7 q8 q9 qf f6 A2 hsA;obtain ⟨v3, hv3⟩ := mk_ (v2.setCell ⟨w.heap.size, 6, none⟩ (.slice aN N_.length cN));rw [← hv3] at S2 ⊢;have PZ_ := PZ_.keep (n := w.heap.size) (W2 := v3) (Nat.le_refl _) (fun g_ hg => by rw [hv3]; exact Below.heap_setCell _ _ _ _ hg) (by rw [hv3]; simp);have N := N.keep (w' := v3) (by rw [hv3]; exact Below.heap_setCell _ _ _ _ (by show qn ≠ w.heap.size; omega));have E := E.keep (w' := v3) (by rw [hv3]; exact Below.heap_setCell _ _ _ _ bq);refine hKz _ _ ⟨⟨N, E⟩, ?_⟩;clear hKz Kz hv3;refine wpAnyH_done (by kernel_rfl) ?_ _;obtain ⟨z, hz⟩ : ∃ z : BxD, z = { x with net := N_, aN := aN, cN := cN } := ⟨_, rfl⟩;rw [← hz] at S2;have hP : Hid (z.p = setN x.p (x.net ++ [(⟨(k : Int), false, m1.m.li, (n : Int), e⟩ : Wi)])) := by unfold Hid; rw [hz, ← hN_.out]; rfl
      clear hz;have S := S2;clear S2;obtain ⟨O9, B9⟩ := S.ret;have P9 := S.pz PZ_ (by omega);have ZB := S.Z.box;obtain ⟨a0, a1, a2, a3, a4, a5, a6, a7, a8, a9⟩ := S.A.at_;obtain ⟨r0, r1, r2, r3, r4, r5, r6, r7, r8, r9, g0, g1, g2, g3, g4, g5, g6, g7, g8, g9⟩ := zten ZB;clear S;obtain ⟨n0, n1, n2, n3, n4, n5, n6⟩ := id N;go_wp2
      refine bodyPost_ret (v := .tuple #[bvx z, .int .i64 0]) (by simp [bvx, results, Tryz.results227, go_sem, *]) rfl ⟨z, 0, rfl, by rw [hP.out, hR.out]; unfold shipX; rw [hsn.out, hmo.out, hmj.out, if_neg (by rintro (h | h); (rw [hM.out] at h; cases h); have h' : (m.m.lg.length : Int) ≤ (n : Int) := h; have := hle.out; omega), if_neg (by show ¬ 20 ≤ x.net.length; omega)]; rw [← he.out]; rfl, O9, B9, P9⟩
end Go.Proofs.YtnpiljegdiconaaGreat
