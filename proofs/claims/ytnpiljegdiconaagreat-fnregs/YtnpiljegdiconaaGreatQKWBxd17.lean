import Derived.Test.YtnpiljegdiconaaGreatQM16
import Derived.Test.YtnpiljegdiconaaGreatQM18
import Derived.Test.YtnpiljegdiconaaGreatQKWRg4
namespace Go.Proofs.YtnpiljegdiconaaGreat
open Go.ChangeShapes Go.WideShapes Go.ChangeAt Go.RowKit
open Go.ChangeMaps (open_string shut_string)
set_option linter.unusedVariables false
set_option maxRecDepth 100000
theorem MdAtO.lt {w : World} {q o : Nat} {x : MiD} (h : MdAtO w q o x) : q < w.heap.size := World.block_lt_of_cell? w _ h.c0
theorem MiBox.setSd' {w : World} {q : Nat} {m : Mi} {v : Value} (h : MiBox w q m v) (z : Int) : MiBox (w.setCell ⟨q, 4, none⟩ (.int .i64 z)) q ⟨m.up, m.li, m.ep, m.lg, z, m.ac, m.al⟩ v := ⟨(pset_else (by decide)).trans h.c0, (pset_else (by decide)).trans h.c1, (pset_else (by decide)).trans h.c2, (pset_else (by decide)).trans h.c3, pset_same h.c4, (pset_else (by decide)).trans h.c5, (pset_else (by decide)).trans h.c6, fun i => by rw [World.frozen?_setCell]; exact h.fr i⟩
set_option linter.unusedSimpArgs false in
set_option maxHeartbeats 4000000 in
theorem regS (x : BxD) (d : De) (w : World) (base : Nat) (hO : BxO base w x) (hbw : base ≤ w.heap.size) (hb : bxOk x.p = true) (ha : 0 ≤ d.a ∧ d.a ≤ 1) :
  Calls Tryz.prog 229 #[.agg #[.int .i64 x.id, .int .i64 x.po, .int .i64 x.rg.ep, .int .i64 x.rg.ow, .int .i64 x.rg.pa, .slice x.aT x.two.length x.cT, .slice x.aN x.net.length x.cN, .slice x.aG x.ga.length x.cG, .slice x.aL x.ln.length x.cL, .slice x.aS x.sd.length x.cS], .agg #[.int .i64 d.k, .int .i64 d.a, .int .i64 d.x.k, .int .i64 d.x.q, .int .i64 d.x.r, .int .i64 d.x.c, .int .i64 d.x.b, .int .i64 d.x.p, .int .i64 d.x.h, .bool d.x.up]] w fun e w' => ∃ x2 : BxD, ∃ c : Int, e = .returned (.tuple #[.agg #[.int .i64 x2.id, .int .i64 x2.po, .int .i64 x2.rg.ep, .int .i64 x2.rg.ow, .int .i64 x2.rg.pa, .slice x2.aT x2.two.length x2.cT, .slice x2.aN x2.net.length x2.cN, .slice x2.aG x2.ga.length x2.cG, .slice x2.aL x2.ln.length x2.cL, .slice x2.aS x2.sd.length x2.cS], .int .i64 c]) ∧ (x2.p, c) = regX x.p d ∧ BxO base w' x2 ∧ Below base w w' ∧ PZ w w' := by
 obtain ⟨y, hy⟩ := mk_ (((w.alloc (Obj.cells #[.int .i64 x.id, .int .i64 x.po, .int .i64 x.rg.ep, .int .i64 x.rg.ow, .int .i64 x.rg.pa, .slice x.aT x.two.length x.cT, .slice x.aN x.net.length x.cN, .slice x.aG x.ga.length x.cG, .slice x.aL x.ln.length x.cL, .slice x.aS x.sd.length x.cS] 48)).alloc (Obj.cells #[.int .i64 d.k, .int .i64 d.a, .int .i64 d.x.k, .int .i64 d.x.q, .int .i64 d.x.r, .int .i64 d.x.c, .int .i64 d.x.b, .int .i64 d.x.p, .int .i64 d.x.h, .bool d.x.up] 236)).alloc (Obj.cells #[.int .i64 0, .int .i64 0, .int .i64 0, .int .i64 0, .int .i64 0, .slice none 0 0, .slice none 0 0, .slice none 0 0, .slice none 0 0, .slice none 0 0] 48));obtain ⟨S, D, B0, ND⟩ := stepStartD x d w y hO hbw hy;have PZ_ := PZ.of B0;obtain ⟨hl2, hmi, _, _, hli, _⟩ := bxOk_small hb;have V := S.O.okV hb;clear hb hO;obtain ⟨k, hk⟩ : ∃ k : Nat, d.a = (k : Int) := ⟨d.a.toNat, by omega⟩;have hk2 : k < 2 := by omega
 have hkl : k < x.two.length := by omega
 obtain ⟨g, hat, _, gl⟩ := S.O.t.blk (by omega);obtain ⟨m, hm⟩ : ∃ m, x.two.getD k MiD.nil = m := ⟨_, rfl⟩;have M0 : MdAtO y g (k * 7) m := by have h1 := S.O.t.view.2; rw [hat] at h1; have := mdAtO_of (h1.at_ mdEnc_len MiD.nil hkl); rw [hm] at this; simpa using this
 have hmo : mOf x.p d.a = m.m := by rw [mOf_p, hk]; simp only [Int.toNat_natCast]; rw [hm]
 have hok : miOk m.m = true := by have := hmi k hk2; rw [hm] at this; exact this
 have hlg := miOk_lg hok;have hct := V.ct;have hL := S.O.l k hkl;rw [hm] at hL;have hcn := hL.capn;obtain ⟨R, hR⟩ := mk_ (regX x.p d);rw [← hR];replace hR : Hid _ := hR;replace hk : Hid _ := hk;replace hat : Hid _ := hat;replace hm : Hid _ := hm;replace hmo : Hid _ := hmo;replace hok : Hid _ := hok;replace hl2 : Hid _ := hl2;clear ha hmi;go_enter Tryz.func229, Tryz.ntmps229
 go_upto_region 1 with fail
 rw [← hy];clear hy;obtain ⟨a0, a1, a2, a3, a4, a5, a6, a7, a8, a9⟩ := S.A.at_;rw [hat.out] at a5;have cD := D.c1;rw [hk.out] at cD;obtain ⟨v0, v1, v2, v3, v4, v5, v6⟩ := id M0;go_upto_region 2 with fail
 clear v0 v1 v2 v3 v4 v5 v6 a0 a1 a2 a3 a4 a5 a6 a7 a8 a9 cD;obtain ⟨u1, hu1⟩ := mk_ (y.alloc (Obj.cells #[.bool m.m.up, .int .i64 m.m.li, .int .i64 m.m.ep, .slice m.ad m.m.lg.length m.cap, .int .i64 m.m.sd, .int .i64 m.m.ac, .int .i64 m.m.al] 28));rw [← hu1];have kq : Below y.heap.size y u1 := by rw [hu1]; exact below_new _
 have N : MiAt u1 y.heap.size m.m (.slice m.ad m.m.lg.length m.cap) := by rw [hu1]; exact MiAt.new y _ m.m _
 have NN : BxNe y.heap.size x := S.O.ne (Nat.le_refl _);have nq := S.A.lt;have nd := D.lt;have nz := zb_lt S.Z;clear hu1;have S := S.later kq;have PZ_ := PZ_.later kq;have D := D.below kq D.lt;have V := V.later kq;have hL := hL.later kq;have M0 := M0.below kq gl;obtain ⟨qn, hqn⟩ := mk_ y.heap.size;rw [← hqn] at N NN nq nz nd gl ⊢;clear hqn kq;have e0 := D.c0;by_cases h9 : d.k = 9
 ·
  go_upto_region 3 with fail
  clear e0;have cD := D.c1;rw [hk.out] at cD;obtain ⟨a0, a1, a2, a3, a4, a5, a6, a7, a8, a9⟩ := S.A.at_;obtain ⟨n0, n1, n2, n3, n4, n5, n6⟩ := id N;go_wp2_with fail
  go_at_call 11
  clear a0 a1 a2 a3 a4 a5 a6 a7 a8 a9 n0 n1 n2 n3 n4 n5 n6 cD;refine (takeSp x.rg (k : Int) m.m m.ad m.cap u1 hL.view.2 (by omega) hcn).mono ?_;rintro e u2 ⟨a7, c7, rfl, O7, kq⟩;have gu := M0.lt;have NEA : ∀ q, u1.heap.size ≤ q → BxNe q x := fun q h => S.O.ne h
  have lo7 := O7.lt;have liu := S.O.i.lt;have nq1 := S.A.lt;have nz1 := zb_lt S.Z;have s1 := S.sz;have S := S.later kq;have PZ_ := PZ_.later kq;have D := D.below kq D.lt;have M0 := M0.below kq (by have := M0.lt; omega);have z12 := kq.size;clear kq V;obtain ⟨rr, hrr⟩ := mk_ (takeR x.rg (k : Int) m.m);obtain ⟨mm, hmm⟩ := mk_ (takeMm x.rg (k : Int) m.m);obtain ⟨tb, htb⟩ := mk_ (takeB x.rg (k : Int) m.m);rw [← hrr, ← hmm, ← htb];replace hrr : Hid _ := hrr;replace hmm : Hid _ := hmm;replace htb : Hid _ := htb;go_upto_region 4 with fail
  obtain ⟨v3, hv3⟩ := mk_ (u2.alloc (Obj.cells #[.int .i64 rr.ep, .int .i64 rr.ow, .int .i64 rr.pa] 25));obtain ⟨u3, hu3⟩ := mk_ (v3.alloc (Obj.cells #[.bool mm.up, .int .i64 mm.li, .int .i64 mm.ep, .slice a7 m.m.lg.length c7, .int .i64 mm.sd, .int .i64 mm.ac, .int .i64 mm.al] 28));rw [← hv3, ← hu3];have k1 : Below u2.heap.size u2 v3 := by rw [hv3]; exact below_new _
  have k2 : Below v3.heap.size v3 u3 := by rw [hu3]; exact below_new _
  have sv : v3.heap.size = u2.heap.size + 1 := by rw [hv3]; simp
  have RG : RgAt v3 u2.heap.size rr := by rw [hv3]; exact RgAt.new u2 _ rr
  have N7 : MiBox u3 v3.heap.size mm (.slice a7 m.m.lg.length c7) := by rw [hu3]; exact MiBox.new v3 _ mm _
  have RG := RG.below k2 RG.lt;have kk := k1.trans (k2.mono (by omega));clear hv3 hu3 k1 k2;have S := S.later kk;have PZ_ := PZ_.later kk;have D := D.below kk D.lt;have M0 := M0.below kk (by have := M0.lt; omega);have O7 := O7.later kk;rw [sv] at N7;obtain ⟨q7, hq7⟩ := mk_ u2.heap.size;rw [← hq7] at RG N7 ⊢;have z27 : u2.heap.size ≤ q7 := by omega
  have lt7 : ∀ g_, (Value.slice a7 m.m.lg.length c7).ownBlock = some g_ → u1.heap.size ≤ g_ ∧ g_ < q7 := fun g_ e => by have := lo7 g_ e; omega
  clear sv kk hq7 lo7;cases tb
  ·
   have hX : Hid ((x.p, (3 : Int)) = R) := by unfold Hid; rw [hR.out]; unfold regX; rw [if_pos h9, hmo.out, hk.out, show x.p.rg = x.rg from rfl]; rw [if_pos htb.out.symm]
   replace h9 : Hid _ := h9;obtain ⟨O9, B9⟩ := S.ret;have P9 := S.pz PZ_ (by omega);have ZB := S.Z.box;obtain ⟨a0, a1, a2, a3, a4, a5, a6, a7, a8, a9⟩ := S.A.at_;obtain ⟨r0, r1, r2, r3, r4, r5, r6, r7, r8, r9, g0, g1, g2, g3, g4, g5, g6, g7, g8, g9⟩ := zten ZB;clear S;go_wp2
   refine bodyPost_ret (v := .tuple #[bvx x, .int .i64 3]) (by simp [bvx, results, Tryz.results229, go_sem, *]) rfl ⟨x, 3, rfl, by exact hX.out, O9, B9, P9⟩
  by_cases hl : (m.m.lg.length : Int) < (x.ln.length : Int)
  ·
   have d1 : decide (m.m.lg.length < x.ln.length) = true := decide_eq_true (by omega);have hX : Hid ((x.p, (4 : Int)) = R) := by unfold Hid; rw [hR.out]; unfold regX; rw [if_pos h9, hmo.out, hk.out, show x.p.rg = x.rg from rfl]; rw [if_neg (by rw [← htb.out]; decide), if_pos (by show m.m.lg.length < x.ln.length; omega)]
   replace h9 : Hid _ := h9;obtain ⟨n0, n1, n2, n3, n4, n5, n6, nf⟩ := id N7;clear nf;obtain ⟨O9, B9⟩ := S.ret;have P9 := S.pz PZ_ (by omega);have ZB := S.Z.box;obtain ⟨a0, a1, a2, a3, a4, a5, a6, a7, a8, a9⟩ := S.A.at_;obtain ⟨r0, r1, r2, r3, r4, r5, r6, r7, r8, r9, g0, g1, g2, g3, g4, g5, g6, g7, g8, g9⟩ := zten ZB;clear S;go_wp2
   refine bodyPost_ret (v := .tuple #[bvx x, .int .i64 4]) (by simp [bvx, results, Tryz.results229, go_sem, *]) rfl ⟨x, 4, rfl, by exact hX.out, O9, B9, P9⟩
  have d1 : decide (m.m.lg.length < x.ln.length) = false := decide_eq_false (by omega);have hX : Hid ((setM (setR x.p rr) (k : Int) (⟨⟨mm.up, mm.li, mm.ep, m.m.lg, (x.ln.length : Int), mm.ac, mm.al⟩, a7, c7⟩ : MiD).m, (0 : Int)) = R) := by unfold Hid; rw [hR.out]; unfold regX; rw [if_pos h9, hmo.out, hk.out, show x.p.rg = x.rg from rfl]; rw [if_neg (by rw [← htb.out]; decide), if_neg (by show ¬ m.m.lg.length < x.ln.length; omega), hrr.out, hmm.out]; unfold takeR takeMm heirM; rw [← htb.out]; rfl
  replace h9 : Hid _ := h9;clear hl;obtain ⟨n0, n1, n2, n3, n4, n5, n6, nf⟩ := id N7;have f4 := nf 4;clear nf;obtain ⟨a0, a1, a2, a3, a4, a5, a6, a7, a8, a9⟩ := S.A.at_;go_upto_region 9 with fail
  clear n0 n1 n2 n3 n4 n5 n6 a0 a1 a2 a3 a4 a5 a6 a7 a8 a9 f4 d1;obtain ⟨u4, hu4⟩ := mk_ (u3.setCell ⟨q7 + 1, 4, none⟩ (.int .i64 (x.ln.length : Int)));rw [← hu4];have N7 : MiBox u4 (q7 + 1) ⟨mm.up, mm.li, mm.ep, mm.lg, (x.ln.length : Int), mm.ac, mm.al⟩ (.slice a7 m.m.lg.length c7) := by rw [hu4]; exact N7.setSd' _
  have kp : ∀ g, g ≠ q7 + 1 → u4.heap[g]? = u3.heap[g]? := fun g hg => by rw [hu4]; exact Below.heap_setCell _ _ _ _ hg
  have hqn7 : BxNe (q7 + 1) x := NEA _ (by omega);have PZ_ := PZ_.keep (n := q7 + 1) (by omega) kp (by simp [*]);have S := S.keepN hqn7 (by omega) (by omega) kp (by rw [hu4]; exact S.B.setCell (p := ⟨q7 + 1, 4, none⟩) (by show base ≤ q7 + 1; omega) _);have D := D.keep (kp _ (by omega));have M0 := M0.keep (kp _ (by omega));have RG := RG.keep (kp _ (by omega));have O7 := O7.keep (fun g_ e => kp g_ (by have := lt7 g_ e; omega));clear hu4 kp hqn7;obtain ⟨⟨a0, a1, a2, a3, a4, a5, a6, a7, a8, a9⟩, af⟩ := S.A;have f2 := af 2;have f3 := af 3;have f4 := af 4;clear af;obtain ⟨r0, r1, r2⟩ := RG;go_upto_region 10 with fail
  clear a0 a1 a2 a3 a4 a5 a6 a7 a8 a9 f2 f3 f4 r0 r1 r2;obtain ⟨u5, hu5⟩ := mk_ (((u4.setCell ⟨w.heap.size, 2, none⟩ (.int .i64 rr.ep)).setCell ⟨w.heap.size, 3, none⟩ (.int .i64 rr.ow)).setCell ⟨w.heap.size, 4, none⟩ (.int .i64 rr.pa));rw [← hu5];have kp : ∀ g, g ≠ w.heap.size → u5.heap[g]? = u4.heap[g]? := fun g hg => by rw [hu5, Below.heap_setCell _ _ _ _ hg, Below.heap_setCell _ _ _ _ hg, Below.heap_setCell _ _ _ _ hg]
  have PZ_ := PZ_.keep (n := w.heap.size) (W2 := u5) (Nat.le_refl _) (fun g hg => by rw [hu5, Below.heap_setCell _ _ _ _ hg, Below.heap_setCell _ _ _ _ hg, Below.heap_setCell _ _ _ _ hg]) (by rw [hu5]; simp);have S := S.setR rr;rw [← hu5] at S;have D := D.keep (kp _ (by omega));have M0 := M0.keep (kp _ (fun e => S.NA.t g (ownB hat.out rfl) e));have N7 := N7.keep (kp _ (by omega));have O7 := O7.keep (fun g_ e => kp g_ (by have := lt7 g_ e; omega));clear hu5 kp;have cA := S.A.at_.c5;rw [show ({ x with rg := rr } : BxD).aT = x.aT from rfl, hat.out] at cA;have cD := D.c1;rw [hk.out] at cD;obtain ⟨n0, n1, n2, n3, n4, n5, n6, nf⟩ := id N7;clear nf;obtain ⟨v0, v1, v2, v3, v4, v5, v6⟩ := id M0;have ot := S.O.t;rw [show ({ x with rg := rr } : BxD).aT = x.aT from rfl, hat.out] at ot;have f0 := ot.frozen (k * 7);have f1 := ot.frozen (k * 7 + 1);have f2 := ot.frozen (k * 7 + 2);have f3 := ot.frozen (k * 7 + 3);have f4 := ot.frozen (k * 7 + 4);have f5 := ot.frozen (k * 7 + 5);have f6 := ot.frozen (k * 7 + 6);clear ot;go_upto_region 11 with fail
  clear cA cD n0 n1 n2 n3 n4 n5 n6 v0 v1 v2 v3 v4 v5 v6 f0 f1 f2 f3 f4 f5 f6;obtain ⟨u6, hu6⟩ := mk_ (((((((u5.setCell ⟨g, k * 7, none⟩ (.bool mm.up)).setCell ⟨g, k * 7 + 1, none⟩ (.int .i64 mm.li)).setCell ⟨g, k * 7 + 2, none⟩ (.int .i64 mm.ep)).setCell ⟨g, k * 7 + 3, none⟩ (.slice a7 m.m.lg.length c7)).setCell ⟨g, k * 7 + 4, none⟩ (.int .i64 (x.ln.length : Int))).setCell ⟨g, k * 7 + 5, none⟩ (.int .i64 mm.ac)).setCell ⟨g, k * 7 + 6, none⟩ (.int .i64 mm.al));rw [← hu6];have PZ_ := PZ_.row (W2 := u6) S.O.t (by decide) (ownB hat.out rfl) (fun k_ hk_ => by rw [hu6, Below.heap_setCell _ _ _ _ hk_, Below.heap_setCell _ _ _ _ hk_, Below.heap_setCell _ _ _ _ hk_, Below.heap_setCell _ _ _ _ hk_, Below.heap_setCell _ _ _ _ hk_, Below.heap_setCell _ _ _ _ hk_, Below.heap_setCell _ _ _ _ hk_]) (by rw [hu6]; simp);have S : BxS base w.heap.size (w.heap.size + 1 + 1) w u6 (({ x with rg := rr } : BxD).setT k (⟨⟨mm.up, mm.li, mm.ep, m.m.lg, (x.ln.length : Int), mm.ac, mm.al⟩, a7, c7⟩ : MiD)) := by rw [hu6]; exact S.setT (x := { x with rg := rr }) hat.out hkl (⟨⟨mm.up, mm.li, mm.ep, m.m.lg, (x.ln.length : Int), mm.ac, mm.al⟩, a7, c7⟩ : MiD) (O7.base (by omega)) (fun g_ e e2 => by have := (lt7 g_ e).1; have := (liu g_ e2).2; omega) (fun g_ e => by have := (lt7 g_ e).1; omega)
  clear hu6;obtain ⟨z, hz⟩ : ∃ z : BxD, z = ({ x with rg := rr } : BxD).setT k (⟨⟨mm.up, mm.li, mm.ep, m.m.lg, (x.ln.length : Int), mm.ac, mm.al⟩, a7, c7⟩ : MiD) := ⟨_, rfl⟩;rw [← hz] at S;have hP : Hid ((z.p, (0 : Int)) = R) := by unfold Hid; rw [hz, BxD.setT_p, ← hX.out]; rfl
  clear hz hX;obtain ⟨O9, B9⟩ := S.ret;have P9 := S.pz PZ_ (by omega);have ZB := S.Z.box;obtain ⟨a0, a1, a2, a3, a4, a5, a6, a7, a8, a9⟩ := S.A.at_;obtain ⟨r0, r1, r2, r3, r4, r5, r6, r7, r8, r9, g0, g1, g2, g3, g4, g5, g6, g7, g8, g9⟩ := zten ZB;clear S;go_wp2
  refine bodyPost_ret (v := .tuple #[bvx z, .int .i64 0]) (by simp [bvx, results, Tryz.results229, go_sem, *]) rfl ⟨z, 0, rfl, by exact hP.out, O9, B9, P9⟩
 replace h9 : Hid (¬ d.k = 9) := h9;have d9 : (d.k == 9) = false := by simpa using h9.out
 by_cases h10 : d.k = 10
 focus
  have hf : Hid ((if d.k = 10 then (mOf x.p d.a).al else 0) = m.m.al) := by unfold Hid; rw [if_pos h10, hmo.out]
  have d10 : (d.k == 10) = true := by simpa using h10
  replace h10 : Hid _ := h10;obtain ⟨n0, n1, n2, n3, n4, n5, n6⟩ := id N;go_upto_region 15 with fail
  clear e0 d9 d10 n0 n1 n2 n3 n4 n5 n6;have cD := D.c1;rw [hk.out] at cD;obtain ⟨a0, a1, a2, a3, a4, a5, a6, a7, a8, a9⟩ := S.A.at_;obtain ⟨n0, n1, n2, n3, n4, n5, n6⟩ := id N;go_wp2_with fail
  go_at_call 14
  clear a0 a1 a2 a3 a4 a5 a6 a7 a8 a9 n0 n1 n2 n3 n4 n5 n6 cD;refine (pairsS x.rg (k : Int) m.m m.ad m.cap m.m.al u1 hL.view.2 (by omega)).mono ?_;rintro e u2 ⟨rfl, kq⟩;have nq1 := S.A.lt;have s1 := S.sz;have S := S.later kq;have PZ_ := PZ_.later kq;have D := D.below kq D.lt;have z12 := kq.size;clear kq V;obtain ⟨rr, hrr⟩ := mk_ (pairsR x.rg (k : Int) m.m m.m.al);obtain ⟨tb, htb⟩ := mk_ (pairsB x.rg (k : Int) m.m m.m.al)
 rotate_left;focus
  have hf : Hid ((if d.k = 10 then (mOf x.p d.a).al else 0) = 0) := by unfold Hid; rw [if_neg h10]
  have d10 : (d.k == 10) = false := by simpa using h10
  replace h10 : Hid (¬ d.k = 10) := h10;go_upto_region 15 with fail
  clear e0 d9 d10;have cD := D.c1;rw [hk.out] at cD;obtain ⟨a0, a1, a2, a3, a4, a5, a6, a7, a8, a9⟩ := S.A.at_;obtain ⟨n0, n1, n2, n3, n4, n5, n6⟩ := id N;go_wp2_with fail
  go_at_call 14
  clear a0 a1 a2 a3 a4 a5 a6 a7 a8 a9 n0 n1 n2 n3 n4 n5 n6 cD;refine (pairsS x.rg (k : Int) m.m m.ad m.cap 0 u1 hL.view.2 (by omega)).mono ?_;rintro e u2 ⟨rfl, kq⟩;have nq1 := S.A.lt;have s1 := S.sz;have S := S.later kq;have PZ_ := PZ_.later kq;have D := D.below kq D.lt;have z12 := kq.size;clear kq V;obtain ⟨rr, hrr⟩ := mk_ (pairsR x.rg (k : Int) m.m 0);obtain ⟨tb, htb⟩ := mk_ (pairsB x.rg (k : Int) m.m 0)
 rotate_left;all_goals
  rw [← hrr, ← htb];replace hrr : Hid _ := hrr;replace htb : Hid _ := htb;go_upto_region 16 with fail
  obtain ⟨u3, hu3⟩ := mk_ (u2.alloc (Obj.cells #[.int .i64 rr.ep, .int .i64 rr.ow, .int .i64 rr.pa] 25));rw [← hu3];have kk : Below u2.heap.size u2 u3 := by rw [hu3]; exact below_new _
  have RG : RgAt u3 u2.heap.size rr := by rw [hu3]; exact RgAt.new u2 _ rr
  clear hu3;have S := S.later kk;have PZ_ := PZ_.later kk;have D := D.below kk D.lt;obtain ⟨q7, hq7⟩ := mk_ u2.heap.size;rw [← hq7] at RG ⊢;have z27 : u2.heap.size ≤ q7 := by omega
  clear kk hq7;cases tb
  ·
   have hX : Hid ((x.p, (3 : Int)) = R) := by unfold Hid; rw [hR.out]; unfold regX; rw [if_neg h9.out, hf.out, hmo.out, hk.out, show x.p.rg = x.rg from rfl]; rw [if_neg (by rw [← htb.out]; decide)]
   obtain ⟨O9, B9⟩ := S.ret;have P9 := S.pz PZ_ (by omega);have ZB := S.Z.box;obtain ⟨a0, a1, a2, a3, a4, a5, a6, a7, a8, a9⟩ := S.A.at_;obtain ⟨r0, r1, r2, r3, r4, r5, r6, r7, r8, r9, g0, g1, g2, g3, g4, g5, g6, g7, g8, g9⟩ := zten ZB;clear S;go_wp2
   refine bodyPost_ret (v := .tuple #[bvx x, .int .i64 3]) (by simp [bvx, results, Tryz.results229, go_sem, *]) rfl ⟨x, 3, rfl, by exact hX.out, O9, B9, P9⟩
  ·
   have hX : Hid ((setR x.p rr, (0 : Int)) = R) := by unfold Hid; rw [hR.out]; unfold regX; rw [if_neg h9.out, hf.out, hmo.out, hk.out, show x.p.rg = x.rg from rfl]; rw [if_pos htb.out.symm, hrr.out]
   obtain ⟨⟨a0, a1, a2, a3, a4, a5, a6, a7, a8, a9⟩, af⟩ := S.A;have f2 := af 2;have f3 := af 3;have f4 := af 4;clear af;obtain ⟨r0, r1, r2⟩ := RG;go_upto_region 19 with fail
   clear a0 a1 a2 a3 a4 a5 a6 a7 a8 a9 f2 f3 f4 r0 r1 r2;obtain ⟨u5, hu5⟩ := mk_ (((u3.setCell ⟨w.heap.size, 2, none⟩ (.int .i64 rr.ep)).setCell ⟨w.heap.size, 3, none⟩ (.int .i64 rr.ow)).setCell ⟨w.heap.size, 4, none⟩ (.int .i64 rr.pa));rw [← hu5];have PZ_ := PZ_.keep (n := w.heap.size) (W2 := u5) (Nat.le_refl _) (fun g hg => by rw [hu5, Below.heap_setCell _ _ _ _ hg, Below.heap_setCell _ _ _ _ hg, Below.heap_setCell _ _ _ _ hg]) (by rw [hu5]; simp);have S := S.setR rr;rw [← hu5] at S;clear hu5;obtain ⟨z, hz⟩ : ∃ z : BxD, z = { x with rg := rr } := ⟨_, rfl⟩;rw [← hz] at S;have hP : Hid ((z.p, (0 : Int)) = R) := by unfold Hid; rw [hz, ← hX.out]; rfl
   clear hz hX;obtain ⟨O9, B9⟩ := S.ret;have P9 := S.pz PZ_ (by omega);have ZB := S.Z.box;obtain ⟨a0, a1, a2, a3, a4, a5, a6, a7, a8, a9⟩ := S.A.at_;obtain ⟨r0, r1, r2, r3, r4, r5, r6, r7, r8, r9, g0, g1, g2, g3, g4, g5, g6, g7, g8, g9⟩ := zten ZB;clear S;go_wp2
   refine bodyPost_ret (v := .tuple #[bvx z, .int .i64 0]) (by simp [bvx, results, Tryz.results229, go_sem, *]) rfl ⟨z, 0, rfl, by exact hP.out, O9, B9, P9⟩
end Go.Proofs.YtnpiljegdiconaaGreat
