import Derived.Test.YtnpiljegdiconaaGreatQM14
namespace Go.Proofs.YtnpiljegdiconaaGreat
open Go.ChangeShapes Go.WideShapes Go.ChangeAt Go.RowKit
open Go.ChangeMaps (open_string shut_string)
set_option linter.unusedVariables false
set_option maxRecDepth 100000
theorem p_two_len (x : BxD) : x.p.two.length = x.two.length := by unfold BxD.p; simp
set_option maxHeartbeats 4000000 in
theorem mindsXS (x : BxD) (s : Int) (w : World) (hV : BxV w x) :
  Calls Tryz.prog 96 #[.agg #[.int .i64 x.id, .int .i64 x.po, .int .i64 x.rg.ep, .int .i64 x.rg.ow, .int .i64 x.rg.pa, .slice x.aT x.two.length x.cT, .slice x.aN x.net.length x.cN, .slice x.aG x.ga.length x.cG, .slice x.aL x.ln.length x.cL, .slice x.aS x.sd.length x.cS], .int .i64 s] w fun e w' => e = .returned (.bool (mindsX x.p s)) ∧ Below w.heap.size w w' := by
 obtain ⟨R, hR⟩ := mk_ (mindsX x.p s);rw [← hR];replace hR : Hid _ := hR;obtain ⟨y, hy⟩ := mk_ (w.alloc (Obj.cells #[.int .i64 x.id, .int .i64 x.po, .int .i64 x.rg.ep, .int .i64 x.rg.ow, .int .i64 x.rg.pa, .slice x.aT x.two.length x.cT, .slice x.aN x.net.length x.cN, .slice x.aG x.ga.length x.cG, .slice x.aL x.ln.length x.cL, .slice x.aS x.sd.length x.cS] 48));have B0 : Below w.heap.size w y := by rw [hy]; exact below_new _
 have A : BxAt y w.heap.size x := by rw [hy]; exact BxAt.new w _ x
 have V := hV.later B0;go_enter Tryz.func96, Tryz.ntmps96
 go_upto_region 1 with fail
 rw [← hy];clear hy hV;refine wp_region_held (S := fun Y => Below y.heap.size y Y) (by kernel_rfl) ?_;change wpAnyH _ _ _ _ _ _ _ _ (World.drew _);have hb0 : Below y.heap.size y y.drew := (Below.refl _ _).drew;obtain ⟨u0, hy0⟩ := mk_ y.drew;rw [← hy0] at hb0 ⊢;clear hy0;refine tw 0 5 (.int .i64 s) ?_;refine tw 1 6 (.pointer (some ⟨w.heap.size, 5, none⟩)) ?_;refine tw 2 7 (.slice x.aT x.two.length x.cT) ?_ (hy := by intro Y hSw; obtain ⟨X0, X1, X2, X3, X4, X5, X6, X7, X8, X9⟩ := A.below hSw A.lt; go_simp);refine tw 3 8 (.int .i64 (x.two.length : Int)) ?_;have bt := V.bt;have hwr : IntKind.i64.wrap ((x.two.length : Int) - 1) = (x.two.length : Int) - 1 := by rw [IntKind.wrap_i64]; omega
 refine tw 4 9 (.int .i64 ((x.two.length : Int) - 1)) ?_;refine w1 5 fun Kz hKz => ?_
 go_simp
 go_at_call 65
 refine (inB s 0 ((x.two.length : Int) - 1) u0).mono ?_;rintro e u1 ⟨rfl, hw_⟩;have hb1 : Below y.heap.size y u1 := by rw [hw_]; exact hb0
 clear hw_;refine hKz _ _ ⟨hb1, ?_⟩;clear hKz Kz;clear hwr;cases h1 : decide (0 ≤ s ∧ s ≤ (x.two.length : Int) - 1)
 ·
  have hN : Hid (R = false) := by unfold Hid; rw [hR.out]; unfold mindsX; rw [show decide (0 ≤ s ∧ s < ((x.p.two).length : Int)) = false from decide_eq_false (by have := of_decide_eq_false h1; rw [p_two_len]; omega)]; rfl
  clear h1;refine tw 6 11 (.bool false) ?_;refine ts 7 12 ?_;refine ts 8 13 ?_;refine ts 9 14 ?_;refine ts 10 15 ?_;refine ts 11 16 ?_;refine ts 12 17 ?_;refine ts 13 18 ?_;refine ts 14 19 ?_;refine ts 15 20 ?_;refine tw 16 21 (.bool false) ?_;refine tw 17 4 (.bool false) ?_;refine wpAnyH_done (by kernel_rfl) ?_ _;go_wp2
  go_ret
  exact ⟨by rw [hN.out]; rfl, B0.trans (hb1.mono B0.size)⟩
 have h1' := of_decide_eq_true h1;obtain ⟨k, rfl⟩ : ∃ k : Nat, s = (k : Int) := ⟨s.toNat, by omega⟩;have hk : k < x.two.length := by omega
 have hcap := V.ct;obtain ⟨d, hd⟩ : ∃ d, x.two.getD k MiD.nil = d := ⟨_, rfl⟩;have hvl := V.l k hk;have hll := V.bl k hk;rw [hd] at hvl hll;have hN : Hid (R = mindsB x.rg (k : Int) d.m) := by unfold Hid; rw [hR.out]; unfold mindsX; rw [show decide (0 ≤ (k : Int) ∧ (k : Int) < ((x.p.two).length : Int)) = true from decide_eq_true (by rw [p_two_len]; omega), mOf_p, Int.toNat_natCast, hd]; rfl
 obtain ⟨b, off, hat, _⟩ := V.t (by omega);have hck : ∀ Y, Below y.heap.size y Y → MdAtO Y b (off + k * 7) d := fun Y hY => by have ht := (V.later hY).t; rw [hat] at ht; rw [← hd]; exact mdAtO_of (ht.at_ mdEnc_len MiD.nil hk)
 replace hd : Hid _ := hd;clear h1 h1';refine tw 6 11 (.bool true) ?_;refine tw 7 12 (.pointer (some ⟨w.heap.size, 2, none⟩)) ?_;refine tw 8 13 (.agg #[.int .i64 x.rg.ep, .int .i64 x.rg.ow, .int .i64 x.rg.pa]) ?_ (hy := by intro Y hSw; obtain ⟨X0, X1, X2, X3, X4, X5, X6, X7, X8, X9⟩ := A.below hSw A.lt; go_simp);refine tw 9 14 (.int .i64 (k : Int)) ?_;refine tw 10 15 (.pointer (some ⟨w.heap.size, 5, none⟩)) ?_;refine tw 11 16 (.slice (some ⟨b, off, none⟩) x.two.length x.cT) ?_ (hy := by intro Y hSw; obtain ⟨X0, X1, X2, X3, X4, X5, X6, X7, X8, X9⟩ := A.below hSw A.lt; rw [hat] at X5; go_simp);refine tw 12 17 (.int .i64 (k : Int)) ?_;refine tw 13 18 (.pointer (some ⟨b, off + k * 7, none⟩)) ?_ (hy := by intro Y hSw; go_simp; try omega);refine tw 14 19 (.agg #[.bool d.m.up, .int .i64 d.m.li, .int .i64 d.m.ep, .slice d.ad d.m.lg.length d.cap, .int .i64 d.m.sd, .int .i64 d.m.ac, .int .i64 d.m.al]) ?_ (hy := by intro Y hSw; obtain ⟨X0, X1, X2, X3, X4, X5, X6⟩ := hck Y hSw; go_simp);refine w1 15 fun Kz hKz => ?_
 go_simp
 go_at_call 19
 refine (mindsS x.rg (k : Int) d.m d.ad d.cap u1 (hvl.below hb1 (hvl.lt ikEnc_len (by omega))) (by omega)).mono ?_;rintro e u2 ⟨rfl, kq⟩;rw [← hN.out];have hb2 : Below y.heap.size y u2 := hb1.trans (kq.mono hb1.size);clear kq;refine hKz _ _ ⟨hb2, ?_⟩;clear hKz Kz;refine tw 16 21 (.bool R) ?_;refine tw 17 4 (.bool R) ?_;refine wpAnyH_done (by kernel_rfl) ?_ _;go_wp2
 go_ret
 exact ⟨rfl, B0.trans (hb2.mono B0.size)⟩
set_option maxHeartbeats 4000000 in
theorem whoS (x : BxD) (w : World) (hV : BxV w x) :
  Calls Tryz.prog 245 #[.agg #[.int .i64 x.id, .int .i64 x.po, .int .i64 x.rg.ep, .int .i64 x.rg.ow, .int .i64 x.rg.pa, .slice x.aT x.two.length x.cT, .slice x.aN x.net.length x.cN, .slice x.aG x.ga.length x.cG, .slice x.aL x.ln.length x.cL, .slice x.aS x.sd.length x.cS]] w fun e w' => e = .returned (.int .i64 (whoX x.p)) ∧ Below w.heap.size w w' := by
 obtain ⟨R, hR⟩ := mk_ (whoX x.p);rw [← hR];replace hR : Hid _ := hR;obtain ⟨y, hy⟩ := mk_ (w.alloc (Obj.cells #[.int .i64 x.id, .int .i64 x.po, .int .i64 x.rg.ep, .int .i64 x.rg.ow, .int .i64 x.rg.pa, .slice x.aT x.two.length x.cT, .slice x.aN x.net.length x.cN, .slice x.aG x.ga.length x.cG, .slice x.aL x.ln.length x.cL, .slice x.aS x.sd.length x.cS] 48));have B0 : Below w.heap.size w y := by rw [hy]; exact below_new _
 have A : BxAt y w.heap.size x := by rw [hy]; exact BxAt.new w _ x
 have V := hV.later B0;go_enter Tryz.func245, Tryz.ntmps245
 go_upto_region 2 with fail
 rw [← hy];clear hy hV;refine wp_loop_rounds 3 ?_;rw [rounds_succ];obtain ⟨a0, a1, a2, a3, a4, a5, a6, a7, a8, a9⟩ := id A;go_wp2_with fail
 go_at_call 96
 clear a0 a1 a2 a3 a4 a5 a6 a7 a8 a9;refine (mindsXS x 0 y V).mono ?_;rintro e v1 ⟨rfl, k1⟩;have A := A.below k1 A.lt;have V := V.later k1;have B1 := B0.trans (k1.mono B0.size);clear k1 B0;cases h0 : mindsX x.p 0
 ·
  replace h0 : Hid _ := h0;go_wp2
  rw [rounds_succ];obtain ⟨a0, a1, a2, a3, a4, a5, a6, a7, a8, a9⟩ := id A;go_wp2_with fail
  go_at_call 96
  clear a0 a1 a2 a3 a4 a5 a6 a7 a8 a9;refine (mindsXS x 1 v1 V).mono ?_;rintro e v2 ⟨rfl, k2⟩;have B2 := B1.trans (k2.mono B1.size);clear k2 B1;cases h1 : mindsX x.p 1
  ·
   have hN : Hid (R = -1) := by unfold Hid; rw [hR.out]; unfold whoX; rw [h0.out, h1]; rfl
   clear h1;go_wp2
   rw [rounds_succ];go_wp2
   go_ret
   exact ⟨by rw [hN.out]; rfl, B2⟩
  have hN : Hid (R = 1) := by unfold Hid; rw [hR.out]; unfold whoX; rw [h0.out, h1]; rfl
  clear h1;go_wp2
  go_ret
  exact ⟨by rw [hN.out]; rfl, B2⟩
 have hN : Hid (R = 0) := by unfold Hid; rw [hR.out]; unfold whoX; rw [h0]; rfl
 clear h0;go_wp2
 go_ret
 exact ⟨by rw [hN.out]; rfl, B1⟩
set_option maxHeartbeats 8000000 in
theorem drawBt {cb : Nat} {ad : Option Addr} {len cap : Nat} {f : Nat → Int} (w : World) (hs : Src w cb ad len cap f) (hcb : cb < w.heap.size) : Calls Tryz.prog 132 #[.pointer (some ⟨cb, 0, none⟩)] w fun e w' => DrewJ w cb ad len cap f e w' := by
 obtain ⟨R, hRe⟩ := mk_ w.heap.size;have hR : w.heap.size ≤ R := by omega
 have hRc : R ≠ cb := by omega
 obtain ⟨x0, hx0⟩ := mk_ (w.alloc (Obj.cells #[.int .i64 0, .int .i64 0, .int .i64 0, .int .i64 0, .int .i64 0, .int .i64 0, .int .i64 0, .bool false] 105));have D0 : DV w cb ad len cap x0 := by rw [hx0]; exact (DV.start hs).alloc _
 have Z0 : IBox x0 R ⟨0, 0, 0, 0, 0, 0, 0, false⟩ := by rw [hx0, hRe]; exact ⟨InAt.new w _ ⟨0, 0, 0, 0, 0, 0, 0, false⟩, fun i => by simp [go_sem]⟩
 go_enter Tryz.func132, Tryz.ntmps132
 go_wp2_with fail
 go_at_call 139
 rw [← hx0, ← hRe];clear hx0 hRe;refine (drawJ8 x0 (D0.src hs) D0.cur.lt).mono ?_;rintro e y1 ⟨⟨k, q, r, c, b, p, h, up⟩, rfl, s1, g1, b8⟩;have D1 := D0.step s1 g1;have Z1 := Z0.grown g1 hRc;unfold B8 at b8;dsimp only at b8 ⊢;obtain ⟨b1, b2, b3, b4, b5, b6⟩ := b8;obtain ⟨Q, hQ⟩ := mk_ y1.heap.size;obtain ⟨y2, hy2⟩ := mk_ (y1.alloc (Obj.cells #[.int .i64 k, .int .i64 q, .int .i64 r, .int .i64 c, .int .i64 b, .int .i64 p, .int .i64 h, .bool up] 105));have Q2 : IBox y2 Q ⟨k, q, r, c, b, p, h, up⟩ := by rw [hy2, hQ]; exact ⟨InAt.new y1 _ ⟨k, q, r, c, b, p, h, up⟩, fun i => by simp [go_sem]⟩
 have k2 : Below y1.heap.size y1 y2 := by rw [hy2]; exact below_new _
 have D2 := D1.later8 k2;have Z2 : IBox y2 R ⟨0, 0, 0, 0, 0, 0, 0, false⟩ := Z1.keep (k2.block _ Z1.at_.lt);have lQ : w.heap.size ≤ Q := by rw [hQ]; exact D1.gr.size
 have lQR : Q ≠ R := by have := Z1.at_.lt; omega
 have lQc : Q ≠ cb := by omega
 go_wp2_with fail
 go_at_call 76
 rw [← hy2, ← hQ];clear hy2 hQ k2 D0 Z0 Z1 D1 s1 g1;refine (drawBelow (D2.src hs) 12 (by decide) (by decide)).mono ?_;rintro e y3 ⟨t, rfl, t0_, t1_, s3, g3⟩;have D3 := D2.step s3 g3;have Q3 := Q2.grown g3 lQc;have Z3 := Z2.grown g3 hRc;clear D2 Q2 Z2 s3 g3;by_cases e0 : t = 0
 ·
  subst e0;go_wp2_with fail
  go_at_call 76
  refine (drawBelow (D3.src hs) 6 (by decide) (by decide)).mono ?_;rintro e y4 ⟨n, rfl, n0, n1, s4, g4⟩;have D4 := D3.step s4 g4;have Q4 := Q3.grown g4 lQc;have Z4 := Z3.grown g4 hRc;clear D3 Q3 Z3 s4 g4;obtain ⟨y5, hst⟩ := mk_ (y4.setCell ⟨Q, 0, none⟩ (.int .i64 (n - 1)));have D5 : DV w cb ad len cap y5 := by rw [hst]; exact D4.set (N := Q) (i := 0) (by omega) hcb _
  have QN : IBox y5 Q ⟨(n - 1), q, r, c, b, p, h, up⟩ := by rw [hst]; exact ⟨⟨pset_same Q4.at_.c0, (pset_else (by decide)).trans Q4.at_.c1, (pset_else (by decide)).trans Q4.at_.c2, (pset_else (by decide)).trans Q4.at_.c3, (pset_else (by decide)).trans Q4.at_.c4, (pset_else (by decide)).trans Q4.at_.c5, (pset_else (by decide)).trans Q4.at_.c6, (pset_else (by decide)).trans Q4.at_.c7⟩, fun j => by rw [World.frozen?_setCell]; exact Q4.fr j⟩
  have ZZ : IBox y5 R ⟨0, 0, 0, 0, 0, 0, 0, false⟩ := by rw [hst]; exact Z4.keep (Below.heap_setCell _ _ _ _ (by show R ≠ Q; omega))
  have cq := Q4;obtain ⟨⟨e0, e1, e2, e3, e4, e5, e6, e7⟩, ef⟩ := cq;have fi := ef 0;go_upto_region 11 with fail
  rw [← hst];clear hst e0 e1 e2 e3 e4 e5 e6 e7 ef fi;have DZ := ((((((((D5.set (N := R) (i := 0) (by omega) hcb (.int .i64 (n - 1))).set (N := R) (i := 1) (by omega) hcb (.int .i64 q)).set (N := R) (i := 2) (by omega) hcb (.int .i64 r)).set (N := R) (i := 3) (by omega) hcb (.int .i64 c)).set (N := R) (i := 4) (by omega) hcb (.int .i64 b)).set (N := R) (i := 5) (by omega) hcb (.int .i64 p)).set (N := R) (i := 6) (by omega) hcb (.int .i64 h)).set (N := R) (i := 7) (by omega) hcb (.bool up));obtain ⟨⟨q0, q1, q2, q3, q4, q5, q6, q7⟩, qf⟩ := QN;obtain ⟨⟨z0, z1, z2, z3, z4, z5, z6, z7⟩, zf⟩ := ZZ;have f0 := zf 0;have f1 := zf 1;have f2 := zf 2;have f3 := zf 3;have f4 := zf 4;have f5 := zf 5;have f6 := zf 6;have f7 := zf 7;go_wp2
  refine bodyPost_ret (v := .agg #[.int .i64 (n - 1), .int .i64 q, .int .i64 r, .int .i64 c, .int .i64 b, .int .i64 p, .int .i64 h, .bool up]) (by simp [results, Tryz.results132, go_sem, *]) rfl ⟨⟨(n - 1), q, r, c, b, p, h, up⟩, rfl, DZ.src hs, DZ.gr, by (unfold B8; simp only; omega)⟩
 have d0 : (t == 0) = false := by simpa using e0
 by_cases e1 : t = 1
 ·
  subst e1;obtain ⟨y4z, hy4z⟩ := mk_ (y3.alloc (Obj.cells #[.int .i64 (-1), .int .i64 3, .int .i64 4] 3));have kz : Below y3.heap.size y3 y4z := by rw [hy4z]; exact below_new _
  have hpk : ∀ i, i < 3 → ∃ y, y4z.cell? ⟨y3.heap.size, i, none⟩ = some (.int .i64 y) ∧ (fun y : Int => -1 ≤ y ∧ y ≤ 9) y := fun i hi => by
   rw [hy4z];rcases (by omega : i = 0 ∨ i = 1 ∨ i = 2) with rfl | rfl | rfl
   ·
    exact ⟨(-1 : Int), by simp [go_sem], by constructor <;> decide⟩
   ·
    exact ⟨(3 : Int), by simp [go_sem], by constructor <;> decide⟩
   exact ⟨(4 : Int), by simp [go_sem], by constructor <;> decide⟩
  have D3z := D3.later8 kz;have hcz : y3.heap.size ≠ cb := by have := D3.cur.lt; omega
  have Q3z : IBox y4z Q _ := Q3.keep (kz.block _ Q3.at_.lt);have Z3z : IBox y4z R _ := Z3.keep (kz.block _ Z3.at_.lt);go_wp2_with fail
  go_at_call 66
  rw [← hy4z];clear hy4z kz;refine (pickIntP (D3z.src hs) (fun y : Int => -1 ≤ y ∧ y ≤ 9) y3.heap.size 3 3 hcz (by decide) (by decide) hpk).mono ?_;rintro e y4 ⟨n, rfl, hn, s_, g_⟩;have D3p := D3z.step s_ g_;have Q4 := Q3z.grown g_ lQc;have Z4 := Z3z.grown g_ hRc;obtain ⟨n0, n1⟩ := hn;clear D3 D3z Q3 Q3z Z3 Z3z s_ g_ hpk hcz;obtain ⟨y5, hst⟩ := mk_ (y4.setCell ⟨Q, 1, none⟩ (.int .i64 n));have D5 : DV w cb ad len cap y5 := by rw [hst]; exact D3p.set (N := Q) (i := 1) (by omega) hcb _
  have QN : IBox y5 Q ⟨k, n, r, c, b, p, h, up⟩ := by rw [hst]; exact ⟨⟨(pset_else (by decide)).trans Q4.at_.c0, pset_same Q4.at_.c1, (pset_else (by decide)).trans Q4.at_.c2, (pset_else (by decide)).trans Q4.at_.c3, (pset_else (by decide)).trans Q4.at_.c4, (pset_else (by decide)).trans Q4.at_.c5, (pset_else (by decide)).trans Q4.at_.c6, (pset_else (by decide)).trans Q4.at_.c7⟩, fun j => by rw [World.frozen?_setCell]; exact Q4.fr j⟩
  have ZZ : IBox y5 R ⟨0, 0, 0, 0, 0, 0, 0, false⟩ := by rw [hst]; exact Z4.keep (Below.heap_setCell _ _ _ _ (by show R ≠ Q; omega))
  have cq := Q4;obtain ⟨⟨e0, e1, e2, e3, e4, e5, e6, e7⟩, ef⟩ := cq;have fi := ef 1;go_upto_region 11 with fail
  rw [← hst];clear hst e0 e1 e2 e3 e4 e5 e6 e7 ef fi;have DZ := ((((((((D5.set (N := R) (i := 0) (by omega) hcb (.int .i64 k)).set (N := R) (i := 1) (by omega) hcb (.int .i64 n)).set (N := R) (i := 2) (by omega) hcb (.int .i64 r)).set (N := R) (i := 3) (by omega) hcb (.int .i64 c)).set (N := R) (i := 4) (by omega) hcb (.int .i64 b)).set (N := R) (i := 5) (by omega) hcb (.int .i64 p)).set (N := R) (i := 6) (by omega) hcb (.int .i64 h)).set (N := R) (i := 7) (by omega) hcb (.bool up));obtain ⟨⟨q0, q1, q2, q3, q4, q5, q6, q7⟩, qf⟩ := QN;obtain ⟨⟨z0, z1, z2, z3, z4, z5, z6, z7⟩, zf⟩ := ZZ;have f0 := zf 0;have f1 := zf 1;have f2 := zf 2;have f3 := zf 3;have f4 := zf 4;have f5 := zf 5;have f6 := zf 6;have f7 := zf 7;go_wp2
  refine bodyPost_ret (v := .agg #[.int .i64 k, .int .i64 n, .int .i64 r, .int .i64 c, .int .i64 b, .int .i64 p, .int .i64 h, .bool up]) (by simp [results, Tryz.results132, go_sem, *]) rfl ⟨⟨k, n, r, c, b, p, h, up⟩, rfl, DZ.src hs, DZ.gr, by (unfold B8; simp only; omega)⟩
 have d1 : (t == 1) = false := by simpa using e1
 by_cases e2 : t = 2
 ·
  subst e2;go_wp2_with fail
  go_at_call 180
  refine (drawL6 y3 (D3.src hs) D3.cur.lt).mono ?_;rintro e y4 ⟨r2, c2, b2', p2, rfl, hV4, s4, g4⟩;have D4 := D3.step s4 g4;have Q4 := Q3.grown g4 lQc;have Z4 := Z3.grown g4 hRc;clear D3 Q3 Z3 s4 g4;obtain ⟨y5, hst⟩ := mk_ ((((y4.setCell ⟨Q, 2, none⟩ (.int .i64 r2)).setCell ⟨Q, 3, none⟩ (.int .i64 c2)).setCell ⟨Q, 4, none⟩ (.int .i64 b2')).setCell ⟨Q, 5, none⟩ (.int .i64 p2));have D5 : DV w cb ad len cap y5 := by rw [hst]; exact ((((D4.set (N := Q) (i := 2) (by omega) hcb (.int .i64 r2)).set (N := Q) (i := 3) (by omega) hcb (.int .i64 c2)).set (N := Q) (i := 4) (by omega) hcb (.int .i64 b2')).set (N := Q) (i := 5) (by omega) hcb (.int .i64 p2))
  have QN : IBox y5 Q ⟨k, q, r2, c2, b2', p2, h, up⟩ := by rw [hst]; obtain ⟨⟨e0, e1, e2, e3, e4, e5, e6, e7⟩, ef⟩ := Q4; refine ⟨⟨?_, ?_, ?_, ?_, ?_, ?_, ?_, ?_⟩, fun j => ?_⟩ <;> simp [go_sem, *]
  have ZZ : IBox y5 R ⟨0, 0, 0, 0, 0, 0, 0, false⟩ := by rw [hst]; exact Z4.keep (by rw [Below.heap_setCell _ _ _ _ (by show R ≠ Q; omega), Below.heap_setCell _ _ _ _ (by show R ≠ Q; omega), Below.heap_setCell _ _ _ _ (by show R ≠ Q; omega), Below.heap_setCell _ _ _ _ (by show R ≠ Q; omega)])
  have cq := Q4;obtain ⟨⟨e0, e1, e2, e3, e4, e5, e6, e7⟩, ef⟩ := cq;have fi2 := ef 2;have fi3 := ef 3;have fi4 := ef 4;have fi5 := ef 5;go_upto_region 11 with fail
  rw [← hst];clear hst e0 e1 e2 e3 e4 e5 e6 e7 ef fi2 fi3 fi4 fi5;have DZ := ((((((((D5.set (N := R) (i := 0) (by omega) hcb (.int .i64 k)).set (N := R) (i := 1) (by omega) hcb (.int .i64 q)).set (N := R) (i := 2) (by omega) hcb (.int .i64 r2)).set (N := R) (i := 3) (by omega) hcb (.int .i64 c2)).set (N := R) (i := 4) (by omega) hcb (.int .i64 b2')).set (N := R) (i := 5) (by omega) hcb (.int .i64 p2)).set (N := R) (i := 6) (by omega) hcb (.int .i64 h)).set (N := R) (i := 7) (by omega) hcb (.bool up));obtain ⟨⟨q0, q1, q2, q3, q4, q5, q6, q7⟩, qf⟩ := QN;obtain ⟨⟨z0, z1, z2, z3, z4, z5, z6, z7⟩, zf⟩ := ZZ;have f0 := zf 0;have f1 := zf 1;have f2 := zf 2;have f3 := zf 3;have f4 := zf 4;have f5 := zf 5;have f6 := zf 6;have f7 := zf 7;go_wp2
  refine bodyPost_ret (v := .agg #[.int .i64 k, .int .i64 q, .int .i64 r2, .int .i64 c2, .int .i64 b2', .int .i64 p2, .int .i64 h, .bool up]) (by simp [results, Tryz.results132, go_sem, *]) rfl ⟨⟨k, q, r2, c2, b2', p2, h, up⟩, rfl, DZ.src hs, DZ.gr, by (unfold V4 at hV4; unfold B8; simp only; omega)⟩
 have d2 : (t == 2) = false := by simpa using e2
 by_cases e3 : t = 3
 ·
  subst e3;obtain ⟨y4z, hy4z⟩ := mk_ (y3.alloc (Obj.cells #[.int .i64 (-1), .int .i64 8, .int .i64 9] 3));have kz : Below y3.heap.size y3 y4z := by rw [hy4z]; exact below_new _
  have hpk : ∀ i, i < 3 → ∃ y, y4z.cell? ⟨y3.heap.size, i, none⟩ = some (.int .i64 y) ∧ (fun y : Int => -1 ≤ y ∧ y ≤ 9) y := fun i hi => by
   rw [hy4z];rcases (by omega : i = 0 ∨ i = 1 ∨ i = 2) with rfl | rfl | rfl
   ·
    exact ⟨(-1 : Int), by simp [go_sem], by constructor <;> decide⟩
   ·
    exact ⟨(8 : Int), by simp [go_sem], by constructor <;> decide⟩
   exact ⟨(9 : Int), by simp [go_sem], by constructor <;> decide⟩
  have D3z := D3.later8 kz;have hcz : y3.heap.size ≠ cb := by have := D3.cur.lt; omega
  have Q3z : IBox y4z Q _ := Q3.keep (kz.block _ Q3.at_.lt);have Z3z : IBox y4z R _ := Z3.keep (kz.block _ Z3.at_.lt);go_wp2_with fail
  go_at_call 66
  rw [← hy4z];clear hy4z kz;refine (pickIntP (D3z.src hs) (fun y : Int => -1 ≤ y ∧ y ≤ 9) y3.heap.size 3 3 hcz (by decide) (by decide) hpk).mono ?_;rintro e y4 ⟨n, rfl, hn, s_, g_⟩;have D3p := D3z.step s_ g_;have Q4 := Q3z.grown g_ lQc;have Z4 := Z3z.grown g_ hRc;obtain ⟨n0, n1⟩ := hn;clear D3 D3z Q3 Q3z Z3 Z3z s_ g_ hpk hcz;obtain ⟨y5, hst⟩ := mk_ (y4.setCell ⟨Q, 6, none⟩ (.int .i64 n));have D5 : DV w cb ad len cap y5 := by rw [hst]; exact D3p.set (N := Q) (i := 6) (by omega) hcb _
  have QN : IBox y5 Q ⟨k, q, r, c, b, p, n, up⟩ := by rw [hst]; exact ⟨⟨(pset_else (by decide)).trans Q4.at_.c0, (pset_else (by decide)).trans Q4.at_.c1, (pset_else (by decide)).trans Q4.at_.c2, (pset_else (by decide)).trans Q4.at_.c3, (pset_else (by decide)).trans Q4.at_.c4, (pset_else (by decide)).trans Q4.at_.c5, pset_same Q4.at_.c6, (pset_else (by decide)).trans Q4.at_.c7⟩, fun j => by rw [World.frozen?_setCell]; exact Q4.fr j⟩
  have ZZ : IBox y5 R ⟨0, 0, 0, 0, 0, 0, 0, false⟩ := by rw [hst]; exact Z4.keep (Below.heap_setCell _ _ _ _ (by show R ≠ Q; omega))
  have cq := Q4;obtain ⟨⟨e0, e1, e2, e3, e4, e5, e6, e7⟩, ef⟩ := cq;have fi := ef 6;go_upto_region 11 with fail
  rw [← hst];clear hst e0 e1 e2 e3 e4 e5 e6 e7 ef fi;have DZ := ((((((((D5.set (N := R) (i := 0) (by omega) hcb (.int .i64 k)).set (N := R) (i := 1) (by omega) hcb (.int .i64 q)).set (N := R) (i := 2) (by omega) hcb (.int .i64 r)).set (N := R) (i := 3) (by omega) hcb (.int .i64 c)).set (N := R) (i := 4) (by omega) hcb (.int .i64 b)).set (N := R) (i := 5) (by omega) hcb (.int .i64 p)).set (N := R) (i := 6) (by omega) hcb (.int .i64 n)).set (N := R) (i := 7) (by omega) hcb (.bool up));obtain ⟨⟨q0, q1, q2, q3, q4, q5, q6, q7⟩, qf⟩ := QN;obtain ⟨⟨z0, z1, z2, z3, z4, z5, z6, z7⟩, zf⟩ := ZZ;have f0 := zf 0;have f1 := zf 1;have f2 := zf 2;have f3 := zf 3;have f4 := zf 4;have f5 := zf 5;have f6 := zf 6;have f7 := zf 7;go_wp2
  refine bodyPost_ret (v := .agg #[.int .i64 k, .int .i64 q, .int .i64 r, .int .i64 c, .int .i64 b, .int .i64 p, .int .i64 n, .bool up]) (by simp [results, Tryz.results132, go_sem, *]) rfl ⟨⟨k, q, r, c, b, p, n, up⟩, rfl, DZ.src hs, DZ.gr, by (unfold B8; simp only; omega)⟩
 have d3 : (t == 3) = false := by simpa using e3
 have ZZ := Z3;have DZ := ((((((((D3.set (N := R) (i := 0) (by omega) hcb (.int .i64 k)).set (N := R) (i := 1) (by omega) hcb (.int .i64 q)).set (N := R) (i := 2) (by omega) hcb (.int .i64 r)).set (N := R) (i := 3) (by omega) hcb (.int .i64 c)).set (N := R) (i := 4) (by omega) hcb (.int .i64 b)).set (N := R) (i := 5) (by omega) hcb (.int .i64 p)).set (N := R) (i := 6) (by omega) hcb (.int .i64 h)).set (N := R) (i := 7) (by omega) hcb (.bool up));obtain ⟨⟨q0, q1, q2, q3, q4, q5, q6, q7⟩, qf⟩ := Q3;obtain ⟨⟨z0, z1, z2, z3, z4, z5, z6, z7⟩, zf⟩ := ZZ;have f0 := zf 0;have f1 := zf 1;have f2 := zf 2;have f3 := zf 3;have f4 := zf 4;have f5 := zf 5;have f6 := zf 6;have f7 := zf 7;go_wp2
 refine bodyPost_ret (v := .agg #[.int .i64 k, .int .i64 q, .int .i64 r, .int .i64 c, .int .i64 b, .int .i64 p, .int .i64 h, .bool up]) (by simp [results, Tryz.results132, go_sem, *]) rfl ⟨⟨k, q, r, c, b, p, h, up⟩, rfl, DZ.src hs, DZ.gr, by (unfold B8; simp only; omega)⟩
end Go.Proofs.YtnpiljegdiconaaGreat
