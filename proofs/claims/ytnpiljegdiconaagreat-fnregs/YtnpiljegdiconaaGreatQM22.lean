import Derived.Test.YtnpiljegdiconaaGreatQKWBxd25
import Derived.Test.YtnpiljegdiconaaGreatQKWMn3
namespace Go.Proofs.YtnpiljegdiconaaGreat
open Go.ChangeShapes Go.WideShapes Go.ChangeAt Go.RowKit
open Go.ChangeMaps (open_string shut_string)
set_option linter.unusedVariables false
set_option maxRecDepth 100000
set_option linter.unusedSimpArgs false in
set_option maxHeartbeats 8000000 in
theorem rightB {cb : Nat} {ad : Option Addr} {len cap : Nat} {f : Nat → Int} (w : World) (hs : Src w cb ad len cap f) (hcb : cb < w.heap.size) : Calls Tryz.prog 123 #[.pointer (some ⟨cb, 0, none⟩)] w fun e w' => DrewBX w cb ad len cap f e w' := by
 obtain ⟨y0, hy0⟩ := mk_ (w.alloc (Obj.cells #[.int .i64 0, .int .i64 0, .int .i64 0, .int .i64 0, .int .i64 0, .slice none 0 0, .slice none 0 0, .slice none 0 0, .slice none 0 0, .slice none 0 0] 48));have D : DV w cb ad len cap y0 := by rw [hy0]; exact (DV.start hs).alloc _
 have Z : ZBx y0 w.heap.size := by rw [hy0]; exact heap_newF w _
 have l0 := Z.lt_;go_enter Tryz.func123, Tryz.ntmps123
 go_wp2_with fail
 go_at_call 170
 rw [← hy0];clear hy0;refine (runS 50 (by decide) y0 (D.src hs) D.cur.lt).mono ?_;rintro e y1 ⟨s, x, v, rfl, hxo, O, s_, g_⟩;have D := D.step s_ g_;have Z := Z.keep (g_.block _ Z.lt_ (by simp; omega));have O := O.base (b2 := w.heap.size) (by omega);clear s_ g_ l0;replace hxo : Hid _ := hxo;go_upto_region 2 with fail
 obtain ⟨y2, hy2⟩ := mk_ ((y1.alloc (Obj.cells #[.int .i64 s.id, .int .i64 s.po, .int .i64 s.rg.ep, .int .i64 s.rg.ow, .int .i64 s.rg.pa, .slice s.aT s.two.length s.cT, .slice s.aN s.net.length s.cN, .slice s.aG s.ga.length s.cG, .slice s.aL s.ln.length s.cL, .slice s.aS s.sd.length s.cS] 48)).alloc (Obj.cells #[.int .i64 x.id, .int .i64 x.po, .int .i64 x.rg.ep, .int .i64 x.rg.ow, .int .i64 x.rg.pa, .slice x.aT x.two.length x.cT, .slice x.aN x.net.length x.cN, .slice x.aG x.ga.length x.cG, .slice x.aL x.ln.length x.cL, .slice x.aS x.sd.length x.cS] 48));rw [← hy2];have kq : Below y1.heap.size y1 y2 := by rw [hy2]; exact (below_new _).trans ((below_new _).mono (by simp))
 have A : BxB y2 (y1.heap.size + 1) x := by rw [hy2]; have h1 := BxB.new (y1.alloc (Obj.cells #[.int .i64 s.id, .int .i64 s.po, .int .i64 s.rg.ep, .int .i64 s.rg.ow, .int .i64 s.rg.pa, .slice s.aT s.two.length s.cT, .slice s.aN s.net.length s.cN, .slice s.aG s.ga.length s.cG, .slice s.aL s.ln.length s.cL, .slice s.aS s.sd.length s.cS] 48)) 48 x; rw [show (y1.alloc (Obj.cells #[.int .i64 s.id, .int .i64 s.po, .int .i64 s.rg.ep, .int .i64 s.rg.ow, .int .i64 s.rg.pa, .slice s.aT s.two.length s.cT, .slice s.aN s.net.length s.cN, .slice s.aG s.ga.length s.cG, .slice s.aL s.ln.length s.cL, .slice s.aS s.sd.length s.cS] 48)).heap.size = y1.heap.size + 1 from by simp] at h1; exact h1
 clear hy2;have D := D.later8 kq;have Z := Z.keep (kq.block _ Z.lt_);have O := O.later kq;clear kq;have O9 : BxO w.heap.size (P10 y2 (w.heap.size) x) x := O.keepZ Z (fun g_ hg_ => heap_put10 y2 w.heap.size g_ x hg_);have D9 : DV w cb ad len cap (P10 y2 (w.heap.size) x) := D.put10_ x (Nat.le_refl _) hcb;have sZ := D9.src hs;have gZ := D9.gr;have ZB := Z.box;obtain ⟨r0, r1, r2, r3, r4, r5, r6, r7, r8, r9, g0, g1, g2, g3, g4, g5, g6, g7, g8, g9⟩ := zten ZB;clear Z D O D9;obtain ⟨⟨a0, a1, a2, a3, a4, a5, a6, a7, a8, a9⟩, _⟩ := A;go_wp2
 refine bodyPost_ret (v := bvx x) (by simp [bvx, results, Tryz.results123, go_sem, *]) rfl ⟨x, rfl, hxo.out, O9, sZ, gZ⟩
theorem boxesDrawn : BoxesDrawn := by
 intro cb ad len cap f w hs hcb;refine (rightB w hs hcb).mono ?_;rintro e w' ⟨x, rfl, hxo, O, s_, g_⟩;obtain ⟨h2, hm, _, _, _, _⟩ := bxOk_small hxo;refine ⟨x, rfl, O.okV hxo, h2, fun i hi => ⟨miOk_lg (hm i hi), (O.l i (by omega)).capn⟩, fun a e => ?_, fun i a hi e => ?_, s_, g_⟩
 ·
  obtain ⟨g, hg, h1, _⟩ := O.t.blk (by omega);rw [e] at hg;cases hg
  exact h1
 have hq := O.l i (by omega);rcases hq.2 with ⟨e0, _⟩ | ⟨g, c, cur, e0, hb, _⟩
 ·
  rw [e] at e0;cases e0
 rw [e] at e0;simp only [Value.slice.injEq, Option.some.injEq] at e0;rw [e0.1];exact hb
def RgLo (r : Rg) : Prop := (-2 ≤ r.ep ∧ r.ep ≤ 200000) ∧ (-2 ≤ r.ow ∧ r.ow ≤ 5) ∧ (-2 ≤ r.pa ∧ r.pa ≤ 200000)
def DrewRg (w : World) (cb : Nat) (ad : Option Addr) (len cap : Nat) (f : Nat → Int) (e : Ending) (w' : World) : Prop :=
 ∃ r : Rg, e = .returned (.agg #[.int .i64 r.ep, .int .i64 r.ow, .int .i64 r.pa]) ∧ RgLo r ∧ Src w' cb ad len cap f ∧ w.grownBy w' (some cb)
theorem rgLo_of {x : BxD} (h : bxOk x.p = true) : RgLo x.rg := by
 obtain ⟨_, h2, _⟩ := bxOk_is.1 h;have h2 : rgOk x.rg = true := h2;unfold rgOk at h2;simp only [Bool.and_eq_true, decide_eq_true_eq] at h2;unfold RgLo;simp only [numB, decide_eq_true_eq] at h2;omega
set_option linter.unusedSimpArgs false in
set_option maxHeartbeats 8000000 in
theorem drawReg {cb : Nat} {ad : Option Addr} {len cap : Nat} {f : Nat → Int} (w : World) (hs : Src w cb ad len cap f) (hcb : cb < w.heap.size) : Calls Tryz.prog 69 #[.pointer (some ⟨cb, 0, none⟩)] w fun e w' => DrewRg w cb ad len cap f e w' := by
 have hfld : ∀ (i_ p_ r0_ r1_ r2_ : Int) (t_ n_ g_ l_ s_ : Value) (w_ : World), (Instr.field 48 (.agg #[.int .i64 i_, .int .i64 p_, .int .i64 r0_, .int .i64 r1_, .int .i64 r2_, t_, n_, g_, l_, s_]) 2).run Tryz.prog w_ = .ok (.agg #[.int .i64 r0_, .int .i64 r1_, .int .i64 r2_]) w_ := fun _ _ _ _ _ _ _ _ _ _ _ => rfl
 obtain ⟨y0, hy0⟩ := mk_ (w.alloc (Obj.cells #[.int .i64 0, .int .i64 0, .int .i64 0] 25));have D : DV w cb ad len cap y0 := by rw [hy0]; exact (DV.start hs).alloc _
 have R : RgBox y0 w.heap.size (⟨0, 0, 0⟩ : Rg) := by rw [hy0]; exact ⟨RgAt.new w _ (⟨0, 0, 0⟩ : Rg), fun i => by simp [go_sem]⟩
 have z0 := R.lt;go_enter Tryz.func69, Tryz.ntmps69
 go_wp2_with fail
 go_at_call 123
 rw [← hy0];clear hy0;refine (rightB y0 (D.src hs) D.cur.lt).mono ?_;rintro e y1 ⟨x, rfl, hxo, _, s_, g1⟩;have D := D.step s_ g1;have R := R.keep (g1.block _ R.lt (by simp; omega));have z1 := g1.size;clear s_ g1;have lo := rgLo_of hxo;clear hxo;obtain ⟨r, hr⟩ := mk_ x.rg;rw [← hr] at lo;obtain ⟨y2, hy2⟩ := mk_ (y1.alloc (Obj.cells #[.int .i64 x.rg.ep, .int .i64 x.rg.ow, .int .i64 x.rg.pa] 25));have k2 : Below y1.heap.size y1 y2 := by rw [hy2]; exact below_new _
 have N : RgBox y2 y1.heap.size r := by rw [hy2, hr]; exact ⟨RgAt.new y1 _ x.rg, fun i => by simp [go_sem]⟩
 have D := D.later8 k2;have R := R.below k2 R.lt;have z2 := N.lt;replace hr : Hid _ := hr;go_upto_region 2 with fail
 rw [← hy2];clear hy2 k2 hfld;obtain ⟨Q, hQ⟩ := mk_ y1.heap.size;rw [← hQ] at N z1 z2 ⊢;clear hQ;go_wp2_with fail
 go_at_call 76
 refine (drawBelow (D.src hs) 10 (by decide) (by decide)).mono ?_;rintro e y3 ⟨v, rfl, v0, v1, s_, g3⟩;have z3 := g3.size;have D := D.step s_ g3;have R := R.keep (g3.block _ R.lt (by simp; omega));have N := N.keep (g3.block _ N.lt (by simp; omega));clear s_ g3;by_cases h0 : v = 0
 ·
  subst h0;obtain ⟨y4, hy4⟩ := mk_ (y3.alloc (Obj.cells #[.int .i64 0, .int .i64 1, .int .i64 100000, .int .i64 100001] 3));have kn : Below y3.heap.size y3 y4 := by rw [hy4]; exact below_new _
  have hg : ∀ i, i < 4 → ∃ z, y4.cell? ⟨y3.heap.size, i, none⟩ = some (.int .i64 z) ∧ (0 ≤ z ∧ z ≤ 100001) := by
   intro i h_;rw [hy4];rcases (by omega : i = 0 ∨ i = 1 ∨ i = 2 ∨ i = 3) with rfl | rfl | rfl | rfl
   ·
    exact ⟨0, by simp [go_sem], by omega⟩
   ·
    exact ⟨1, by simp [go_sem], by omega⟩
   ·
    exact ⟨100000, by simp [go_sem], by omega⟩
   exact ⟨100001, by simp [go_sem], by omega⟩
  have D := D.later8 kn;have R := R.below kn R.lt;have N := N.below kn N.lt;have hne : y3.heap.size ≠ cb := by omega
  go_wp2_with fail
  go_at_call 66
  rw [← hy4];have z4 := kn.size;clear hy4 kn;generalize y3.heap.size = E at hg hne ⊢
  refine (pickIntP (D.src hs) (fun z => 0 ≤ z ∧ z ≤ 100001) E 4 4 hne (by decide) (by decide) hg).mono ?_;rintro e y5 ⟨u, rfl, hu_, s_, g5⟩;have z5 := g5.size;clear hg;have D := D.step s_ g5;have R := R.keep (g5.block _ R.lt (by simp; omega));have N := N.keep (g5.block _ N.lt (by simp; omega));clear s_ g5;obtain ⟨mm, hmm⟩ : ∃ q_ : Rg, q_ = ⟨u, r.ow, r.pa⟩ := ⟨_, rfl⟩;have lo6 : RgLo mm := by rw [hmm]; unfold RgLo at lo ⊢; dsimp only; omega
  obtain ⟨y6, hy6⟩ := mk_ (y5.setCell ⟨Q, 0, none⟩ (.int .i64 u));have N6 : RgBox y6 Q mm := by rw [hy6, hmm]; exact N.set0 u
  have kp : ∀ k, k ≠ Q → y6.heap[k]? = y5.heap[k]? := fun k hk => by rw [hy6]; exact Below.heap_setCell _ _ _ _ hk
  have R := R.keep (kp _ (by omega));have D : DV w cb ad len cap y6 := by rw [hy6]; exact D.set (by omega) hcb _
  obtain ⟨⟨n0, n1, n2⟩, nf⟩ := N;have g0 := nf 0;have g1 := nf 1;have g2 := nf 2;clear nf lo;go_upto_region 9 with fail
  rw [← hy6];clear hy6 hmm kp n0 n1 n2 g0 g1 g2;have N := N6;clear N6;have D9 : DV w cb ad len cap (((y6.setCell ⟨w.heap.size, 0, none⟩ (.int .i64 mm.ep)).setCell ⟨w.heap.size, 1, none⟩ (.int .i64 mm.ow)).setCell ⟨w.heap.size, 2, none⟩ (.int .i64 mm.pa)) := ((D.set (Nat.le_refl _) hcb _).set (Nat.le_refl _) hcb _).set (Nat.le_refl _) hcb _;have sZ := D9.src hs;have gZ := D9.gr;obtain ⟨⟨c0, c1, c2⟩, cf⟩ := R;have g0 := cf 0;have g1 := cf 1;have g2 := cf 2;obtain ⟨⟨n0, n1, n2⟩, nf⟩ := N;clear cf nf D D9;go_wp2
  refine bodyPost_ret (v := .agg #[.int .i64 mm.ep, .int .i64 mm.ow, .int .i64 mm.pa]) (by simp [results, Tryz.results69, go_sem, *]) rfl ⟨mm, rfl, lo6, sZ, gZ⟩
 by_cases h1 : v = 1
 ·
  subst h1;go_wp2_with fail
  go_at_call 76
  refine (drawBelow (D.src hs) 4 (by decide) (by decide)).mono ?_;rintro e y4 ⟨u, rfl, u0, u1, s_, g4⟩;have z4 := g4.size;have D := D.step s_ g4;have R := R.keep (g4.block _ R.lt (by simp; omega));have N := N.keep (g4.block _ N.lt (by simp; omega));clear s_ g4;have hwu : IntKind.i64.wrap (u - 1) = u - 1 := by rw [IntKind.wrap_i64]; omega
  obtain ⟨mm, hmm⟩ : ∃ q_ : Rg, q_ = ⟨r.ep, u - 1, r.pa⟩ := ⟨_, rfl⟩;have lo6 : RgLo mm := by rw [hmm]; unfold RgLo at lo ⊢; dsimp only; omega
  obtain ⟨y6, hy6⟩ := mk_ (y4.setCell ⟨Q, 1, none⟩ (.int .i64 (u - 1)));have N6 : RgBox y6 Q mm := by rw [hy6, hmm]; exact N.set1 (u - 1)
  have kp : ∀ k, k ≠ Q → y6.heap[k]? = y4.heap[k]? := fun k hk => by rw [hy6]; exact Below.heap_setCell _ _ _ _ hk
  have R := R.keep (kp _ (by omega));have D : DV w cb ad len cap y6 := by rw [hy6]; exact D.set (by omega) hcb _
  obtain ⟨⟨n0, n1, n2⟩, nf⟩ := N;have g0 := nf 0;have g1 := nf 1;have g2 := nf 2;clear nf lo;go_upto_region 9 with fail
  rw [← hy6];clear hy6 hmm kp n0 n1 n2 g0 g1 g2;have N := N6;clear N6;have D9 : DV w cb ad len cap (((y6.setCell ⟨w.heap.size, 0, none⟩ (.int .i64 mm.ep)).setCell ⟨w.heap.size, 1, none⟩ (.int .i64 mm.ow)).setCell ⟨w.heap.size, 2, none⟩ (.int .i64 mm.pa)) := ((D.set (Nat.le_refl _) hcb _).set (Nat.le_refl _) hcb _).set (Nat.le_refl _) hcb _;have sZ := D9.src hs;have gZ := D9.gr;obtain ⟨⟨c0, c1, c2⟩, cf⟩ := R;have g0 := cf 0;have g1 := cf 1;have g2 := cf 2;obtain ⟨⟨n0, n1, n2⟩, nf⟩ := N;clear cf nf D D9;go_wp2
  refine bodyPost_ret (v := .agg #[.int .i64 mm.ep, .int .i64 mm.ow, .int .i64 mm.pa]) (by simp [results, Tryz.results69, go_sem, *]) rfl ⟨mm, rfl, lo6, sZ, gZ⟩
 by_cases h2 : v = 2
 ·
  subst h2;obtain ⟨y4, hy4⟩ := mk_ (y3.alloc (Obj.cells #[.int .i64 (-1), .int .i64 0, .int .i64 1, .int .i64 2] 3));have kn : Below y3.heap.size y3 y4 := by rw [hy4]; exact below_new _
  have hg : ∀ i, i < 4 → ∃ z, y4.cell? ⟨y3.heap.size, i, none⟩ = some (.int .i64 z) ∧ (-1 ≤ z ∧ z ≤ 2) := by
   intro i h_;rw [hy4];rcases (by omega : i = 0 ∨ i = 1 ∨ i = 2 ∨ i = 3) with rfl | rfl | rfl | rfl
   ·
    exact ⟨-1, by simp [go_sem], by omega⟩
   ·
    exact ⟨0, by simp [go_sem], by omega⟩
   ·
    exact ⟨1, by simp [go_sem], by omega⟩
   exact ⟨2, by simp [go_sem], by omega⟩
  have D := D.later8 kn;have R := R.below kn R.lt;have N := N.below kn N.lt;have hne : y3.heap.size ≠ cb := by omega
  go_wp2_with fail
  go_at_call 66
  rw [← hy4];have z4 := kn.size;clear hy4 kn;generalize y3.heap.size = E at hg hne ⊢
  refine (pickIntP (D.src hs) (fun z => -1 ≤ z ∧ z ≤ 2) E 4 4 hne (by decide) (by decide) hg).mono ?_;rintro e y5 ⟨u, rfl, hu_, s_, g5⟩;have z5 := g5.size;clear hg;have D := D.step s_ g5;have R := R.keep (g5.block _ R.lt (by simp; omega));have N := N.keep (g5.block _ N.lt (by simp; omega));clear s_ g5;obtain ⟨mm, hmm⟩ : ∃ q_ : Rg, q_ = ⟨r.ep, r.ow, u⟩ := ⟨_, rfl⟩;have lo6 : RgLo mm := by rw [hmm]; unfold RgLo at lo ⊢; dsimp only; omega
  obtain ⟨y6, hy6⟩ := mk_ (y5.setCell ⟨Q, 2, none⟩ (.int .i64 u));have N6 : RgBox y6 Q mm := by rw [hy6, hmm]; exact N.set2 u
  have kp : ∀ k, k ≠ Q → y6.heap[k]? = y5.heap[k]? := fun k hk => by rw [hy6]; exact Below.heap_setCell _ _ _ _ hk
  have R := R.keep (kp _ (by omega));have D : DV w cb ad len cap y6 := by rw [hy6]; exact D.set (by omega) hcb _
  obtain ⟨⟨n0, n1, n2⟩, nf⟩ := N;have g0 := nf 0;have g1 := nf 1;have g2 := nf 2;clear nf lo;go_upto_region 9 with fail
  rw [← hy6];clear hy6 hmm kp n0 n1 n2 g0 g1 g2;have N := N6;clear N6;have D9 : DV w cb ad len cap (((y6.setCell ⟨w.heap.size, 0, none⟩ (.int .i64 mm.ep)).setCell ⟨w.heap.size, 1, none⟩ (.int .i64 mm.ow)).setCell ⟨w.heap.size, 2, none⟩ (.int .i64 mm.pa)) := ((D.set (Nat.le_refl _) hcb _).set (Nat.le_refl _) hcb _).set (Nat.le_refl _) hcb _;have sZ := D9.src hs;have gZ := D9.gr;obtain ⟨⟨c0, c1, c2⟩, cf⟩ := R;have g0 := cf 0;have g1 := cf 1;have g2 := cf 2;obtain ⟨⟨n0, n1, n2⟩, nf⟩ := N;clear cf nf D D9;go_wp2
  refine bodyPost_ret (v := .agg #[.int .i64 mm.ep, .int .i64 mm.ow, .int .i64 mm.pa]) (by simp [results, Tryz.results69, go_sem, *]) rfl ⟨mm, rfl, lo6, sZ, gZ⟩
 have d0 : (v == 0) = false := by rw [beq_eq_false_iff_ne]; exact h0
 have d1 : (v == 1) = false := by rw [beq_eq_false_iff_ne]; exact h1
 have d2 : (v == 2) = false := by rw [beq_eq_false_iff_ne]; exact h2
 clear h0 h1 h2;have D9 : DV w cb ad len cap (((y3.setCell ⟨w.heap.size, 0, none⟩ (.int .i64 r.ep)).setCell ⟨w.heap.size, 1, none⟩ (.int .i64 r.ow)).setCell ⟨w.heap.size, 2, none⟩ (.int .i64 r.pa)) := ((D.set (Nat.le_refl _) hcb _).set (Nat.le_refl _) hcb _).set (Nat.le_refl _) hcb _;have sZ := D9.src hs;have gZ := D9.gr;obtain ⟨⟨c0, c1, c2⟩, cf⟩ := R;have g0 := cf 0;have g1 := cf 1;have g2 := cf 2;obtain ⟨⟨n0, n1, n2⟩, nf⟩ := N;clear cf nf D D9;go_wp2
 refine bodyPost_ret (v := .agg #[.int .i64 r.ep, .int .i64 r.ow, .int .i64 r.pa]) (by simp [results, Tryz.results69, go_sem, *]) rfl ⟨r, rfl, lo, sZ, gZ⟩
def DrewOf (w : World) (cb : Nat) (ad : Option Addr) (len cap : Nat) (f : Nat → Int) (e : Ending) (w' : World) : Prop :=
 ∃ (r : Rg) (s : Int) (m : Mi) (a : Option Addr) (c : Nat), e = .returned (.tuple #[.agg #[.int .i64 r.ep, .int .i64 r.ow, .int .i64 r.pa], .int .i64 s, .agg #[.bool m.up, .int .i64 m.li, .int .i64 m.ep, .slice a m.lg.length c, .int .i64 m.sd, .int .i64 m.ac, .int .i64 m.al]]) ∧ RgLo r ∧ (-1 ≤ s ∧ s ≤ 3) ∧ m.lg.length ≤ 61 ∧ FOwn ikEnc 8 105 w.heap.size w' (.slice a m.lg.length c) m.lg ∧ Src w' cb ad len cap f ∧ w.grownBy w' (some cb)
theorem MdAtO.keepC {w w' : World} {q o : Nat} {x : MiD} (h : MdAtO w q o x) (k : w'.heap[q]? = w.heap[q]?) : MdAtO w' q o x :=
 ⟨(World.cell?_of_block (a := ⟨q, _, none⟩) k).trans h.1, (World.cell?_of_block (a := ⟨q, _, none⟩) k).trans h.2, (World.cell?_of_block (a := ⟨q, _, none⟩) k).trans h.3, (World.cell?_of_block (a := ⟨q, _, none⟩) k).trans h.4, (World.cell?_of_block (a := ⟨q, _, none⟩) k).trans h.5, (World.cell?_of_block (a := ⟨q, _, none⟩) k).trans h.6, (World.cell?_of_block (a := ⟨q, _, none⟩) k).trans h.7⟩
set_option linter.unusedSimpArgs false in
set_option maxHeartbeats 8000000 in
theorem drawOf {cb : Nat} {ad : Option Addr} {len cap : Nat} {f : Nat → Int} (w : World) (hs : Src w cb ad len cap f) (hcb : cb < w.heap.size) : Calls Tryz.prog 53 #[.pointer (some ⟨cb, 0, none⟩)] w fun e w' => DrewOf w cb ad len cap f e w' := by
 have hn7 : True := trivial;obtain ⟨y0, hy0⟩ := mk_ ((w.alloc (Obj.cells #[.int .i64 0, .int .i64 0, .int .i64 0] 25)).alloc (Obj.cells #[.bool false, .int .i64 0, .int .i64 0, .slice none 0 0, .int .i64 0, .int .i64 0, .int .i64 0] 28));have D : DV w cb ad len cap y0 := by rw [hy0]; exact ((DV.start hs).alloc _).alloc _
 have R : RgBox y0 w.heap.size (⟨0, 0, 0⟩ : Rg) := by rw [hy0]; have h1 : RgBox (w.alloc (Obj.cells #[.int .i64 0, .int .i64 0, .int .i64 0] 25)) w.heap.size (⟨0, 0, 0⟩ : Rg) := ⟨RgAt.new w _ (⟨0, 0, 0⟩ : Rg), fun i => by simp [go_sem]⟩; exact h1.keep ((below_new _ : Below (w.alloc (Obj.cells #[.int .i64 0, .int .i64 0, .int .i64 0] 25)).heap.size (w.alloc (Obj.cells #[.int .i64 0, .int .i64 0, .int .i64 0] 25)) _).block _ h1.lt)
 have N : MiBox y0 (w.heap.size + 1) (⟨false, 0, 0, [], 0, 0, 0⟩ : Mi) (.slice none 0 0) := by rw [hy0]; have h1 := MiBox.new (w.alloc (Obj.cells #[.int .i64 0, .int .i64 0, .int .i64 0] 25)) 28 (⟨false, 0, 0, [], 0, 0, 0⟩ : Mi) (.slice none 0 0); rw [show (w.alloc (Obj.cells #[.int .i64 0, .int .i64 0, .int .i64 0] 25)).heap.size = w.heap.size + 1 from by simp] at h1; exact h1
 have z0 := N.lt;clear hn7;go_enter Tryz.func53, Tryz.ntmps53
 go_wp2_with fail
 go_at_call 54
 rw [← hy0];clear hy0;refine (drawOnce (D.src hs) 4 (by decide) (by decide)).mono ?_;rintro e y1 ⟨b, rfl, s_, g1⟩;have z1 := g1.size;have D := D.step s_ g1;have R := R.keep (g1.block _ R.lt (by have := D.cur.lt; simp; omega));have N := N.keep (g1.block _ N.lt (by have := D.cur.lt; simp; omega));clear s_ g1;cases b
 ·
  go_wp2_with fail
  go_at_call 123
  refine (rightB y1 (D.src hs) D.cur.lt).mono ?_;rintro e y2 ⟨x, rfl, hxo, XO, s_, g2⟩;have z2 := g2.size;have D := D.step s_ g2;have R := R.keep (g2.block _ R.lt (by have := D.cur.lt; simp; omega));have N := N.keep (g2.block _ N.lt (by have := D.cur.lt; simp; omega));clear s_ g2;have lo_ := rgLo_of hxo;obtain ⟨h2, hmi, _⟩ := bxOk_small hxo;replace h2 : Hid _ := h2;have XV := XO.okV hxo;obtain ⟨y3, hy3⟩ := mk_ (y2.alloc (Obj.cells #[.int .i64 x.id, .int .i64 x.po, .int .i64 x.rg.ep, .int .i64 x.rg.ow, .int .i64 x.rg.pa, .slice x.aT x.two.length x.cT, .slice x.aN x.net.length x.cN, .slice x.aG x.ga.length x.cG, .slice x.aL x.ln.length x.cL, .slice x.aS x.sd.length x.cS] 48));have k3 : Below y2.heap.size y2 y3 := by rw [hy3]; exact below_new _
  have A : BxAt y3 y2.heap.size x := by rw [hy3]; exact BxAt.new y2 _ x
  have D := D.later8 k3;have R := R.below k3 R.lt;have N := N.keep (k3.block _ N.lt);have XV := XV.later k3;have XO := XO.later k3;have z3 := A.lt;go_upto_region 5 with fail
  rw [← hy3];clear hy3 k3 hxo;obtain ⟨q6, hq6⟩ := mk_ y2.heap.size;rw [← hq6] at A z2 z3 ⊢;clear hq6;go_wp2_with fail
  go_at_call 76
  refine (drawBelow (D.src hs) 2 (by decide) (by decide)).mono ?_;rintro e y4 ⟨s, rfl, s0, s1, s_, g4⟩;have z4 := g4.size;obtain ⟨k, rfl⟩ : ∃ k : Nat, s = (k : Int) := ⟨s.toNat, by omega⟩;have hkl : k < x.two.length := by have := h2.out; omega
  have hk2 : k < 2 := by omega
  obtain ⟨d, hd⟩ : ∃ d, x.two.getD k MiD.nil = d := ⟨_, rfl⟩;obtain ⟨g, off, hat, _⟩ := XV.t (by have := h2.out; omega);have gy : y0.heap.size ≤ g := by
   obtain ⟨g9, e9, h9, _⟩ := XO.t.row (by have := h2.out; omega);rw [hat] at e9;cases e9
   omega
  have gl : g < y3.heap.size := XV.t.lt mdEnc_len (by have := h2.out; omega) _ hat (by have := h2.out; omega);have M0 : MdAtO y3 g (off + k * 7) d := by have h1 := XV.t; rw [hat] at h1; have := mdAtO_of (h1.at_ mdEnc_len MiD.nil hkl); rw [hd] at this; exact this
  have M0 := M0.keepC (g4.block _ gl (by have := D.cur.lt; simp; omega));have hvl := (XV.l k hkl).carry (w' := y4) (fun a e p => g4.block _ ((XV.l k hkl).lt ikEnc_len (by have := XV.bl k hkl; omega) a e p) (by obtain ⟨g9, e9, h9, _⟩ := (XO.l k hkl).row p; rw [e] at e9; cases e9; have := D.cur.lt; simp; omega));have hml := miOk_lg (hmi k hk2);have hnn := (XO.l k hkl).capn;rw [hd] at hvl hml hnn;have D := D.step s_ g4;have R := R.keep (g4.block _ R.lt (by have := D.cur.lt; simp; omega));have N := N.keep (g4.block _ N.lt (by have := D.cur.lt; simp; omega));have A := A.keep (g4.block _ A.lt (by have := D.cur.lt; simp; omega));clear s_ g4;have gl4 : g < y4.heap.size := by omega
  clear XV XO hmi hd gl;replace hat : Hid _ := hat;go_upto_region 6 with fail
  refine wp_region_held (S := fun Y => BxAt Y q6 x ∧ MdAtO Y g (off + k * 7) d) (by kernel_rfl) ?_;change wpAnyH _ _ _ _ _ _ _ _ (World.drew _);have kd : Below y4.heap.size y4 y4.drew := (Below.refl _ _).drew;obtain ⟨u0, hu0⟩ := mk_ y4.drew;rw [← hu0] at kd ⊢;clear hu0;have D := D.later8 kd;have R := R.below kd R.lt;have N := N.keep (kd.block _ N.lt);have A := A.below kd A.lt;have M0 := M0.keepC (kd.block _ gl4);have hvl := hvl.below kd (hvl.lt ikEnc_len (by omega));have zd := kd.size;clear kd;have hS : BxAt u0 q6 x ∧ MdAtO u0 g (off + k * 7) d := ⟨A, M0⟩;refine tw 0 22 (.pointer (some ⟨q6, 2, none⟩)) ?_;refine tw 1 23 (.agg #[.int .i64 x.rg.ep, .int .i64 x.rg.ow, .int .i64 x.rg.pa]) ?_ (hy := by intro Y hSw; obtain ⟨X0, X1, X2, X3, X4, X5, X6, X7, X8, X9⟩ := hSw.1; go_simp);refine tw 2 24 (.int .i64 (k : Int)) ?_;refine tw 3 25 (.pointer (some ⟨q6, 5, none⟩)) ?_;refine tw 4 26 (.slice (some ⟨g, off, none⟩) x.two.length x.cT) ?_ (hy := by intro Y hSw; obtain ⟨X0, X1, X2, X3, X4, X5, X6, X7, X8, X9⟩ := hSw.1; rw [hat.out] at X5; go_simp);refine tw 5 27 (.int .i64 (k : Int)) ?_;refine tw 6 28 (.pointer (some ⟨g, off + k * 7, none⟩)) ?_ (hy := by intro Y hSw; go_simp; try omega);refine tw 7 29 (.agg #[.bool d.m.up, .int .i64 d.m.li, .int .i64 d.m.ep, .slice d.ad d.m.lg.length d.cap, .int .i64 d.m.sd, .int .i64 d.m.ac, .int .i64 d.m.al]) ?_ (hy := by intro Y hSw; obtain ⟨X0, X1, X2, X3, X4, X5, X6⟩ := hSw.2; go_simp);clear hS;refine w1 8 fun Kz hKz => ?_
  go_simp
  go_at_call 63
  refine (miCop d.m d.ad d.cap u0 hvl (by omega) hnn).mono ?_;rintro e u1 ⟨a3, k3, rfl, O, kq⟩;have lo := O.lt;have sq := kq.size;have D := D.later8 kq;have R := R.below kq R.lt;have N := N.keep (kq.block _ N.lt);have A := A.below kq A.lt;have M0 := M0.keepC (kq.block _ (by omega));clear kq hvl;refine hKz _ _ ⟨⟨A, M0⟩, ?_⟩;clear hKz Kz;refine w1 9 fun Kz hKz => ?_
  obtain ⟨⟨c0, c1, c2⟩, cf⟩ := id R;have g0 := cf 0;have g1 := cf 1;have g2 := cf 2;clear cf;go_simp
  clear c0 c1 c2 g0 g1 g2;obtain ⟨v7, hv7⟩ := mk_ (((u1.setCell ⟨w.heap.size, 0, none⟩ (.int .i64 x.rg.ep)).setCell ⟨w.heap.size, 1, none⟩ (.int .i64 x.rg.ow)).setCell ⟨w.heap.size, 2, none⟩ (.int .i64 x.rg.pa));have kp : ∀ k, k ≠ w.heap.size → v7.heap[k]? = u1.heap[k]? := fun k hk => by rw [hv7]; exact heap_put3 _ _ _ (x.rg) hk
  have R : RgBox v7 w.heap.size (x.rg) := by rw [hv7]; exact R.put (x.rg)
  have D : DV w cb ad len cap v7 := by rw [hv7]; exact ((D.set (Nat.le_refl _) hcb _).set (Nat.le_refl _) hcb _).set (Nat.le_refl _) hcb _
  have O := O.keep (fun g e => kp g (by have := lo g e; omega));have N := N.keep (kp _ (by omega));have A := A.keep (kp _ (by omega));have M0 := M0.keepC (kp _ (by omega));rw [← hv7];clear hv7 kp;refine hKz _ _ ⟨⟨A, M0⟩, ?_⟩;clear hKz Kz;have hS : BxAt v7 q6 x ∧ MdAtO v7 g (off + k * 7) d := ⟨A, M0⟩;refine tw 10 3 (.int .i64 (k : Int)) ?_;clear hS;refine w1 11 fun Kz hKz => ?_
  obtain ⟨c0, c1, c2, c3, c4, c5, c6, cf⟩ := id N;have g0 := cf 0;have g1 := cf 1;have g2 := cf 2;have g3 := cf 3;have g4 := cf 4;have g5 := cf 5;have g6 := cf 6;clear cf;go_simp
  clear c0 c1 c2 c3 c4 c5 c6 g0 g1 g2 g3 g4 g5 g6;obtain ⟨v8, hv7⟩ := mk_ (((((((v7.setCell ⟨(w.heap.size + 1), 0, none⟩ (.bool d.m.up)).setCell ⟨(w.heap.size + 1), 1, none⟩ (.int .i64 d.m.li)).setCell ⟨(w.heap.size + 1), 2, none⟩ (.int .i64 d.m.ep)).setCell ⟨(w.heap.size + 1), 3, none⟩ (.slice a3 d.m.lg.length k3)).setCell ⟨(w.heap.size + 1), 4, none⟩ (.int .i64 d.m.sd)).setCell ⟨(w.heap.size + 1), 5, none⟩ (.int .i64 d.m.ac)).setCell ⟨(w.heap.size + 1), 6, none⟩ (.int .i64 d.m.al));have kp : ∀ k, k ≠ w.heap.size + 1 → v8.heap[k]? = v7.heap[k]? := fun k hk => by rw [hv7]; exact heap_put7 v7 (w.heap.size + 1) k d.m _ hk
  have N : MiBox v8 (w.heap.size + 1) d.m (.slice a3 d.m.lg.length k3) := by rw [hv7]; exact N.put d.m _
  have D : DV w cb ad len cap v8 := by rw [hv7]; exact (((((((D.set (N := w.heap.size + 1) (by omega) hcb _).set (N := w.heap.size + 1) (by omega) hcb _).set (N := w.heap.size + 1) (by omega) hcb _).set (N := w.heap.size + 1) (by omega) hcb _).set (N := w.heap.size + 1) (by omega) hcb _).set (N := w.heap.size + 1) (by omega) hcb _).set (N := w.heap.size + 1) (by omega) hcb _)
  have O := O.keep (fun g e => kp g (by have := lo g e; omega));have R := R.keep (kp _ (by omega));have A := A.keep (kp _ (by omega));have M0 := M0.keepC (kp _ (by omega));rw [← hv7];clear hv7 kp;refine hKz _ _ ⟨⟨A, M0⟩, ?_⟩;clear hKz Kz;refine wpAnyH_done (by kernel_rfl) ?_ _;have sZ := D.src hs;have gZ := D.gr;clear D;obtain ⟨⟨c0, c1, c2⟩, _⟩ := R;obtain ⟨n0, n1, n2, n3, n4, n5, n6, _⟩ := N;go_wp2
  refine bodyPost_ret (v := .tuple #[.agg #[.int .i64 x.rg.ep, .int .i64 x.rg.ow, .int .i64 x.rg.pa], .int .i64 (k : Int), .agg #[.bool d.m.up, .int .i64 d.m.li, .int .i64 d.m.ep, .slice a3 d.m.lg.length k3, .int .i64 d.m.sd, .int .i64 d.m.ac, .int .i64 d.m.al]]) (by simp [results, Tryz.results53, go_sem, *]) rfl ⟨x.rg, (k : Int), d.m, a3, k3, rfl, lo_, (by omega), (by omega), O.base (by omega), sZ, gZ⟩
 go_wp2_with fail
 go_at_call 69
 refine (drawReg y1 (D.src hs) D.cur.lt).mono ?_;rintro e y2 ⟨r, rfl, lo_, s_, g2⟩;have z2 := g2.size;have D := D.step s_ g2;have R := R.keep (g2.block _ R.lt (by have := D.cur.lt; simp; omega));have N := N.keep (g2.block _ N.lt (by have := D.cur.lt; simp; omega));clear s_ g2;obtain ⟨y3, hy3⟩ := mk_ (y2.alloc (Obj.cells #[.int .i64 r.ep, .int .i64 r.ow, .int .i64 r.pa] 25));have k3 : Below y2.heap.size y2 y3 := by rw [hy3]; exact below_new _
 have A : RgAt y3 y2.heap.size r := by rw [hy3]; exact RgAt.new y2 _ r
 have D := D.later8 k3;have R := R.below k3 R.lt;have N := N.keep (k3.block _ N.lt);have z3 := A.lt;go_upto_region 3 with fail
 rw [← hy3];clear hy3 k3;obtain ⟨q5, hq5⟩ := mk_ y2.heap.size;rw [← hq5] at A z2 z3 ⊢;clear hq5;refine wp_region_held (S := fun Y => RgAt Y q5 r) (by kernel_rfl) ?_;change wpAnyH _ _ _ _ _ _ _ _ (World.drew _);have kd : Below y3.heap.size y3 y3.drew := (Below.refl _ _).drew;obtain ⟨u0, hu0⟩ := mk_ y3.drew;rw [← hu0] at kd ⊢;clear hu0;have D := D.later8 kd;have R := R.below kd R.lt;have N := N.keep (kd.block _ N.lt);have A := A.below kd A.lt;have zd := kd.size;clear kd;refine tw 0 12 (.agg #[.int .i64 r.ep, .int .i64 r.ow, .int .i64 r.pa]) ?_ (hy := by intro Y hSw; obtain ⟨X0, X1, X2⟩ := hSw; go_simp);refine tw 1 13 (.pointer (some ⟨cb, 0, none⟩)) ?_;refine tw 4 16 (.pointer (some ⟨cb, 0, none⟩)) ?_;refine w1 2 fun Kz hKz => ?_
 go_simp
 go_at_call 76
 refine (drawBelow (D.src hs) 4 (by decide) (by decide)).mono ?_;rintro e u1 ⟨s, rfl, s0, s1, s_, g4⟩;have zb := g4.size;have D := D.step s_ g4;have R := R.keep (g4.block _ R.lt (by have := D.cur.lt; simp; omega));have N := N.keep (g4.block _ N.lt (by have := D.cur.lt; simp; omega));have A := A.keep (g4.block _ A.lt (by have := D.cur.lt; simp; omega));clear s_ g4;refine hKz _ _ ⟨A, ?_⟩;clear hKz Kz;have hws : IntKind.i64.wrap (s - 1) = s - 1 := by rw [IntKind.wrap_i64]; omega
 refine tw 3 15 (.int .i64 (s - 1)) ?_ (hy := by intro Y hSw; have hq := hws; go_simp);refine w1 5 fun Kz hKz => ?_
 go_simp
 go_at_call 122
 refine (drawMM boxesDrawn u1 (D.src hs) D.cur.lt).mono ?_;rintro e u2 ⟨m, a3, k3, rfl, hl, O, s_, g5⟩;have zc := g5.size;have lo := O.lt;have D := D.step s_ g5;have R := R.keep (g5.block _ R.lt (by have := D.cur.lt; simp; omega));have N := N.keep (g5.block _ N.lt (by have := D.cur.lt; simp; omega));have A := A.keep (g5.block _ A.lt (by have := D.cur.lt; simp; omega));clear s_ g5;refine hKz _ _ ⟨A, ?_⟩;clear hKz Kz;refine w1 6 fun Kz hKz => ?_
 obtain ⟨⟨c0, c1, c2⟩, cf⟩ := id R;have g0 := cf 0;have g1 := cf 1;have g2 := cf 2;clear cf;go_simp
 clear c0 c1 c2 g0 g1 g2;obtain ⟨v7, hv7⟩ := mk_ (((u2.setCell ⟨w.heap.size, 0, none⟩ (.int .i64 r.ep)).setCell ⟨w.heap.size, 1, none⟩ (.int .i64 r.ow)).setCell ⟨w.heap.size, 2, none⟩ (.int .i64 r.pa));have kp : ∀ k, k ≠ w.heap.size → v7.heap[k]? = u2.heap[k]? := fun k hk => by rw [hv7]; exact heap_put3 _ _ _ (r) hk
 have R : RgBox v7 w.heap.size (r) := by rw [hv7]; exact R.put (r)
 have D : DV w cb ad len cap v7 := by rw [hv7]; exact ((D.set (Nat.le_refl _) hcb _).set (Nat.le_refl _) hcb _).set (Nat.le_refl _) hcb _
 have O := O.keep (fun g e => kp g (by have := lo g e; omega));have N := N.keep (kp _ (by omega));have A := A.keep (kp _ (by omega));rw [← hv7];clear hv7 kp;refine hKz _ _ ⟨A, ?_⟩;clear hKz Kz;refine tw 7 3 (.int .i64 (s - 1)) ?_;refine w1 8 fun Kz hKz => ?_
 obtain ⟨c0, c1, c2, c3, c4, c5, c6, cf⟩ := id N;have g0 := cf 0;have g1 := cf 1;have g2 := cf 2;have g3 := cf 3;have g4 := cf 4;have g5 := cf 5;have g6 := cf 6;clear cf;go_simp
 clear c0 c1 c2 c3 c4 c5 c6 g0 g1 g2 g3 g4 g5 g6;obtain ⟨v8, hv7⟩ := mk_ (((((((v7.setCell ⟨(w.heap.size + 1), 0, none⟩ (.bool m.up)).setCell ⟨(w.heap.size + 1), 1, none⟩ (.int .i64 m.li)).setCell ⟨(w.heap.size + 1), 2, none⟩ (.int .i64 m.ep)).setCell ⟨(w.heap.size + 1), 3, none⟩ (.slice a3 m.lg.length k3)).setCell ⟨(w.heap.size + 1), 4, none⟩ (.int .i64 m.sd)).setCell ⟨(w.heap.size + 1), 5, none⟩ (.int .i64 m.ac)).setCell ⟨(w.heap.size + 1), 6, none⟩ (.int .i64 m.al));have kp : ∀ k, k ≠ w.heap.size + 1 → v8.heap[k]? = v7.heap[k]? := fun k hk => by rw [hv7]; exact heap_put7 v7 (w.heap.size + 1) k m _ hk
 have N : MiBox v8 (w.heap.size + 1) m (.slice a3 m.lg.length k3) := by rw [hv7]; exact N.put m _
 have D : DV w cb ad len cap v8 := by rw [hv7]; exact (((((((D.set (N := w.heap.size + 1) (by omega) hcb _).set (N := w.heap.size + 1) (by omega) hcb _).set (N := w.heap.size + 1) (by omega) hcb _).set (N := w.heap.size + 1) (by omega) hcb _).set (N := w.heap.size + 1) (by omega) hcb _).set (N := w.heap.size + 1) (by omega) hcb _).set (N := w.heap.size + 1) (by omega) hcb _)
 have O := O.keep (fun g e => kp g (by have := lo g e; omega));have R := R.keep (kp _ (by omega));have A := A.keep (kp _ (by omega));rw [← hv7];clear hv7 kp;refine hKz _ _ ⟨A, ?_⟩;clear hKz Kz;refine wpAnyH_done (by kernel_rfl) ?_ _;have sZ := D.src hs;have gZ := D.gr;clear D;obtain ⟨⟨c0, c1, c2⟩, _⟩ := R;obtain ⟨n0, n1, n2, n3, n4, n5, n6, _⟩ := N;go_wp2
 refine bodyPost_ret (v := .tuple #[.agg #[.int .i64 r.ep, .int .i64 r.ow, .int .i64 r.pa], .int .i64 (s - 1), .agg #[.bool m.up, .int .i64 m.li, .int .i64 m.ep, .slice a3 m.lg.length k3, .int .i64 m.sd, .int .i64 m.ac, .int .i64 m.al]]) (by simp [results, Tryz.results53, go_sem, *]) rfl ⟨r, (s - 1), m, a3, k3, rfl, lo_, (by omega), hl, O.base (by omega), sZ, gZ⟩
end Go.Proofs.YtnpiljegdiconaaGreat
