import Derived.Test.YtnpiljegdiconaaGreatQM16
namespace Go.Proofs.YtnpiljegdiconaaGreat
open Go.ChangeShapes Go.WideShapes Go.ChangeAt Go.RowKit
open Go.ChangeMaps (open_string shut_string)
set_option linter.unusedVariables false
set_option maxRecDepth 100000
structure DqBox (w : World) (q : Nat) (d : De) : Prop where
 at_ : DeAt w q d
 fr : ∀ i, w.frozen? ⟨q, i, none⟩ = false
theorem DqBox.keep {w w' : World} {q : Nat} {d : De} (h : DqBox w q d) (k : w'.heap[q]? = w.heap[q]?) : DqBox w' q d := ⟨h.at_.keep k, fun i => (World.frozen?_of_block (a := ⟨q, i, none⟩) k).trans (h.fr i)⟩
theorem DqBox.lt {w : World} {q : Nat} {d : De} (h : DqBox w q d) : q < w.heap.size := h.at_.lt
def DrewDe (w : World) (cb : Nat) (ad : Option Addr) (len cap : Nat) (f : Nat → Int) (e : Ending) (w' : World) : Prop := ∃ d : De, e = .returned (.agg #[.int .i64 d.k, .int .i64 d.a, .int .i64 d.x.k, .int .i64 d.x.q, .int .i64 d.x.r, .int .i64 d.x.c, .int .i64 d.x.b, .int .i64 d.x.p, .int .i64 d.x.h, .bool d.x.up]) ∧ Src w' cb ad len cap f ∧ w.grownBy w' (some cb)
set_option linter.unusedSimpArgs false in
set_option maxHeartbeats 8000000 in
theorem drawDeed (x : BxD) {cb : Nat} {ad : Option Addr} {len cap : Nat} {f : Nat → Int} (w : World) (hs : Src w cb ad len cap f) (hcb : cb < w.heap.size) (hpo : x.po ≤ 4) (hne : x.net.length ≤ 20) (how : 0 ≤ x.rg.ow ∧ x.rg.ow ≤ 1) :
  Calls Tryz.prog 199 #[.pointer (some ⟨cb, 0, none⟩), .agg #[.int .i64 x.id, .int .i64 x.po, .int .i64 x.rg.ep, .int .i64 x.rg.ow, .int .i64 x.rg.pa, .slice x.aT x.two.length x.cT, .slice x.aN x.net.length x.cN, .slice x.aG x.ga.length x.cG, .slice x.aL x.ln.length x.cL, .slice x.aS x.sd.length x.cS]] w fun e w' => DrewDe w cb ad len cap f e w' := by
 obtain ⟨R, hRe⟩ := mk_ w.heap.size;have hR : w.heap.size ≤ R := by omega
 have hRc : R ≠ cb := by omega
 have hRd : R + 1 ≠ cb := by omega
 obtain ⟨x0, hx0⟩ := mk_ ((w.alloc (Obj.cells #[.int .i64 x.id, .int .i64 x.po, .int .i64 x.rg.ep, .int .i64 x.rg.ow, .int .i64 x.rg.pa, .slice x.aT x.two.length x.cT, .slice x.aN x.net.length x.cN, .slice x.aG x.ga.length x.cG, .slice x.aL x.ln.length x.cL, .slice x.aS x.sd.length x.cS] 48)).alloc (Obj.cells #[.int .i64 0, .int .i64 0, .int .i64 0, .int .i64 0, .int .i64 0, .int .i64 0, .int .i64 0, .int .i64 0, .int .i64 0, .bool false] 236));have D : DV w cb ad len cap x0 := by rw [hx0]; exact ((DV.start hs).alloc _).alloc _
 have A : BxAt x0 R x := by rw [hx0, hRe]; constructor <;> simp [go_sem]
 have B : DqBox x0 (R + 1) ⟨0, 0, ikN⟩ := by rw [hx0, hRe]; refine ⟨?_, fun i => ?_⟩; constructor <;> simp [go_sem, ikN]; simp [go_sem]
 go_enter Tryz.func199, Tryz.ntmps199
 obtain ⟨a0, a1, a2, a3, a4, a5, a6, a7, a8, a9⟩ := id A;go_wp2_with fail
 go_at_call 76
 rw [← hx0, ← hRe];clear hx0 hRe a0 a1 a2 a3 a4 a5 a6 a7 a8 a9;refine (drawBelow (D.src hs) 2 (by decide) (by decide)).mono ?_;rintro e w1 ⟨a, rfl, a0_, a1_, s_, g_⟩;have D := D.step s_ g_;have A := A.keep (g_.block _ A.lt (by simp; omega));have B := B.keep (g_.block _ B.lt (by simp; omega));clear s_ g_;go_wp2_with fail
 go_at_call 76
 refine (drawBelow (D.src hs) 18 (by decide) (by decide)).mono ?_;rintro e w2 ⟨t, rfl, t0_, t1_, s_, g_⟩;have D := D.step s_ g_;have A := A.keep (g_.block _ A.lt (by simp; omega));have B := B.keep (g_.block _ B.lt (by simp; omega));clear s_ g_;by_cases e0 : t = 0
 ·
  subst e0;go_wp2_with fail
  go_at_call 139
  refine (drawI8 _ (D.src hs) D.cur.lt).mono ?_;rintro e w3 ⟨v, rfl, s_, g_⟩;have D := D.step s_ g_;have A := A.keep (g_.block _ A.lt (by simp; omega));have B := B.keep (g_.block _ B.lt (by simp; omega));clear s_ g_;obtain ⟨vk, vq, vr, vc, vb, vp, vh, vu⟩ := v;dsimp only
  go_upto_region 8 with fail
  obtain ⟨w4, hw4⟩ := mk_ (w3.alloc (Obj.cells #[.int .i64 vk, .int .i64 vq, .int .i64 vr, .int .i64 vc, .int .i64 vb, .int .i64 vp, .int .i64 vh, .bool vu] 105));rw [← hw4];have kq : Below w3.heap.size w3 w4 := by rw [hw4]; exact below_new _
  have I : IBox w4 w3.heap.size ⟨vk, vq, vr, vc, vb, vp, vh, vu⟩ := by rw [hw4]; exact ⟨InAt.new w3 _ ⟨vk, vq, vr, vc, vb, vp, vh, vu⟩, fun i => by simp [go_sem]⟩
  have lA := A.lt;have lB := B.lt;have lc := D.cur.lt;have lw := D.gr.size;have D := D.later8 kq;have A := A.keep (kq.block _ lA);have B := B.keep (kq.block _ lB);clear hw4 kq;obtain ⟨q7, hq7⟩ := mk_ w3.heap.size;rw [← hq7] at I lA lB lc lw ⊢;clear hq7;by_cases hk2 : vk = 2
  ·
   have dk : (vk != 2) = false := by simpa using hk2
   replace hk2 : Hid _ := hk2;obtain ⟨⟨i0, i1, i2, i3, i4, i5, i6, i7⟩, if_⟩ := I;clear if_;have DZ := set10 D (N := R + 1) (by omega) hcb (.int .i64 1) (.int .i64 0) (.int .i64 (⟨vk, vq, vr, vc, vb, vp, vh, vu⟩ : Ik).k) (.int .i64 (⟨vk, vq, vr, vc, vb, vp, vh, vu⟩ : Ik).q) (.int .i64 (⟨vk, vq, vr, vc, vb, vp, vh, vu⟩ : Ik).r) (.int .i64 (⟨vk, vq, vr, vc, vb, vp, vh, vu⟩ : Ik).c) (.int .i64 (⟨vk, vq, vr, vc, vb, vp, vh, vu⟩ : Ik).b) (.int .i64 (⟨vk, vq, vr, vc, vb, vp, vh, vu⟩ : Ik).p) (.int .i64 (⟨vk, vq, vr, vc, vb, vp, vh, vu⟩ : Ik).h) (.bool (⟨vk, vq, vr, vc, vb, vp, vh, vu⟩ : Ik).up);clear D A;obtain ⟨⟨q0, q1, q2, q3, q4, q5, q6, q7, q8, q9⟩, qf⟩ := B;obtain ⟨f0, f1, f2, f3, f4, f5, f6, f7, f8, f9⟩ := ten qf;clear qf;go_wp2
   refine bodyPost_ret (v := .agg #[.int .i64 1, .int .i64 0, .int .i64 (⟨vk, vq, vr, vc, vb, vp, vh, vu⟩ : Ik).k, .int .i64 (⟨vk, vq, vr, vc, vb, vp, vh, vu⟩ : Ik).q, .int .i64 (⟨vk, vq, vr, vc, vb, vp, vh, vu⟩ : Ik).r, .int .i64 (⟨vk, vq, vr, vc, vb, vp, vh, vu⟩ : Ik).c, .int .i64 (⟨vk, vq, vr, vc, vb, vp, vh, vu⟩ : Ik).b, .int .i64 (⟨vk, vq, vr, vc, vb, vp, vh, vu⟩ : Ik).p, .int .i64 (⟨vk, vq, vr, vc, vb, vp, vh, vu⟩ : Ik).h, .bool (⟨vk, vq, vr, vc, vb, vp, vh, vu⟩ : Ik).up]) (by simp [results, Tryz.results199, go_sem, *]) rfl ⟨⟨1, 0, (⟨vk, vq, vr, vc, vb, vp, vh, vu⟩ : Ik)⟩, rfl, DZ.src hs, DZ.gr⟩
  have dk : (vk != 2) = true := by simpa using hk2
  replace hk2 : Hid (¬ vk = 2) := hk2;obtain ⟨a0, a1, a2, a3, a4, a5, a6, a7, a8, a9⟩ := id A;have i0 := I.at_.c0;go_wp2_with fail
  go_at_call 223
  clear a0 a1 a2 a3 a4 a5 a6 a7 a8 a9 i0;refine (maxS x.po 1 w4).mono ?_;rintro e u9 ⟨rfl, hw_⟩;rw [hw_];clear hw_ u9;obtain ⟨mx, hmx⟩ : ∃ t : Int, t = if 1 < x.po then x.po else 1 := ⟨_, rfl⟩
  rw [← hmx];have mx0 : 0 < mx := by rw [hmx]; split <;> omega
  have mx1 : mx ≤ 256 := by rw [hmx]; split <;> omega
  clear hmx;go_wp2_with fail
  go_at_call 76
  refine (drawBelow (D.src hs) mx mx0 mx1).mono ?_;rintro e w5 ⟨pt, rfl, _, _, s_, g_⟩;have D := D.step s_ g_;have A := A.keep (g_.block _ A.lt (by simp; omega));have B := B.keep (g_.block _ B.lt (by simp; omega));have I := I.grown g_ (by omega);clear s_ g_;obtain ⟨⟨i0, i1, i2, i3, i4, i5, i6, i7⟩, if_⟩ := I;have if1 := if_ 1;clear if_;go_upto_region 10 with fail
  obtain ⟨w6, hw6⟩ := mk_ (w5.setCell ⟨q7, 1, none⟩ (.int .i64 pt));rw [← hw6];have kp : ∀ g_, g_ ≠ q7 → w6.heap[g_]? = w5.heap[g_]? := fun g_ hg => by rw [hw6]; exact Below.heap_setCell _ _ _ _ hg
  have A := A.keep (kp _ (by omega));have B := B.keep (kp _ (by omega));have D : DV w cb ad len cap w6 := by rw [hw6]; exact D.set (N := q7) (by omega) hcb _
  have i0 : w6.cell? ⟨q7, 0, none⟩ = some (.int .i64 vk) := by rw [hw6]; exact (pset_else (by decide)).trans i0
  have i1 : w6.cell? ⟨q7, 1, none⟩ = some (.int .i64 pt) := by rw [hw6]; exact pset_same i1
  have i2 : w6.cell? ⟨q7, 2, none⟩ = some (.int .i64 vr) := by rw [hw6]; exact (pset_else (by decide)).trans i2
  have i3 : w6.cell? ⟨q7, 3, none⟩ = some (.int .i64 vc) := by rw [hw6]; exact (pset_else (by decide)).trans i3
  have i4 : w6.cell? ⟨q7, 4, none⟩ = some (.int .i64 vb) := by rw [hw6]; exact (pset_else (by decide)).trans i4
  have i5 : w6.cell? ⟨q7, 5, none⟩ = some (.int .i64 vp) := by rw [hw6]; exact (pset_else (by decide)).trans i5
  have i6 : w6.cell? ⟨q7, 6, none⟩ = some (.int .i64 vh) := by rw [hw6]; exact (pset_else (by decide)).trans i6
  have i7 : w6.cell? ⟨q7, 7, none⟩ = some (.bool vu) := by rw [hw6]; exact (pset_else (by decide)).trans i7
  clear hw6 kp if1;have DZ := set10 D (N := R + 1) (by omega) hcb (.int .i64 1) (.int .i64 0) (.int .i64 (⟨vk, pt, vr, vc, vb, vp, vh, vu⟩ : Ik).k) (.int .i64 (⟨vk, pt, vr, vc, vb, vp, vh, vu⟩ : Ik).q) (.int .i64 (⟨vk, pt, vr, vc, vb, vp, vh, vu⟩ : Ik).r) (.int .i64 (⟨vk, pt, vr, vc, vb, vp, vh, vu⟩ : Ik).c) (.int .i64 (⟨vk, pt, vr, vc, vb, vp, vh, vu⟩ : Ik).b) (.int .i64 (⟨vk, pt, vr, vc, vb, vp, vh, vu⟩ : Ik).p) (.int .i64 (⟨vk, pt, vr, vc, vb, vp, vh, vu⟩ : Ik).h) (.bool (⟨vk, pt, vr, vc, vb, vp, vh, vu⟩ : Ik).up);clear D A;obtain ⟨⟨q0, q1, q2, q3, q4, q5, q6, q7, q8, q9⟩, qf⟩ := B;obtain ⟨f0, f1, f2, f3, f4, f5, f6, f7, f8, f9⟩ := ten qf;clear qf;go_wp2
  refine bodyPost_ret (v := .agg #[.int .i64 1, .int .i64 0, .int .i64 (⟨vk, pt, vr, vc, vb, vp, vh, vu⟩ : Ik).k, .int .i64 (⟨vk, pt, vr, vc, vb, vp, vh, vu⟩ : Ik).q, .int .i64 (⟨vk, pt, vr, vc, vb, vp, vh, vu⟩ : Ik).r, .int .i64 (⟨vk, pt, vr, vc, vb, vp, vh, vu⟩ : Ik).c, .int .i64 (⟨vk, pt, vr, vc, vb, vp, vh, vu⟩ : Ik).b, .int .i64 (⟨vk, pt, vr, vc, vb, vp, vh, vu⟩ : Ik).p, .int .i64 (⟨vk, pt, vr, vc, vb, vp, vh, vu⟩ : Ik).h, .bool (⟨vk, pt, vr, vc, vb, vp, vh, vu⟩ : Ik).up]) (by simp [results, Tryz.results199, go_sem, *]) rfl ⟨⟨1, 0, (⟨vk, pt, vr, vc, vb, vp, vh, vu⟩ : Ik)⟩, rfl, DZ.src hs, DZ.gr⟩
 have d0 : (t == 0) = false := by simpa using e0
 replace e0 : Hid (¬ t = 0) := e0;by_cases e1 : t = 1
 ·
  subst e1;go_wp2_with fail
  go_at_call 139
  refine (drawI8 _ (D.src hs) D.cur.lt).mono ?_;rintro e w3 ⟨v, rfl, s_, g_⟩;have D := D.step s_ g_;have A := A.keep (g_.block _ A.lt (by simp; omega));have B := B.keep (g_.block _ B.lt (by simp; omega));clear s_ g_;obtain ⟨vk, vq, vr, vc, vb, vp, vh, vu⟩ := v;dsimp only
  go_upto_region 8 with fail
  obtain ⟨w4, hw4⟩ := mk_ (w3.alloc (Obj.cells #[.int .i64 vk, .int .i64 vq, .int .i64 vr, .int .i64 vc, .int .i64 vb, .int .i64 vp, .int .i64 vh, .bool vu] 105));rw [← hw4];have kq : Below w3.heap.size w3 w4 := by rw [hw4]; exact below_new _
  have I : IBox w4 w3.heap.size ⟨vk, vq, vr, vc, vb, vp, vh, vu⟩ := by rw [hw4]; exact ⟨InAt.new w3 _ ⟨vk, vq, vr, vc, vb, vp, vh, vu⟩, fun i => by simp [go_sem]⟩
  have lA := A.lt;have lB := B.lt;have lc := D.cur.lt;have lw := D.gr.size;have D := D.later8 kq;have A := A.keep (kq.block _ lA);have B := B.keep (kq.block _ lB);clear hw4 kq;obtain ⟨q7, hq7⟩ := mk_ w3.heap.size;rw [← hq7] at I lA lB lc lw ⊢;clear hq7;by_cases hk2 : vk = 2
  ·
   have dk : (vk != 2) = false := by simpa using hk2
   replace hk2 : Hid _ := hk2;obtain ⟨⟨i0, i1, i2, i3, i4, i5, i6, i7⟩, if_⟩ := I;clear if_;have DZ := set10 D (N := R + 1) (by omega) hcb (.int .i64 1) (.int .i64 0) (.int .i64 (⟨vk, vq, vr, vc, vb, vp, vh, vu⟩ : Ik).k) (.int .i64 (⟨vk, vq, vr, vc, vb, vp, vh, vu⟩ : Ik).q) (.int .i64 (⟨vk, vq, vr, vc, vb, vp, vh, vu⟩ : Ik).r) (.int .i64 (⟨vk, vq, vr, vc, vb, vp, vh, vu⟩ : Ik).c) (.int .i64 (⟨vk, vq, vr, vc, vb, vp, vh, vu⟩ : Ik).b) (.int .i64 (⟨vk, vq, vr, vc, vb, vp, vh, vu⟩ : Ik).p) (.int .i64 (⟨vk, vq, vr, vc, vb, vp, vh, vu⟩ : Ik).h) (.bool (⟨vk, vq, vr, vc, vb, vp, vh, vu⟩ : Ik).up);clear D A;obtain ⟨⟨q0, q1, q2, q3, q4, q5, q6, q7, q8, q9⟩, qf⟩ := B;obtain ⟨f0, f1, f2, f3, f4, f5, f6, f7, f8, f9⟩ := ten qf;clear qf;go_wp2
   refine bodyPost_ret (v := .agg #[.int .i64 1, .int .i64 0, .int .i64 (⟨vk, vq, vr, vc, vb, vp, vh, vu⟩ : Ik).k, .int .i64 (⟨vk, vq, vr, vc, vb, vp, vh, vu⟩ : Ik).q, .int .i64 (⟨vk, vq, vr, vc, vb, vp, vh, vu⟩ : Ik).r, .int .i64 (⟨vk, vq, vr, vc, vb, vp, vh, vu⟩ : Ik).c, .int .i64 (⟨vk, vq, vr, vc, vb, vp, vh, vu⟩ : Ik).b, .int .i64 (⟨vk, vq, vr, vc, vb, vp, vh, vu⟩ : Ik).p, .int .i64 (⟨vk, vq, vr, vc, vb, vp, vh, vu⟩ : Ik).h, .bool (⟨vk, vq, vr, vc, vb, vp, vh, vu⟩ : Ik).up]) (by simp [results, Tryz.results199, go_sem, *]) rfl ⟨⟨1, 0, (⟨vk, vq, vr, vc, vb, vp, vh, vu⟩ : Ik)⟩, rfl, DZ.src hs, DZ.gr⟩
  have dk : (vk != 2) = true := by simpa using hk2
  replace hk2 : Hid (¬ vk = 2) := hk2;obtain ⟨a0, a1, a2, a3, a4, a5, a6, a7, a8, a9⟩ := id A;have i0 := I.at_.c0;go_wp2_with fail
  go_at_call 223
  clear a0 a1 a2 a3 a4 a5 a6 a7 a8 a9 i0;refine (maxS x.po 1 w4).mono ?_;rintro e u9 ⟨rfl, hw_⟩;rw [hw_];clear hw_ u9;obtain ⟨mx, hmx⟩ : ∃ t : Int, t = if 1 < x.po then x.po else 1 := ⟨_, rfl⟩
  rw [← hmx];have mx0 : 0 < mx := by rw [hmx]; split <;> omega
  have mx1 : mx ≤ 256 := by rw [hmx]; split <;> omega
  clear hmx;go_wp2_with fail
  go_at_call 76
  refine (drawBelow (D.src hs) mx mx0 mx1).mono ?_;rintro e w5 ⟨pt, rfl, _, _, s_, g_⟩;have D := D.step s_ g_;have A := A.keep (g_.block _ A.lt (by simp; omega));have B := B.keep (g_.block _ B.lt (by simp; omega));have I := I.grown g_ (by omega);clear s_ g_;obtain ⟨⟨i0, i1, i2, i3, i4, i5, i6, i7⟩, if_⟩ := I;have if1 := if_ 1;clear if_;go_upto_region 10 with fail
  obtain ⟨w6, hw6⟩ := mk_ (w5.setCell ⟨q7, 1, none⟩ (.int .i64 pt));rw [← hw6];have kp : ∀ g_, g_ ≠ q7 → w6.heap[g_]? = w5.heap[g_]? := fun g_ hg => by rw [hw6]; exact Below.heap_setCell _ _ _ _ hg
  have A := A.keep (kp _ (by omega));have B := B.keep (kp _ (by omega));have D : DV w cb ad len cap w6 := by rw [hw6]; exact D.set (N := q7) (by omega) hcb _
  have i0 : w6.cell? ⟨q7, 0, none⟩ = some (.int .i64 vk) := by rw [hw6]; exact (pset_else (by decide)).trans i0
  have i1 : w6.cell? ⟨q7, 1, none⟩ = some (.int .i64 pt) := by rw [hw6]; exact pset_same i1
  have i2 : w6.cell? ⟨q7, 2, none⟩ = some (.int .i64 vr) := by rw [hw6]; exact (pset_else (by decide)).trans i2
  have i3 : w6.cell? ⟨q7, 3, none⟩ = some (.int .i64 vc) := by rw [hw6]; exact (pset_else (by decide)).trans i3
  have i4 : w6.cell? ⟨q7, 4, none⟩ = some (.int .i64 vb) := by rw [hw6]; exact (pset_else (by decide)).trans i4
  have i5 : w6.cell? ⟨q7, 5, none⟩ = some (.int .i64 vp) := by rw [hw6]; exact (pset_else (by decide)).trans i5
  have i6 : w6.cell? ⟨q7, 6, none⟩ = some (.int .i64 vh) := by rw [hw6]; exact (pset_else (by decide)).trans i6
  have i7 : w6.cell? ⟨q7, 7, none⟩ = some (.bool vu) := by rw [hw6]; exact (pset_else (by decide)).trans i7
  clear hw6 kp if1;have DZ := set10 D (N := R + 1) (by omega) hcb (.int .i64 1) (.int .i64 0) (.int .i64 (⟨vk, pt, vr, vc, vb, vp, vh, vu⟩ : Ik).k) (.int .i64 (⟨vk, pt, vr, vc, vb, vp, vh, vu⟩ : Ik).q) (.int .i64 (⟨vk, pt, vr, vc, vb, vp, vh, vu⟩ : Ik).r) (.int .i64 (⟨vk, pt, vr, vc, vb, vp, vh, vu⟩ : Ik).c) (.int .i64 (⟨vk, pt, vr, vc, vb, vp, vh, vu⟩ : Ik).b) (.int .i64 (⟨vk, pt, vr, vc, vb, vp, vh, vu⟩ : Ik).p) (.int .i64 (⟨vk, pt, vr, vc, vb, vp, vh, vu⟩ : Ik).h) (.bool (⟨vk, pt, vr, vc, vb, vp, vh, vu⟩ : Ik).up);clear D A;obtain ⟨⟨q0, q1, q2, q3, q4, q5, q6, q7, q8, q9⟩, qf⟩ := B;obtain ⟨f0, f1, f2, f3, f4, f5, f6, f7, f8, f9⟩ := ten qf;clear qf;go_wp2
  refine bodyPost_ret (v := .agg #[.int .i64 1, .int .i64 0, .int .i64 (⟨vk, pt, vr, vc, vb, vp, vh, vu⟩ : Ik).k, .int .i64 (⟨vk, pt, vr, vc, vb, vp, vh, vu⟩ : Ik).q, .int .i64 (⟨vk, pt, vr, vc, vb, vp, vh, vu⟩ : Ik).r, .int .i64 (⟨vk, pt, vr, vc, vb, vp, vh, vu⟩ : Ik).c, .int .i64 (⟨vk, pt, vr, vc, vb, vp, vh, vu⟩ : Ik).b, .int .i64 (⟨vk, pt, vr, vc, vb, vp, vh, vu⟩ : Ik).p, .int .i64 (⟨vk, pt, vr, vc, vb, vp, vh, vu⟩ : Ik).h, .bool (⟨vk, pt, vr, vc, vb, vp, vh, vu⟩ : Ik).up]) (by simp [results, Tryz.results199, go_sem, *]) rfl ⟨⟨1, 0, (⟨vk, pt, vr, vc, vb, vp, vh, vu⟩ : Ik)⟩, rfl, DZ.src hs, DZ.gr⟩
 have d1 : (t == 1) = false := by simpa using e1
 replace e1 : Hid (¬ t = 1) := e1;by_cases e2 : t = 2
 ·
  subst e2;go_wp2_with fail
  go_at_call 139
  refine (drawI8 _ (D.src hs) D.cur.lt).mono ?_;rintro e w3 ⟨v, rfl, s_, g_⟩;have D := D.step s_ g_;have A := A.keep (g_.block _ A.lt (by simp; omega));have B := B.keep (g_.block _ B.lt (by simp; omega));clear s_ g_;obtain ⟨vk, vq, vr, vc, vb, vp, vh, vu⟩ := v;dsimp only
  go_upto_region 8 with fail
  obtain ⟨w4, hw4⟩ := mk_ (w3.alloc (Obj.cells #[.int .i64 vk, .int .i64 vq, .int .i64 vr, .int .i64 vc, .int .i64 vb, .int .i64 vp, .int .i64 vh, .bool vu] 105));rw [← hw4];have kq : Below w3.heap.size w3 w4 := by rw [hw4]; exact below_new _
  have I : IBox w4 w3.heap.size ⟨vk, vq, vr, vc, vb, vp, vh, vu⟩ := by rw [hw4]; exact ⟨InAt.new w3 _ ⟨vk, vq, vr, vc, vb, vp, vh, vu⟩, fun i => by simp [go_sem]⟩
  have lA := A.lt;have lB := B.lt;have lc := D.cur.lt;have lw := D.gr.size;have D := D.later8 kq;have A := A.keep (kq.block _ lA);have B := B.keep (kq.block _ lB);clear hw4 kq;obtain ⟨q7, hq7⟩ := mk_ w3.heap.size;rw [← hq7] at I lA lB lc lw ⊢;clear hq7;by_cases hk2 : vk = 2
  ·
   have dk : (vk != 2) = false := by simpa using hk2
   replace hk2 : Hid _ := hk2;obtain ⟨⟨i0, i1, i2, i3, i4, i5, i6, i7⟩, if_⟩ := I;clear if_;have DZ := set10 D (N := R + 1) (by omega) hcb (.int .i64 1) (.int .i64 0) (.int .i64 (⟨vk, vq, vr, vc, vb, vp, vh, vu⟩ : Ik).k) (.int .i64 (⟨vk, vq, vr, vc, vb, vp, vh, vu⟩ : Ik).q) (.int .i64 (⟨vk, vq, vr, vc, vb, vp, vh, vu⟩ : Ik).r) (.int .i64 (⟨vk, vq, vr, vc, vb, vp, vh, vu⟩ : Ik).c) (.int .i64 (⟨vk, vq, vr, vc, vb, vp, vh, vu⟩ : Ik).b) (.int .i64 (⟨vk, vq, vr, vc, vb, vp, vh, vu⟩ : Ik).p) (.int .i64 (⟨vk, vq, vr, vc, vb, vp, vh, vu⟩ : Ik).h) (.bool (⟨vk, vq, vr, vc, vb, vp, vh, vu⟩ : Ik).up);clear D A;obtain ⟨⟨q0, q1, q2, q3, q4, q5, q6, q7, q8, q9⟩, qf⟩ := B;obtain ⟨f0, f1, f2, f3, f4, f5, f6, f7, f8, f9⟩ := ten qf;clear qf;go_wp2
   refine bodyPost_ret (v := .agg #[.int .i64 1, .int .i64 0, .int .i64 (⟨vk, vq, vr, vc, vb, vp, vh, vu⟩ : Ik).k, .int .i64 (⟨vk, vq, vr, vc, vb, vp, vh, vu⟩ : Ik).q, .int .i64 (⟨vk, vq, vr, vc, vb, vp, vh, vu⟩ : Ik).r, .int .i64 (⟨vk, vq, vr, vc, vb, vp, vh, vu⟩ : Ik).c, .int .i64 (⟨vk, vq, vr, vc, vb, vp, vh, vu⟩ : Ik).b, .int .i64 (⟨vk, vq, vr, vc, vb, vp, vh, vu⟩ : Ik).p, .int .i64 (⟨vk, vq, vr, vc, vb, vp, vh, vu⟩ : Ik).h, .bool (⟨vk, vq, vr, vc, vb, vp, vh, vu⟩ : Ik).up]) (by simp [results, Tryz.results199, go_sem, *]) rfl ⟨⟨1, 0, (⟨vk, vq, vr, vc, vb, vp, vh, vu⟩ : Ik)⟩, rfl, DZ.src hs, DZ.gr⟩
  have dk : (vk != 2) = true := by simpa using hk2
  replace hk2 : Hid (¬ vk = 2) := hk2;obtain ⟨a0, a1, a2, a3, a4, a5, a6, a7, a8, a9⟩ := id A;have i0 := I.at_.c0;go_wp2_with fail
  go_at_call 223
  clear a0 a1 a2 a3 a4 a5 a6 a7 a8 a9 i0;refine (maxS x.po 1 w4).mono ?_;rintro e u9 ⟨rfl, hw_⟩;rw [hw_];clear hw_ u9;obtain ⟨mx, hmx⟩ : ∃ t : Int, t = if 1 < x.po then x.po else 1 := ⟨_, rfl⟩
  rw [← hmx];have mx0 : 0 < mx := by rw [hmx]; split <;> omega
  have mx1 : mx ≤ 256 := by rw [hmx]; split <;> omega
  clear hmx;go_wp2_with fail
  go_at_call 76
  refine (drawBelow (D.src hs) mx mx0 mx1).mono ?_;rintro e w5 ⟨pt, rfl, _, _, s_, g_⟩;have D := D.step s_ g_;have A := A.keep (g_.block _ A.lt (by simp; omega));have B := B.keep (g_.block _ B.lt (by simp; omega));have I := I.grown g_ (by omega);clear s_ g_;obtain ⟨⟨i0, i1, i2, i3, i4, i5, i6, i7⟩, if_⟩ := I;have if1 := if_ 1;clear if_;go_upto_region 10 with fail
  obtain ⟨w6, hw6⟩ := mk_ (w5.setCell ⟨q7, 1, none⟩ (.int .i64 pt));rw [← hw6];have kp : ∀ g_, g_ ≠ q7 → w6.heap[g_]? = w5.heap[g_]? := fun g_ hg => by rw [hw6]; exact Below.heap_setCell _ _ _ _ hg
  have A := A.keep (kp _ (by omega));have B := B.keep (kp _ (by omega));have D : DV w cb ad len cap w6 := by rw [hw6]; exact D.set (N := q7) (by omega) hcb _
  have i0 : w6.cell? ⟨q7, 0, none⟩ = some (.int .i64 vk) := by rw [hw6]; exact (pset_else (by decide)).trans i0
  have i1 : w6.cell? ⟨q7, 1, none⟩ = some (.int .i64 pt) := by rw [hw6]; exact pset_same i1
  have i2 : w6.cell? ⟨q7, 2, none⟩ = some (.int .i64 vr) := by rw [hw6]; exact (pset_else (by decide)).trans i2
  have i3 : w6.cell? ⟨q7, 3, none⟩ = some (.int .i64 vc) := by rw [hw6]; exact (pset_else (by decide)).trans i3
  have i4 : w6.cell? ⟨q7, 4, none⟩ = some (.int .i64 vb) := by rw [hw6]; exact (pset_else (by decide)).trans i4
  have i5 : w6.cell? ⟨q7, 5, none⟩ = some (.int .i64 vp) := by rw [hw6]; exact (pset_else (by decide)).trans i5
  have i6 : w6.cell? ⟨q7, 6, none⟩ = some (.int .i64 vh) := by rw [hw6]; exact (pset_else (by decide)).trans i6
  have i7 : w6.cell? ⟨q7, 7, none⟩ = some (.bool vu) := by rw [hw6]; exact (pset_else (by decide)).trans i7
  clear hw6 kp if1;have DZ := set10 D (N := R + 1) (by omega) hcb (.int .i64 1) (.int .i64 0) (.int .i64 (⟨vk, pt, vr, vc, vb, vp, vh, vu⟩ : Ik).k) (.int .i64 (⟨vk, pt, vr, vc, vb, vp, vh, vu⟩ : Ik).q) (.int .i64 (⟨vk, pt, vr, vc, vb, vp, vh, vu⟩ : Ik).r) (.int .i64 (⟨vk, pt, vr, vc, vb, vp, vh, vu⟩ : Ik).c) (.int .i64 (⟨vk, pt, vr, vc, vb, vp, vh, vu⟩ : Ik).b) (.int .i64 (⟨vk, pt, vr, vc, vb, vp, vh, vu⟩ : Ik).p) (.int .i64 (⟨vk, pt, vr, vc, vb, vp, vh, vu⟩ : Ik).h) (.bool (⟨vk, pt, vr, vc, vb, vp, vh, vu⟩ : Ik).up);clear D A;obtain ⟨⟨q0, q1, q2, q3, q4, q5, q6, q7, q8, q9⟩, qf⟩ := B;obtain ⟨f0, f1, f2, f3, f4, f5, f6, f7, f8, f9⟩ := ten qf;clear qf;go_wp2
  refine bodyPost_ret (v := .agg #[.int .i64 1, .int .i64 0, .int .i64 (⟨vk, pt, vr, vc, vb, vp, vh, vu⟩ : Ik).k, .int .i64 (⟨vk, pt, vr, vc, vb, vp, vh, vu⟩ : Ik).q, .int .i64 (⟨vk, pt, vr, vc, vb, vp, vh, vu⟩ : Ik).r, .int .i64 (⟨vk, pt, vr, vc, vb, vp, vh, vu⟩ : Ik).c, .int .i64 (⟨vk, pt, vr, vc, vb, vp, vh, vu⟩ : Ik).b, .int .i64 (⟨vk, pt, vr, vc, vb, vp, vh, vu⟩ : Ik).p, .int .i64 (⟨vk, pt, vr, vc, vb, vp, vh, vu⟩ : Ik).h, .bool (⟨vk, pt, vr, vc, vb, vp, vh, vu⟩ : Ik).up]) (by simp [results, Tryz.results199, go_sem, *]) rfl ⟨⟨1, 0, (⟨vk, pt, vr, vc, vb, vp, vh, vu⟩ : Ik)⟩, rfl, DZ.src hs, DZ.gr⟩
 have d2 : (t == 2) = false := by simpa using e2
 replace e2 : Hid (¬ t = 2) := e2;by_cases e3 : t = 3
 ·
  subst e3;have DZ := set10 D (N := R + 1) (by omega) hcb (.int .i64 2) (.int .i64 x.rg.ow) (.int .i64 0) (.int .i64 0) (.int .i64 0) (.int .i64 0) (.int .i64 0) (.int .i64 0) (.int .i64 0) (.bool false);clear D A;obtain ⟨⟨q0, q1, q2, q3, q4, q5, q6, q7, q8, q9⟩, qf⟩ := B;obtain ⟨f0, f1, f2, f3, f4, f5, f6, f7, f8, f9⟩ := ten qf;clear qf;go_wp2
  refine bodyPost_ret (v := .agg #[.int .i64 2, .int .i64 x.rg.ow, .int .i64 0, .int .i64 0, .int .i64 0, .int .i64 0, .int .i64 0, .int .i64 0, .int .i64 0, .bool false]) (by simp [results, Tryz.results199, go_sem, *]) rfl ⟨⟨2, x.rg.ow, ikN⟩, rfl, DZ.src hs, DZ.gr⟩
 have d3 : (t == 3) = false := by simpa using e3
 replace e3 : Hid (¬ t = 3) := e3;by_cases e4 : t = 4
 ·
  subst e4;have DZ := set10 D (N := R + 1) (by omega) hcb (.int .i64 2) (.int .i64 x.rg.ow) (.int .i64 0) (.int .i64 0) (.int .i64 0) (.int .i64 0) (.int .i64 0) (.int .i64 0) (.int .i64 0) (.bool false);clear D A;obtain ⟨⟨q0, q1, q2, q3, q4, q5, q6, q7, q8, q9⟩, qf⟩ := B;obtain ⟨f0, f1, f2, f3, f4, f5, f6, f7, f8, f9⟩ := ten qf;clear qf;go_wp2
  refine bodyPost_ret (v := .agg #[.int .i64 2, .int .i64 x.rg.ow, .int .i64 0, .int .i64 0, .int .i64 0, .int .i64 0, .int .i64 0, .int .i64 0, .int .i64 0, .bool false]) (by simp [results, Tryz.results199, go_sem, *]) rfl ⟨⟨2, x.rg.ow, ikN⟩, rfl, DZ.src hs, DZ.gr⟩
 have d4 : (t == 4) = false := by simpa using e4
 replace e4 : Hid (¬ t = 4) := e4;by_cases e5 : t = 5
 ·
  subst e5;have DZ := set10 D (N := R + 1) (by omega) hcb (.int .i64 2) (.int .i64 x.rg.ow) (.int .i64 0) (.int .i64 0) (.int .i64 0) (.int .i64 0) (.int .i64 0) (.int .i64 0) (.int .i64 0) (.bool false);clear D A;obtain ⟨⟨q0, q1, q2, q3, q4, q5, q6, q7, q8, q9⟩, qf⟩ := B;obtain ⟨f0, f1, f2, f3, f4, f5, f6, f7, f8, f9⟩ := ten qf;clear qf;go_wp2
  refine bodyPost_ret (v := .agg #[.int .i64 2, .int .i64 x.rg.ow, .int .i64 0, .int .i64 0, .int .i64 0, .int .i64 0, .int .i64 0, .int .i64 0, .int .i64 0, .bool false]) (by simp [results, Tryz.results199, go_sem, *]) rfl ⟨⟨2, x.rg.ow, ikN⟩, rfl, DZ.src hs, DZ.gr⟩
 have d5 : (t == 5) = false := by simpa using e5
 replace e5 : Hid (¬ t = 5) := e5;by_cases e6 : t = 6
 ·
  subst e6;obtain ⟨a0, a1, a2, a3, a4, a5, a6, a7, a8, a9⟩ := id A;go_wp2_with fail
  go_at_call 223
  clear a0 a1 a2 a3 a4 a5 a6 a7 a8 a9;refine (maxS (x.net.length : Int) 1 _).mono ?_;rintro e u9 ⟨rfl, hw_⟩;rw [hw_];clear hw_ u9;obtain ⟨mx, hmx⟩ : ∃ t : Int, t = if 1 < (x.net.length : Int) then (x.net.length : Int) else 1 := ⟨_, rfl⟩
  rw [← hmx];have mx0 : 0 < mx := by rw [hmx]; split <;> omega
  have mx1 : mx ≤ 256 := by rw [hmx]; split <;> omega
  clear hmx;go_wp2_with fail
  go_at_call 76
  refine (drawBelow (D.src hs) mx mx0 mx1).mono ?_;rintro e w5 ⟨pt, rfl, _, _, s_, g_⟩;have D := D.step s_ g_;have A := A.keep (g_.block _ A.lt (by simp; omega));have B := B.keep (g_.block _ B.lt (by simp; omega));clear s_ g_;have DZ := set10 D (N := R + 1) (by omega) hcb (.int .i64 3) (.int .i64 pt) (.int .i64 0) (.int .i64 0) (.int .i64 0) (.int .i64 0) (.int .i64 0) (.int .i64 0) (.int .i64 0) (.bool false);clear D A;obtain ⟨⟨q0, q1, q2, q3, q4, q5, q6, q7, q8, q9⟩, qf⟩ := B;obtain ⟨f0, f1, f2, f3, f4, f5, f6, f7, f8, f9⟩ := ten qf;clear qf;go_wp2
  refine bodyPost_ret (v := .agg #[.int .i64 3, .int .i64 pt, .int .i64 0, .int .i64 0, .int .i64 0, .int .i64 0, .int .i64 0, .int .i64 0, .int .i64 0, .bool false]) (by simp [results, Tryz.results199, go_sem, *]) rfl ⟨⟨3, pt, ikN⟩, rfl, DZ.src hs, DZ.gr⟩
 have d6 : (t == 6) = false := by simpa using e6
 replace e6 : Hid (¬ t = 6) := e6;by_cases e7 : t = 7
 ·
  subst e7;obtain ⟨a0, a1, a2, a3, a4, a5, a6, a7, a8, a9⟩ := id A;go_wp2_with fail
  go_at_call 223
  clear a0 a1 a2 a3 a4 a5 a6 a7 a8 a9;refine (maxS (x.net.length : Int) 1 _).mono ?_;rintro e u9 ⟨rfl, hw_⟩;rw [hw_];clear hw_ u9;obtain ⟨mx, hmx⟩ : ∃ t : Int, t = if 1 < (x.net.length : Int) then (x.net.length : Int) else 1 := ⟨_, rfl⟩
  rw [← hmx];have mx0 : 0 < mx := by rw [hmx]; split <;> omega
  have mx1 : mx ≤ 256 := by rw [hmx]; split <;> omega
  clear hmx;go_wp2_with fail
  go_at_call 76
  refine (drawBelow (D.src hs) mx mx0 mx1).mono ?_;rintro e w5 ⟨pt, rfl, _, _, s_, g_⟩;have D := D.step s_ g_;have A := A.keep (g_.block _ A.lt (by simp; omega));have B := B.keep (g_.block _ B.lt (by simp; omega));clear s_ g_;have DZ := set10 D (N := R + 1) (by omega) hcb (.int .i64 3) (.int .i64 pt) (.int .i64 0) (.int .i64 0) (.int .i64 0) (.int .i64 0) (.int .i64 0) (.int .i64 0) (.int .i64 0) (.bool false);clear D A;obtain ⟨⟨q0, q1, q2, q3, q4, q5, q6, q7, q8, q9⟩, qf⟩ := B;obtain ⟨f0, f1, f2, f3, f4, f5, f6, f7, f8, f9⟩ := ten qf;clear qf;go_wp2
  refine bodyPost_ret (v := .agg #[.int .i64 3, .int .i64 pt, .int .i64 0, .int .i64 0, .int .i64 0, .int .i64 0, .int .i64 0, .int .i64 0, .int .i64 0, .bool false]) (by simp [results, Tryz.results199, go_sem, *]) rfl ⟨⟨3, pt, ikN⟩, rfl, DZ.src hs, DZ.gr⟩
 have d7 : (t == 7) = false := by simpa using e7
 replace e7 : Hid (¬ t = 7) := e7;by_cases e8 : t = 8
 ·
  subst e8;obtain ⟨a0, a1, a2, a3, a4, a5, a6, a7, a8, a9⟩ := id A;go_wp2_with fail
  go_at_call 223
  clear a0 a1 a2 a3 a4 a5 a6 a7 a8 a9;refine (maxS (x.net.length : Int) 1 _).mono ?_;rintro e u9 ⟨rfl, hw_⟩;rw [hw_];clear hw_ u9;obtain ⟨mx, hmx⟩ : ∃ t : Int, t = if 1 < (x.net.length : Int) then (x.net.length : Int) else 1 := ⟨_, rfl⟩
  rw [← hmx];have mx0 : 0 < mx := by rw [hmx]; split <;> omega
  have mx1 : mx ≤ 256 := by rw [hmx]; split <;> omega
  clear hmx;go_wp2_with fail
  go_at_call 76
  refine (drawBelow (D.src hs) mx mx0 mx1).mono ?_;rintro e w5 ⟨pt, rfl, _, _, s_, g_⟩;have D := D.step s_ g_;have A := A.keep (g_.block _ A.lt (by simp; omega));have B := B.keep (g_.block _ B.lt (by simp; omega));clear s_ g_;have DZ := set10 D (N := R + 1) (by omega) hcb (.int .i64 3) (.int .i64 pt) (.int .i64 0) (.int .i64 0) (.int .i64 0) (.int .i64 0) (.int .i64 0) (.int .i64 0) (.int .i64 0) (.bool false);clear D A;obtain ⟨⟨q0, q1, q2, q3, q4, q5, q6, q7, q8, q9⟩, qf⟩ := B;obtain ⟨f0, f1, f2, f3, f4, f5, f6, f7, f8, f9⟩ := ten qf;clear qf;go_wp2
  refine bodyPost_ret (v := .agg #[.int .i64 3, .int .i64 pt, .int .i64 0, .int .i64 0, .int .i64 0, .int .i64 0, .int .i64 0, .int .i64 0, .int .i64 0, .bool false]) (by simp [results, Tryz.results199, go_sem, *]) rfl ⟨⟨3, pt, ikN⟩, rfl, DZ.src hs, DZ.gr⟩
 have d8 : (t == 8) = false := by simpa using e8
 replace e8 : Hid (¬ t = 8) := e8;by_cases e9 : t = 9
 ·
  subst e9;obtain ⟨a0, a1, a2, a3, a4, a5, a6, a7, a8, a9⟩ := id A;go_wp2_with fail
  go_at_call 223
  clear a0 a1 a2 a3 a4 a5 a6 a7 a8 a9;refine (maxS (x.net.length : Int) 1 _).mono ?_;rintro e u9 ⟨rfl, hw_⟩;rw [hw_];clear hw_ u9;obtain ⟨mx, hmx⟩ : ∃ t : Int, t = if 1 < (x.net.length : Int) then (x.net.length : Int) else 1 := ⟨_, rfl⟩
  rw [← hmx];have mx0 : 0 < mx := by rw [hmx]; split <;> omega
  have mx1 : mx ≤ 256 := by rw [hmx]; split <;> omega
  clear hmx;go_wp2_with fail
  go_at_call 76
  refine (drawBelow (D.src hs) mx mx0 mx1).mono ?_;rintro e w5 ⟨pt, rfl, _, _, s_, g_⟩;have D := D.step s_ g_;have A := A.keep (g_.block _ A.lt (by simp; omega));have B := B.keep (g_.block _ B.lt (by simp; omega));clear s_ g_;have DZ := set10 D (N := R + 1) (by omega) hcb (.int .i64 3) (.int .i64 pt) (.int .i64 0) (.int .i64 0) (.int .i64 0) (.int .i64 0) (.int .i64 0) (.int .i64 0) (.int .i64 0) (.bool false);clear D A;obtain ⟨⟨q0, q1, q2, q3, q4, q5, q6, q7, q8, q9⟩, qf⟩ := B;obtain ⟨f0, f1, f2, f3, f4, f5, f6, f7, f8, f9⟩ := ten qf;clear qf;go_wp2
  refine bodyPost_ret (v := .agg #[.int .i64 3, .int .i64 pt, .int .i64 0, .int .i64 0, .int .i64 0, .int .i64 0, .int .i64 0, .int .i64 0, .int .i64 0, .bool false]) (by simp [results, Tryz.results199, go_sem, *]) rfl ⟨⟨3, pt, ikN⟩, rfl, DZ.src hs, DZ.gr⟩
 have d9 : (t == 9) = false := by simpa using e9
 replace e9 : Hid (¬ t = 9) := e9;by_cases e10 : t = 10
 ·
  subst e10;have DZ := set10 D (N := R + 1) (by omega) hcb (.int .i64 6) (.int .i64 0) (.int .i64 0) (.int .i64 0) (.int .i64 0) (.int .i64 0) (.int .i64 0) (.int .i64 0) (.int .i64 0) (.bool false);clear D A;obtain ⟨⟨q0, q1, q2, q3, q4, q5, q6, q7, q8, q9⟩, qf⟩ := B;obtain ⟨f0, f1, f2, f3, f4, f5, f6, f7, f8, f9⟩ := ten qf;clear qf;go_wp2
  refine bodyPost_ret (v := .agg #[.int .i64 6, .int .i64 0, .int .i64 0, .int .i64 0, .int .i64 0, .int .i64 0, .int .i64 0, .int .i64 0, .int .i64 0, .bool false]) (by simp [results, Tryz.results199, go_sem, *]) rfl ⟨⟨6, 0, ikN⟩, rfl, DZ.src hs, DZ.gr⟩
 have d10 : (t == 10) = false := by simpa using e10
 replace e10 : Hid (¬ t = 10) := e10;by_cases e11 : t = 11
 ·
  subst e11;have DZ := set10 D (N := R + 1) (by omega) hcb (.int .i64 6) (.int .i64 0) (.int .i64 0) (.int .i64 0) (.int .i64 0) (.int .i64 0) (.int .i64 0) (.int .i64 0) (.int .i64 0) (.bool false);clear D A;obtain ⟨⟨q0, q1, q2, q3, q4, q5, q6, q7, q8, q9⟩, qf⟩ := B;obtain ⟨f0, f1, f2, f3, f4, f5, f6, f7, f8, f9⟩ := ten qf;clear qf;go_wp2
  refine bodyPost_ret (v := .agg #[.int .i64 6, .int .i64 0, .int .i64 0, .int .i64 0, .int .i64 0, .int .i64 0, .int .i64 0, .int .i64 0, .int .i64 0, .bool false]) (by simp [results, Tryz.results199, go_sem, *]) rfl ⟨⟨6, 0, ikN⟩, rfl, DZ.src hs, DZ.gr⟩
 have d11 : (t == 11) = false := by simpa using e11
 replace e11 : Hid (¬ t = 11) := e11;by_cases e12 : t = 12
 ·
  subst e12;have DZ := set10 D (N := R + 1) (by omega) hcb (.int .i64 10) (.int .i64 x.rg.ow) (.int .i64 0) (.int .i64 0) (.int .i64 0) (.int .i64 0) (.int .i64 0) (.int .i64 0) (.int .i64 0) (.bool false);clear D A;obtain ⟨⟨q0, q1, q2, q3, q4, q5, q6, q7, q8, q9⟩, qf⟩ := B;obtain ⟨f0, f1, f2, f3, f4, f5, f6, f7, f8, f9⟩ := ten qf;clear qf;go_wp2
  refine bodyPost_ret (v := .agg #[.int .i64 10, .int .i64 x.rg.ow, .int .i64 0, .int .i64 0, .int .i64 0, .int .i64 0, .int .i64 0, .int .i64 0, .int .i64 0, .bool false]) (by simp [results, Tryz.results199, go_sem, *]) rfl ⟨⟨10, x.rg.ow, ikN⟩, rfl, DZ.src hs, DZ.gr⟩
 have d12 : (t == 12) = false := by simpa using e12
 replace e12 : Hid (¬ t = 12) := e12;by_cases e13 : t = 13
 ·
  subst e13;obtain ⟨w3, hw3⟩ := mk_ (w2.alloc (Obj.cells #[.int .i64 4, .int .i64 5, .int .i64 11] 3));go_wp2_with fail
  go_at_call 66
  rw [← hw3];have kq : Below w2.heap.size w2 w3 := by rw [hw3]; exact below_new _
  have lA := A.lt;have lB := B.lt;have lc := D.cur.lt;have hg : ∀ i, i < 3 → w3.cell? ⟨w2.heap.size, i, none⟩ = some (.int .i64 (([4, 5, 11] : List Int).getD i 0)) := fun i hi => by rw [hw3]; rcases (by omega : i = 0 ∨ i = 1 ∨ i = 2) with rfl | rfl | rfl <;> simp [go_sem]
  have D := D.later8 kq;have A := A.keep (kq.block _ lA);have B := B.keep (kq.block _ lB);clear hw3 kq;refine (pickInt (D.src hs) w2.heap.size 3 3 (fun i => ([4, 5, 11] : List Int).getD i 0) (by omega) (by decide) (by decide) hg).mono ?_;rintro e w5 ⟨i, _, rfl, s_, g_⟩;obtain ⟨kd, hkd⟩ := mk_ (([4, 5, 11] : List Int).getD i 0);dsimp only
  rw [← hkd];clear hkd hg;have D := D.step s_ g_;have A := A.keep (g_.block _ A.lt (by simp; omega));have B := B.keep (g_.block _ B.lt (by simp; omega));clear s_ g_;have DZ := set10 D (N := R + 1) (by omega) hcb (.int .i64 kd) (.int .i64 x.rg.ow) (.int .i64 0) (.int .i64 0) (.int .i64 0) (.int .i64 0) (.int .i64 0) (.int .i64 0) (.int .i64 0) (.bool false);clear D A;obtain ⟨⟨q0, q1, q2, q3, q4, q5, q6, q7, q8, q9⟩, qf⟩ := B;obtain ⟨f0, f1, f2, f3, f4, f5, f6, f7, f8, f9⟩ := ten qf;clear qf;go_wp2
  refine bodyPost_ret (v := .agg #[.int .i64 kd, .int .i64 x.rg.ow, .int .i64 0, .int .i64 0, .int .i64 0, .int .i64 0, .int .i64 0, .int .i64 0, .int .i64 0, .bool false]) (by simp [results, Tryz.results199, go_sem, *]) rfl ⟨⟨kd, x.rg.ow, ikN⟩, rfl, DZ.src hs, DZ.gr⟩
 have d13 : (t == 13) = false := by simpa using e13
 replace e13 : Hid (¬ t = 13) := e13;by_cases e14 : t = 14
 ·
  subst e14;have DZ := set10 D (N := R + 1) (by omega) hcb (.int .i64 7) (.int .i64 a) (.int .i64 0) (.int .i64 0) (.int .i64 0) (.int .i64 0) (.int .i64 0) (.int .i64 0) (.int .i64 0) (.bool false);clear D A;obtain ⟨⟨q0, q1, q2, q3, q4, q5, q6, q7, q8, q9⟩, qf⟩ := B;obtain ⟨f0, f1, f2, f3, f4, f5, f6, f7, f8, f9⟩ := ten qf;clear qf;go_wp2
  refine bodyPost_ret (v := .agg #[.int .i64 7, .int .i64 a, .int .i64 0, .int .i64 0, .int .i64 0, .int .i64 0, .int .i64 0, .int .i64 0, .int .i64 0, .bool false]) (by simp [results, Tryz.results199, go_sem, *]) rfl ⟨⟨7, a, ikN⟩, rfl, DZ.src hs, DZ.gr⟩
 have d14 : (t == 14) = false := by simpa using e14
 replace e14 : Hid (¬ t = 14) := e14;by_cases e15 : t = 15
 ·
  subst e15;have DZ := set10 D (N := R + 1) (by omega) hcb (.int .i64 8) (.int .i64 a) (.int .i64 0) (.int .i64 0) (.int .i64 0) (.int .i64 0) (.int .i64 0) (.int .i64 0) (.int .i64 0) (.bool false);clear D A;obtain ⟨⟨q0, q1, q2, q3, q4, q5, q6, q7, q8, q9⟩, qf⟩ := B;obtain ⟨f0, f1, f2, f3, f4, f5, f6, f7, f8, f9⟩ := ten qf;clear qf;go_wp2
  refine bodyPost_ret (v := .agg #[.int .i64 8, .int .i64 a, .int .i64 0, .int .i64 0, .int .i64 0, .int .i64 0, .int .i64 0, .int .i64 0, .int .i64 0, .bool false]) (by simp [results, Tryz.results199, go_sem, *]) rfl ⟨⟨8, a, ikN⟩, rfl, DZ.src hs, DZ.gr⟩
 have d15 : (t == 15) = false := by simpa using e15
 replace e15 : Hid (¬ t = 15) := e15;by_cases e16 : t = 16
 ·
  subst e16;have hwr : IntKind.i64.wrap (1 - x.rg.ow) = 1 - x.rg.ow := by rw [IntKind.wrap_i64]; omega
  have DZ := set10 D (N := R + 1) (by omega) hcb (.int .i64 9) (.int .i64 (1 - x.rg.ow)) (.int .i64 0) (.int .i64 0) (.int .i64 0) (.int .i64 0) (.int .i64 0) (.int .i64 0) (.int .i64 0) (.bool false);clear D A;obtain ⟨⟨q0, q1, q2, q3, q4, q5, q6, q7, q8, q9⟩, qf⟩ := B;obtain ⟨f0, f1, f2, f3, f4, f5, f6, f7, f8, f9⟩ := ten qf;clear qf;go_wp2
  refine bodyPost_ret (v := .agg #[.int .i64 9, .int .i64 (1 - x.rg.ow), .int .i64 0, .int .i64 0, .int .i64 0, .int .i64 0, .int .i64 0, .int .i64 0, .int .i64 0, .bool false]) (by simp [results, Tryz.results199, go_sem, *]) rfl ⟨⟨9, (1 - x.rg.ow), ikN⟩, rfl, DZ.src hs, DZ.gr⟩
 have d16 : (t == 16) = false := by simpa using e16
 replace e16 : Hid (¬ t = 16) := e16;have DZ := set10 D (N := R + 1) (by omega) hcb (.int .i64 12) (.int .i64 a) (.int .i64 0) (.int .i64 0) (.int .i64 0) (.int .i64 0) (.int .i64 0) (.int .i64 0) (.int .i64 0) (.bool false);clear D A;obtain ⟨⟨q0, q1, q2, q3, q4, q5, q6, q7, q8, q9⟩, qf⟩ := B;obtain ⟨f0, f1, f2, f3, f4, f5, f6, f7, f8, f9⟩ := ten qf;clear qf;go_wp2
 refine bodyPost_ret (v := .agg #[.int .i64 12, .int .i64 a, .int .i64 0, .int .i64 0, .int .i64 0, .int .i64 0, .int .i64 0, .int .i64 0, .int .i64 0, .bool false]) (by simp [results, Tryz.results199, go_sem, *]) rfl ⟨⟨12, a, ikN⟩, rfl, DZ.src hs, DZ.gr⟩
end Go.Proofs.YtnpiljegdiconaaGreat
