import Derived.Test.YtnpiljegdiconaaQKBxd25
namespace Go.Proofs.Ytnpiljegdiconaa
open Go.ChangeShapes Go.WideShapes Go.ChangeAt Go.RowKit
open Go.ChangeMaps (open_string shut_string)
set_option linter.unusedVariables false
set_option maxRecDepth 100000
def DrewX (w : World) (cb : Nat) (ad : Option Addr) (len cap : Nat) (f : Nat → Int) (e : Ending) (w' : World) : Prop :=
 ∃ x : BxD, e = .returned (.agg #[.int .i64 x.id, .int .i64 x.po, .int .i64 x.rg.ep, .int .i64 x.rg.ow, .int .i64 x.rg.pa, .slice x.aT x.two.length x.cT, .slice x.aN x.net.length x.cN, .slice x.aG x.ga.length x.cG, .slice x.aL x.ln.length x.cL, .slice x.aS x.sd.length x.cS]) ∧ BxV w' x ∧ x.two.length = 2 ∧ (∀ i, i < 2 → (x.two.getD i MiD.nil).m.lg.length ≤ 60 ∧ ((x.two.getD i MiD.nil).ad = none → (x.two.getD i MiD.nil).cap = 0)) ∧ (∀ a, x.aT = some a → w.heap.size ≤ a.block) ∧ (∀ i a, i < 2 → (x.two.getD i MiD.nil).ad = some a → w.heap.size ≤ a.block) ∧ Src w' cb ad len cap f ∧ w.grownBy w' (some cb)
def BoxesDrawn : Prop := ∀ {cb : Nat} {ad : Option Addr} {len cap : Nat} {f : Nat → Int} (w : World) (_ : Src w cb ad len cap f) (_ : cb < w.heap.size), Calls Try.prog 40 #[.pointer (some ⟨cb, 0, none⟩)] w fun e w' => DrewX w cb ad len cap f e w'
def DrewM (n : Nat) (w : World) (cb : Nat) (ad : Option Addr) (len cap : Nat) (f : Nat → Int) (e : Ending) (w' : World) : Prop :=
 ∃ (m : Mi) (a : Option Addr) (c : Nat), e = .returned (.agg #[.bool m.up, .int .i64 m.li, .int .i64 m.ep, .slice a m.lg.length c, .int .i64 m.sd, .int .i64 m.ac, .int .i64 m.al]) ∧ m.lg.length ≤ n ∧ FOwn ikEnc 8 30 w.heap.size w' (.slice a m.lg.length c) m.lg ∧ Src w' cb ad len cap f ∧ w.grownBy w' (some cb)
set_option maxHeartbeats 4000000 in
theorem drawMR (hR : BoxesDrawn) {cb : Nat} {ad : Option Addr} {len cap : Nat} {f : Nat → Int} (w : World) (hs : Src w cb ad len cap f) (hcb : cb < w.heap.size) : Calls Try.prog 28 #[.pointer (some ⟨cb, 0, none⟩)] w fun e w' => DrewM 60 w cb ad len cap f e w' := by
 have hfld : ∀ (i_ p_ r0_ r1_ r2_ : Int) (t_ n_ g_ l_ s_ : Value) (w_ : World), (Instr.field 79 (.agg #[.int .i64 i_, .int .i64 p_, .int .i64 r0_, .int .i64 r1_, .int .i64 r2_, t_, n_, g_, l_, s_]) 3).run Try.prog w_ = .ok t_ w_ := fun _ _ _ _ _ _ _ _ _ _ _ => by kernel_rfl
 obtain ⟨y0, hy0⟩ := mk_ (w.alloc (Obj.cells #[.bool false, .int .i64 0, .int .i64 0, .slice none 0 0, .int .i64 0, .int .i64 0, .int .i64 0] 26))
 have D0 : DV w cb ad len cap y0 := by rw [hy0]; exact (DV.start hs).alloc _
 have R0 : MiBox y0 w.heap.size ⟨false, 0, 0, [], 0, 0, 0⟩ (.slice none 0 0) := by rw [hy0]; exact MiBox.new w _ ⟨false, 0, 0, [], 0, 0, 0⟩ _
 have z0 := R0.lt
 go_enter Try.func28, Try.ntmps28
 go_wp2_with fail
 go_at_call 40
 rw [← hy0]
 clear hy0
 refine (hR y0 (D0.src hs) (by omega)).mono ?_
 rintro e y1 ⟨x, rfl, V, h2, hm, loT, loL, s1, g1⟩
 have D1 := D0.step s1 g1
 have R1 := R0.keep (g1.block _ R0.lt (by simp; omega))
 have z1 := g1.size
 clear D0 R0 s1 g1
 have b2 := Nat.le_of_eq h2
 have b2' := Nat.le_of_eq h2.symm
 replace h2 : Hid _ := h2
 go_wp2_with fail
 go_at_call 29
 refine (drawBelow (D1.src hs) 2 (by decide) (by decide)).mono ?_
 rintro e y2 ⟨v, rfl, v0, v1, s2, g2⟩
 have D2 := D1.step s2 g2
 have R2 := R1.keep (g2.block _ R1.lt (by simp; omega))
 have z2 := g2.size
 obtain ⟨k, rfl⟩ : ∃ k : Nat, v = (k : Int) := ⟨v.toNat, by omega⟩
 have hk : k < x.two.length := by omega
 have hk2 : k < 2 := by omega
 obtain ⟨d, hd⟩ : ∃ d, x.two.getD k MiD.nil = d := ⟨_, rfl⟩
 obtain ⟨b, off, hat, _⟩ := V.t (by omega)
 have hbl := loT _ hat
 have hlt := V.t.lt mdEnc_len (by omega) _ hat (by omega)
 dsimp only at hbl hlt
 have ht2 := V.t.carry (w' := y2) (fun a e _ => g2.block _ (V.t.lt mdEnc_len (by omega) a e (by omega)) (by have := loT a e; simp; omega))
 have hck : MdAtO y2 b (off + k * 7) d := by
  rw [hat] at ht2
  rw [← hd]
  exact mdAtO_of (ht2.at_ mdEnc_len MiD.nil hk)
 have hvl := (V.l k hk).carry (w' := y2) (fun a e p => g2.block _ ((V.l k hk).lt ikEnc_len (by omega) a e p) (by have := loL k a hk2 e; simp; omega))
 have hmk := hm k hk2
 rw [hd] at hvl hmk
 obtain ⟨hl60, hn⟩ := hmk
 have hcT := V.ct
 clear D1 R1 s2 g2 ht2 loT loL hm V hd
 rw [hat]
 clear hat
 obtain ⟨c0, c1, c2, c3, c4, c5, c6⟩ := hck
 go_wp2_with fail
 go_at_call 21
 clear c0 c1 c2 c3 c4 c5 c6
 refine (miCop d.m d.ad d.cap y2 hvl (by omega) hn).mono ?_
 rintro e y3 ⟨a3, k3, rfl, O3, k_⟩
 have D3 := D2.later8 k_
 have R3 := R2.below k_ R2.lt
 have z3 := k_.size
 clear D2 R2 k_ hvl
 have O4 : FOwn ikEnc 8 30 w.heap.size (((((((y3.setCell ⟨w.heap.size, 0, none⟩ (.bool d.m.up)).setCell ⟨w.heap.size, 1, none⟩ (.int .i64 d.m.li)).setCell ⟨w.heap.size, 2, none⟩ (.int .i64 d.m.ep)).setCell ⟨w.heap.size, 3, none⟩ (.slice a3 d.m.lg.length k3)).setCell ⟨w.heap.size, 4, none⟩ (.int .i64 d.m.sd)).setCell ⟨w.heap.size, 5, none⟩ (.int .i64 d.m.ac)).setCell ⟨w.heap.size, 6, none⟩ (.int .i64 d.m.al)) (.slice a3 d.m.lg.length k3) d.m.lg := (O3.base (by omega)).keep (fun g e => heap_put7 y3 w.heap.size g d.m _ (by have := (O3.lt g e).1; omega))
 have D4 : DV w cb ad len cap (((((((y3.setCell ⟨w.heap.size, 0, none⟩ (.bool d.m.up)).setCell ⟨w.heap.size, 1, none⟩ (.int .i64 d.m.li)).setCell ⟨w.heap.size, 2, none⟩ (.int .i64 d.m.ep)).setCell ⟨w.heap.size, 3, none⟩ (.slice a3 d.m.lg.length k3)).setCell ⟨w.heap.size, 4, none⟩ (.int .i64 d.m.sd)).setCell ⟨w.heap.size, 5, none⟩ (.int .i64 d.m.ac)).setCell ⟨w.heap.size, 6, none⟩ (.int .i64 d.m.al)) := ((((((D3.set (Nat.le_refl _) hcb _).set (Nat.le_refl _) hcb _).set (Nat.le_refl _) hcb _).set (Nat.le_refl _) hcb _).set (Nat.le_refl _) hcb _).set (Nat.le_refl _) hcb _).set (Nat.le_refl _) hcb _
 obtain ⟨z0, z1, z2, z3, z4, z5, z6, zf⟩ := R3
 have g0 := zf 0
 have g1 := zf 1
 have g2 := zf 2
 have g3 := zf 3
 have g4 := zf 4
 have g5 := zf 5
 have g6 := zf 6
 clear zf O3
 have sZ := D4.src hs
 have gZ := D4.gr
 clear D3 D4
 go_wp2
 refine bodyPost_ret (v := .agg #[.bool d.m.up, .int .i64 d.m.li, .int .i64 d.m.ep, .slice a3 d.m.lg.length k3, .int .i64 d.m.sd, .int .i64 d.m.ac, .int .i64 d.m.al]) (by simp [results, Try.results28, go_sem, *]) rfl ⟨d.m, a3, k3, rfl, hl60, O4, sZ, gZ⟩
set_option linter.unusedSimpArgs false in
set_option maxHeartbeats 8000000 in
theorem rightB {cb : Nat} {ad : Option Addr} {len cap : Nat} {f : Nat → Int} (w : World) (hs : Src w cb ad len cap f) (hcb : cb < w.heap.size) : Calls Try.prog 40 #[.pointer (some ⟨cb, 0, none⟩)] w fun e w' => DrewBX w cb ad len cap f e w' := by
 obtain ⟨y0, hy0⟩ := mk_ (w.alloc (Obj.cells #[.int .i64 0, .int .i64 0, .int .i64 0, .int .i64 0, .int .i64 0, .slice none 0 0, .slice none 0 0, .slice none 0 0, .slice none 0 0, .slice none 0 0] 79))
 have D : DV w cb ad len cap y0 := by rw [hy0]; exact (DV.start hs).alloc _
 have Z : ZBx y0 w.heap.size := by rw [hy0]; exact heap_newF w _
 have l0 := Z.lt_
 go_enter Try.func40, Try.ntmps40
 go_wp2_with fail
 go_at_call 48
 rw [← hy0]
 clear hy0
 refine (runS 50 (by decide) y0 (D.src hs) D.cur.lt).mono ?_
 rintro e y1 ⟨s, x, v, rfl, hxo, O, s_, g_⟩
 have D := D.step s_ g_
 have Z := Z.keep (g_.block _ Z.lt_ (by simp; omega))
 have O := O.base (b2 := w.heap.size) (by omega)
 clear s_ g_ l0
 replace hxo : Hid _ := hxo
 go_upto_region 2 with fail
 obtain ⟨y2, hy2⟩ := mk_ ((y1.alloc (Obj.cells #[.int .i64 s.id, .int .i64 s.po, .int .i64 s.rg.ep, .int .i64 s.rg.ow, .int .i64 s.rg.pa, .slice s.aT s.two.length s.cT, .slice s.aN s.net.length s.cN, .slice s.aG s.ga.length s.cG, .slice s.aL s.ln.length s.cL, .slice s.aS s.sd.length s.cS] 79)).alloc (Obj.cells #[.int .i64 x.id, .int .i64 x.po, .int .i64 x.rg.ep, .int .i64 x.rg.ow, .int .i64 x.rg.pa, .slice x.aT x.two.length x.cT, .slice x.aN x.net.length x.cN, .slice x.aG x.ga.length x.cG, .slice x.aL x.ln.length x.cL, .slice x.aS x.sd.length x.cS] 79))
 rw [← hy2]
 have kq : Below y1.heap.size y1 y2 := by rw [hy2]; exact (below_new _).trans ((below_new _).mono (by simp))
 have A : BxB y2 (y1.heap.size + 1) x := by rw [hy2]; have h1 := BxB.new (y1.alloc (Obj.cells #[.int .i64 s.id, .int .i64 s.po, .int .i64 s.rg.ep, .int .i64 s.rg.ow, .int .i64 s.rg.pa, .slice s.aT s.two.length s.cT, .slice s.aN s.net.length s.cN, .slice s.aG s.ga.length s.cG, .slice s.aL s.ln.length s.cL, .slice s.aS s.sd.length s.cS] 79)) 79 x; rw [show (y1.alloc (Obj.cells #[.int .i64 s.id, .int .i64 s.po, .int .i64 s.rg.ep, .int .i64 s.rg.ow, .int .i64 s.rg.pa, .slice s.aT s.two.length s.cT, .slice s.aN s.net.length s.cN, .slice s.aG s.ga.length s.cG, .slice s.aL s.ln.length s.cL, .slice s.aS s.sd.length s.cS] 79)).heap.size = y1.heap.size + 1 from by simp] at h1; exact h1
 clear hy2
 have D := D.later8 kq
 have Z := Z.keep (kq.block _ Z.lt_)
 have O := O.later kq
 clear kq
 have O9 : BxO w.heap.size (P10 y2 (w.heap.size) x) x := O.keepZ Z (fun g_ hg_ => heap_put10 y2 w.heap.size g_ x hg_)
 have D9 : DV w cb ad len cap (P10 y2 (w.heap.size) x) := D.put10_ x (Nat.le_refl _) hcb
 have sZ := D9.src hs
 have gZ := D9.gr
 have ZB := Z.box
 obtain ⟨r0, r1, r2, r3, r4, r5, r6, r7, r8, r9, g0, g1, g2, g3, g4, g5, g6, g7, g8, g9⟩ := zten ZB
 clear Z D O D9
 obtain ⟨⟨a0, a1, a2, a3, a4, a5, a6, a7, a8, a9⟩, _⟩ := A
 go_wp2
 refine bodyPost_ret (v := bvx x) (by simp [bvx, results, Try.results40, go_sem, *]) rfl ⟨x, rfl, hxo.out, O9, sZ, gZ⟩
theorem boxesDrawn : BoxesDrawn := by
 intro cb ad len cap f w hs hcb
 refine (rightB w hs hcb).mono ?_
 rintro e w' ⟨x, rfl, hxo, O, s_, g_⟩
 obtain ⟨h2, hm, _, _, _, _⟩ := bxOk_small hxo
 refine ⟨x, rfl, O.okV hxo, h2, fun i hi => ⟨miOk_lg (hm i hi), (O.l i (by omega)).capn⟩, fun a e => ?_, fun i a hi e => ?_, s_, g_⟩
 ·
  obtain ⟨g, hg, h1, _⟩ := O.t.blk (by omega)
  rw [e] at hg
  cases hg
  exact h1
 ·
  have hq := O.l i (by omega)
  rcases hq.2 with ⟨e0, _⟩ | ⟨g, c, cur, e0, hb, _⟩
  ·
   rw [e] at e0
   cases e0
  ·
   rw [e] at e0
   simp only [Value.slice.injEq, Option.some.injEq] at e0
   rw [e0.1]
   exact hb
end Go.Proofs.Ytnpiljegdiconaa
