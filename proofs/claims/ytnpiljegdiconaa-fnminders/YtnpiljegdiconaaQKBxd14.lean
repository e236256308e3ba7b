import Derived.Test.YtnpiljegdiconaaQKBxd13
namespace Go.Proofs.Ytnpiljegdiconaa
open Go.ChangeShapes Go.WideShapes Go.ChangeAt Go.RowKit
open Go.ChangeMaps (open_string shut_string)
set_option linter.unusedVariables false
set_option maxRecDepth 100000
set_option linter.unusedSimpArgs false in
set_option maxHeartbeats 4000000 in
theorem inS15 (x : BxD) (d : De) (w : World) (base : Nat) (hO : BxO base w x) (hV : BxV w x) (hbw : base ≤ w.heap.size) (h2 : x.two.length = 2) :
  Calls Try.prog 57 #[.agg #[.int .i64 x.id, .int .i64 x.po, .int .i64 x.rg.ep, .int .i64 x.rg.ow, .int .i64 x.rg.pa, .slice x.aT x.two.length x.cT, .slice x.aN x.net.length x.cN, .slice x.aG x.ga.length x.cG, .slice x.aL x.ln.length x.cL, .slice x.aS x.sd.length x.cS], .agg #[.int .i64 d.k, .int .i64 d.a, .int .i64 d.x.k, .int .i64 d.x.q, .int .i64 d.x.r, .int .i64 d.x.c, .int .i64 d.x.b, .int .i64 d.x.p, .int .i64 d.x.h, .bool d.x.up]] w fun e w' => ∃ x2 : BxD, ∃ c : Int, e = .returned (.tuple #[.agg #[.int .i64 x2.id, .int .i64 x2.po, .int .i64 x2.rg.ep, .int .i64 x2.rg.ow, .int .i64 x2.rg.pa, .slice x2.aT x2.two.length x2.cT, .slice x2.aN x2.net.length x2.cN, .slice x2.aG x2.ga.length x2.cG, .slice x2.aL x2.ln.length x2.cL, .slice x2.aS x2.sd.length x2.cS], .int .i64 c]) ∧ (x2.p, c) = inX x.p d ∧ BxO base w' x2 ∧ Below base w w' ∧ PZ w w' := by
 obtain ⟨y, hy⟩ := mk_ (((w.alloc (Obj.cells #[.int .i64 x.id, .int .i64 x.po, .int .i64 x.rg.ep, .int .i64 x.rg.ow, .int .i64 x.rg.pa, .slice x.aT x.two.length x.cT, .slice x.aN x.net.length x.cN, .slice x.aG x.ga.length x.cG, .slice x.aL x.ln.length x.cL, .slice x.aS x.sd.length x.cS] 79)).alloc (Obj.cells #[.int .i64 d.k, .int .i64 d.a, .int .i64 d.x.k, .int .i64 d.x.q, .int .i64 d.x.r, .int .i64 d.x.c, .int .i64 d.x.b, .int .i64 d.x.p, .int .i64 d.x.h, .bool d.x.up] 103)).alloc (Obj.cells #[.int .i64 0, .int .i64 0, .int .i64 0, .int .i64 0, .int .i64 0, .slice none 0 0, .slice none 0 0, .slice none 0 0, .slice none 0 0, .slice none 0 0] 79))
 obtain ⟨B0, A, D, Z⟩ := stepStart x d w y hy
 have PZ_ := PZ.of B0
 have O := hO.later B0
 have V := hV.later B0
 have B1 := B0.mono hbw
 clear B0
 have gl0 : ∀ g, x.aT = some ⟨g, 0, none⟩ → g < w.heap.size := fun g e => hV.t.lt mdEnc_len (by omega) ⟨g, 0, none⟩ e (by omega)
 have gz0 : ∀ g, x.aT = some ⟨g, 0, none⟩ → base ≤ g := fun g e => (hO.t.lt g (ownB e rfl)).1
 have hct := V.ct
 obtain ⟨R, hR⟩ := mk_ (inX x.p d)
 rw [← hR]
 replace hR : Hid _ := hR
 replace h2 : Hid _ := h2
 clear hV hO
 go_enter Try.func57, Try.ntmps57
 go_upto_region 1 with fail
 rw [← hy]
 clear hy
 have cc := A
 obtain ⟨ca0, ca1, ca2, ca3, ca4, ca5, ca6, ca7, ca8, ca9⟩ := cc
 go_wp2_with fail
 go_at_call 67
 clear ca0 ca1 ca2 ca3 ca4 ca5 ca6 ca7 ca8 ca9
 refine (whoS x y V).mono ?_
 rintro e u1 ⟨rfl, kq⟩
 have sw : w.heap.size + 1 + 1 < y.heap.size := zb_lt Z
 have A := A.below kq A.lt
 have D := D.below kq D.lt
 have O := O.later kq
 have PZ_ := PZ_.later kq
 have Z : ZBx u1 (w.heap.size + 1 + 1) := (kq.block _ sw).trans Z
 have V := V.later kq
 have B1 : Below base w u1 := B1.trans (kq.mono (by omega))
 clear kq sw
 obtain ⟨s, hs⟩ := mk_ (whoX x.p)
 rw [← hs]
 have hsb : s < 0 ∨ s = 0 ∨ s = 1 := by rw [hs]; unfold whoX; split; omega; split <;> omega
 replace hs : Hid _ := hs
 by_cases hn : s < 0
 ·
  have O9 : BxO base (P10 u1 (w.heap.size + 1 + 1) x) (x) := O.keepZ Z (fun g_ hg_ => heap_put10 u1 (w.heap.size + 1 + 1) g_ x hg_)
  have B9 : Below base w (P10 u1 (w.heap.size + 1 + 1) x) := below_put10 (q := w.heap.size + 1 + 1) x B1 (by omega)
  have P9 := PZ_.keep (n := w.heap.size + 1 + 1) (by omega) (fun g_ hg_ => heap_put10 _ (w.heap.size + 1 + 1) g_ x hg_) (by simp)
  have ZB := Z.box
  clear O V Z
  have cc := A
  obtain ⟨ca0, ca1, ca2, ca3, ca4, ca5, ca6, ca7, ca8, ca9⟩ := cc
  obtain ⟨r0, r1, r2, r3, r4, r5, r6, r7, r8, r9, g0, g1, g2, g3, g4, g5, g6, g7, g8, g9⟩ := zten ZB
  clear A
  have cc := D
  obtain ⟨e0, e1, e2, e3, e4, e5, e6, e7, e8, e9⟩ := cc
  clear D
  go_wp2
  refine bodyPost_ret (v := .tuple #[bvx x, .int .i64 3]) (by simp [bvx, results, Try.results57, go_sem, *]) rfl ⟨x, 3, rfl, by rw [hR.out]; unfold inX; rw [← hs.out, if_pos (Or.inl hn)], O9, B9, P9⟩
 ·
  obtain ⟨k, hk⟩ : ∃ k : Nat, s = (k : Int) := ⟨s.toNat, by omega⟩
  have hkl : k < x.two.length := by have := h2.out; omega
  subst hk
  have cc := D
  obtain ⟨e0, e1, e2, e3, e4, e5, e6, e7, e8, e9⟩ := cc
  go_wp2_with fail
  go_at_call 39
  clear e0 e1 e2 e3 e4 e5 e6 e7 e8 e9
  refine (inOkS d.x u1).mono ?_
  rintro e u2 ⟨rfl, kq⟩
  have sw : w.heap.size + 1 + 1 < u1.heap.size := zb_lt Z
  have A := A.below kq A.lt
  have D := D.below kq D.lt
  have O := O.later kq
  have PZ_ := PZ_.later kq
  have Z : ZBx u2 (w.heap.size + 1 + 1) := (kq.block _ sw).trans Z
  have V := V.later kq
  have B1 : Below base w u2 := B1.trans (kq.mono (by omega))
  clear kq sw
  cases hI : inOk d.x
  ·
   have O9 : BxO base (P10 u2 (w.heap.size + 1 + 1) x) (x) := O.keepZ Z (fun g_ hg_ => heap_put10 u2 (w.heap.size + 1 + 1) g_ x hg_)
   have B9 : Below base w (P10 u2 (w.heap.size + 1 + 1) x) := below_put10 (q := w.heap.size + 1 + 1) x B1 (by omega)
   have P9 := PZ_.keep (n := w.heap.size + 1 + 1) (by omega) (fun g_ hg_ => heap_put10 _ (w.heap.size + 1 + 1) g_ x hg_) (by simp)
   have ZB := Z.box
   clear O V Z
   have cc := A
   obtain ⟨ca0, ca1, ca2, ca3, ca4, ca5, ca6, ca7, ca8, ca9⟩ := cc
   obtain ⟨r0, r1, r2, r3, r4, r5, r6, r7, r8, r9, g0, g1, g2, g3, g4, g5, g6, g7, g8, g9⟩ := zten ZB
   clear A
   have cc := D
   obtain ⟨e0, e1, e2, e3, e4, e5, e6, e7, e8, e9⟩ := cc
   clear D
   go_wp2
   refine bodyPost_ret (v := .tuple #[bvx x, .int .i64 3]) (by simp [bvx, results, Try.results57, go_sem, *]) rfl ⟨x, 3, rfl, by rw [hR.out]; unfold inX; rw [← hs.out, if_pos (Or.inr (Or.inl hI))], O9, B9, P9⟩
  ·
   by_cases hp : x.po ≤ d.x.q
   ·
    have O9 : BxO base (P10 u2 (w.heap.size + 1 + 1) x) (x) := O.keepZ Z (fun g_ hg_ => heap_put10 u2 (w.heap.size + 1 + 1) g_ x hg_)
    have B9 : Below base w (P10 u2 (w.heap.size + 1 + 1) x) := below_put10 (q := w.heap.size + 1 + 1) x B1 (by omega)
    have P9 := PZ_.keep (n := w.heap.size + 1 + 1) (by omega) (fun g_ hg_ => heap_put10 _ (w.heap.size + 1 + 1) g_ x hg_) (by simp)
    have ZB := Z.box
    clear O V Z
    have cc := A
    obtain ⟨ca0, ca1, ca2, ca3, ca4, ca5, ca6, ca7, ca8, ca9⟩ := cc
    obtain ⟨r0, r1, r2, r3, r4, r5, r6, r7, r8, r9, g0, g1, g2, g3, g4, g5, g6, g7, g8, g9⟩ := zten ZB
    clear A
    have cc := D
    obtain ⟨e0, e1, e2, e3, e4, e5, e6, e7, e8, e9⟩ := cc
    clear D
    go_wp2
    refine bodyPost_ret (v := .tuple #[bvx x, .int .i64 3]) (by simp [bvx, results, Try.results57, go_sem, *]) rfl ⟨x, 3, rfl, by rw [hR.out]; unfold inX; rw [← hs.out, if_pos (Or.inr (Or.inr (show x.p.po ≤ d.x.q from hp)))], O9, B9, P9⟩
   ·
    obtain ⟨g, hat⟩ := O.t.first (by omega)
    have gl := gl0 g hat
    have gz := gz0 g hat
    obtain ⟨m, hm⟩ : ∃ m, x.two.getD k MiD.nil = m := ⟨_, rfl⟩
    have M0 : MdAtO u2 g (k * 7) m := by have h1 := O.t.view.2; rw [hat] at h1; have := mdAtO_of (h1.at_ mdEnc_len MiD.nil hkl); rw [hm] at this; simpa using this
    have hmo : mOf x.p (k : Int) = m.m := by rw [mOf_p]; simp only [Int.toNat_natCast]; rw [hm]
    have hL := O.l k hkl
    have hll := V.bl k hkl
    rw [hm] at hL hll
    have hcn := hL.capn
    have sz := B1.size
    have zl := zb_lt Z
    replace hat : Hid _ := hat
    replace hm : Hid _ := hm
    replace hmo : Hid _ := hmo
    have cc := D
    obtain ⟨e0, e1, e2, e3, e4, e5, e6, e7, e8, e9⟩ := cc
    have cA := A.c1
    go_upto_region 4 with fail
    clear cA e0 e1 e2 e3 e4 e5 e6 e7 e8 e9
    refine wp_region_held (S := fun Y => Below u2.heap.size u2 Y) (by kernel_rfl) ?_
    change wpAnyH _ _ _ _ _ _ _ _ (World.drew _)
    have hb0 : Below u2.heap.size u2 u2.drew := (Below.refl _ _).drew
    obtain ⟨u3, hu3⟩ := mk_ u2.drew
    rw [← hu3] at hb0 ⊢
    clear hu3
    refine tw 0 29 (.pointer (some ⟨w.heap.size, 5, none⟩)) ?_
    refine tw 1 30 (.slice (some ⟨g, 0, none⟩) x.two.length x.cT) ?_ (hy := by intro Y hSw; obtain ⟨X0, X1, X2, X3, X4, X5, X6, X7, X8, X9⟩ := A.below hSw A.lt; rw [hat.out] at X5; go_simp)
    refine tw 2 31 (.int .i64 (k : Int)) ?_
    refine tw 3 32 (.pointer (some ⟨g, k * 7, none⟩)) ?_ (hy := by intro Y hSw; go_simp; try omega)
    refine tw 4 33 (.agg #[.bool m.m.up, .int .i64 m.m.li, .int .i64 m.m.ep, .slice m.ad m.m.lg.length m.cap, .int .i64 m.m.sd, .int .i64 m.m.ac, .int .i64 m.m.al]) ?_ (hy := by intro Y hSw; obtain ⟨X0, X1, X2, X3, X4, X5, X6⟩ := M0.below hSw (by omega); go_simp)
    refine tw 5 34 (.pointer (some ⟨w.heap.size + 1, 2, none⟩)) ?_
    refine tw 6 35 (.agg #[.int .i64 d.x.k, .int .i64 d.x.q, .int .i64 d.x.r, .int .i64 d.x.c, .int .i64 d.x.b, .int .i64 d.x.p, .int .i64 d.x.h, .bool d.x.up]) ?_ (hy := by intro Y hSw; obtain ⟨X0, X1, X2, X3, X4, X5, X6, X7, X8, X9⟩ := D.below hSw D.lt; go_simp)
    refine wpAnyH_all (rs := [7, 11]) (by kernel_rfl) (by simp) ?_
    intro i hi; rcases (by simpa using hi : i = 7 ∨ i = 11) with rfl | rfl
    focus
     refine wpOp_step rfl (fun Kz hKz => ?_)
     rw [if_pos (by kernel_rfl)]
     go_simp
     go_at_call 7
     refine (noteS m.m d.x m.ad m.cap u3 (hL.later hb0).view.2 (by omega) hcn).mono ?_
     rintro e u5 ⟨a7, c7, rfl, O7, kq⟩
     have hb1 : Below u2.heap.size u2 u5 := hb0.trans (kq.mono hb0.size)
     have lo7 := O7.lt
     have sq := hb0.size
     have O7 := O7.base (base' := u2.heap.size) sq
     clear kq
     refine hKz _ _ ⟨hb1, ?_⟩
     clear hKz Kz hi
     refine tw 8 28 (.tuple #[.agg #[.bool (noteR m.m d.x).up, .int .i64 (noteR m.m d.x).li, .int .i64 (noteR m.m d.x).ep, .slice a7 (noteR m.m d.x).lg.length c7, .int .i64 (noteR m.m d.x).sd, .int .i64 (noteR m.m d.x).ac, .int .i64 (noteR m.m d.x).al], .bool (noteB m.m d.x)]) ?_
     refine tw 9 37 (.agg #[.bool (noteR m.m d.x).up, .int .i64 (noteR m.m d.x).li, .int .i64 (noteR m.m d.x).ep, .slice a7 (noteR m.m d.x).lg.length c7, .int .i64 (noteR m.m d.x).sd, .int .i64 (noteR m.m d.x).ac, .int .i64 (noteR m.m d.x).al]) ?_
     refine tw 10 38 (.bool (noteB m.m d.x)) ?_
     refine w1 11 fun Kz hKz => ?_
     go_simp
     obtain ⟨u6, hu4⟩ := mk_ (u5.alloc (Obj.cells #[.bool false, .int .i64 0, .int .i64 0, .slice none 0 0, .int .i64 0, .int .i64 0, .int .i64 0] 26))
     have N : MiBox u6 u5.heap.size (⟨false, 0, 0, [], 0, 0, 0⟩ : Mi) (.slice none 0 0) := by rw [hu4]; exact MiBox.new u5 _ (⟨false, 0, 0, [], 0, 0, 0⟩ : Mi) _
     have kq : Below u5.heap.size u5 u6 := by rw [hu4]; exact below_new _
     have hb2 : Below u2.heap.size u2 u6 := hb1.trans (kq.mono hb1.size)
     have O7n := O7
     have O7 := O7.later kq
     have lo8 := O7n.lt
     rw [← hu4]
     have sn := hb1.size
     obtain ⟨qn, hqn⟩ := mk_ u5.heap.size
     rw [← hqn] at N sn ⊢
     have ne7 : ∀ g_, (Value.slice a7 (noteR m.m d.x).lg.length c7).ownBlock = some g_ → g_ ≠ qn := fun g_ e => by have := (lo8 g_ e).2; omega
     clear O7n lo8
     clear hu4 kq hqn
     refine hKz _ _ ⟨hb2, ?_⟩
     clear hKz Kz
     refine w1 12 fun Kz hKz => ?_
     have cc := N
     obtain ⟨z0, z1, z2, z3, z4, z5, z6, zf⟩ := cc
     have g0 := zf 0
     have g1 := zf 1
     have g2 := zf 2
     have g3 := zf 3
     have g4 := zf 4
     have g5 := zf 5
     have g6 := zf 6
     go_simp
     clear z0 z1 z2 z3 z4 z5 z6 zf g0 g1 g2 g3 g4 g5 g6
     obtain ⟨v6, hv6⟩ := mk_ (((((((u6.setCell ⟨qn, 0, none⟩ (.bool (noteR m.m d.x).up)).setCell ⟨qn, 1, none⟩ (.int .i64 (noteR m.m d.x).li)).setCell ⟨qn, 2, none⟩ (.int .i64 (noteR m.m d.x).ep)).setCell ⟨qn, 3, none⟩ (.slice a7 (noteR m.m d.x).lg.length c7)).setCell ⟨qn, 4, none⟩ (.int .i64 (noteR m.m d.x).sd)).setCell ⟨qn, 5, none⟩ (.int .i64 (noteR m.m d.x).ac)).setCell ⟨qn, 6, none⟩ (.int .i64 (noteR m.m d.x).al))
     have N : MiBox v6 qn (noteR m.m d.x) (.slice a7 (noteR m.m d.x).lg.length c7) := by rw [hv6]; exact N.put (noteR m.m d.x) _
     have kp : ∀ k_, k_ ≠ qn → v6.heap[k_]? = u6.heap[k_]? := fun k_ hk_ => by rw [hv6]; exact heap_put7 _ _ _ (noteR m.m d.x) _ hk_
     have O7 := O7.keep (fun g_ e => kp g_ (ne7 g_ e))
     have hb6 : Below u2.heap.size u2 v6 := by rw [hv6]; exact below_put7 (noteR m.m d.x) _ hb2 sn
    rotate_left
    focus
     refine wpOp_step rfl (fun Kz hKz => ?_)
     rw [if_pos (by kernel_rfl)]
     go_simp
     obtain ⟨u4, hu4⟩ := mk_ (u3.alloc (Obj.cells #[.bool false, .int .i64 0, .int .i64 0, .slice none 0 0, .int .i64 0, .int .i64 0, .int .i64 0] 26))
     have N : MiBox u4 u3.heap.size (⟨false, 0, 0, [], 0, 0, 0⟩ : Mi) (.slice none 0 0) := by rw [hu4]; exact MiBox.new u3 _ (⟨false, 0, 0, [], 0, 0, 0⟩ : Mi) _
     have kq : Below u3.heap.size u3 u4 := by rw [hu4]; exact below_new _
     have hb2 : Below u2.heap.size u2 u4 := hb0.trans (kq.mono hb0.size)
     rw [← hu4]
     have sn := hb0.size
     obtain ⟨qn, hqn⟩ := mk_ u3.heap.size
     rw [← hqn] at N sn ⊢
     have qv : qn < u4.heap.size := N.lt
     clear hu4 kq hqn
     refine hKz _ _ ⟨hb2, ?_⟩
     clear hKz Kz hi
     refine w1 7 fun Kz hKz => ?_
     go_simp
     go_at_call 7
     refine (noteS m.m d.x m.ad m.cap u4 (hL.later hb2).view.2 (by omega) hcn).mono ?_
     rintro e u5 ⟨a7, c7, rfl, O7, kq⟩
     have hb1 : Below u2.heap.size u2 u5 := hb2.trans (kq.mono hb2.size)
     have lo7 := O7.lt
     have sq := hb2.size
     have N := N.below kq N.lt
     have O7 := O7.base (base' := u2.heap.size) sq
     clear kq
     refine hKz _ _ ⟨hb1, ?_⟩
     clear hKz Kz
     have ne7 : ∀ g_, (Value.slice a7 (noteR m.m d.x).lg.length c7).ownBlock = some g_ → g_ ≠ qn := fun g_ e => by have := (lo7 g_ e).1; omega
     refine tw 8 28 (.tuple #[.agg #[.bool (noteR m.m d.x).up, .int .i64 (noteR m.m d.x).li, .int .i64 (noteR m.m d.x).ep, .slice a7 (noteR m.m d.x).lg.length c7, .int .i64 (noteR m.m d.x).sd, .int .i64 (noteR m.m d.x).ac, .int .i64 (noteR m.m d.x).al], .bool (noteB m.m d.x)]) ?_
     refine tw 9 37 (.agg #[.bool (noteR m.m d.x).up, .int .i64 (noteR m.m d.x).li, .int .i64 (noteR m.m d.x).ep, .slice a7 (noteR m.m d.x).lg.length c7, .int .i64 (noteR m.m d.x).sd, .int .i64 (noteR m.m d.x).ac, .int .i64 (noteR m.m d.x).al]) ?_
     refine tw 10 38 (.bool (noteB m.m d.x)) ?_
     refine w1 12 fun Kz hKz => ?_
     have cc := N
     obtain ⟨z0, z1, z2, z3, z4, z5, z6, zf⟩ := cc
     have g0 := zf 0
     have g1 := zf 1
     have g2 := zf 2
     have g3 := zf 3
     have g4 := zf 4
     have g5 := zf 5
     have g6 := zf 6
     go_simp
     clear z0 z1 z2 z3 z4 z5 z6 zf g0 g1 g2 g3 g4 g5 g6
     obtain ⟨v6, hv6⟩ := mk_ (((((((u5.setCell ⟨qn, 0, none⟩ (.bool (noteR m.m d.x).up)).setCell ⟨qn, 1, none⟩ (.int .i64 (noteR m.m d.x).li)).setCell ⟨qn, 2, none⟩ (.int .i64 (noteR m.m d.x).ep)).setCell ⟨qn, 3, none⟩ (.slice a7 (noteR m.m d.x).lg.length c7)).setCell ⟨qn, 4, none⟩ (.int .i64 (noteR m.m d.x).sd)).setCell ⟨qn, 5, none⟩ (.int .i64 (noteR m.m d.x).ac)).setCell ⟨qn, 6, none⟩ (.int .i64 (noteR m.m d.x).al))
     have N : MiBox v6 qn (noteR m.m d.x) (.slice a7 (noteR m.m d.x).lg.length c7) := by rw [hv6]; exact N.put (noteR m.m d.x) _
     have kp : ∀ k_, k_ ≠ qn → v6.heap[k_]? = u5.heap[k_]? := fun k_ hk_ => by rw [hv6]; exact heap_put7 _ _ _ (noteR m.m d.x) _ hk_
     have O7 := O7.keep (fun g_ e => kp g_ (ne7 g_ e))
     have hb6 : Below u2.heap.size u2 v6 := by rw [hv6]; exact below_put7 (noteR m.m d.x) _ hb1 sn
    rotate_left
    all_goals
     rw [← hv6]
     clear hv6 kp
     refine hKz _ _ ⟨hb6, ?_⟩
     clear hKz Kz
     refine tw 13 8 (.bool (noteB m.m d.x)) ?_
     refine wpAnyH_done (by kernel_rfl) ?_ _
     have liu := O.i.lt
     have sw : w.heap.size + 1 + 1 < u2.heap.size := zb_lt Z
     have A := A.below hb6 A.lt
     have D := D.below hb6 D.lt
     have O := O.later hb6
     have PZ_ := PZ_.later hb6
     have Z : ZBx v6 (w.heap.size + 1 + 1) := (hb6.block _ sw).trans Z
     have V := V.later hb6
     have B1 : Below base w v6 := B1.trans (hb6.mono (by omega))
     have M0 := M0.below hb6 (by omega)
     have N := N.at_
     cases hB : noteB m.m d.x
     ·
      have O9 : BxO base (P10 v6 (w.heap.size + 1 + 1) x) (x) := O.keepZ Z (fun g_ hg_ => heap_put10 v6 (w.heap.size + 1 + 1) g_ x hg_)
      have B9 : Below base w (P10 v6 (w.heap.size + 1 + 1) x) := below_put10 (q := w.heap.size + 1 + 1) x B1 (by omega)
      have P9 := PZ_.keep (n := w.heap.size + 1 + 1) (by omega) (fun g_ hg_ => heap_put10 _ (w.heap.size + 1 + 1) g_ x hg_) (by simp)
      have ZB := Z.box
      clear O V Z
      have cc := A
      obtain ⟨ca0, ca1, ca2, ca3, ca4, ca5, ca6, ca7, ca8, ca9⟩ := cc
      obtain ⟨r0, r1, r2, r3, r4, r5, r6, r7, r8, r9, g0, g1, g2, g3, g4, g5, g6, g7, g8, g9⟩ := zten ZB
      clear A
      have cc := D
      obtain ⟨e0, e1, e2, e3, e4, e5, e6, e7, e8, e9⟩ := cc
      clear D
      go_wp2
      refine bodyPost_ret (v := .tuple #[bvx x, .int .i64 4]) (by simp [bvx, results, Try.results57, go_sem, *]) rfl ⟨x, 4, rfl, by rw [hR.out]; unfold inX; rw [← hs.out, hmo.out, if_neg (by rintro (h | h | h); (omega); (rw [hI] at h; cases h); (have h' : x.po ≤ d.x.q := h; omega)), if_neg (by rw [hB]; decide)], O9, B9, P9⟩
     ·
      have cA := A.c5
      rw [hat.out] at cA
      have cc := N
      obtain ⟨n0, n1, n2, n3, n4, n5, n6⟩ := cc
      have cc := M0
      obtain ⟨v0, v1, v2, v3, v4, v5, v6'⟩ := cc
      have ot := O.t
      rw [hat.out] at ot
      have f0 := ot.frozen (k * 7)
      have f1 := ot.frozen (k * 7 + 1)
      have f2 := ot.frozen (k * 7 + 2)
      have f3 := ot.frozen (k * 7 + 3)
      have f4 := ot.frozen (k * 7 + 4)
      have f5 := ot.frozen (k * 7 + 5)
      have f6 := ot.frozen (k * 7 + 6)
      clear ot
      go_upto_region 8 with fail
      clear cA n0 n1 n2 n3 n4 n5 n6 v0 v1 v2 v3 v4 v5 v6' f0 f1 f2 f3 f4 f5 f6
      obtain ⟨v7, hv7⟩ := mk_ (((((((v6.setCell ⟨g, k * 7, none⟩ (.bool (noteR m.m d.x).up)).setCell ⟨g, k * 7 + 1, none⟩ (.int .i64 (noteR m.m d.x).li)).setCell ⟨g, k * 7 + 2, none⟩ (.int .i64 (noteR m.m d.x).ep)).setCell ⟨g, k * 7 + 3, none⟩ (.slice a7 (noteR m.m d.x).lg.length c7)).setCell ⟨g, k * 7 + 4, none⟩ (.int .i64 (noteR m.m d.x).sd)).setCell ⟨g, k * 7 + 5, none⟩ (.int .i64 (noteR m.m d.x).ac)).setCell ⟨g, k * 7 + 6, none⟩ (.int .i64 (noteR m.m d.x).al))
      have PZ_ := PZ_.row (W2 := v7) O.t (by decide) (ownB hat.out rfl) (fun k_ hk_ => by rw [hv7, Below.heap_setCell _ _ _ _ hk_, Below.heap_setCell _ _ _ _ hk_, Below.heap_setCell _ _ _ _ hk_, Below.heap_setCell _ _ _ _ hk_, Below.heap_setCell _ _ _ _ hk_, Below.heap_setCell _ _ _ _ hk_, Below.heap_setCell _ _ _ _ hk_]) (by rw [hv7]; simp)
      have O : BxO base v7 (x.setT k (⟨noteR m.m d.x, a7, c7⟩ : MiD)) := by rw [hv7]; exact O.setT hat.out hkl (⟨noteR m.m d.x, a7, c7⟩ : MiD) (O7.base (by omega)) (fun g_ e e2 => by have := (O7.lt g_ e).1; have := (liu g_ e2).2; omega)
      have kp : ∀ k_, k_ ≠ g → v7.heap[k_]? = v6.heap[k_]? := fun k_ hk_ => by rw [hv7]; exact heap_putAll (mdEnc (⟨noteR m.m d.x, a7, c7⟩ : MiD)) v6 (k * 7) k_ hk_
      have A := A.keep (kp _ (by omega))
      have D := D.keep (kp _ (by omega))
      have Z : ZBx v7 (w.heap.size + 1 + 1) := (kp _ (by omega)).trans Z
      have B1 : Below base w v7 := by rw [hv7]; exact below_putAll gz (mdEnc (⟨noteR m.m d.x, a7, c7⟩ : MiD)) (k * 7) B1
      rw [← hv7]
      clear hv7 kp
      have O9 : BxO base (P10 v7 (w.heap.size + 1 + 1) x) (x.setT k (⟨noteR m.m d.x, a7, c7⟩ : MiD)) := O.keepZ Z (fun g_ hg_ => heap_put10 v7 (w.heap.size + 1 + 1) g_ x hg_)
      have B9 : Below base w (P10 v7 (w.heap.size + 1 + 1) x) := below_put10 (q := w.heap.size + 1 + 1) x B1 (by omega)
      have P9 := PZ_.keep (n := w.heap.size + 1 + 1) (by omega) (fun g_ hg_ => heap_put10 _ (w.heap.size + 1 + 1) g_ x hg_) (by simp)
      have ZB := Z.box
      clear O V Z
      have cc := A
      obtain ⟨ca0, ca1, ca2, ca3, ca4, ca5, ca6, ca7, ca8, ca9⟩ := cc
      obtain ⟨r0, r1, r2, r3, r4, r5, r6, r7, r8, r9, g0, g1, g2, g3, g4, g5, g6, g7, g8, g9⟩ := zten ZB
      clear A
      have cc := D
      obtain ⟨e0, e1, e2, e3, e4, e5, e6, e7, e8, e9⟩ := cc
      clear D
      go_wp2
      refine bodyPost_ret (v := .tuple #[bvx x, .int .i64 0]) (by simp [bvx, results, Try.results57, go_sem, *]) rfl ⟨x.setT k (⟨noteR m.m d.x, a7, c7⟩ : MiD), 0, by simp [BxD.setT], by rw [BxD.setT_p, hR.out]; unfold inX; rw [← hs.out, hmo.out, if_neg (by rintro (h | h | h); (omega); (rw [hI] at h; cases h); (have h' : x.po ≤ d.x.q := h; omega)), if_pos hB], O9, B9, P9⟩
end Go.Proofs.Ytnpiljegdiconaa
