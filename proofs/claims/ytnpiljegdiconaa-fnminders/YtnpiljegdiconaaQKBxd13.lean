import Derived.Test.YtnpiljegdiconaaQM18
namespace Go.Proofs.Ytnpiljegdiconaa
open Go.ChangeShapes Go.WideShapes Go.ChangeAt Go.RowKit
open Go.ChangeMaps (open_string shut_string)
set_option linter.unusedVariables false
set_option maxRecDepth 100000
theorem FOwn.first {X : Type} {enc : X → List Value} {n : Nat} {T : TypeId} {base : Nat} {w : World} {ad : Option Addr} {len cap : Nat} {L : List X} (h : FOwn enc n T base w (.slice ad len cap) L) (hp : 0 < L.length) : ∃ g, ad = some ⟨g, 0, none⟩ := by
 rcases h.2 with ⟨e, h0⟩ | ⟨g, c, cur, e, _⟩
 ·
  have := h.view.1
  simp only [Value.slice.injEq] at e
  omega
 ·
  simp only [Value.slice.injEq] at e
  exact ⟨g, e.1⟩
set_option linter.unusedSimpArgs false in
set_option maxHeartbeats 4000000 in
theorem fallS (x : BxD) (d : De) (w : World) (base : Nat) (hO : BxO base w x) (hV : BxV w x) (hbw : base ≤ w.heap.size) (h2 : x.two.length = 2) (ha : 0 ≤ d.a ∧ d.a ≤ 1) (b0 : 0 ≤ (x.two.getD 0 MiD.nil).m.li ∧ (x.two.getD 0 MiD.nil).m.li ≤ 1000000000) (b1 : 0 ≤ (x.two.getD 1 MiD.nil).m.li ∧ (x.two.getD 1 MiD.nil).m.li ≤ 1000000000) :
  Calls Try.prog 61 #[.agg #[.int .i64 x.id, .int .i64 x.po, .int .i64 x.rg.ep, .int .i64 x.rg.ow, .int .i64 x.rg.pa, .slice x.aT x.two.length x.cT, .slice x.aN x.net.length x.cN, .slice x.aG x.ga.length x.cG, .slice x.aL x.ln.length x.cL, .slice x.aS x.sd.length x.cS], .agg #[.int .i64 d.k, .int .i64 d.a, .int .i64 d.x.k, .int .i64 d.x.q, .int .i64 d.x.r, .int .i64 d.x.c, .int .i64 d.x.b, .int .i64 d.x.p, .int .i64 d.x.h, .bool d.x.up]] w fun e w' => ∃ x2 : BxD, ∃ c : Int, e = .returned (.tuple #[.agg #[.int .i64 x2.id, .int .i64 x2.po, .int .i64 x2.rg.ep, .int .i64 x2.rg.ow, .int .i64 x2.rg.pa, .slice x2.aT x2.two.length x2.cT, .slice x2.aN x2.net.length x2.cN, .slice x2.aG x2.ga.length x2.cG, .slice x2.aL x2.ln.length x2.cL, .slice x2.aS x2.sd.length x2.cS], .int .i64 c]) ∧ (x2.p, c) = fallX x.p d ∧ BxO base w' x2 ∧ Below base w w' ∧ PZ w w' := by
 obtain ⟨y, hy⟩ := mk_ (((w.alloc (Obj.cells #[.int .i64 x.id, .int .i64 x.po, .int .i64 x.rg.ep, .int .i64 x.rg.ow, .int .i64 x.rg.pa, .slice x.aT x.two.length x.cT, .slice x.aN x.net.length x.cN, .slice x.aG x.ga.length x.cG, .slice x.aL x.ln.length x.cL, .slice x.aS x.sd.length x.cS] 79)).alloc (Obj.cells #[.int .i64 d.k, .int .i64 d.a, .int .i64 d.x.k, .int .i64 d.x.q, .int .i64 d.x.r, .int .i64 d.x.c, .int .i64 d.x.b, .int .i64 d.x.p, .int .i64 d.x.h, .bool d.x.up] 103)).alloc (Obj.cells #[.int .i64 0, .int .i64 0, .int .i64 0, .int .i64 0, .int .i64 0, .slice none 0 0, .slice none 0 0, .slice none 0 0, .slice none 0 0, .slice none 0 0] 79))
 obtain ⟨B0, A, D, Z⟩ := stepStart x d w y hy
 have PZ_ := PZ.of B0
 have O := hO.later B0
 have V := hV.later B0
 obtain ⟨k, hk⟩ : ∃ k : Nat, d.a = (k : Int) := ⟨d.a.toNat, by omega⟩
 have hkl : k < x.two.length := by omega
 obtain ⟨g, hat⟩ := O.t.first (by omega)
 obtain ⟨m, hm⟩ : ∃ m, x.two.getD k MiD.nil = m := ⟨_, rfl⟩
 have M0 : MdAtO y g (k * 7) m := by have h1 := O.t.view.2; rw [hat] at h1; have := mdAtO_of (h1.at_ mdEnc_len MiD.nil hkl); rw [hm] at this; simpa using this
 have hmo : mOf x.p d.a = m.m := by rw [mOf_p, hk]; simp only [Int.toNat_natCast]; rw [hm]
 have gl : g < w.heap.size := hV.t.lt mdEnc_len (by omega) ⟨g, 0, none⟩ hat (by omega)
 have gz := (hO.t.lt g (ownB hat rfl)).1
 have hct := V.ct
 obtain ⟨R, hR⟩ := mk_ (fallX x.p d)
 rw [← hR]
 replace hR : Hid _ := hR
 replace hk : Hid _ := hk
 replace hat : Hid _ := hat
 replace hm : Hid _ := hm
 replace hmo : Hid _ := hmo
 replace h2 : Hid _ := h2
 clear hV hO
 go_enter Try.func61, Try.ntmps61
 go_upto_region 1 with fail
 rw [← hy]
 clear hy
 have cA := A.c5
 rw [hat.out] at cA
 have cD := D.c1
 rw [hk.out] at cD
 have cc := M0
 obtain ⟨n0, n1, n2, n3, n4, n5, n6⟩ := cc
 go_upto_region 2 with fail
 clear cA cD n0 n1 n2 n3 n4 n5 n6
 obtain ⟨u1, hu1⟩ := mk_ (y.alloc (Obj.cells #[.bool m.m.up, .int .i64 m.m.li, .int .i64 m.m.ep, .slice m.ad m.m.lg.length m.cap, .int .i64 m.m.sd, .int .i64 m.m.ac, .int .i64 m.m.al] 26))
 rw [← hu1]
 have kq : Below y.heap.size y u1 := by rw [hu1]; exact below_new _
 have N : MiAt u1 y.heap.size m.m (.slice m.ad m.m.lg.length m.cap) := by rw [hu1]; exact MiAt.new y _ m.m _
 clear hu1
 have A := A.below kq A.lt
 have D := D.below kq D.lt
 have zl := zb_lt Z
 have Z : ZBx u1 (w.heap.size + 1 + 1) := (kq.block _ zl).trans Z
 have O := O.later kq
 have PZ_ := PZ_.later kq
 have V := V.later kq
 have M0 := M0.below kq (by have := B0.size; omega)
 have B1 := (B0.trans (kq.mono B0.size)).mono hbw
 obtain ⟨qn, hqn⟩ := mk_ y.heap.size
 rw [← hqn] at N zl ⊢
 clear hqn kq B0
 by_cases h7 : d.k = 7
 ·
  cases hu : m.m.up
  ·
   have O9 : BxO base (P10 u1 (w.heap.size + 1 + 1) x) (x) := O.keepZ Z (fun g_ hg_ => heap_put10 u1 (w.heap.size + 1 + 1) g_ x hg_)
   have B9 : Below base w (P10 u1 (w.heap.size + 1 + 1) x) := below_put10 (q := w.heap.size + 1 + 1) x B1 (by omega)
   have P9 := PZ_.keep (n := w.heap.size + 1 + 1) (by omega) (fun g_ hg_ => heap_put10 _ (w.heap.size + 1 + 1) g_ x hg_) (by simp)
   have ZB := Z.box
   clear O V M0 Z
   have cc := A
   obtain ⟨a0, a1, a2, a3, a4, a5, a6, a7, a8, a9⟩ := cc
   obtain ⟨r0, r1, r2, r3, r4, r5, r6, r7, r8, r9, g0, g1, g2, g3, g4, g5, g6, g7, g8, g9⟩ := zten ZB
   clear A
   have e0 := D.c0
   clear D
   obtain ⟨n0, n1, n2, n3, n4, n5, n6⟩ := N
   go_wp2
   refine bodyPost_ret (v := .tuple #[bvx x, .int .i64 3]) (by simp [bvx, results, Try.results61, go_sem, *]) rfl ⟨x, 3, rfl, by rw [hR.out]; unfold fallX; rw [hmo.out]; simp [h7, hu], O9, B9, P9⟩
  ·
   have cA := A.c5
   rw [hat.out] at cA
   have cD := D.c1
   rw [hk.out] at cD
   have e0 := D.c0
   have cc := N
   obtain ⟨n0, n1, n2, n3, n4, n5, n6⟩ := cc
   have cc := M0
   obtain ⟨v0, v1, v2, v3, v4, v5, v6⟩ := cc
   have ot := O.t
   rw [hat.out] at ot
   have f0 := ot.frozen (k * 7)
   have f1 := ot.frozen (k * 7 + 1)
   have f2 := ot.frozen (k * 7 + 2)
   have f3 := ot.frozen (k * 7 + 3)
   have f4 := ot.frozen (k * 7 + 4)
   have f5 := ot.frozen (k * 7 + 5)
   have f6 := ot.frozen (k * 7 + 6)
   clear ot
   go_upto_region 4 with fail
   clear cA cD e0 n0 n1 n2 n3 n4 n5 n6 v0 v1 v2 v3 v4 v5 v6 f0 f1 f2 f3 f4 f5 f6
   obtain ⟨u2, hu2⟩ := mk_ (((((((u1.setCell ⟨g, k * 7, none⟩ (.bool false)).setCell ⟨g, k * 7 + 1, none⟩ (.int .i64 m.m.li)).setCell ⟨g, k * 7 + 2, none⟩ (.int .i64 0)).setCell ⟨g, k * 7 + 3, none⟩ (.slice none 0 0)).setCell ⟨g, k * 7 + 4, none⟩ (.int .i64 0)).setCell ⟨g, k * 7 + 5, none⟩ (.int .i64 0)).setCell ⟨g, k * 7 + 6, none⟩ (.int .i64 0))
   have PZ_ := PZ_.row (W2 := u2) O.t (by decide) (ownB hat.out rfl) (fun k_ hk_ => by rw [hu2, Below.heap_setCell _ _ _ _ hk_, Below.heap_setCell _ _ _ _ hk_, Below.heap_setCell _ _ _ _ hk_, Below.heap_setCell _ _ _ _ hk_, Below.heap_setCell _ _ _ _ hk_, Below.heap_setCell _ _ _ _ hk_, Below.heap_setCell _ _ _ _ hk_]) (by rw [hu2]; simp)
   have O : BxO base u2 (x.setT k (⟨⟨false, m.m.li, 0, [], 0, 0, 0⟩, none, 0⟩ : MiD)) := by rw [hu2]; exact O.setT hat.out hkl (⟨⟨false, m.m.li, 0, [], 0, 0, 0⟩, none, 0⟩ : MiD) FOwn.nil (fun _ e => by cases e)
   have kp : ∀ k_, k_ ≠ g → u2.heap[k_]? = u1.heap[k_]? := fun k_ hk_ => by rw [hu2]; exact heap_putAll (mdEnc (⟨⟨false, m.m.li, 0, [], 0, 0, 0⟩, none, 0⟩ : MiD)) u1 (k * 7) k_ hk_
   have A := A.keep (kp _ (by omega))
   have D := D.keep (kp _ (by omega))
   have N := N.keep (kp _ (by omega))
   have Z : ZBx u2 (w.heap.size + 1 + 1) := (kp _ (by omega)).trans Z
   have B1 : Below base w u2 := by rw [hu2]; exact below_putAll gz (mdEnc (⟨⟨false, m.m.li, 0, [], 0, 0, 0⟩, none, 0⟩ : MiD)) (k * 7) B1
   rw [← hu2]
   clear hu2 kp
   have O9 : BxO base (P10 u2 (w.heap.size + 1 + 1) x) (x.setT k (⟨⟨false, m.m.li, 0, [], 0, 0, 0⟩, none, 0⟩ : MiD)) := O.keepZ Z (fun g_ hg_ => heap_put10 u2 (w.heap.size + 1 + 1) g_ x hg_)
   have B9 : Below base w (P10 u2 (w.heap.size + 1 + 1) x) := below_put10 (q := w.heap.size + 1 + 1) x B1 (by omega)
   have P9 := PZ_.keep (n := w.heap.size + 1 + 1) (by omega) (fun g_ hg_ => heap_put10 _ (w.heap.size + 1 + 1) g_ x hg_) (by simp)
   have ZB := Z.box
   clear O V M0 Z
   have cc := A
   obtain ⟨a0, a1, a2, a3, a4, a5, a6, a7, a8, a9⟩ := cc
   obtain ⟨r0, r1, r2, r3, r4, r5, r6, r7, r8, r9, g0, g1, g2, g3, g4, g5, g6, g7, g8, g9⟩ := zten ZB
   clear A
   have e0 := D.c0
   clear D
   obtain ⟨n0, n1, n2, n3, n4, n5, n6⟩ := N
   go_wp2
   refine bodyPost_ret (v := .tuple #[bvx x, .int .i64 0]) (by simp [bvx, results, Try.results61, go_sem, *]) rfl ⟨x.setT k (⟨⟨false, m.m.li, 0, [], 0, 0, 0⟩, none, 0⟩ : MiD), 0, by simp [BxD.setT], by rw [BxD.setT_p, hR.out]; unfold fallX; rw [hmo.out, hk.out]; simp [h7, hu], O9, B9, P9⟩
 ·
  by_cases h8 : d.k = 8
  ·
   cases hu : m.m.up
   ·
    have e0 := D.c0
    have cc := N
    obtain ⟨n0, n1, n2, n3, n4, n5, n6⟩ := cc
    go_upto_region 7 with fail
    clear e0 n0 n1 n2 n3 n4 n5 n6
    refine wp_region_held (S := fun Y => BxAt Y w.heap.size x ∧ DeAt Y (w.heap.size + 1) d) (by kernel_rfl) ?_
    change wpAnyH _ _ _ _ _ _ _ _ (World.drew _)
    have kd : Below u1.heap.size u1 u1.drew := (Below.refl _ _).drew
    obtain ⟨u3, hu3⟩ := mk_ u1.drew
    rw [← hu3] at kd ⊢
    clear hu3
    have sw : w.heap.size + 1 + 1 < u1.heap.size := zb_lt Z
    have A := A.below kd A.lt
    have D := D.below kd D.lt
    have N := N.below kd N.lt
    have M0 := M0.below kd (by have := B1.size; omega)
    have O := O.later kd
    have PZ_ := PZ_.later kd
    have Z : ZBx u3 (w.heap.size + 1 + 1) := (kd.block _ sw).trans Z
    have V := V.later kd
    have B1 : Below base w u3 := B1.trans (kd.mono (by omega))
    clear kd sw
    have hs : BxAt u3 w.heap.size x ∧ DeAt u3 (w.heap.size + 1) d := ⟨A, D⟩
    refine tw 0 58 (.pointer (some ⟨w.heap.size, 5, none⟩)) ?_
    refine tw 1 59 (.slice (some ⟨g, 0, none⟩) x.two.length x.cT) ?_ (hy := by intro Y hSw; obtain ⟨⟨X0, X1, X2, X3, X4, X5, X6, X7, X8, X9⟩, _⟩ := hSw; rw [hat.out] at X5; go_simp)
    refine tw 2 60 (.pointer (some ⟨w.heap.size + 1, 1, none⟩)) ?_
    refine tw 3 61 (.int .i64 (k : Int)) ?_ (hy := by intro Y hSw; have X1 := hSw.2.c1; rw [hk.out] at X1; go_simp)
    refine tw 4 62 (.agg #[.int .i64 x.id, .int .i64 x.po, .int .i64 x.rg.ep, .int .i64 x.rg.ow, .int .i64 x.rg.pa, .slice x.aT x.two.length x.cT, .slice x.aN x.net.length x.cN, .slice x.aG x.ga.length x.cG, .slice x.aL x.ln.length x.cL, .slice x.aS x.sd.length x.cS]) ?_ (hy := by intro Y hSw; obtain ⟨⟨X0, X1, X2, X3, X4, X5, X6, X7, X8, X9⟩, _⟩ := hSw; go_simp)
    refine w1 5 fun Kz hKz => ?_
    go_simp
    go_at_call 72
    refine (riseS x u3 V h2.out b0 b1).mono ?_
    rintro e u4 ⟨rfl, kq⟩
    have sw : w.heap.size + 1 + 1 < u3.heap.size := zb_lt Z
    have A := A.below kq A.lt
    have D := D.below kq D.lt
    have N := N.below kq N.lt
    have M0 := M0.below kq (by have := B1.size; omega)
    have O := O.later kq
    have PZ_ := PZ_.later kq
    have Z : ZBx u4 (w.heap.size + 1 + 1) := (kq.block _ sw).trans Z
    have V := V.later kq
    have B1 : Below base w u4 := B1.trans (kq.mono (by omega))
    clear kq sw
    have hs : BxAt u4 w.heap.size x ∧ DeAt u4 (w.heap.size + 1) d := ⟨A, D⟩
    obtain ⟨t, ht⟩ : ∃ t : Int, t = max (x.two.getD 0 MiD.nil).m.li (x.two.getD 1 MiD.nil).m.li + 1 := ⟨_, rfl⟩
    rw [← ht]
    replace ht : Hid _ := ht
    refine hKz _ _ ⟨hs, ?_⟩
    clear hKz Kz
    refine tw 6 64 (.pointer (some ⟨g, k * 7, none⟩)) ?_ (hy := by intro Y hSw; go_simp; try omega)
    refine w1 7 fun Kz hKz => ?_
    have cc := M0
    obtain ⟨v0, v1, v2, v3, v4, v5, v6⟩ := cc
    have ot := O.t
    rw [hat.out] at ot
    have f0 := ot.frozen (k * 7)
    have f1 := ot.frozen (k * 7 + 1)
    have f2 := ot.frozen (k * 7 + 2)
    have f3 := ot.frozen (k * 7 + 3)
    have f4 := ot.frozen (k * 7 + 4)
    have f5 := ot.frozen (k * 7 + 5)
    have f6 := ot.frozen (k * 7 + 6)
    clear ot
    go_simp
    clear v0 v1 v2 v3 v4 v5 v6 f0 f1 f2 f3 f4 f5 f6
    obtain ⟨u5, hu5⟩ := mk_ (((((((u4.setCell ⟨g, k * 7, none⟩ (.bool true)).setCell ⟨g, k * 7 + 1, none⟩ (.int .i64 t)).setCell ⟨g, k * 7 + 2, none⟩ (.int .i64 0)).setCell ⟨g, k * 7 + 3, none⟩ (.slice none 0 0)).setCell ⟨g, k * 7 + 4, none⟩ (.int .i64 0)).setCell ⟨g, k * 7 + 5, none⟩ (.int .i64 0)).setCell ⟨g, k * 7 + 6, none⟩ (.int .i64 0))
    have PZ_ := PZ_.row (W2 := u5) O.t (by decide) (ownB hat.out rfl) (fun k_ hk_ => by rw [hu5, Below.heap_setCell _ _ _ _ hk_, Below.heap_setCell _ _ _ _ hk_, Below.heap_setCell _ _ _ _ hk_, Below.heap_setCell _ _ _ _ hk_, Below.heap_setCell _ _ _ _ hk_, Below.heap_setCell _ _ _ _ hk_, Below.heap_setCell _ _ _ _ hk_]) (by rw [hu5]; simp)
    have O : BxO base u5 (x.setT k (⟨⟨true, t, 0, [], 0, 0, 0⟩, none, 0⟩ : MiD)) := by rw [hu5]; exact O.setT hat.out hkl (⟨⟨true, t, 0, [], 0, 0, 0⟩, none, 0⟩ : MiD) FOwn.nil (fun _ e => by cases e)
    have kp : ∀ k_, k_ ≠ g → u5.heap[k_]? = u4.heap[k_]? := fun k_ hk_ => by rw [hu5]; exact heap_putAll (mdEnc (⟨⟨true, t, 0, [], 0, 0, 0⟩, none, 0⟩ : MiD)) u4 (k * 7) k_ hk_
    have A := A.keep (kp _ (by omega))
    have D := D.keep (kp _ (by omega))
    have N := N.keep (kp _ (by omega))
    have Z : ZBx u5 (w.heap.size + 1 + 1) := (kp _ (by omega)).trans Z
    have B1 : Below base w u5 := by rw [hu5]; exact below_putAll gz (mdEnc (⟨⟨true, t, 0, [], 0, 0, 0⟩, none, 0⟩ : MiD)) (k * 7) B1
    have hs : BxAt u5 w.heap.size x ∧ DeAt u5 (w.heap.size + 1) d := ⟨A, D⟩
    rw [← hu5]
    clear hu5 kp
    refine hKz _ _ ⟨hs, ?_⟩
    clear hKz Kz
    refine wpAnyH_done (by kernel_rfl) ?_ _
    clear hs
    have O9 : BxO base (P10 u5 (w.heap.size + 1 + 1) x) (x.setT k (⟨⟨true, t, 0, [], 0, 0, 0⟩, none, 0⟩ : MiD)) := O.keepZ Z (fun g_ hg_ => heap_put10 u5 (w.heap.size + 1 + 1) g_ x hg_)
    have B9 : Below base w (P10 u5 (w.heap.size + 1 + 1) x) := below_put10 (q := w.heap.size + 1 + 1) x B1 (by omega)
    have P9 := PZ_.keep (n := w.heap.size + 1 + 1) (by omega) (fun g_ hg_ => heap_put10 _ (w.heap.size + 1 + 1) g_ x hg_) (by simp)
    have ZB := Z.box
    clear O V M0 Z
    have cc := A
    obtain ⟨a0, a1, a2, a3, a4, a5, a6, a7, a8, a9⟩ := cc
    obtain ⟨r0, r1, r2, r3, r4, r5, r6, r7, r8, r9, g0, g1, g2, g3, g4, g5, g6, g7, g8, g9⟩ := zten ZB
    clear A
    have e0 := D.c0
    clear D
    obtain ⟨n0, n1, n2, n3, n4, n5, n6⟩ := N
    go_wp2
    refine bodyPost_ret (v := .tuple #[bvx x, .int .i64 0]) (by simp [bvx, results, Try.results61, go_sem, *]) rfl ⟨x.setT k (⟨⟨true, t, 0, [], 0, 0, 0⟩, none, 0⟩ : MiD), 0, by simp [BxD.setT], by rw [BxD.setT_p, hR.out]; unfold fallX; rw [hmo.out, hk.out, if_neg (by simp [h8, hu]), if_pos (by simp [h8, hu])]; unfold riseM; rw [mOf_p, mOf_p]; rw [ht.out]; rfl, O9, B9, P9⟩
   ·
    have O9 : BxO base (P10 u1 (w.heap.size + 1 + 1) x) (x) := O.keepZ Z (fun g_ hg_ => heap_put10 u1 (w.heap.size + 1 + 1) g_ x hg_)
    have B9 : Below base w (P10 u1 (w.heap.size + 1 + 1) x) := below_put10 (q := w.heap.size + 1 + 1) x B1 (by omega)
    have P9 := PZ_.keep (n := w.heap.size + 1 + 1) (by omega) (fun g_ hg_ => heap_put10 _ (w.heap.size + 1 + 1) g_ x hg_) (by simp)
    have ZB := Z.box
    clear O V M0 Z
    have cc := A
    obtain ⟨a0, a1, a2, a3, a4, a5, a6, a7, a8, a9⟩ := cc
    obtain ⟨r0, r1, r2, r3, r4, r5, r6, r7, r8, r9, g0, g1, g2, g3, g4, g5, g6, g7, g8, g9⟩ := zten ZB
    clear A
    have e0 := D.c0
    clear D
    obtain ⟨n0, n1, n2, n3, n4, n5, n6⟩ := N
    go_wp2
    refine bodyPost_ret (v := .tuple #[bvx x, .int .i64 3]) (by simp [bvx, results, Try.results61, go_sem, *]) rfl ⟨x, 3, rfl, by rw [hR.out]; unfold fallX; rw [hmo.out]; simp [h8, hu], O9, B9, P9⟩
  ·
   by_cases h12 : d.k = 12
   ·
    cases hu : m.m.up
    ·
     have O9 : BxO base (P10 u1 (w.heap.size + 1 + 1) x) (x) := O.keepZ Z (fun g_ hg_ => heap_put10 u1 (w.heap.size + 1 + 1) g_ x hg_)
     have B9 : Below base w (P10 u1 (w.heap.size + 1 + 1) x) := below_put10 (q := w.heap.size + 1 + 1) x B1 (by omega)
     have P9 := PZ_.keep (n := w.heap.size + 1 + 1) (by omega) (fun g_ hg_ => heap_put10 _ (w.heap.size + 1 + 1) g_ x hg_) (by simp)
     have ZB := Z.box
     clear O V M0 Z
     have cc := A
     obtain ⟨a0, a1, a2, a3, a4, a5, a6, a7, a8, a9⟩ := cc
     obtain ⟨r0, r1, r2, r3, r4, r5, r6, r7, r8, r9, g0, g1, g2, g3, g4, g5, g6, g7, g8, g9⟩ := zten ZB
     clear A
     have e0 := D.c0
     clear D
     obtain ⟨n0, n1, n2, n3, n4, n5, n6⟩ := N
     go_wp2
     refine bodyPost_ret (v := .tuple #[bvx x, .int .i64 3]) (by simp [bvx, results, Try.results61, go_sem, *]) rfl ⟨x, 3, rfl, by rw [hR.out]; unfold fallX; rw [hmo.out]; simp [h12, hu], O9, B9, P9⟩
    ·
     by_cases he : 0 < m.m.ep
     ·
      have e0 := D.c0
      have e1 := D.c1
      have cc := N
      obtain ⟨n0, n1, n2, n3, n4, n5, n6⟩ := cc
      have cc := A
      obtain ⟨a0, a1, a2, a3, a4, a5, a6, a7, a8, a9⟩ := cc
      go_wp2_with fail
      go_at_call 71
      clear e0 e1 n0 n1 n2 n3 n4 n5 n6 a0 a1 a2 a3 a4 a5 a6 a7 a8 a9
      refine (mindsXS x d.a u1 V).mono ?_
      rintro e u2 ⟨rfl, kq⟩
      have sw : w.heap.size + 1 + 1 < u1.heap.size := zb_lt Z
      have A := A.below kq A.lt
      have D := D.below kq D.lt
      have N := N.below kq N.lt
      have M0 := M0.below kq (by have := B1.size; omega)
      have O := O.later kq
      have PZ_ := PZ_.later kq
      have Z : ZBx u2 (w.heap.size + 1 + 1) := (kq.block _ sw).trans Z
      have V := V.later kq
      have B1 : Below base w u2 := B1.trans (kq.mono (by omega))
      clear kq sw
      cases hM : mindsX x.p d.a
      ·
       replace hM : Hid _ := hM
       go_upto_region 7 with fail
       refine wp_region_held (S := fun Y => BxAt Y w.heap.size x ∧ DeAt Y (w.heap.size + 1) d) (by kernel_rfl) ?_
       change wpAnyH _ _ _ _ _ _ _ _ (World.drew _)
       have kd : Below u2.heap.size u2 u2.drew := (Below.refl _ _).drew
       obtain ⟨u3, hu3⟩ := mk_ u2.drew
       rw [← hu3] at kd ⊢
       clear hu3
       have sw : w.heap.size + 1 + 1 < u2.heap.size := zb_lt Z
       have A := A.below kd A.lt
       have D := D.below kd D.lt
       have N := N.below kd N.lt
       have M0 := M0.below kd (by have := B1.size; omega)
       have O := O.later kd
       have PZ_ := PZ_.later kd
       have Z : ZBx u3 (w.heap.size + 1 + 1) := (kd.block _ sw).trans Z
       have V := V.later kd
       have B1 : Below base w u3 := B1.trans (kd.mono (by omega))
       clear kd sw
       have hs : BxAt u3 w.heap.size x ∧ DeAt u3 (w.heap.size + 1) d := ⟨A, D⟩
       refine tw 0 58 (.pointer (some ⟨w.heap.size, 5, none⟩)) ?_
       refine tw 1 59 (.slice (some ⟨g, 0, none⟩) x.two.length x.cT) ?_ (hy := by intro Y hSw; obtain ⟨⟨X0, X1, X2, X3, X4, X5, X6, X7, X8, X9⟩, _⟩ := hSw; rw [hat.out] at X5; go_simp)
       refine tw 2 60 (.pointer (some ⟨w.heap.size + 1, 1, none⟩)) ?_
       refine tw 3 61 (.int .i64 (k : Int)) ?_ (hy := by intro Y hSw; have X1 := hSw.2.c1; rw [hk.out] at X1; go_simp)
       refine tw 4 62 (.agg #[.int .i64 x.id, .int .i64 x.po, .int .i64 x.rg.ep, .int .i64 x.rg.ow, .int .i64 x.rg.pa, .slice x.aT x.two.length x.cT, .slice x.aN x.net.length x.cN, .slice x.aG x.ga.length x.cG, .slice x.aL x.ln.length x.cL, .slice x.aS x.sd.length x.cS]) ?_ (hy := by intro Y hSw; obtain ⟨⟨X0, X1, X2, X3, X4, X5, X6, X7, X8, X9⟩, _⟩ := hSw; go_simp)
       refine w1 5 fun Kz hKz => ?_
       go_simp
       go_at_call 72
       refine (riseS x u3 V h2.out b0 b1).mono ?_
       rintro e u4 ⟨rfl, kq⟩
       have sw : w.heap.size + 1 + 1 < u3.heap.size := zb_lt Z
       have A := A.below kq A.lt
       have D := D.below kq D.lt
       have N := N.below kq N.lt
       have M0 := M0.below kq (by have := B1.size; omega)
       have O := O.later kq
       have PZ_ := PZ_.later kq
       have Z : ZBx u4 (w.heap.size + 1 + 1) := (kq.block _ sw).trans Z
       have V := V.later kq
       have B1 : Below base w u4 := B1.trans (kq.mono (by omega))
       clear kq sw
       have hs : BxAt u4 w.heap.size x ∧ DeAt u4 (w.heap.size + 1) d := ⟨A, D⟩
       obtain ⟨t, ht⟩ : ∃ t : Int, t = max (x.two.getD 0 MiD.nil).m.li (x.two.getD 1 MiD.nil).m.li + 1 := ⟨_, rfl⟩
       rw [← ht]
       replace ht : Hid _ := ht
       refine hKz _ _ ⟨hs, ?_⟩
       clear hKz Kz
       refine tw 6 64 (.pointer (some ⟨g, k * 7, none⟩)) ?_ (hy := by intro Y hSw; go_simp; try omega)
       refine w1 7 fun Kz hKz => ?_
       have cc := M0
       obtain ⟨v0, v1, v2, v3, v4, v5, v6⟩ := cc
       have ot := O.t
       rw [hat.out] at ot
       have f0 := ot.frozen (k * 7)
       have f1 := ot.frozen (k * 7 + 1)
       have f2 := ot.frozen (k * 7 + 2)
       have f3 := ot.frozen (k * 7 + 3)
       have f4 := ot.frozen (k * 7 + 4)
       have f5 := ot.frozen (k * 7 + 5)
       have f6 := ot.frozen (k * 7 + 6)
       clear ot
       go_simp
       clear v0 v1 v2 v3 v4 v5 v6 f0 f1 f2 f3 f4 f5 f6
       obtain ⟨u5, hu5⟩ := mk_ (((((((u4.setCell ⟨g, k * 7, none⟩ (.bool true)).setCell ⟨g, k * 7 + 1, none⟩ (.int .i64 t)).setCell ⟨g, k * 7 + 2, none⟩ (.int .i64 0)).setCell ⟨g, k * 7 + 3, none⟩ (.slice none 0 0)).setCell ⟨g, k * 7 + 4, none⟩ (.int .i64 0)).setCell ⟨g, k * 7 + 5, none⟩ (.int .i64 0)).setCell ⟨g, k * 7 + 6, none⟩ (.int .i64 0))
       have PZ_ := PZ_.row (W2 := u5) O.t (by decide) (ownB hat.out rfl) (fun k_ hk_ => by rw [hu5, Below.heap_setCell _ _ _ _ hk_, Below.heap_setCell _ _ _ _ hk_, Below.heap_setCell _ _ _ _ hk_, Below.heap_setCell _ _ _ _ hk_, Below.heap_setCell _ _ _ _ hk_, Below.heap_setCell _ _ _ _ hk_, Below.heap_setCell _ _ _ _ hk_]) (by rw [hu5]; simp)
       have O : BxO base u5 (x.setT k (⟨⟨true, t, 0, [], 0, 0, 0⟩, none, 0⟩ : MiD)) := by rw [hu5]; exact O.setT hat.out hkl (⟨⟨true, t, 0, [], 0, 0, 0⟩, none, 0⟩ : MiD) FOwn.nil (fun _ e => by cases e)
       have kp : ∀ k_, k_ ≠ g → u5.heap[k_]? = u4.heap[k_]? := fun k_ hk_ => by rw [hu5]; exact heap_putAll (mdEnc (⟨⟨true, t, 0, [], 0, 0, 0⟩, none, 0⟩ : MiD)) u4 (k * 7) k_ hk_
       have A := A.keep (kp _ (by omega))
       have D := D.keep (kp _ (by omega))
       have N := N.keep (kp _ (by omega))
       have Z : ZBx u5 (w.heap.size + 1 + 1) := (kp _ (by omega)).trans Z
       have B1 : Below base w u5 := by rw [hu5]; exact below_putAll gz (mdEnc (⟨⟨true, t, 0, [], 0, 0, 0⟩, none, 0⟩ : MiD)) (k * 7) B1
       have hs : BxAt u5 w.heap.size x ∧ DeAt u5 (w.heap.size + 1) d := ⟨A, D⟩
       rw [← hu5]
       clear hu5 kp
       refine hKz _ _ ⟨hs, ?_⟩
       clear hKz Kz
       refine wpAnyH_done (by kernel_rfl) ?_ _
       clear hs
       have O9 : BxO base (P10 u5 (w.heap.size + 1 + 1) x) (x.setT k (⟨⟨true, t, 0, [], 0, 0, 0⟩, none, 0⟩ : MiD)) := O.keepZ Z (fun g_ hg_ => heap_put10 u5 (w.heap.size + 1 + 1) g_ x hg_)
       have B9 : Below base w (P10 u5 (w.heap.size + 1 + 1) x) := below_put10 (q := w.heap.size + 1 + 1) x B1 (by omega)
       have P9 := PZ_.keep (n := w.heap.size + 1 + 1) (by omega) (fun g_ hg_ => heap_put10 _ (w.heap.size + 1 + 1) g_ x hg_) (by simp)
       have ZB := Z.box
       clear O V M0 Z
       have cc := A
       obtain ⟨a0, a1, a2, a3, a4, a5, a6, a7, a8, a9⟩ := cc
       obtain ⟨r0, r1, r2, r3, r4, r5, r6, r7, r8, r9, g0, g1, g2, g3, g4, g5, g6, g7, g8, g9⟩ := zten ZB
       clear A
       have e0 := D.c0
       clear D
       obtain ⟨n0, n1, n2, n3, n4, n5, n6⟩ := N
       go_wp2
       refine bodyPost_ret (v := .tuple #[bvx x, .int .i64 0]) (by simp [bvx, results, Try.results61, go_sem, *]) rfl ⟨x.setT k (⟨⟨true, t, 0, [], 0, 0, 0⟩, none, 0⟩ : MiD), 0, by simp [BxD.setT], by rw [BxD.setT_p, hR.out]; unfold fallX; rw [hmo.out, hk.out, if_neg (by simp [h7, h12, hu, he, hk.out ▸ hM.out]), if_pos (by simp [h7, h12, hu, he, hk.out ▸ hM.out])]; unfold riseM; rw [mOf_p, mOf_p]; rw [ht.out]; rfl, O9, B9, P9⟩
      ·
       have O9 : BxO base (P10 u2 (w.heap.size + 1 + 1) x) (x) := O.keepZ Z (fun g_ hg_ => heap_put10 u2 (w.heap.size + 1 + 1) g_ x hg_)
       have B9 : Below base w (P10 u2 (w.heap.size + 1 + 1) x) := below_put10 (q := w.heap.size + 1 + 1) x B1 (by omega)
       have P9 := PZ_.keep (n := w.heap.size + 1 + 1) (by omega) (fun g_ hg_ => heap_put10 _ (w.heap.size + 1 + 1) g_ x hg_) (by simp)
       have ZB := Z.box
       clear O V M0 Z
       have cc := A
       obtain ⟨a0, a1, a2, a3, a4, a5, a6, a7, a8, a9⟩ := cc
       obtain ⟨r0, r1, r2, r3, r4, r5, r6, r7, r8, r9, g0, g1, g2, g3, g4, g5, g6, g7, g8, g9⟩ := zten ZB
       clear A
       have e0 := D.c0
       clear D
       obtain ⟨n0, n1, n2, n3, n4, n5, n6⟩ := N
       go_wp2
       refine bodyPost_ret (v := .tuple #[bvx x, .int .i64 3]) (by simp [bvx, results, Try.results61, go_sem, *]) rfl ⟨x, 3, rfl, by rw [hR.out]; unfold fallX; rw [hmo.out]; simp [h7, h12, hu, he, hM], O9, B9, P9⟩
     ·
      have O9 : BxO base (P10 u1 (w.heap.size + 1 + 1) x) (x) := O.keepZ Z (fun g_ hg_ => heap_put10 u1 (w.heap.size + 1 + 1) g_ x hg_)
      have B9 : Below base w (P10 u1 (w.heap.size + 1 + 1) x) := below_put10 (q := w.heap.size + 1 + 1) x B1 (by omega)
      have P9 := PZ_.keep (n := w.heap.size + 1 + 1) (by omega) (fun g_ hg_ => heap_put10 _ (w.heap.size + 1 + 1) g_ x hg_) (by simp)
      have ZB := Z.box
      clear O V M0 Z
      have cc := A
      obtain ⟨a0, a1, a2, a3, a4, a5, a6, a7, a8, a9⟩ := cc
      obtain ⟨r0, r1, r2, r3, r4, r5, r6, r7, r8, r9, g0, g1, g2, g3, g4, g5, g6, g7, g8, g9⟩ := zten ZB
      clear A
      have e0 := D.c0
      clear D
      obtain ⟨n0, n1, n2, n3, n4, n5, n6⟩ := N
      go_wp2
      refine bodyPost_ret (v := .tuple #[bvx x, .int .i64 3]) (by simp [bvx, results, Try.results61, go_sem, *]) rfl ⟨x, 3, rfl, by rw [hR.out]; unfold fallX; rw [hmo.out]; simp [h12, hu]; exact fun h => absurd h (by omega), O9, B9, P9⟩
   ·
    have O9 : BxO base (P10 u1 (w.heap.size + 1 + 1) x) (x) := O.keepZ Z (fun g_ hg_ => heap_put10 u1 (w.heap.size + 1 + 1) g_ x hg_)
    have B9 : Below base w (P10 u1 (w.heap.size + 1 + 1) x) := below_put10 (q := w.heap.size + 1 + 1) x B1 (by omega)
    have P9 := PZ_.keep (n := w.heap.size + 1 + 1) (by omega) (fun g_ hg_ => heap_put10 _ (w.heap.size + 1 + 1) g_ x hg_) (by simp)
    have ZB := Z.box
    clear O V M0 Z
    have cc := A
    obtain ⟨a0, a1, a2, a3, a4, a5, a6, a7, a8, a9⟩ := cc
    obtain ⟨r0, r1, r2, r3, r4, r5, r6, r7, r8, r9, g0, g1, g2, g3, g4, g5, g6, g7, g8, g9⟩ := zten ZB
    clear A
    have e0 := D.c0
    clear D
    obtain ⟨n0, n1, n2, n3, n4, n5, n6⟩ := N
    go_wp2
    refine bodyPost_ret (v := .tuple #[bvx x, .int .i64 3]) (by simp [bvx, results, Try.results61, go_sem, *]) rfl ⟨x, 3, rfl, by rw [hR.out]; unfold fallX; rw [hmo.out]; simp [h7, h8, h12], O9, B9, P9⟩
end Go.Proofs.Ytnpiljegdiconaa
