import Derived.Test.YtnpiljegdiconaaQM11
namespace Go.Proofs.Ytnpiljegdiconaa
open Go.ChangeShapes Go.WideShapes Go.ChangeAt Go.RowKit
open Go.ChangeMaps (open_string shut_string)
set_option linter.unusedVariables false
set_option maxRecDepth 100000
def takeR (r : Rg) (s : Int) (m : Mi) : Rg := if takeB r s m then takeN r s else r
def takeMm (r : Rg) (s : Int) (m : Mi) : Mi := if takeB r s m then takeM r m else m
theorem MiBox.take {w : World} {q : Nat} {m : Mi} {v : Value} (h : MiBox w q m v) (r : Rg) : MiBox (((w.setCell ⟨q, 2, none⟩ (.int .i64 (r.ep + 1))).setCell ⟨q, 5, none⟩ (.int .i64 0)).setCell ⟨q, 6, none⟩ (.int .i64 0)) q (takeM r m) v := by
 obtain ⟨h0, h1, h2, h3, h4, h5, h6, hf⟩ := h
 have h0 : (w.setCell ⟨q, 2, none⟩ (.int .i64 (r.ep + 1))).cell? ⟨q, 0, none⟩ = _ := (pset_else (by decide)).trans h0
 have h1 : (w.setCell ⟨q, 2, none⟩ (.int .i64 (r.ep + 1))).cell? ⟨q, 1, none⟩ = _ := (pset_else (by decide)).trans h1
 have h2 : (w.setCell ⟨q, 2, none⟩ (.int .i64 (r.ep + 1))).cell? ⟨q, 2, none⟩ = some (.int .i64 (r.ep + 1)) := pset_same h2
 have h3 : (w.setCell ⟨q, 2, none⟩ (.int .i64 (r.ep + 1))).cell? ⟨q, 3, none⟩ = _ := (pset_else (by decide)).trans h3
 have h4 : (w.setCell ⟨q, 2, none⟩ (.int .i64 (r.ep + 1))).cell? ⟨q, 4, none⟩ = _ := (pset_else (by decide)).trans h4
 have h5 : (w.setCell ⟨q, 2, none⟩ (.int .i64 (r.ep + 1))).cell? ⟨q, 5, none⟩ = _ := (pset_else (by decide)).trans h5
 have h6 : (w.setCell ⟨q, 2, none⟩ (.int .i64 (r.ep + 1))).cell? ⟨q, 6, none⟩ = _ := (pset_else (by decide)).trans h6
 have h0 : ((w.setCell ⟨q, 2, none⟩ (.int .i64 (r.ep + 1))).setCell ⟨q, 5, none⟩ (.int .i64 0)).cell? ⟨q, 0, none⟩ = _ := (pset_else (by decide)).trans h0
 have h1 : ((w.setCell ⟨q, 2, none⟩ (.int .i64 (r.ep + 1))).setCell ⟨q, 5, none⟩ (.int .i64 0)).cell? ⟨q, 1, none⟩ = _ := (pset_else (by decide)).trans h1
 have h2 : ((w.setCell ⟨q, 2, none⟩ (.int .i64 (r.ep + 1))).setCell ⟨q, 5, none⟩ (.int .i64 0)).cell? ⟨q, 2, none⟩ = _ := (pset_else (by decide)).trans h2
 have h3 : ((w.setCell ⟨q, 2, none⟩ (.int .i64 (r.ep + 1))).setCell ⟨q, 5, none⟩ (.int .i64 0)).cell? ⟨q, 3, none⟩ = _ := (pset_else (by decide)).trans h3
 have h4 : ((w.setCell ⟨q, 2, none⟩ (.int .i64 (r.ep + 1))).setCell ⟨q, 5, none⟩ (.int .i64 0)).cell? ⟨q, 4, none⟩ = _ := (pset_else (by decide)).trans h4
 have h5 : ((w.setCell ⟨q, 2, none⟩ (.int .i64 (r.ep + 1))).setCell ⟨q, 5, none⟩ (.int .i64 0)).cell? ⟨q, 5, none⟩ = some (.int .i64 0) := pset_same h5
 have h6 : ((w.setCell ⟨q, 2, none⟩ (.int .i64 (r.ep + 1))).setCell ⟨q, 5, none⟩ (.int .i64 0)).cell? ⟨q, 6, none⟩ = _ := (pset_else (by decide)).trans h6
 have h0 : (((w.setCell ⟨q, 2, none⟩ (.int .i64 (r.ep + 1))).setCell ⟨q, 5, none⟩ (.int .i64 0)).setCell ⟨q, 6, none⟩ (.int .i64 0)).cell? ⟨q, 0, none⟩ = _ := (pset_else (by decide)).trans h0
 have h1 : (((w.setCell ⟨q, 2, none⟩ (.int .i64 (r.ep + 1))).setCell ⟨q, 5, none⟩ (.int .i64 0)).setCell ⟨q, 6, none⟩ (.int .i64 0)).cell? ⟨q, 1, none⟩ = _ := (pset_else (by decide)).trans h1
 have h2 : (((w.setCell ⟨q, 2, none⟩ (.int .i64 (r.ep + 1))).setCell ⟨q, 5, none⟩ (.int .i64 0)).setCell ⟨q, 6, none⟩ (.int .i64 0)).cell? ⟨q, 2, none⟩ = _ := (pset_else (by decide)).trans h2
 have h3 : (((w.setCell ⟨q, 2, none⟩ (.int .i64 (r.ep + 1))).setCell ⟨q, 5, none⟩ (.int .i64 0)).setCell ⟨q, 6, none⟩ (.int .i64 0)).cell? ⟨q, 3, none⟩ = _ := (pset_else (by decide)).trans h3
 have h4 : (((w.setCell ⟨q, 2, none⟩ (.int .i64 (r.ep + 1))).setCell ⟨q, 5, none⟩ (.int .i64 0)).setCell ⟨q, 6, none⟩ (.int .i64 0)).cell? ⟨q, 4, none⟩ = _ := (pset_else (by decide)).trans h4
 have h5 : (((w.setCell ⟨q, 2, none⟩ (.int .i64 (r.ep + 1))).setCell ⟨q, 5, none⟩ (.int .i64 0)).setCell ⟨q, 6, none⟩ (.int .i64 0)).cell? ⟨q, 5, none⟩ = _ := (pset_else (by decide)).trans h5
 have h6 : (((w.setCell ⟨q, 2, none⟩ (.int .i64 (r.ep + 1))).setCell ⟨q, 5, none⟩ (.int .i64 0)).setCell ⟨q, 6, none⟩ (.int .i64 0)).cell? ⟨q, 6, none⟩ = some (.int .i64 0) := pset_same h6
 refine ⟨h0, h1, h2, h3, h4, h5, h6, fun i => ?_⟩
 rw [World.frozen?_setCell, World.frozen?_setCell, World.frozen?_setCell]
 exact hf i
set_option maxHeartbeats 8000000 in
theorem takeSp (r : Rg) (s : Int) (m : Mi) (ad : Option Addr) (cap : Nat) (w : World) (hv : FView ikEnc w ad m.lg) (hl : m.lg.length ≤ 1048577) (hn : ad = none → cap = 0) :
  Calls Try.prog 73 #[.agg #[.int .i64 r.ep, .int .i64 r.ow, .int .i64 r.pa], .int .i64 s, .agg #[.bool m.up, .int .i64 m.li, .int .i64 m.ep, .slice ad m.lg.length cap, .int .i64 m.sd, .int .i64 m.ac, .int .i64 m.al]] w fun e w' => ∃ a c, e = .returned (.tuple #[.agg #[.int .i64 (takeR r s m).ep, .int .i64 (takeR r s m).ow, .int .i64 (takeR r s m).pa], .agg #[.bool (takeMm r s m).up, .int .i64 (takeMm r s m).li, .int .i64 (takeMm r s m).ep, .slice a m.lg.length c, .int .i64 (takeMm r s m).sd, .int .i64 (takeMm r s m).ac, .int .i64 (takeMm r s m).al], .bool (takeB r s m)]) ∧ FOwn ikEnc 8 30 w.heap.size w' (.slice a m.lg.length c) m.lg ∧ Below w.heap.size w w' := by
 have hB := hv.lt ikEnc_len (by omega)
 obtain ⟨y, hy⟩ := mk_ ((((w.alloc (Obj.cells #[.int .i64 r.ep, .int .i64 r.ow, .int .i64 r.pa] 73)).alloc (Obj.cells #[.bool m.up, .int .i64 m.li, .int .i64 m.ep, .slice ad m.lg.length cap, .int .i64 m.sd, .int .i64 m.ac, .int .i64 m.al] 26)).alloc (Obj.cells #[.int .i64 0, .int .i64 0, .int .i64 0] 73)).alloc (Obj.cells #[.bool false, .int .i64 0, .int .i64 0, .slice none 0 0, .int .i64 0, .int .i64 0, .int .i64 0] 26))
 have B0 : Below w.heap.size w y := by rw [hy]; exact ((((Below.refl _ _).alloc (Nat.le_refl _) _).alloc (by simp) _).alloc (by simp; omega) _).alloc (by simp; omega) _
 have A : RgBox y w.heap.size r := by rw [hy]; refine ⟨?_, fun i => ?_⟩; constructor <;> simp [go_sem]; simp [go_sem]
 have M : MiAt y (w.heap.size + 1) m (.slice ad m.lg.length cap) := by rw [hy]; constructor <;> simp [go_sem]
 have Z2 : RgBox y (w.heap.size + 1 + 1) ⟨0, 0, 0⟩ := by rw [hy]; refine ⟨?_, fun i => ?_⟩; constructor <;> simp [go_sem]; simp [go_sem]
 have Z3 : MiBox y (w.heap.size + 1 + 1 + 1) ⟨false, 0, 0, [], 0, 0, 0⟩ (.slice none 0 0) := by rw [hy]; constructor <;> simp [go_sem]
 have S0 := Z3.lt
 have hv1 := hv.below B0 hB
 have HV : ∀ a, ad = some a → 0 < m.lg.length → a.block < y.heap.size := hv1.lt ikEnc_len (by omega)
 clear hv hB
 go_enter Try.func73, Try.ntmps73
 have cc := M
 obtain ⟨x0, x1, x2, x3, x4, x5, x6⟩ := cc
 go_wp2_with fail
 go_at_call 21
 rw [← hy]
 clear hy x0 x1 x2 x3 x4 x5 x6
 refine (miCop m ad cap y hv1 hl hn).mono ?_
 rintro e u1 ⟨a1, c1, rfl, O1, k1⟩
 have B1 := B0.trans (k1.mono B0.size)
 have A := A.below k1 A.lt
 have M := M.below k1 M.lt
 have Z2 := Z2.below k1 Z2.lt
 have Z3 := Z3.below k1 Z3.lt
 have hv1 := hv1.below k1 (hv1.lt ikEnc_len (by omega))
 have s1 := k1.size
 have lo1 := O1.lt
 clear k1 B0
 obtain ⟨u2, hu2⟩ := mk_ (u1.alloc (Obj.cells #[.bool m.up, .int .i64 m.li, .int .i64 m.ep, .slice a1 m.lg.length c1, .int .i64 m.sd, .int .i64 m.ac, .int .i64 m.al] 26))
 have k2 : Below u1.heap.size u1 u2 := by rw [hu2]; exact below_new _
 have N : MiBox u2 u1.heap.size m (.slice a1 m.lg.length c1) := by rw [hu2]; exact MiBox.new u1 _ _ _
 have B2 := B1.trans (k2.mono B1.size)
 have A := A.below k2 A.lt
 have M := M.below k2 M.lt
 have Z2 := Z2.below k2 Z2.lt
 have Z3 := Z3.below k2 Z3.lt
 have O1 := O1.later k2
 have hv1 := hv1.below k2 (hv1.lt ikEnc_len (by omega))
 have s2 := N.lt
 go_upto_region 2 with fail
 rw [← hu2]
 clear hu2 k2 B1
 obtain ⟨q, hq⟩ := mk_ u1.heap.size
 rw [← hq] at N s1 s2 lo1 ⊢
 clear hq
 have cc := A
 obtain ⟨⟨x0, x1, x2⟩, xf⟩ := cc
 go_wp2_with fail
 go_at_call 63
 clear x0 x1 x2 xf
 refine (regOkS r u2).mono ?_
 rintro e u3 ⟨rfl, k3⟩
 have A := A.below k3 A.lt
 have M := M.below k3 M.lt
 have Z2 := Z2.below k3 Z2.lt
 have Z3 := Z3.below k3 Z3.lt
 have N := N.below k3 N.lt
 have O1 := O1.later k3
 have hv1 := hv1.below k3 (hv1.lt ikEnc_len (by omega))
 have B3 := B2.trans (k3.mono B2.size)
 have s3 := k3.size
 clear k3 B2
 cases h1 : rgOk r
 ·
  have hT : Hid (takeB r s m = false) := by unfold Hid takeB; rw [show takeG r s m = false by unfold takeG; rw [h1]; rfl]; rfl
  have hTR : Hid (takeR r s m = r) := by unfold Hid takeR; rw [hT.out]; rfl
  have hTM : Hid (takeMm r s m = m) := by unfold Hid takeMm; rw [hT.out]; rfl
  have FR := A.at_
  have FM := N.at_
  go_upto_region 3 with fail
  refine wp_region_held (S := fun Y => RgAt Y w.heap.size r ∧ MiAt Y q m (.slice a1 m.lg.length c1)) (by kernel_rfl) ?_
  change wpAnyH _ _ _ _ _ _ _ _ (World.drew _)
  have kd : Below u3.heap.size u3 u3.drew := (Below.refl _ _).drew
  obtain ⟨u0, hu0⟩ := mk_ u3.drew
  rw [← hu0] at kd ⊢
  clear hu0
  have hs0 : RgAt u0 w.heap.size r ∧ MiAt u0 q m (.slice a1 m.lg.length c1) := ⟨FR.below kd FR.lt, FM.below kd FM.lt⟩
  have Z2 := Z2.below kd Z2.lt
  have Z3 := Z3.below kd Z3.lt
  have O1 := O1.later kd
  have Bd := B3.trans (kd.mono B3.size)
  have lo := O1.lt
  refine tw 0 49 (.agg #[.int .i64 r.ep, .int .i64 r.ow, .int .i64 r.pa]) ?_ (hy := by intro Y hSw; obtain ⟨⟨X0, X1, X2⟩, _⟩ := hSw; go_simp)
  refine tw 1 50 (.agg #[.bool m.up, .int .i64 m.li, .int .i64 m.ep, .slice a1 m.lg.length c1, .int .i64 m.sd, .int .i64 m.ac, .int .i64 m.al]) ?_ (hy := by intro Y hSw; obtain ⟨_, X0, X1, X2, X3, X4, X5, X6⟩ := hSw; go_simp)
  refine w1 2 fun Kz hKz => ?_
  have cc := Z2
  obtain ⟨⟨z0, z1, z2⟩, zf⟩ := cc
  have g0 := zf 0
  have g1 := zf 1
  have g2 := zf 2
  go_simp
  clear z0 z1 z2 zf g0 g1 g2
  obtain ⟨u2, hu2⟩ := mk_ (((u0.setCell ⟨w.heap.size + 1 + 1, 0, none⟩ (.int .i64 r.ep)).setCell ⟨w.heap.size + 1 + 1, 1, none⟩ (.int .i64 r.ow)).setCell ⟨w.heap.size + 1 + 1, 2, none⟩ (.int .i64 r.pa))
  have Q2 : RgBox u2 (w.heap.size + 1 + 1) r := by rw [hu2]; exact Z2.put r
  have kp : ∀ k, k ≠ w.heap.size + 1 + 1 → u2.heap[k]? = u0.heap[k]? := fun k hk => by rw [hu2]; exact heap_put3 _ _ _ r hk
  have hs2 : RgAt u2 w.heap.size r ∧ MiAt u2 q m (.slice a1 m.lg.length c1) := ⟨hs0.1.keep (kp _ (by omega)), hs0.2.keep (kp _ (by omega))⟩
  have Z3 := Z3.keep (kp _ (by omega))
  have O1 := O1.keep (fun g e => kp g (by have := lo g e; omega))
  have Bd : Below w.heap.size w u2 := by rw [hu2]; exact below_put3 r Bd (by omega)
  rw [← hu2]
  clear hu2 kp
  refine hKz _ _ ⟨hs2, ?_⟩
  clear hKz Kz
  refine w1 3 fun Kz hKz => ?_
  have cc := Z3
  obtain ⟨z0, z1, z2, z3, z4, z5, z6, zf⟩ := cc
  have g0 := zf 0
  have g1 := zf 1
  have g2 := zf 2
  have g3 := zf 3
  have g4 := zf 4
  have g5 := zf 5
  have g6 := zf 6
  go_simp
  clear z0 z1 z2 z3 z4 z5 z6 zf g0 g1 g2 g3 g4 g5 g6
  obtain ⟨u3, hu3⟩ := mk_ (((((((u2.setCell ⟨w.heap.size + 1 + 1 + 1, 0, none⟩ (.bool m.up)).setCell ⟨w.heap.size + 1 + 1 + 1, 1, none⟩ (.int .i64 m.li)).setCell ⟨w.heap.size + 1 + 1 + 1, 2, none⟩ (.int .i64 m.ep)).setCell ⟨w.heap.size + 1 + 1 + 1, 3, none⟩ (.slice a1 m.lg.length c1)).setCell ⟨w.heap.size + 1 + 1 + 1, 4, none⟩ (.int .i64 m.sd)).setCell ⟨w.heap.size + 1 + 1 + 1, 5, none⟩ (.int .i64 m.ac)).setCell ⟨w.heap.size + 1 + 1 + 1, 6, none⟩ (.int .i64 m.al))
  have Q3 : MiBox u3 (w.heap.size + 1 + 1 + 1) m (.slice a1 m.lg.length c1) := by rw [hu3]; exact Z3.put m _
  have kp : ∀ k, k ≠ w.heap.size + 1 + 1 + 1 → u3.heap[k]? = u2.heap[k]? := fun k hk => by rw [hu3]; exact heap_put7 _ _ _ m _ hk
  have hs3 : RgAt u3 w.heap.size r ∧ MiAt u3 q m (.slice a1 m.lg.length c1) := ⟨hs2.1.keep (kp _ (by omega)), hs2.2.keep (kp _ (by omega))⟩
  have Q2 := Q2.keep (kp _ (by omega))
  have O1 := O1.keep (fun g e => kp g (by have := lo g e; omega))
  have Bd : Below w.heap.size w u3 := by rw [hu3]; exact below_put7 m _ Bd (by omega)
  rw [← hu3]
  clear hu3 kp
  refine hKz _ _ ⟨hs3, ?_⟩
  clear hKz Kz
  refine tw 4 8 (.bool false) ?_
  refine wpAnyH_done (by kernel_rfl) ?_ _
  have OZ := O1.base (base' := w.heap.size) (by omega)
  obtain ⟨⟨q0, q1, q2⟩, qf⟩ := Q2
  obtain ⟨p0, p1, p2, p3, p4, p5, p6, pf⟩ := Q3
  clear qf pf hs3 O1
  go_wp2
  refine bodyPost_ret (v := .tuple #[.agg #[.int .i64 r.ep, .int .i64 r.ow, .int .i64 r.pa], .agg #[.bool m.up, .int .i64 m.li, .int .i64 m.ep, .slice a1 m.lg.length c1, .int .i64 m.sd, .int .i64 m.ac, .int .i64 m.al], .bool false]) (by simp [results, Try.results73, go_sem, *]) rfl ⟨a1, c1, by rw [hTR.out, hTM.out, hT.out], OZ, Bd⟩
 ·
  replace h1 : Hid _ := h1
  have cc := M
  obtain ⟨n0, n1, n2, n3, n4, n5, n6⟩ := cc
  go_wp2_with fail
  go_at_call 14
  clear n0 n1 n2 n3 n4 n5 n6
  refine (miOkS m ad cap u3 hv1 hl).mono ?_
  rintro e u4 ⟨rfl, k4⟩
  have A := A.below k4 A.lt
  have M := M.below k4 M.lt
  have Z2 := Z2.below k4 Z2.lt
  have Z3 := Z3.below k4 Z3.lt
  have N := N.below k4 N.lt
  have O1 := O1.later k4
  have hv1 := hv1.below k4 (hv1.lt ikEnc_len (by omega))
  have B4 := B3.trans (k4.mono B3.size)
  have s4 := k4.size
  clear k4 B3
  cases h2 : miOk m
  ·
   have hT : Hid (takeB r s m = false) := by unfold Hid takeB; rw [show takeG r s m = false by unfold takeG; rw [h1.out, h2]; rfl]; rfl
   have hTR : Hid (takeR r s m = r) := by unfold Hid takeR; rw [hT.out]; rfl
   have hTM : Hid (takeMm r s m = m) := by unfold Hid takeMm; rw [hT.out]; rfl
   have FR := A.at_
   have FM := N.at_
   go_upto_region 3 with fail
   refine wp_region_held (S := fun Y => RgAt Y w.heap.size r ∧ MiAt Y q m (.slice a1 m.lg.length c1)) (by kernel_rfl) ?_
   change wpAnyH _ _ _ _ _ _ _ _ (World.drew _)
   have kd : Below u4.heap.size u4 u4.drew := (Below.refl _ _).drew
   obtain ⟨u0, hu0⟩ := mk_ u4.drew
   rw [← hu0] at kd ⊢
   clear hu0
   have hs0 : RgAt u0 w.heap.size r ∧ MiAt u0 q m (.slice a1 m.lg.length c1) := ⟨FR.below kd FR.lt, FM.below kd FM.lt⟩
   have Z2 := Z2.below kd Z2.lt
   have Z3 := Z3.below kd Z3.lt
   have O1 := O1.later kd
   have Bd := B4.trans (kd.mono B4.size)
   have lo := O1.lt
   refine tw 0 49 (.agg #[.int .i64 r.ep, .int .i64 r.ow, .int .i64 r.pa]) ?_ (hy := by intro Y hSw; obtain ⟨⟨X0, X1, X2⟩, _⟩ := hSw; go_simp)
   refine tw 1 50 (.agg #[.bool m.up, .int .i64 m.li, .int .i64 m.ep, .slice a1 m.lg.length c1, .int .i64 m.sd, .int .i64 m.ac, .int .i64 m.al]) ?_ (hy := by intro Y hSw; obtain ⟨_, X0, X1, X2, X3, X4, X5, X6⟩ := hSw; go_simp)
   refine w1 2 fun Kz hKz => ?_
   have cc := Z2
   obtain ⟨⟨z0, z1, z2⟩, zf⟩ := cc
   have g0 := zf 0
   have g1 := zf 1
   have g2 := zf 2
   go_simp
   clear z0 z1 z2 zf g0 g1 g2
   obtain ⟨u2, hu2⟩ := mk_ (((u0.setCell ⟨w.heap.size + 1 + 1, 0, none⟩ (.int .i64 r.ep)).setCell ⟨w.heap.size + 1 + 1, 1, none⟩ (.int .i64 r.ow)).setCell ⟨w.heap.size + 1 + 1, 2, none⟩ (.int .i64 r.pa))
   have Q2 : RgBox u2 (w.heap.size + 1 + 1) r := by rw [hu2]; exact Z2.put r
   have kp : ∀ k, k ≠ w.heap.size + 1 + 1 → u2.heap[k]? = u0.heap[k]? := fun k hk => by rw [hu2]; exact heap_put3 _ _ _ r hk
   have hs2 : RgAt u2 w.heap.size r ∧ MiAt u2 q m (.slice a1 m.lg.length c1) := ⟨hs0.1.keep (kp _ (by omega)), hs0.2.keep (kp _ (by omega))⟩
   have Z3 := Z3.keep (kp _ (by omega))
   have O1 := O1.keep (fun g e => kp g (by have := lo g e; omega))
   have Bd : Below w.heap.size w u2 := by rw [hu2]; exact below_put3 r Bd (by omega)
   rw [← hu2]
   clear hu2 kp
   refine hKz _ _ ⟨hs2, ?_⟩
   clear hKz Kz
   refine w1 3 fun Kz hKz => ?_
   have cc := Z3
   obtain ⟨z0, z1, z2, z3, z4, z5, z6, zf⟩ := cc
   have g0 := zf 0
   have g1 := zf 1
   have g2 := zf 2
   have g3 := zf 3
   have g4 := zf 4
   have g5 := zf 5
   have g6 := zf 6
   go_simp
   clear z0 z1 z2 z3 z4 z5 z6 zf g0 g1 g2 g3 g4 g5 g6
   obtain ⟨u3, hu3⟩ := mk_ (((((((u2.setCell ⟨w.heap.size + 1 + 1 + 1, 0, none⟩ (.bool m.up)).setCell ⟨w.heap.size + 1 + 1 + 1, 1, none⟩ (.int .i64 m.li)).setCell ⟨w.heap.size + 1 + 1 + 1, 2, none⟩ (.int .i64 m.ep)).setCell ⟨w.heap.size + 1 + 1 + 1, 3, none⟩ (.slice a1 m.lg.length c1)).setCell ⟨w.heap.size + 1 + 1 + 1, 4, none⟩ (.int .i64 m.sd)).setCell ⟨w.heap.size + 1 + 1 + 1, 5, none⟩ (.int .i64 m.ac)).setCell ⟨w.heap.size + 1 + 1 + 1, 6, none⟩ (.int .i64 m.al))
   have Q3 : MiBox u3 (w.heap.size + 1 + 1 + 1) m (.slice a1 m.lg.length c1) := by rw [hu3]; exact Z3.put m _
   have kp : ∀ k, k ≠ w.heap.size + 1 + 1 + 1 → u3.heap[k]? = u2.heap[k]? := fun k hk => by rw [hu3]; exact heap_put7 _ _ _ m _ hk
   have hs3 : RgAt u3 w.heap.size r ∧ MiAt u3 q m (.slice a1 m.lg.length c1) := ⟨hs2.1.keep (kp _ (by omega)), hs2.2.keep (kp _ (by omega))⟩
   have Q2 := Q2.keep (kp _ (by omega))
   have O1 := O1.keep (fun g e => kp g (by have := lo g e; omega))
   have Bd : Below w.heap.size w u3 := by rw [hu3]; exact below_put7 m _ Bd (by omega)
   rw [← hu3]
   clear hu3 kp
   refine hKz _ _ ⟨hs3, ?_⟩
   clear hKz Kz
   refine tw 4 8 (.bool false) ?_
   refine wpAnyH_done (by kernel_rfl) ?_ _
   have OZ := O1.base (base' := w.heap.size) (by omega)
   obtain ⟨⟨q0, q1, q2⟩, qf⟩ := Q2
   obtain ⟨p0, p1, p2, p3, p4, p5, p6, pf⟩ := Q3
   clear qf pf hs3 O1
   go_wp2
   refine bodyPost_ret (v := .tuple #[.agg #[.int .i64 r.ep, .int .i64 r.ow, .int .i64 r.pa], .agg #[.bool m.up, .int .i64 m.li, .int .i64 m.ep, .slice a1 m.lg.length c1, .int .i64 m.sd, .int .i64 m.ac, .int .i64 m.al], .bool false]) (by simp [results, Try.results73, go_sem, *]) rfl ⟨a1, c1, by rw [hTR.out, hTM.out, hT.out], OZ, Bd⟩
  ·
   replace h2 : Hid _ := h2
   cases h3 : m.up
   ·
    have hT : Hid (takeB r s m = false) := by unfold Hid takeB; rw [show takeG r s m = false by unfold takeG; rw [h1.out, h2.out, h3]; rfl]; rfl
    have hTR : Hid (takeR r s m = r) := by unfold Hid takeR; rw [hT.out]; rfl
    have hTM : Hid (takeMm r s m = m) := by unfold Hid takeMm; rw [hT.out]; rfl
    have cc := M
    obtain ⟨n0, n1, n2, n3, n4, n5, n6⟩ := cc
    rw [h3] at n0
    replace h3 : Hid _ := h3
    have FR := A.at_
    have FM := N.at_
    go_upto_region 3 with fail
    refine wp_region_held (S := fun Y => RgAt Y w.heap.size r ∧ MiAt Y q m (.slice a1 m.lg.length c1)) (by kernel_rfl) ?_
    change wpAnyH _ _ _ _ _ _ _ _ (World.drew _)
    have kd : Below u4.heap.size u4 u4.drew := (Below.refl _ _).drew
    obtain ⟨u0, hu0⟩ := mk_ u4.drew
    rw [← hu0] at kd ⊢
    clear hu0
    have hs0 : RgAt u0 w.heap.size r ∧ MiAt u0 q m (.slice a1 m.lg.length c1) := ⟨FR.below kd FR.lt, FM.below kd FM.lt⟩
    have Z2 := Z2.below kd Z2.lt
    have Z3 := Z3.below kd Z3.lt
    have O1 := O1.later kd
    have Bd := B4.trans (kd.mono B4.size)
    have lo := O1.lt
    refine tw 0 49 (.agg #[.int .i64 r.ep, .int .i64 r.ow, .int .i64 r.pa]) ?_ (hy := by intro Y hSw; obtain ⟨⟨X0, X1, X2⟩, _⟩ := hSw; go_simp)
    refine tw 1 50 (.agg #[.bool m.up, .int .i64 m.li, .int .i64 m.ep, .slice a1 m.lg.length c1, .int .i64 m.sd, .int .i64 m.ac, .int .i64 m.al]) ?_ (hy := by intro Y hSw; obtain ⟨_, X0, X1, X2, X3, X4, X5, X6⟩ := hSw; go_simp)
    refine w1 2 fun Kz hKz => ?_
    have cc := Z2
    obtain ⟨⟨z0, z1, z2⟩, zf⟩ := cc
    have g0 := zf 0
    have g1 := zf 1
    have g2 := zf 2
    go_simp
    clear z0 z1 z2 zf g0 g1 g2
    obtain ⟨u2, hu2⟩ := mk_ (((u0.setCell ⟨w.heap.size + 1 + 1, 0, none⟩ (.int .i64 r.ep)).setCell ⟨w.heap.size + 1 + 1, 1, none⟩ (.int .i64 r.ow)).setCell ⟨w.heap.size + 1 + 1, 2, none⟩ (.int .i64 r.pa))
    have Q2 : RgBox u2 (w.heap.size + 1 + 1) r := by rw [hu2]; exact Z2.put r
    have kp : ∀ k, k ≠ w.heap.size + 1 + 1 → u2.heap[k]? = u0.heap[k]? := fun k hk => by rw [hu2]; exact heap_put3 _ _ _ r hk
    have hs2 : RgAt u2 w.heap.size r ∧ MiAt u2 q m (.slice a1 m.lg.length c1) := ⟨hs0.1.keep (kp _ (by omega)), hs0.2.keep (kp _ (by omega))⟩
    have Z3 := Z3.keep (kp _ (by omega))
    have O1 := O1.keep (fun g e => kp g (by have := lo g e; omega))
    have Bd : Below w.heap.size w u2 := by rw [hu2]; exact below_put3 r Bd (by omega)
    rw [← hu2]
    clear hu2 kp
    refine hKz _ _ ⟨hs2, ?_⟩
    clear hKz Kz
    refine w1 3 fun Kz hKz => ?_
    have cc := Z3
    obtain ⟨z0, z1, z2, z3, z4, z5, z6, zf⟩ := cc
    have g0 := zf 0
    have g1 := zf 1
    have g2 := zf 2
    have g3 := zf 3
    have g4 := zf 4
    have g5 := zf 5
    have g6 := zf 6
    go_simp
    clear z0 z1 z2 z3 z4 z5 z6 zf g0 g1 g2 g3 g4 g5 g6
    obtain ⟨u3, hu3⟩ := mk_ (((((((u2.setCell ⟨w.heap.size + 1 + 1 + 1, 0, none⟩ (.bool m.up)).setCell ⟨w.heap.size + 1 + 1 + 1, 1, none⟩ (.int .i64 m.li)).setCell ⟨w.heap.size + 1 + 1 + 1, 2, none⟩ (.int .i64 m.ep)).setCell ⟨w.heap.size + 1 + 1 + 1, 3, none⟩ (.slice a1 m.lg.length c1)).setCell ⟨w.heap.size + 1 + 1 + 1, 4, none⟩ (.int .i64 m.sd)).setCell ⟨w.heap.size + 1 + 1 + 1, 5, none⟩ (.int .i64 m.ac)).setCell ⟨w.heap.size + 1 + 1 + 1, 6, none⟩ (.int .i64 m.al))
    have Q3 : MiBox u3 (w.heap.size + 1 + 1 + 1) m (.slice a1 m.lg.length c1) := by rw [hu3]; exact Z3.put m _
    have kp : ∀ k, k ≠ w.heap.size + 1 + 1 + 1 → u3.heap[k]? = u2.heap[k]? := fun k hk => by rw [hu3]; exact heap_put7 _ _ _ m _ hk
    have hs3 : RgAt u3 w.heap.size r ∧ MiAt u3 q m (.slice a1 m.lg.length c1) := ⟨hs2.1.keep (kp _ (by omega)), hs2.2.keep (kp _ (by omega))⟩
    have Q2 := Q2.keep (kp _ (by omega))
    have O1 := O1.keep (fun g e => kp g (by have := lo g e; omega))
    have Bd : Below w.heap.size w u3 := by rw [hu3]; exact below_put7 m _ Bd (by omega)
    rw [← hu3]
    clear hu3 kp
    refine hKz _ _ ⟨hs3, ?_⟩
    clear hKz Kz
    refine tw 4 8 (.bool false) ?_
    refine wpAnyH_done (by kernel_rfl) ?_ _
    have OZ := O1.base (base' := w.heap.size) (by omega)
    obtain ⟨⟨q0, q1, q2⟩, qf⟩ := Q2
    obtain ⟨p0, p1, p2, p3, p4, p5, p6, pf⟩ := Q3
    clear qf pf hs3 O1
    go_wp2
    refine bodyPost_ret (v := .tuple #[.agg #[.int .i64 r.ep, .int .i64 r.ow, .int .i64 r.pa], .agg #[.bool m.up, .int .i64 m.li, .int .i64 m.ep, .slice a1 m.lg.length c1, .int .i64 m.sd, .int .i64 m.ac, .int .i64 m.al], .bool false]) (by simp [results, Try.results73, go_sem, *]) rfl ⟨a1, c1, by rw [hTR.out, hTM.out, hT.out], OZ, Bd⟩
   ·
    have cc := M
    obtain ⟨n0, n1, n2, n3, n4, n5, n6⟩ := cc
    rw [h3] at n0
    go_wp2_with fail
    go_at_call 26
    clear n0 n1 n2 n3 n4 n5 n6
    refine (inB s 0 1 u4).mono ?_
    rintro e u5 ⟨rfl, hw_⟩
    rw [hw_]
    clear hw_
    replace h3 : Hid _ := h3
    cases h4 : decide (0 ≤ s ∧ s ≤ 1)
    ·
     have hT : Hid (takeB r s m = false) := by unfold Hid takeB; rw [show takeG r s m = false by unfold takeG; rw [h1.out, h2.out, h3.out, h4]; rfl]; rfl
     have hTR : Hid (takeR r s m = r) := by unfold Hid takeR; rw [hT.out]; rfl
     have hTM : Hid (takeMm r s m = m) := by unfold Hid takeMm; rw [hT.out]; rfl
     clear h4
     have cc := M
     obtain ⟨n0, n1, n2, n3, n4, n5, n6⟩ := cc
     have cc := A
     obtain ⟨⟨x0, x1, x2⟩, xf⟩ := cc
     clear xf
     have FR := A.at_
     have FM := N.at_
     go_upto_region 3 with fail
     refine wp_region_held (S := fun Y => RgAt Y w.heap.size r ∧ MiAt Y q m (.slice a1 m.lg.length c1)) (by kernel_rfl) ?_
     change wpAnyH _ _ _ _ _ _ _ _ (World.drew _)
     have kd : Below u4.heap.size u4 u4.drew := (Below.refl _ _).drew
     obtain ⟨u0, hu0⟩ := mk_ u4.drew
     rw [← hu0] at kd ⊢
     clear hu0
     have hs0 : RgAt u0 w.heap.size r ∧ MiAt u0 q m (.slice a1 m.lg.length c1) := ⟨FR.below kd FR.lt, FM.below kd FM.lt⟩
     have Z2 := Z2.below kd Z2.lt
     have Z3 := Z3.below kd Z3.lt
     have O1 := O1.later kd
     have Bd := B4.trans (kd.mono B4.size)
     have lo := O1.lt
     refine tw 0 49 (.agg #[.int .i64 r.ep, .int .i64 r.ow, .int .i64 r.pa]) ?_ (hy := by intro Y hSw; obtain ⟨⟨X0, X1, X2⟩, _⟩ := hSw; go_simp)
     refine tw 1 50 (.agg #[.bool m.up, .int .i64 m.li, .int .i64 m.ep, .slice a1 m.lg.length c1, .int .i64 m.sd, .int .i64 m.ac, .int .i64 m.al]) ?_ (hy := by intro Y hSw; obtain ⟨_, X0, X1, X2, X3, X4, X5, X6⟩ := hSw; go_simp)
     refine w1 2 fun Kz hKz => ?_
     have cc := Z2
     obtain ⟨⟨z0, z1, z2⟩, zf⟩ := cc
     have g0 := zf 0
     have g1 := zf 1
     have g2 := zf 2
     go_simp
     clear z0 z1 z2 zf g0 g1 g2
     obtain ⟨u2, hu2⟩ := mk_ (((u0.setCell ⟨w.heap.size + 1 + 1, 0, none⟩ (.int .i64 r.ep)).setCell ⟨w.heap.size + 1 + 1, 1, none⟩ (.int .i64 r.ow)).setCell ⟨w.heap.size + 1 + 1, 2, none⟩ (.int .i64 r.pa))
     have Q2 : RgBox u2 (w.heap.size + 1 + 1) r := by rw [hu2]; exact Z2.put r
     have kp : ∀ k, k ≠ w.heap.size + 1 + 1 → u2.heap[k]? = u0.heap[k]? := fun k hk => by rw [hu2]; exact heap_put3 _ _ _ r hk
     have hs2 : RgAt u2 w.heap.size r ∧ MiAt u2 q m (.slice a1 m.lg.length c1) := ⟨hs0.1.keep (kp _ (by omega)), hs0.2.keep (kp _ (by omega))⟩
     have Z3 := Z3.keep (kp _ (by omega))
     have O1 := O1.keep (fun g e => kp g (by have := lo g e; omega))
     have Bd : Below w.heap.size w u2 := by rw [hu2]; exact below_put3 r Bd (by omega)
     rw [← hu2]
     clear hu2 kp
     refine hKz _ _ ⟨hs2, ?_⟩
     clear hKz Kz
     refine w1 3 fun Kz hKz => ?_
     have cc := Z3
     obtain ⟨z0, z1, z2, z3, z4, z5, z6, zf⟩ := cc
     have g0 := zf 0
     have g1 := zf 1
     have g2 := zf 2
     have g3 := zf 3
     have g4 := zf 4
     have g5 := zf 5
     have g6 := zf 6
     go_simp
     clear z0 z1 z2 z3 z4 z5 z6 zf g0 g1 g2 g3 g4 g5 g6
     obtain ⟨u3, hu3⟩ := mk_ (((((((u2.setCell ⟨w.heap.size + 1 + 1 + 1, 0, none⟩ (.bool m.up)).setCell ⟨w.heap.size + 1 + 1 + 1, 1, none⟩ (.int .i64 m.li)).setCell ⟨w.heap.size + 1 + 1 + 1, 2, none⟩ (.int .i64 m.ep)).setCell ⟨w.heap.size + 1 + 1 + 1, 3, none⟩ (.slice a1 m.lg.length c1)).setCell ⟨w.heap.size + 1 + 1 + 1, 4, none⟩ (.int .i64 m.sd)).setCell ⟨w.heap.size + 1 + 1 + 1, 5, none⟩ (.int .i64 m.ac)).setCell ⟨w.heap.size + 1 + 1 + 1, 6, none⟩ (.int .i64 m.al))
     have Q3 : MiBox u3 (w.heap.size + 1 + 1 + 1) m (.slice a1 m.lg.length c1) := by rw [hu3]; exact Z3.put m _
     have kp : ∀ k, k ≠ w.heap.size + 1 + 1 + 1 → u3.heap[k]? = u2.heap[k]? := fun k hk => by rw [hu3]; exact heap_put7 _ _ _ m _ hk
     have hs3 : RgAt u3 w.heap.size r ∧ MiAt u3 q m (.slice a1 m.lg.length c1) := ⟨hs2.1.keep (kp _ (by omega)), hs2.2.keep (kp _ (by omega))⟩
     have Q2 := Q2.keep (kp _ (by omega))
     have O1 := O1.keep (fun g e => kp g (by have := lo g e; omega))
     have Bd : Below w.heap.size w u3 := by rw [hu3]; exact below_put7 m _ Bd (by omega)
     rw [← hu3]
     clear hu3 kp
     refine hKz _ _ ⟨hs3, ?_⟩
     clear hKz Kz
     refine tw 4 8 (.bool false) ?_
     refine wpAnyH_done (by kernel_rfl) ?_ _
     have OZ := O1.base (base' := w.heap.size) (by omega)
     obtain ⟨⟨q0, q1, q2⟩, qf⟩ := Q2
     obtain ⟨p0, p1, p2, p3, p4, p5, p6, pf⟩ := Q3
     clear qf pf hs3 O1
     go_wp2
     refine bodyPost_ret (v := .tuple #[.agg #[.int .i64 r.ep, .int .i64 r.ow, .int .i64 r.pa], .agg #[.bool m.up, .int .i64 m.li, .int .i64 m.ep, .slice a1 m.lg.length c1, .int .i64 m.sd, .int .i64 m.ac, .int .i64 m.al], .bool false]) (by simp [results, Try.results73, go_sem, *]) rfl ⟨a1, c1, by rw [hTR.out, hTM.out, hT.out], OZ, Bd⟩
    ·
     replace h4 : Hid _ := h4
     by_cases h5 : s = r.ow
     ·
      have d5 : (s == r.ow) = true := by simpa using h5
      have hT : Hid (takeB r s m = false) := by unfold Hid takeB; rw [show takeG r s m = false by unfold takeG; rw [h1.out, h2.out, h3.out, h4.out, decide_eq_false (show ¬ (s ≠ r.ow) from fun e => e h5)]; rfl]; rfl
      have hTR : Hid (takeR r s m = r) := by unfold Hid takeR; rw [hT.out]; rfl
      have hTM : Hid (takeMm r s m = m) := by unfold Hid takeMm; rw [hT.out]; rfl
      replace h5 : Hid _ := h5
      have cc := M
      obtain ⟨n0, n1, n2, n3, n4, n5, n6⟩ := cc
      have cc := A
      obtain ⟨⟨x0, x1, x2⟩, xf⟩ := cc
      clear xf
      have FR := A.at_
      have FM := N.at_
      go_upto_region 3 with fail
      refine wp_region_held (S := fun Y => RgAt Y w.heap.size r ∧ MiAt Y q m (.slice a1 m.lg.length c1)) (by kernel_rfl) ?_
      change wpAnyH _ _ _ _ _ _ _ _ (World.drew _)
      have kd : Below u4.heap.size u4 u4.drew := (Below.refl _ _).drew
      obtain ⟨u0, hu0⟩ := mk_ u4.drew
      rw [← hu0] at kd ⊢
      clear hu0
      have hs0 : RgAt u0 w.heap.size r ∧ MiAt u0 q m (.slice a1 m.lg.length c1) := ⟨FR.below kd FR.lt, FM.below kd FM.lt⟩
      have Z2 := Z2.below kd Z2.lt
      have Z3 := Z3.below kd Z3.lt
      have O1 := O1.later kd
      have Bd := B4.trans (kd.mono B4.size)
      have lo := O1.lt
      refine tw 0 49 (.agg #[.int .i64 r.ep, .int .i64 r.ow, .int .i64 r.pa]) ?_ (hy := by intro Y hSw; obtain ⟨⟨X0, X1, X2⟩, _⟩ := hSw; go_simp)
      refine tw 1 50 (.agg #[.bool m.up, .int .i64 m.li, .int .i64 m.ep, .slice a1 m.lg.length c1, .int .i64 m.sd, .int .i64 m.ac, .int .i64 m.al]) ?_ (hy := by intro Y hSw; obtain ⟨_, X0, X1, X2, X3, X4, X5, X6⟩ := hSw; go_simp)
      refine w1 2 fun Kz hKz => ?_
      have cc := Z2
      obtain ⟨⟨z0, z1, z2⟩, zf⟩ := cc
      have g0 := zf 0
      have g1 := zf 1
      have g2 := zf 2
      go_simp
      clear z0 z1 z2 zf g0 g1 g2
      obtain ⟨u2, hu2⟩ := mk_ (((u0.setCell ⟨w.heap.size + 1 + 1, 0, none⟩ (.int .i64 r.ep)).setCell ⟨w.heap.size + 1 + 1, 1, none⟩ (.int .i64 r.ow)).setCell ⟨w.heap.size + 1 + 1, 2, none⟩ (.int .i64 r.pa))
      have Q2 : RgBox u2 (w.heap.size + 1 + 1) r := by rw [hu2]; exact Z2.put r
      have kp : ∀ k, k ≠ w.heap.size + 1 + 1 → u2.heap[k]? = u0.heap[k]? := fun k hk => by rw [hu2]; exact heap_put3 _ _ _ r hk
      have hs2 : RgAt u2 w.heap.size r ∧ MiAt u2 q m (.slice a1 m.lg.length c1) := ⟨hs0.1.keep (kp _ (by omega)), hs0.2.keep (kp _ (by omega))⟩
      have Z3 := Z3.keep (kp _ (by omega))
      have O1 := O1.keep (fun g e => kp g (by have := lo g e; omega))
      have Bd : Below w.heap.size w u2 := by rw [hu2]; exact below_put3 r Bd (by omega)
      rw [← hu2]
      clear hu2 kp
      refine hKz _ _ ⟨hs2, ?_⟩
      clear hKz Kz
      refine w1 3 fun Kz hKz => ?_
      have cc := Z3
      obtain ⟨z0, z1, z2, z3, z4, z5, z6, zf⟩ := cc
      have g0 := zf 0
      have g1 := zf 1
      have g2 := zf 2
      have g3 := zf 3
      have g4 := zf 4
      have g5 := zf 5
      have g6 := zf 6
      go_simp
      clear z0 z1 z2 z3 z4 z5 z6 zf g0 g1 g2 g3 g4 g5 g6
      obtain ⟨u3, hu3⟩ := mk_ (((((((u2.setCell ⟨w.heap.size + 1 + 1 + 1, 0, none⟩ (.bool m.up)).setCell ⟨w.heap.size + 1 + 1 + 1, 1, none⟩ (.int .i64 m.li)).setCell ⟨w.heap.size + 1 + 1 + 1, 2, none⟩ (.int .i64 m.ep)).setCell ⟨w.heap.size + 1 + 1 + 1, 3, none⟩ (.slice a1 m.lg.length c1)).setCell ⟨w.heap.size + 1 + 1 + 1, 4, none⟩ (.int .i64 m.sd)).setCell ⟨w.heap.size + 1 + 1 + 1, 5, none⟩ (.int .i64 m.ac)).setCell ⟨w.heap.size + 1 + 1 + 1, 6, none⟩ (.int .i64 m.al))
      have Q3 : MiBox u3 (w.heap.size + 1 + 1 + 1) m (.slice a1 m.lg.length c1) := by rw [hu3]; exact Z3.put m _
      have kp : ∀ k, k ≠ w.heap.size + 1 + 1 + 1 → u3.heap[k]? = u2.heap[k]? := fun k hk => by rw [hu3]; exact heap_put7 _ _ _ m _ hk
      have hs3 : RgAt u3 w.heap.size r ∧ MiAt u3 q m (.slice a1 m.lg.length c1) := ⟨hs2.1.keep (kp _ (by omega)), hs2.2.keep (kp _ (by omega))⟩
      have Q2 := Q2.keep (kp _ (by omega))
      have O1 := O1.keep (fun g e => kp g (by have := lo g e; omega))
      have Bd : Below w.heap.size w u3 := by rw [hu3]; exact below_put7 m _ Bd (by omega)
      rw [← hu3]
      clear hu3 kp
      refine hKz _ _ ⟨hs3, ?_⟩
      clear hKz Kz
      refine tw 4 8 (.bool false) ?_
      refine wpAnyH_done (by kernel_rfl) ?_ _
      have OZ := O1.base (base' := w.heap.size) (by omega)
      obtain ⟨⟨q0, q1, q2⟩, qf⟩ := Q2
      obtain ⟨p0, p1, p2, p3, p4, p5, p6, pf⟩ := Q3
      clear qf pf hs3 O1
      go_wp2
      refine bodyPost_ret (v := .tuple #[.agg #[.int .i64 r.ep, .int .i64 r.ow, .int .i64 r.pa], .agg #[.bool m.up, .int .i64 m.li, .int .i64 m.ep, .slice a1 m.lg.length c1, .int .i64 m.sd, .int .i64 m.ac, .int .i64 m.al], .bool false]) (by simp [results, Try.results73, go_sem, *]) rfl ⟨a1, c1, by rw [hTR.out, hTM.out, hT.out], OZ, Bd⟩
     ·
      have d5 : (s == r.ow) = false := by rw [beq_eq_false_iff_ne]; exact h5
      replace h5 : Hid (¬ s = r.ow) := h5
      by_cases h6 : 0 < m.li
      ·
       have d6 : decide (m.li ≤ 0) = false := decide_eq_false (by omega)
       replace h6 : Hid _ := h6
       by_cases h7 : m.li = r.pa
       ·
        have d7 : (m.li != r.pa) = false := by simpa using h7
        replace h7 : Hid _ := h7
        have cc := M
        obtain ⟨n0, n1, n2, n3, n4, n5, n6⟩ := cc
        have cc := A
        obtain ⟨⟨x0, x1, x2⟩, xf⟩ := cc
        clear xf
        go_upto_region 4 with fail
        clear n0 n1 n2 n3 n4 n5 n6 x0 x1 x2
        have hG : takeG r s m = true := by unfold takeG; rw [h1.out, h2.out, h3.out, h4.out, decide_eq_true (show s ≠ r.ow from h5.out), decide_eq_true h6.out, decide_eq_true h7.out]; rfl
        replace hG : Hid _ := hG
        have hre := (rgOk_is.1 h1.out).1
        obtain ⟨hre0, hre1⟩ := hre
        have cc := A
        obtain ⟨⟨x0, x1, x2⟩, xf⟩ := cc
        clear xf
        obtain ⟨u5, hu5⟩ := mk_ (u4.alloc (Obj.cells #[.int .i64 (r.ep + 1), .int .i64 s, .int .i64 0] 73))
        have k5 : Below u4.heap.size u4 u5 := by rw [hu5]; exact below_new _
        have X : RgAt u5 u4.heap.size (takeN r s) := by rw [hu5]; exact RgAt.new u4 _ (takeN r s)
        have B5 := B4.trans (k5.mono B4.size)
        have A := A.below k5 A.lt
        have M := M.below k5 M.lt
        have Z2 := Z2.below k5 Z2.lt
        have Z3 := Z3.below k5 Z3.lt
        have N := N.below k5 N.lt
        have O1 := O1.later k5
        have hv1 := hv1.below k5 (hv1.lt ikEnc_len (by omega))
        have s5 := X.lt
        go_upto_region 5 with fail
        rw [← hu5]
        clear hu5 k5 B4 x0 x1 x2
        obtain ⟨qx, hqx⟩ := mk_ u4.heap.size
        rw [← hqx] at X s5 ⊢
        have hqq : q < qx := by omega
        clear hqx
        obtain ⟨u6, hu6⟩ := mk_ (((u5.setCell ⟨q, 2, none⟩ (.int .i64 (r.ep + 1))).setCell ⟨q, 5, none⟩ (.int .i64 0)).setCell ⟨q, 6, none⟩ (.int .i64 0))
        have N6 : MiBox u6 q (takeM r m) (.slice a1 m.lg.length c1) := by rw [hu6]; exact N.take r
        have kp : ∀ k, k ≠ q → u6.heap[k]? = u5.heap[k]? := fun k hk => by rw [hu6, Below.heap_setCell _ _ _ _ hk, Below.heap_setCell _ _ _ _ hk, Below.heap_setCell _ _ _ _ hk]
        have A := A.keep (kp _ (by omega))
        have M := M.keep (kp _ (by omega))
        have Z2 := Z2.keep (kp _ (by omega))
        have Z3 := Z3.keep (kp _ (by omega))
        have X6 := X.keep (kp _ (by omega))
        have O1 := O1.keep (fun g e => kp g (by have := lo1 g e; omega))
        have hv1 := hv1.carry (fun a e p => kp _ (by have := HV a e p; omega))
        have B6 : Below w.heap.size w u6 := by rw [hu6]; exact ((B5.setCell (p := ⟨q, 2, none⟩) (by show _ ≤ q; omega) _).setCell (p := ⟨q, 5, none⟩) (by show _ ≤ q; omega) _).setCell (p := ⟨q, 6, none⟩) (by show _ ≤ q; omega) _
        have s6 : u5.heap.size ≤ u6.heap.size := by rw [hu6]; simp
        obtain ⟨x0, x1, x2⟩ := X
        obtain ⟨n0, n1, n2, n3, n4, n5, n6, nf⟩ := N
        have f2 := nf 2
        have f5 := nf 5
        have f6 := nf 6
        clear nf kp
        dsimp only [takeN] at x0 x1 x2
        go_upto_region 8 with fail
        rw [← hu6]
        clear hu6 x0 x1 x2 n0 n1 n2 n3 n4 n5 n6 f2 f5 f6 B5
        have N := N6
        have X := X6
        clear N6 X6
        have cc := X
        obtain ⟨x0, x1, x2⟩ := cc
        go_wp2_with fail
        go_at_call 63
        clear x0 x1 x2
        refine (regOkS (takeN r s) u6).mono ?_
        rintro e u7 ⟨rfl, k7⟩
        have A := A.below k7 A.lt
        have M := M.below k7 M.lt
        have Z2 := Z2.below k7 Z2.lt
        have Z3 := Z3.below k7 Z3.lt
        have N := N.below k7 N.lt
        have O1 := O1.later k7
        have hv1 := hv1.below k7 (hv1.lt ikEnc_len (by omega))
        have X := X.below k7 X.lt
        have B7 := B6.trans (k7.mono B6.size)
        have s7 := k7.size
        clear k7 B6
        cases h8 : rgOk (takeN r s)
        ·
         have hT : Hid (takeB r s m = false) := by unfold Hid takeB; rw [hG.out, h8]; rfl
         have hTR : Hid (takeR r s m = r) := by unfold Hid takeR; rw [hT.out]; rfl
         have hTM : Hid (takeMm r s m = m) := by unfold Hid takeMm; rw [hT.out]; rfl
         have FR := A.at_
         have FM := M
         go_upto_region 9 with fail
         refine wp_region_held (S := fun Y => RgAt Y w.heap.size r ∧ MiAt Y (w.heap.size + 1) m (.slice ad m.lg.length cap)) (by kernel_rfl) ?_
         change wpAnyH _ _ _ _ _ _ _ _ (World.drew _)
         have kd : Below u7.heap.size u7 u7.drew := (Below.refl _ _).drew
         obtain ⟨u0, hu0⟩ := mk_ u7.drew
         rw [← hu0] at kd ⊢
         clear hu0
         have hs0 : RgAt u0 w.heap.size r ∧ MiAt u0 (w.heap.size + 1) m (.slice ad m.lg.length cap) := ⟨FR.below kd FR.lt, FM.below kd FM.lt⟩
         have Z2 := Z2.below kd Z2.lt
         have Z3 := Z3.below kd Z3.lt
         have O1 := O1.later kd
         have Bd := B7.trans (kd.mono B7.size)
         have lo := O1.lt
         refine tw 0 69 (.agg #[.int .i64 r.ep, .int .i64 r.ow, .int .i64 r.pa]) ?_ (hy := by intro Y hSw; obtain ⟨⟨X0, X1, X2⟩, _⟩ := hSw; go_simp)
         refine tw 1 70 (.agg #[.bool m.up, .int .i64 m.li, .int .i64 m.ep, .slice ad m.lg.length cap, .int .i64 m.sd, .int .i64 m.ac, .int .i64 m.al]) ?_ (hy := by intro Y hSw; obtain ⟨_, X0, X1, X2, X3, X4, X5, X6⟩ := hSw; go_simp)
         refine w1 2 fun Kz hKz => ?_
         go_simp
         go_at_call 21
         refine (miCop m ad cap u0 (hv1.below kd (hv1.lt ikEnc_len (by omega))) hl hn).mono ?_
         rintro e u1 ⟨a7, c7, rfl, O7, k7⟩
         have hs1 : RgAt u1 w.heap.size r ∧ MiAt u1 (w.heap.size + 1) m (.slice ad m.lg.length cap) := ⟨hs0.1.below k7 hs0.1.lt, hs0.2.below k7 hs0.2.lt⟩
         have Z2 := Z2.below k7 Z2.lt
         have Z3 := Z3.below k7 Z3.lt
         have Bd := Bd.trans (k7.mono Bd.size)
         have lo := O7.lt
         have kds := kd.size
         clear k7
         refine hKz _ _ ⟨hs1, ?_⟩
         clear hKz Kz
         refine w1 3 fun Kz hKz => ?_
         have cc := Z2
         obtain ⟨⟨z0, z1, z2⟩, zf⟩ := cc
         have g0 := zf 0
         have g1 := zf 1
         have g2 := zf 2
         go_simp
         clear z0 z1 z2 zf g0 g1 g2
         obtain ⟨u2, hu2⟩ := mk_ (((u1.setCell ⟨w.heap.size + 1 + 1, 0, none⟩ (.int .i64 r.ep)).setCell ⟨w.heap.size + 1 + 1, 1, none⟩ (.int .i64 r.ow)).setCell ⟨w.heap.size + 1 + 1, 2, none⟩ (.int .i64 r.pa))
         have Q2 : RgBox u2 (w.heap.size + 1 + 1) r := by rw [hu2]; exact Z2.put r
         have kp : ∀ k, k ≠ w.heap.size + 1 + 1 → u2.heap[k]? = u1.heap[k]? := fun k hk => by rw [hu2]; exact heap_put3 _ _ _ r hk
         have hs2 : RgAt u2 w.heap.size r ∧ MiAt u2 (w.heap.size + 1) m (.slice ad m.lg.length cap) := ⟨hs1.1.keep (kp _ (by omega)), hs1.2.keep (kp _ (by omega))⟩
         have Z3 := Z3.keep (kp _ (by omega))
         have O7 := O7.keep (fun g e => kp g (by have := lo g e; omega))
         have Bd : Below w.heap.size w u2 := by rw [hu2]; exact below_put3 r Bd (by omega)
         rw [← hu2]
         clear hu2 kp
         refine hKz _ _ ⟨hs2, ?_⟩
         clear hKz Kz
         refine w1 4 fun Kz hKz => ?_
         have cc := Z3
         obtain ⟨z0, z1, z2, z3, z4, z5, z6, zf⟩ := cc
         have g0 := zf 0
         have g1 := zf 1
         have g2 := zf 2
         have g3 := zf 3
         have g4 := zf 4
         have g5 := zf 5
         have g6 := zf 6
         go_simp
         clear z0 z1 z2 z3 z4 z5 z6 zf g0 g1 g2 g3 g4 g5 g6
         obtain ⟨u3, hu3⟩ := mk_ (((((((u2.setCell ⟨w.heap.size + 1 + 1 + 1, 0, none⟩ (.bool m.up)).setCell ⟨w.heap.size + 1 + 1 + 1, 1, none⟩ (.int .i64 m.li)).setCell ⟨w.heap.size + 1 + 1 + 1, 2, none⟩ (.int .i64 m.ep)).setCell ⟨w.heap.size + 1 + 1 + 1, 3, none⟩ (.slice a7 m.lg.length c7)).setCell ⟨w.heap.size + 1 + 1 + 1, 4, none⟩ (.int .i64 m.sd)).setCell ⟨w.heap.size + 1 + 1 + 1, 5, none⟩ (.int .i64 m.ac)).setCell ⟨w.heap.size + 1 + 1 + 1, 6, none⟩ (.int .i64 m.al))
         have Q3 : MiBox u3 (w.heap.size + 1 + 1 + 1) m (.slice a7 m.lg.length c7) := by rw [hu3]; exact Z3.put m _
         have kp : ∀ k, k ≠ w.heap.size + 1 + 1 + 1 → u3.heap[k]? = u2.heap[k]? := fun k hk => by rw [hu3]; exact heap_put7 _ _ _ m _ hk
         have hs3 : RgAt u3 w.heap.size r ∧ MiAt u3 (w.heap.size + 1) m (.slice ad m.lg.length cap) := ⟨hs2.1.keep (kp _ (by omega)), hs2.2.keep (kp _ (by omega))⟩
         have Q2 := Q2.keep (kp _ (by omega))
         have O7 := O7.keep (fun g e => kp g (by have := lo g e; omega))
         have Bd : Below w.heap.size w u3 := by rw [hu3]; exact below_put7 m _ Bd (by omega)
         rw [← hu3]
         clear hu3 kp
         refine hKz _ _ ⟨hs3, ?_⟩
         clear hKz Kz
         refine tw 5 8 (.bool false) ?_
         refine wpAnyH_done (by kernel_rfl) ?_ _
         have OZ := O7.base (base' := w.heap.size) (by omega)
         obtain ⟨⟨q0, q1, q2⟩, qf⟩ := Q2
         obtain ⟨p0, p1, p2, p3, p4, p5, p6, pf⟩ := Q3
         clear qf pf hs3 O7
         go_wp2
         refine bodyPost_ret (v := .tuple #[.agg #[.int .i64 r.ep, .int .i64 r.ow, .int .i64 r.pa], .agg #[.bool m.up, .int .i64 m.li, .int .i64 m.ep, .slice a7 m.lg.length c7, .int .i64 m.sd, .int .i64 m.ac, .int .i64 m.al], .bool false]) (by simp [results, Try.results73, go_sem, *]) rfl ⟨a7, c7, by rw [hTR.out, hTM.out, hT.out], OZ, Bd⟩
        ·
         replace h8 : Hid _ := h8
         have cc := N
         obtain ⟨n0, n1, n2, n3, n4, n5, n6, nf⟩ := cc
         go_wp2_with fail
         go_at_call 14
         clear n0 n1 n2 n3 n4 n5 n6 nf
         refine (miOkS (takeM r m) a1 c1 u7 O1.view.2 (by show m.lg.length ≤ _; exact hl)).mono ?_
         rintro e u8 ⟨rfl, k8⟩
         have A := A.below k8 A.lt
         have M := M.below k8 M.lt
         have Z2 := Z2.below k8 Z2.lt
         have Z3 := Z3.below k8 Z3.lt
         have N := N.below k8 N.lt
         have O1 := O1.later k8
         have hv1 := hv1.below k8 (hv1.lt ikEnc_len (by omega))
         have X := X.below k8 X.lt
         have B8 := B7.trans (k8.mono B7.size)
         have s8 := k8.size
         clear k8 B7
         cases h9 : miOk (takeM r m)
         ·
          have hT : Hid (takeB r s m = false) := by unfold Hid takeB; rw [hG.out, h8.out, h9]; rfl
          have hTR : Hid (takeR r s m = r) := by unfold Hid takeR; rw [hT.out]; rfl
          have hTM : Hid (takeMm r s m = m) := by unfold Hid takeMm; rw [hT.out]; rfl
          have FR := A.at_
          have FM := M
          go_upto_region 9 with fail
          refine wp_region_held (S := fun Y => RgAt Y w.heap.size r ∧ MiAt Y (w.heap.size + 1) m (.slice ad m.lg.length cap)) (by kernel_rfl) ?_
          change wpAnyH _ _ _ _ _ _ _ _ (World.drew _)
          have kd : Below u8.heap.size u8 u8.drew := (Below.refl _ _).drew
          obtain ⟨u0, hu0⟩ := mk_ u8.drew
          rw [← hu0] at kd ⊢
          clear hu0
          have hs0 : RgAt u0 w.heap.size r ∧ MiAt u0 (w.heap.size + 1) m (.slice ad m.lg.length cap) := ⟨FR.below kd FR.lt, FM.below kd FM.lt⟩
          have Z2 := Z2.below kd Z2.lt
          have Z3 := Z3.below kd Z3.lt
          have O1 := O1.later kd
          have Bd := B8.trans (kd.mono B8.size)
          have lo := O1.lt
          refine tw 0 69 (.agg #[.int .i64 r.ep, .int .i64 r.ow, .int .i64 r.pa]) ?_ (hy := by intro Y hSw; obtain ⟨⟨X0, X1, X2⟩, _⟩ := hSw; go_simp)
          refine tw 1 70 (.agg #[.bool m.up, .int .i64 m.li, .int .i64 m.ep, .slice ad m.lg.length cap, .int .i64 m.sd, .int .i64 m.ac, .int .i64 m.al]) ?_ (hy := by intro Y hSw; obtain ⟨_, X0, X1, X2, X3, X4, X5, X6⟩ := hSw; go_simp)
          refine w1 2 fun Kz hKz => ?_
          go_simp
          go_at_call 21
          refine (miCop m ad cap u0 (hv1.below kd (hv1.lt ikEnc_len (by omega))) hl hn).mono ?_
          rintro e u1 ⟨a7, c7, rfl, O7, k7⟩
          have hs1 : RgAt u1 w.heap.size r ∧ MiAt u1 (w.heap.size + 1) m (.slice ad m.lg.length cap) := ⟨hs0.1.below k7 hs0.1.lt, hs0.2.below k7 hs0.2.lt⟩
          have Z2 := Z2.below k7 Z2.lt
          have Z3 := Z3.below k7 Z3.lt
          have Bd := Bd.trans (k7.mono Bd.size)
          have lo := O7.lt
          have kds := kd.size
          clear k7
          refine hKz _ _ ⟨hs1, ?_⟩
          clear hKz Kz
          refine w1 3 fun Kz hKz => ?_
          have cc := Z2
          obtain ⟨⟨z0, z1, z2⟩, zf⟩ := cc
          have g0 := zf 0
          have g1 := zf 1
          have g2 := zf 2
          go_simp
          clear z0 z1 z2 zf g0 g1 g2
          obtain ⟨u2, hu2⟩ := mk_ (((u1.setCell ⟨w.heap.size + 1 + 1, 0, none⟩ (.int .i64 r.ep)).setCell ⟨w.heap.size + 1 + 1, 1, none⟩ (.int .i64 r.ow)).setCell ⟨w.heap.size + 1 + 1, 2, none⟩ (.int .i64 r.pa))
          have Q2 : RgBox u2 (w.heap.size + 1 + 1) r := by rw [hu2]; exact Z2.put r
          have kp : ∀ k, k ≠ w.heap.size + 1 + 1 → u2.heap[k]? = u1.heap[k]? := fun k hk => by rw [hu2]; exact heap_put3 _ _ _ r hk
          have hs2 : RgAt u2 w.heap.size r ∧ MiAt u2 (w.heap.size + 1) m (.slice ad m.lg.length cap) := ⟨hs1.1.keep (kp _ (by omega)), hs1.2.keep (kp _ (by omega))⟩
          have Z3 := Z3.keep (kp _ (by omega))
          have O7 := O7.keep (fun g e => kp g (by have := lo g e; omega))
          have Bd : Below w.heap.size w u2 := by rw [hu2]; exact below_put3 r Bd (by omega)
          rw [← hu2]
          clear hu2 kp
          refine hKz _ _ ⟨hs2, ?_⟩
          clear hKz Kz
          refine w1 4 fun Kz hKz => ?_
          have cc := Z3
          obtain ⟨z0, z1, z2, z3, z4, z5, z6, zf⟩ := cc
          have g0 := zf 0
          have g1 := zf 1
          have g2 := zf 2
          have g3 := zf 3
          have g4 := zf 4
          have g5 := zf 5
          have g6 := zf 6
          go_simp
          clear z0 z1 z2 z3 z4 z5 z6 zf g0 g1 g2 g3 g4 g5 g6
          obtain ⟨u3, hu3⟩ := mk_ (((((((u2.setCell ⟨w.heap.size + 1 + 1 + 1, 0, none⟩ (.bool m.up)).setCell ⟨w.heap.size + 1 + 1 + 1, 1, none⟩ (.int .i64 m.li)).setCell ⟨w.heap.size + 1 + 1 + 1, 2, none⟩ (.int .i64 m.ep)).setCell ⟨w.heap.size + 1 + 1 + 1, 3, none⟩ (.slice a7 m.lg.length c7)).setCell ⟨w.heap.size + 1 + 1 + 1, 4, none⟩ (.int .i64 m.sd)).setCell ⟨w.heap.size + 1 + 1 + 1, 5, none⟩ (.int .i64 m.ac)).setCell ⟨w.heap.size + 1 + 1 + 1, 6, none⟩ (.int .i64 m.al))
          have Q3 : MiBox u3 (w.heap.size + 1 + 1 + 1) m (.slice a7 m.lg.length c7) := by rw [hu3]; exact Z3.put m _
          have kp : ∀ k, k ≠ w.heap.size + 1 + 1 + 1 → u3.heap[k]? = u2.heap[k]? := fun k hk => by rw [hu3]; exact heap_put7 _ _ _ m _ hk
          have hs3 : RgAt u3 w.heap.size r ∧ MiAt u3 (w.heap.size + 1) m (.slice ad m.lg.length cap) := ⟨hs2.1.keep (kp _ (by omega)), hs2.2.keep (kp _ (by omega))⟩
          have Q2 := Q2.keep (kp _ (by omega))
          have O7 := O7.keep (fun g e => kp g (by have := lo g e; omega))
          have Bd : Below w.heap.size w u3 := by rw [hu3]; exact below_put7 m _ Bd (by omega)
          rw [← hu3]
          clear hu3 kp
          refine hKz _ _ ⟨hs3, ?_⟩
          clear hKz Kz
          refine tw 5 8 (.bool false) ?_
          refine wpAnyH_done (by kernel_rfl) ?_ _
          have OZ := O7.base (base' := w.heap.size) (by omega)
          obtain ⟨⟨q0, q1, q2⟩, qf⟩ := Q2
          obtain ⟨p0, p1, p2, p3, p4, p5, p6, pf⟩ := Q3
          clear qf pf hs3 O7
          go_wp2
          refine bodyPost_ret (v := .tuple #[.agg #[.int .i64 r.ep, .int .i64 r.ow, .int .i64 r.pa], .agg #[.bool m.up, .int .i64 m.li, .int .i64 m.ep, .slice a7 m.lg.length c7, .int .i64 m.sd, .int .i64 m.ac, .int .i64 m.al], .bool false]) (by simp [results, Try.results73, go_sem, *]) rfl ⟨a7, c7, by rw [hTR.out, hTM.out, hT.out], OZ, Bd⟩
         ·
          have hT : Hid (takeB r s m = true) := by unfold Hid takeB; rw [hG.out, h8.out, h9]; rfl
          have hTR : Hid (takeR r s m = takeN r s) := by unfold Hid takeR; rw [hT.out]; rfl
          have hTM : Hid (takeMm r s m = takeM r m) := by unfold Hid takeMm; rw [hT.out]; rfl
          have FR := X
          have FM := N.at_
          go_upto_region 10 with fail
          refine wp_region_held (S := fun Y => RgAt Y qx (takeN r s) ∧ MiAt Y q (takeM r m) (.slice a1 m.lg.length c1)) (by kernel_rfl) ?_
          change wpAnyH _ _ _ _ _ _ _ _ (World.drew _)
          have kd : Below u8.heap.size u8 u8.drew := (Below.refl _ _).drew
          obtain ⟨u0, hu0⟩ := mk_ u8.drew
          rw [← hu0] at kd ⊢
          clear hu0
          have hs0 : RgAt u0 qx (takeN r s) ∧ MiAt u0 q (takeM r m) (.slice a1 m.lg.length c1) := ⟨FR.below kd FR.lt, FM.below kd FM.lt⟩
          have Z2 := Z2.below kd Z2.lt
          have Z3 := Z3.below kd Z3.lt
          have O1 := O1.later kd
          have Bd := B8.trans (kd.mono B8.size)
          have lo := O1.lt
          refine tw 0 72 (.agg #[.int .i64 (takeN r s).ep, .int .i64 (takeN r s).ow, .int .i64 (takeN r s).pa]) ?_ (hy := by intro Y hSw; obtain ⟨⟨X0, X1, X2⟩, _⟩ := hSw; go_simp)
          refine tw 1 73 (.agg #[.bool (takeM r m).up, .int .i64 (takeM r m).li, .int .i64 (takeM r m).ep, .slice a1 m.lg.length c1, .int .i64 (takeM r m).sd, .int .i64 (takeM r m).ac, .int .i64 (takeM r m).al]) ?_ (hy := by intro Y hSw; obtain ⟨_, X0, X1, X2, X3, X4, X5, X6⟩ := hSw; go_simp)
          refine w1 2 fun Kz hKz => ?_
          have cc := Z2
          obtain ⟨⟨z0, z1, z2⟩, zf⟩ := cc
          have g0 := zf 0
          have g1 := zf 1
          have g2 := zf 2
          go_simp
          clear z0 z1 z2 zf g0 g1 g2
          obtain ⟨u2, hu2⟩ := mk_ (((u0.setCell ⟨w.heap.size + 1 + 1, 0, none⟩ (.int .i64 (takeN r s).ep)).setCell ⟨w.heap.size + 1 + 1, 1, none⟩ (.int .i64 (takeN r s).ow)).setCell ⟨w.heap.size + 1 + 1, 2, none⟩ (.int .i64 (takeN r s).pa))
          have Q2 : RgBox u2 (w.heap.size + 1 + 1) (takeN r s) := by rw [hu2]; exact Z2.put (takeN r s)
          have kp : ∀ k, k ≠ w.heap.size + 1 + 1 → u2.heap[k]? = u0.heap[k]? := fun k hk => by rw [hu2]; exact heap_put3 _ _ _ (takeN r s) hk
          have hs2 : RgAt u2 qx (takeN r s) ∧ MiAt u2 q (takeM r m) (.slice a1 m.lg.length c1) := ⟨hs0.1.keep (kp _ (by omega)), hs0.2.keep (kp _ (by omega))⟩
          have Z3 := Z3.keep (kp _ (by omega))
          have O1 := O1.keep (fun g e => kp g (by have := lo g e; omega))
          have Bd : Below w.heap.size w u2 := by rw [hu2]; exact below_put3 (takeN r s) Bd (by omega)
          rw [← hu2]
          clear hu2 kp
          refine hKz _ _ ⟨hs2, ?_⟩
          clear hKz Kz
          refine w1 3 fun Kz hKz => ?_
          have cc := Z3
          obtain ⟨z0, z1, z2, z3, z4, z5, z6, zf⟩ := cc
          have g0 := zf 0
          have g1 := zf 1
          have g2 := zf 2
          have g3 := zf 3
          have g4 := zf 4
          have g5 := zf 5
          have g6 := zf 6
          go_simp
          clear z0 z1 z2 z3 z4 z5 z6 zf g0 g1 g2 g3 g4 g5 g6
          obtain ⟨u3, hu3⟩ := mk_ (((((((u2.setCell ⟨w.heap.size + 1 + 1 + 1, 0, none⟩ (.bool (takeM r m).up)).setCell ⟨w.heap.size + 1 + 1 + 1, 1, none⟩ (.int .i64 (takeM r m).li)).setCell ⟨w.heap.size + 1 + 1 + 1, 2, none⟩ (.int .i64 (takeM r m).ep)).setCell ⟨w.heap.size + 1 + 1 + 1, 3, none⟩ (.slice a1 m.lg.length c1)).setCell ⟨w.heap.size + 1 + 1 + 1, 4, none⟩ (.int .i64 (takeM r m).sd)).setCell ⟨w.heap.size + 1 + 1 + 1, 5, none⟩ (.int .i64 (takeM r m).ac)).setCell ⟨w.heap.size + 1 + 1 + 1, 6, none⟩ (.int .i64 (takeM r m).al))
          have Q3 : MiBox u3 (w.heap.size + 1 + 1 + 1) (takeM r m) (.slice a1 m.lg.length c1) := by rw [hu3]; exact Z3.put (takeM r m) _
          have kp : ∀ k, k ≠ w.heap.size + 1 + 1 + 1 → u3.heap[k]? = u2.heap[k]? := fun k hk => by rw [hu3]; exact heap_put7 _ _ _ (takeM r m) _ hk
          have hs3 : RgAt u3 qx (takeN r s) ∧ MiAt u3 q (takeM r m) (.slice a1 m.lg.length c1) := ⟨hs2.1.keep (kp _ (by omega)), hs2.2.keep (kp _ (by omega))⟩
          have Q2 := Q2.keep (kp _ (by omega))
          have O1 := O1.keep (fun g e => kp g (by have := lo g e; omega))
          have Bd : Below w.heap.size w u3 := by rw [hu3]; exact below_put7 (takeM r m) _ Bd (by omega)
          rw [← hu3]
          clear hu3 kp
          refine hKz _ _ ⟨hs3, ?_⟩
          clear hKz Kz
          refine tw 4 8 (.bool true) ?_
          refine wpAnyH_done (by kernel_rfl) ?_ _
          have OZ := O1.base (base' := w.heap.size) (by omega)
          obtain ⟨⟨q0, q1, q2⟩, qf⟩ := Q2
          obtain ⟨p0, p1, p2, p3, p4, p5, p6, pf⟩ := Q3
          clear qf pf hs3 O1
          go_wp2
          refine bodyPost_ret (v := .tuple #[.agg #[.int .i64 (takeN r s).ep, .int .i64 (takeN r s).ow, .int .i64 (takeN r s).pa], .agg #[.bool (takeM r m).up, .int .i64 (takeM r m).li, .int .i64 (takeM r m).ep, .slice a1 m.lg.length c1, .int .i64 (takeM r m).sd, .int .i64 (takeM r m).ac, .int .i64 (takeM r m).al], .bool true]) (by simp [results, Try.results73, go_sem, *]) rfl ⟨a1, c1, by rw [hTR.out, hTM.out, hT.out], OZ, Bd⟩
       ·
        have d7 : (m.li != r.pa) = true := by simpa using h7
        have hT : Hid (takeB r s m = false) := by unfold Hid takeB; rw [show takeG r s m = false by unfold takeG; rw [h1.out, h2.out, h3.out, h4.out, decide_eq_true (show s ≠ r.ow from h5.out), decide_eq_true h6.out, decide_eq_false h7]; rfl]; rfl
        have hTR : Hid (takeR r s m = r) := by unfold Hid takeR; rw [hT.out]; rfl
        have hTM : Hid (takeMm r s m = m) := by unfold Hid takeMm; rw [hT.out]; rfl
        clear h7
        have cc := M
        obtain ⟨n0, n1, n2, n3, n4, n5, n6⟩ := cc
        have cc := A
        obtain ⟨⟨x0, x1, x2⟩, xf⟩ := cc
        clear xf
        have FR := A.at_
        have FM := N.at_
        go_upto_region 3 with fail
        refine wp_region_held (S := fun Y => RgAt Y w.heap.size r ∧ MiAt Y q m (.slice a1 m.lg.length c1)) (by kernel_rfl) ?_
        change wpAnyH _ _ _ _ _ _ _ _ (World.drew _)
        have kd : Below u4.heap.size u4 u4.drew := (Below.refl _ _).drew
        obtain ⟨u0, hu0⟩ := mk_ u4.drew
        rw [← hu0] at kd ⊢
        clear hu0
        have hs0 : RgAt u0 w.heap.size r ∧ MiAt u0 q m (.slice a1 m.lg.length c1) := ⟨FR.below kd FR.lt, FM.below kd FM.lt⟩
        have Z2 := Z2.below kd Z2.lt
        have Z3 := Z3.below kd Z3.lt
        have O1 := O1.later kd
        have Bd := B4.trans (kd.mono B4.size)
        have lo := O1.lt
        refine tw 0 49 (.agg #[.int .i64 r.ep, .int .i64 r.ow, .int .i64 r.pa]) ?_ (hy := by intro Y hSw; obtain ⟨⟨X0, X1, X2⟩, _⟩ := hSw; go_simp)
        refine tw 1 50 (.agg #[.bool m.up, .int .i64 m.li, .int .i64 m.ep, .slice a1 m.lg.length c1, .int .i64 m.sd, .int .i64 m.ac, .int .i64 m.al]) ?_ (hy := by intro Y hSw; obtain ⟨_, X0, X1, X2, X3, X4, X5, X6⟩ := hSw; go_simp)
        refine w1 2 fun Kz hKz => ?_
        have cc := Z2
        obtain ⟨⟨z0, z1, z2⟩, zf⟩ := cc
        have g0 := zf 0
        have g1 := zf 1
        have g2 := zf 2
        go_simp
        clear z0 z1 z2 zf g0 g1 g2
        obtain ⟨u2, hu2⟩ := mk_ (((u0.setCell ⟨w.heap.size + 1 + 1, 0, none⟩ (.int .i64 r.ep)).setCell ⟨w.heap.size + 1 + 1, 1, none⟩ (.int .i64 r.ow)).setCell ⟨w.heap.size + 1 + 1, 2, none⟩ (.int .i64 r.pa))
        have Q2 : RgBox u2 (w.heap.size + 1 + 1) r := by rw [hu2]; exact Z2.put r
        have kp : ∀ k, k ≠ w.heap.size + 1 + 1 → u2.heap[k]? = u0.heap[k]? := fun k hk => by rw [hu2]; exact heap_put3 _ _ _ r hk
        have hs2 : RgAt u2 w.heap.size r ∧ MiAt u2 q m (.slice a1 m.lg.length c1) := ⟨hs0.1.keep (kp _ (by omega)), hs0.2.keep (kp _ (by omega))⟩
        have Z3 := Z3.keep (kp _ (by omega))
        have O1 := O1.keep (fun g e => kp g (by have := lo g e; omega))
        have Bd : Below w.heap.size w u2 := by rw [hu2]; exact below_put3 r Bd (by omega)
        rw [← hu2]
        clear hu2 kp
        refine hKz _ _ ⟨hs2, ?_⟩
        clear hKz Kz
        refine w1 3 fun Kz hKz => ?_
        have cc := Z3
        obtain ⟨z0, z1, z2, z3, z4, z5, z6, zf⟩ := cc
        have g0 := zf 0
        have g1 := zf 1
        have g2 := zf 2
        have g3 := zf 3
        have g4 := zf 4
        have g5 := zf 5
        have g6 := zf 6
        go_simp
        clear z0 z1 z2 z3 z4 z5 z6 zf g0 g1 g2 g3 g4 g5 g6
        obtain ⟨u3, hu3⟩ := mk_ (((((((u2.setCell ⟨w.heap.size + 1 + 1 + 1, 0, none⟩ (.bool m.up)).setCell ⟨w.heap.size + 1 + 1 + 1, 1, none⟩ (.int .i64 m.li)).setCell ⟨w.heap.size + 1 + 1 + 1, 2, none⟩ (.int .i64 m.ep)).setCell ⟨w.heap.size + 1 + 1 + 1, 3, none⟩ (.slice a1 m.lg.length c1)).setCell ⟨w.heap.size + 1 + 1 + 1, 4, none⟩ (.int .i64 m.sd)).setCell ⟨w.heap.size + 1 + 1 + 1, 5, none⟩ (.int .i64 m.ac)).setCell ⟨w.heap.size + 1 + 1 + 1, 6, none⟩ (.int .i64 m.al))
        have Q3 : MiBox u3 (w.heap.size + 1 + 1 + 1) m (.slice a1 m.lg.length c1) := by rw [hu3]; exact Z3.put m _
        have kp : ∀ k, k ≠ w.heap.size + 1 + 1 + 1 → u3.heap[k]? = u2.heap[k]? := fun k hk => by rw [hu3]; exact heap_put7 _ _ _ m _ hk
        have hs3 : RgAt u3 w.heap.size r ∧ MiAt u3 q m (.slice a1 m.lg.length c1) := ⟨hs2.1.keep (kp _ (by omega)), hs2.2.keep (kp _ (by omega))⟩
        have Q2 := Q2.keep (kp _ (by omega))
        have O1 := O1.keep (fun g e => kp g (by have := lo g e; omega))
        have Bd : Below w.heap.size w u3 := by rw [hu3]; exact below_put7 m _ Bd (by omega)
        rw [← hu3]
        clear hu3 kp
        refine hKz _ _ ⟨hs3, ?_⟩
        clear hKz Kz
        refine tw 4 8 (.bool false) ?_
        refine wpAnyH_done (by kernel_rfl) ?_ _
        have OZ := O1.base (base' := w.heap.size) (by omega)
        obtain ⟨⟨q0, q1, q2⟩, qf⟩ := Q2
        obtain ⟨p0, p1, p2, p3, p4, p5, p6, pf⟩ := Q3
        clear qf pf hs3 O1
        go_wp2
        refine bodyPost_ret (v := .tuple #[.agg #[.int .i64 r.ep, .int .i64 r.ow, .int .i64 r.pa], .agg #[.bool m.up, .int .i64 m.li, .int .i64 m.ep, .slice a1 m.lg.length c1, .int .i64 m.sd, .int .i64 m.ac, .int .i64 m.al], .bool false]) (by simp [results, Try.results73, go_sem, *]) rfl ⟨a1, c1, by rw [hTR.out, hTM.out, hT.out], OZ, Bd⟩
      ·
       have d6 : decide (m.li ≤ 0) = true := decide_eq_true (by omega)
       have hT : Hid (takeB r s m = false) := by unfold Hid takeB; rw [show takeG r s m = false by unfold takeG; rw [h1.out, h2.out, h3.out, h4.out, decide_eq_true (show s ≠ r.ow from h5.out), decide_eq_false h6]; rfl]; rfl
       have hTR : Hid (takeR r s m = r) := by unfold Hid takeR; rw [hT.out]; rfl
       have hTM : Hid (takeMm r s m = m) := by unfold Hid takeMm; rw [hT.out]; rfl
       clear h6
       have cc := M
       obtain ⟨n0, n1, n2, n3, n4, n5, n6⟩ := cc
       have cc := A
       obtain ⟨⟨x0, x1, x2⟩, xf⟩ := cc
       clear xf
       have FR := A.at_
       have FM := N.at_
       go_upto_region 3 with fail
       refine wp_region_held (S := fun Y => RgAt Y w.heap.size r ∧ MiAt Y q m (.slice a1 m.lg.length c1)) (by kernel_rfl) ?_
       change wpAnyH _ _ _ _ _ _ _ _ (World.drew _)
       have kd : Below u4.heap.size u4 u4.drew := (Below.refl _ _).drew
       obtain ⟨u0, hu0⟩ := mk_ u4.drew
       rw [← hu0] at kd ⊢
       clear hu0
       have hs0 : RgAt u0 w.heap.size r ∧ MiAt u0 q m (.slice a1 m.lg.length c1) := ⟨FR.below kd FR.lt, FM.below kd FM.lt⟩
       have Z2 := Z2.below kd Z2.lt
       have Z3 := Z3.below kd Z3.lt
       have O1 := O1.later kd
       have Bd := B4.trans (kd.mono B4.size)
       have lo := O1.lt
       refine tw 0 49 (.agg #[.int .i64 r.ep, .int .i64 r.ow, .int .i64 r.pa]) ?_ (hy := by intro Y hSw; obtain ⟨⟨X0, X1, X2⟩, _⟩ := hSw; go_simp)
       refine tw 1 50 (.agg #[.bool m.up, .int .i64 m.li, .int .i64 m.ep, .slice a1 m.lg.length c1, .int .i64 m.sd, .int .i64 m.ac, .int .i64 m.al]) ?_ (hy := by intro Y hSw; obtain ⟨_, X0, X1, X2, X3, X4, X5, X6⟩ := hSw; go_simp)
       refine w1 2 fun Kz hKz => ?_
       have cc := Z2
       obtain ⟨⟨z0, z1, z2⟩, zf⟩ := cc
       have g0 := zf 0
       have g1 := zf 1
       have g2 := zf 2
       go_simp
       clear z0 z1 z2 zf g0 g1 g2
       obtain ⟨u2, hu2⟩ := mk_ (((u0.setCell ⟨w.heap.size + 1 + 1, 0, none⟩ (.int .i64 r.ep)).setCell ⟨w.heap.size + 1 + 1, 1, none⟩ (.int .i64 r.ow)).setCell ⟨w.heap.size + 1 + 1, 2, none⟩ (.int .i64 r.pa))
       have Q2 : RgBox u2 (w.heap.size + 1 + 1) r := by rw [hu2]; exact Z2.put r
       have kp : ∀ k, k ≠ w.heap.size + 1 + 1 → u2.heap[k]? = u0.heap[k]? := fun k hk => by rw [hu2]; exact heap_put3 _ _ _ r hk
       have hs2 : RgAt u2 w.heap.size r ∧ MiAt u2 q m (.slice a1 m.lg.length c1) := ⟨hs0.1.keep (kp _ (by omega)), hs0.2.keep (kp _ (by omega))⟩
       have Z3 := Z3.keep (kp _ (by omega))
       have O1 := O1.keep (fun g e => kp g (by have := lo g e; omega))
       have Bd : Below w.heap.size w u2 := by rw [hu2]; exact below_put3 r Bd (by omega)
       rw [← hu2]
       clear hu2 kp
       refine hKz _ _ ⟨hs2, ?_⟩
       clear hKz Kz
       refine w1 3 fun Kz hKz => ?_
       have cc := Z3
       obtain ⟨z0, z1, z2, z3, z4, z5, z6, zf⟩ := cc
       have g0 := zf 0
       have g1 := zf 1
       have g2 := zf 2
       have g3 := zf 3
       have g4 := zf 4
       have g5 := zf 5
       have g6 := zf 6
       go_simp
       clear z0 z1 z2 z3 z4 z5 z6 zf g0 g1 g2 g3 g4 g5 g6
       obtain ⟨u3, hu3⟩ := mk_ (((((((u2.setCell ⟨w.heap.size + 1 + 1 + 1, 0, none⟩ (.bool m.up)).setCell ⟨w.heap.size + 1 + 1 + 1, 1, none⟩ (.int .i64 m.li)).setCell ⟨w.heap.size + 1 + 1 + 1, 2, none⟩ (.int .i64 m.ep)).setCell ⟨w.heap.size + 1 + 1 + 1, 3, none⟩ (.slice a1 m.lg.length c1)).setCell ⟨w.heap.size + 1 + 1 + 1, 4, none⟩ (.int .i64 m.sd)).setCell ⟨w.heap.size + 1 + 1 + 1, 5, none⟩ (.int .i64 m.ac)).setCell ⟨w.heap.size + 1 + 1 + 1, 6, none⟩ (.int .i64 m.al))
       have Q3 : MiBox u3 (w.heap.size + 1 + 1 + 1) m (.slice a1 m.lg.length c1) := by rw [hu3]; exact Z3.put m _
       have kp : ∀ k, k ≠ w.heap.size + 1 + 1 + 1 → u3.heap[k]? = u2.heap[k]? := fun k hk => by rw [hu3]; exact heap_put7 _ _ _ m _ hk
       have hs3 : RgAt u3 w.heap.size r ∧ MiAt u3 q m (.slice a1 m.lg.length c1) := ⟨hs2.1.keep (kp _ (by omega)), hs2.2.keep (kp _ (by omega))⟩
       have Q2 := Q2.keep (kp _ (by omega))
       have O1 := O1.keep (fun g e => kp g (by have := lo g e; omega))
       have Bd : Below w.heap.size w u3 := by rw [hu3]; exact below_put7 m _ Bd (by omega)
       rw [← hu3]
       clear hu3 kp
       refine hKz _ _ ⟨hs3, ?_⟩
       clear hKz Kz
       refine tw 4 8 (.bool false) ?_
       refine wpAnyH_done (by kernel_rfl) ?_ _
       have OZ := O1.base (base' := w.heap.size) (by omega)
       obtain ⟨⟨q0, q1, q2⟩, qf⟩ := Q2
       obtain ⟨p0, p1, p2, p3, p4, p5, p6, pf⟩ := Q3
       clear qf pf hs3 O1
       go_wp2
       refine bodyPost_ret (v := .tuple #[.agg #[.int .i64 r.ep, .int .i64 r.ow, .int .i64 r.pa], .agg #[.bool m.up, .int .i64 m.li, .int .i64 m.ep, .slice a1 m.lg.length c1, .int .i64 m.sd, .int .i64 m.ac, .int .i64 m.al], .bool false]) (by simp [results, Try.results73, go_sem, *]) rfl ⟨a1, c1, by rw [hTR.out, hTM.out, hT.out], OZ, Bd⟩
end Go.Proofs.Ytnpiljegdiconaa
