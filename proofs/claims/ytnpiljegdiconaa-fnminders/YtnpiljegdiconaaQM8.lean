import Derived.Test.YtnpiljegdiconaaQKMn3
namespace Go.Proofs.Ytnpiljegdiconaa
open Go.ChangeShapes Go.WideShapes Go.ChangeAt Go.RowKit
open Go.ChangeMaps (open_string shut_string)
set_option linter.unusedVariables false
set_option maxRecDepth 100000
set_option maxHeartbeats 4000000 in
theorem sameIns12 (ad ad' : Option Addr) (cap cap' : Nat) (L : List Ik) (w : World) (hv : FView ikEnc w ad L) (hv' : FView ikEnc w ad' L) (hl : L.length ≤ 1048576) :
  Calls Try.prog 23 #[.slice ad L.length cap, .slice ad' L.length cap'] w fun e w' => e = .returned (.bool true) ∧ Below w.heap.size w w' := by
 go_enter Try.func23, Try.ntmps23
 go_wp2
 go_loopw [5] (fun i wr => ∃ k : Nat, k ≤ L.length ∧ i = .int .i64 (k : Int) ∧ Below w.heap.size w wr) (fun i _ => L.length - (intOf i).toNat)
 case atStart => exact ⟨0, Nat.zero_le _, rfl, Below.refl _ _⟩
 case round =>
  obtain ⟨k, hk, rfl, K⟩ := hrel
  have qA := hv.below K (hv.lt ikEnc_len (by omega))
  have qC := hv'.below K (hv'.lt ikEnc_len (by omega))
  by_cases hlt : k < L.length
  ·
   obtain ⟨ba, oa, rfl, _⟩ := qA (by omega)
   obtain ⟨bc, oc, rfl, _⟩ := qC (by omega)
   obtain ⟨o, ho⟩ : ∃ o, L.getD k Ik.nil = o := ⟨_, rfl⟩
   have hA : ∀ Y, Below wr.heap.size wr Y → IkAtO Y ba (oa + k * 8) o := fun Y hY => by rw [← ho]; exact ikAtO_of ((qA.below hY (qA.lt ikEnc_len (by omega))).at_ ikEnc_len Ik.nil hlt)
   have hC : ∀ Y, Below wr.heap.size wr Y → IkAtO Y bc (oc + k * 8) o := fun Y hY => by rw [← ho]; exact ikAtO_of ((qC.below hY (qC.lt ikEnc_len (by omega))).at_ ikEnc_len Ik.nil hlt)
   clear ho
   go_upto_region 6 with fail
   refine wp_region_held (S := fun Y => Below wr.heap.size wr Y) (by kernel_rfl) ?_
   change wpAnyH _ _ _ _ _ _ _ _ (World.drew _)
   have hb0 : Below wr.heap.size wr wr.drew := (Below.refl _ _).drew
   obtain ⟨u0, hy0⟩ := mk_ wr.drew
   rw [← hy0] at hb0 ⊢
   clear hy0
   refine tw 0 17 (.slice (some ⟨ba, oa, none⟩) L.length cap) ?_
   refine tw 1 18 (.int .i64 (k : Int)) ?_
   refine tw 2 19 (.pointer (some ⟨ba, oa + k * 8, none⟩)) ?_ (hy := by intro Y hSw; go_simp; try omega)
   refine tw 3 20 (.agg #[.int .i64 o.k, .int .i64 o.q, .int .i64 o.r, .int .i64 o.c, .int .i64 o.b, .int .i64 o.p, .int .i64 o.h, .bool o.up]) ?_ (hy := by intro Y hSw; obtain ⟨X0, X1, X2, X3, X4, X5, X6, X7⟩ := hA Y hSw; go_simp)
   refine tw 4 21 (.slice (some ⟨bc, oc, none⟩) L.length cap') ?_
   refine tw 5 22 (.int .i64 (k : Int)) ?_
   refine tw 6 23 (.pointer (some ⟨bc, oc + k * 8, none⟩)) ?_ (hy := by intro Y hSw; go_simp; try omega)
   refine tw 7 24 (.agg #[.int .i64 o.k, .int .i64 o.q, .int .i64 o.r, .int .i64 o.c, .int .i64 o.b, .int .i64 o.p, .int .i64 o.h, .bool o.up]) ?_ (hy := by intro Y hSw; obtain ⟨X0, X1, X2, X3, X4, X5, X6, X7⟩ := hC Y hSw; go_simp)
   refine tw 8 25 (.bool false) ?_ (hy := by intro Y hSw; go_simp)
   refine wpAnyH_done (by kernel_rfl) ?_ _
   go_wp2
   go_roundw
   case rel => exact ⟨k + 1, by omega, by go_num, K.trans (hb0.mono K.size)⟩
   case measure => simp [intOf]; omega
  ·
   obtain rfl : k = L.length := by omega
   go_wp2
   go_ret
   exact ⟨rfl, K⟩
theorem sameMi (m : Mi) (ad ad' : Option Addr) (cap cap' : Nat) (w : World) (hv : FView ikEnc w ad m.lg) (hv' : FView ikEnc w ad' m.lg) (hl : m.lg.length ≤ 1048576) :
  Calls Try.prog 11 #[.agg #[.bool m.up, .int .i64 m.li, .int .i64 m.ep, .slice ad m.lg.length cap, .int .i64 m.sd, .int .i64 m.ac, .int .i64 m.al], .agg #[.bool m.up, .int .i64 m.li, .int .i64 m.ep, .slice ad' m.lg.length cap', .int .i64 m.sd, .int .i64 m.ac, .int .i64 m.al]] w fun e w' => e = .returned (.bool true) ∧ Below w.heap.size w w' := by
 have hB := hv.lt ikEnc_len (by omega)
 have hB' := hv'.lt ikEnc_len (by omega)
 obtain ⟨y, hy⟩ := mk_ ((w.alloc (Obj.cells #[.bool m.up, .int .i64 m.li, .int .i64 m.ep, .slice ad m.lg.length cap, .int .i64 m.sd, .int .i64 m.ac, .int .i64 m.al] 26)).alloc (Obj.cells #[.bool m.up, .int .i64 m.li, .int .i64 m.ep, .slice ad' m.lg.length cap', .int .i64 m.sd, .int .i64 m.ac, .int .i64 m.al] 26))
 have B0 : Below w.heap.size w y := by rw [hy]; exact ((Below.refl _ _).alloc (Nat.le_refl _) _).alloc (by simp) _
 have A0 : MiAt y w.heap.size m (.slice ad m.lg.length cap) := by rw [hy]; constructor <;> simp [go_sem]
 have A1 : MiAt y (w.heap.size + 1) m (.slice ad' m.lg.length cap') := by rw [hy]; constructor <;> simp [go_sem]
 have S1 := A1.lt
 go_enter Try.func11, Try.ntmps11
 go_wp2_with fail
 go_at_call 23
 rw [← hy]
 clear hy
 refine (sameIns12 ad ad' cap cap' m.lg y (hv.below B0 hB) (hv'.below B0 hB') hl).mono ?_
 rintro e w1 ⟨rfl, k1⟩
 have B1 := B0.trans (k1.mono B0.size)
 have A0 := A0.below k1 (by omega)
 have A1 := A1.below k1 (by omega)
 clear k1 B0
 obtain ⟨a0, a1, a2, a3, a4, a5, a6⟩ := A0
 obtain ⟨b0, b1, b2, b3, b4, b5, b6⟩ := A1
 go_wp2
 go_ret
 exact ⟨rfl, B1⟩
set_option maxHeartbeats 8000000 in
theorem drawMO (hR : BoxesDrawn) (ad : Option Addr) (len cap : Nat) (f : Nat → Int) (w : World) (h : Code0 w ad len f) :
  Calls Try.prog 9 #[.slice ad len cap] w fun e w' => ∃ m a c, e = .returned (.agg #[.bool (Mi.up m), .int .i64 (Mi.li m), .int .i64 (Mi.ep m), .slice a (Mi.lg m).length c, .int .i64 (Mi.sd m), .int .i64 (Mi.ac m), .int .i64 (Mi.al m)]) ∧ (Mi.lg m).length ≤ 61 ∧ FOwn ikEnc 8 30 w.heap.size w' (.slice a (Mi.lg m).length c) (Mi.lg m) ∧ Below w.heap.size w w' := by
 obtain ⟨R, hRe⟩ := mk_ w.heap.size
 have hRl0 : w.heap.size ≤ R := by omega
 obtain ⟨x0, hx0⟩ := mk_ (w.alloc (Obj.cells #[.bool false, .int .i64 0, .int .i64 0, .slice none 0 0, .int .i64 0, .int .i64 0, .int .i64 0] 26))
 have B0 : Below w.heap.size w x0 := by rw [hx0]; exact below_new _
 have R0 : MiBox x0 R ⟨false, 0, 0, [], 0, 0, 0⟩ (.slice none 0 0) := by rw [hx0, hRe]; constructor <;> simp [go_sem]
 have h0 := h.later B0 (Nat.le_refl _)
 go_enter Try.func9, Try.ntmps9
 go_wp2_with fail
 go_at_call 15
 rw [← hx0, ← hRe]
 clear hx0 hRe
 refine (drawNew ad len cap f x0 h0.view h0.lt h0.small h0.bytes).mono ?_
 rintro e y1 ⟨rfl, s1, b1, z1⟩
 have R1 := R0.below b1 R0.lt
 have B1 := B0.trans (b1.mono B0.size)
 have hc1 : x0.heap.size < y1.heap.size := s1.cur.lt
 have hRl := R0.lt
 generalize hcb : x0.heap.size = cb at *
 have hbR : w.heap.size ≤ cb := by rw [← hcb]; exact B0.size
 have hRc : R ≠ cb := by omega
 clear R0 z1 hcb
 go_wp2_with fail
 go_at_call 16
 refine (drawMM hR y1 s1 hc1).mono ?_
 rintro e y2 ⟨m, a, c, rfl, hL, o2, s2, g2⟩
 have R2 := R1.keep (g2.block _ R1.lt (by simp; omega))
 have B2 : Below w.heap.size w y2 := B1.grown g2 B1.size (fun k e => by simp at e; omega)
 have hc2 : cb < y2.heap.size := s2.cur.lt
 have z2 := g2.size
 have R1l := R1.lt
 clear R1 s1 g2 b1 B1
 have lo := o2.lt
 have BZ := below_put7 (q := R) m (.slice a m.lg.length c) B2 (by omega)
 have OZ : FOwn ikEnc 8 30 w.heap.size (((((((y2.setCell ⟨R, 0, none⟩ (.bool m.up)).setCell ⟨R, 1, none⟩ (.int .i64 m.li)).setCell ⟨R, 2, none⟩ (.int .i64 m.ep)).setCell ⟨R, 3, none⟩ (.slice a m.lg.length c)).setCell ⟨R, 4, none⟩ (.int .i64 m.sd)).setCell ⟨R, 5, none⟩ (.int .i64 m.ac)).setCell ⟨R, 6, none⟩ (.int .i64 m.al)) (.slice a m.lg.length c) m.lg := (o2.base (by omega)).keep (fun g e => heap_put7 y2 R g m _ (by have := lo g e; omega))
 obtain ⟨z0, z1, z2, z3, z4, z5, z6, zf⟩ := R2
 have g0 := zf 0
 have g1 := zf 1
 have g2 := zf 2
 have g3 := zf 3
 have g4 := zf 4
 have g5 := zf 5
 have g6 := zf 6
 clear zf
 go_wp2
 refine bodyPost_ret (v := .agg #[.bool m.up, .int .i64 m.li, .int .i64 m.ep, .slice a m.lg.length c, .int .i64 m.sd, .int .i64 m.ac, .int .i64 m.al]) (by simp [results, Try.results9, go_sem, *]) rfl ⟨m, a, c, rfl, hL, OZ, BZ⟩
set_option maxHeartbeats 8000000 in
theorem drawNo (hR : BoxesDrawn) (ad : Option Addr) (len cap : Nat) (f : Nat → Int) (w : World) (h : Code0 w ad len f) :
  Calls Try.prog 5 #[.slice ad len cap] w fun e w' => ∃ m a c x, e = .returned (.tuple #[.agg #[.bool (Mi.up m), .int .i64 (Mi.li m), .int .i64 (Mi.ep m), .slice a (Mi.lg m).length c, .int .i64 (Mi.sd m), .int .i64 (Mi.ac m), .int .i64 (Mi.al m)], .agg #[.int .i64 (Ik.k x), .int .i64 (Ik.q x), .int .i64 (Ik.r x), .int .i64 (Ik.c x), .int .i64 (Ik.b x), .int .i64 (Ik.p x), .int .i64 (Ik.h x), .bool (Ik.up x)]]) ∧ (Mi.lg m).length ≤ 61 ∧ FOwn ikEnc 8 30 w.heap.size w' (.slice a (Mi.lg m).length c) (Mi.lg m) ∧ Below w.heap.size w w' := by
 obtain ⟨R, hRe⟩ := mk_ w.heap.size
 have hRl0 : w.heap.size ≤ R := by omega
 obtain ⟨x0, hx0⟩ := mk_ ((w.alloc (Obj.cells #[.bool false, .int .i64 0, .int .i64 0, .slice none 0 0, .int .i64 0, .int .i64 0, .int .i64 0] 26)).alloc (Obj.cells #[.int .i64 0, .int .i64 0, .int .i64 0, .int .i64 0, .int .i64 0, .int .i64 0, .int .i64 0, .bool false] 30))
 have B0 : Below w.heap.size w x0 := by rw [hx0]; exact ((Below.refl _ _).alloc (Nat.le_refl _) _).alloc (by simp) _
 have R0 : MiBox x0 R ⟨false, 0, 0, [], 0, 0, 0⟩ (.slice none 0 0) := by rw [hx0, hRe]; constructor <;> simp [go_sem]
 have I0 : IBox x0 (R + 1) Ik.nil := by rw [hx0, hRe]; refine ⟨?_, fun i => ?_⟩; constructor <;> simp [go_sem, Ik.nil]; simp [go_sem]
 have h0 := h.later B0 (Nat.le_refl _)
 go_enter Try.func5, Try.ntmps5
 go_wp2_with fail
 go_at_call 15
 rw [← hx0, ← hRe]
 clear hx0 hRe
 refine (drawNew ad len cap f x0 h0.view h0.lt h0.small h0.bytes).mono ?_
 rintro e y1 ⟨rfl, s1, b1, z1⟩
 have R1 := R0.below b1 R0.lt
 have I1 := I0.keep (b1.block _ I0.at_.lt)
 have B1 := B0.trans (b1.mono B0.size)
 have hc1 : x0.heap.size < y1.heap.size := s1.cur.lt
 have hRl := I0.at_.lt
 generalize hcb : x0.heap.size = cb at *
 have hbR : w.heap.size ≤ cb := by rw [← hcb]; exact B0.size
 have hRc : R ≠ cb := by omega
 clear R0 I0 z1 hcb
 go_wp2_with fail
 go_at_call 16
 refine (drawMM hR y1 s1 hc1).mono ?_
 rintro e y2 ⟨m, a, c, rfl, hL, o2, s2, g2⟩
 have R2 := R1.keep (g2.block _ R1.lt (by simp; omega))
 have I2 := I1.keep (g2.block _ I1.at_.lt (by simp; omega))
 have B2 : Below w.heap.size w y2 := B1.grown g2 B1.size (fun k e => by simp at e; omega)
 have hc2 : cb < y2.heap.size := s2.cur.lt
 have z2 := g2.size
 have R1l := I1.at_.lt
 clear R1 I1 s1 g2 b1 B1
 obtain ⟨y4, hy4⟩ := mk_ (y2.alloc (Obj.cells #[.bool m.up, .int .i64 m.li, .int .i64 m.ep, .slice a m.lg.length c, .int .i64 m.sd, .int .i64 m.ac, .int .i64 m.al] 26))
 have kn : Below y2.heap.size y2 y4 := by rw [hy4]; exact below_new _
 have Q4 : MiAt y4 y2.heap.size m (.slice a m.lg.length c) := by rw [hy4]; exact MiAt.new y2 _ _ _
 have s4 := s2.later kn
 have R4 := R2.below kn R2.lt
 have I4 := I2.keep (kn.block _ I2.at_.lt)
 have B4 := B2.trans (kn.mono B2.size)
 have og : ∀ g_, (Value.slice a m.lg.length c).ownBlock = some g_ → y1.heap.size ≤ g_ ∧ g_ < y2.heap.size := fun g_ e => o2.lt g_ e
 have o4 := o2.later kn
 go_upto_region 3 with fail
 rw [← hy4]
 have z4 := kn.size
 clear hy4 kn s2 R2 I2 B2 o2
 generalize y2.heap.size = Q at Q4 og hc2 z2 z4 ⊢
 have hQc : Q ≠ cb := by omega
 refine wp_region_held (S := fun Y => MiAt Y Q m (.slice a m.lg.length c)) (by kernel_rfl) ?_
 change wpAnyH _ _ _ _ _ _ _ _ (World.drew _)
 have kd : Below y4.heap.size y4 y4.drew := (Below.refl _ _).drew
 obtain ⟨u0, hu0⟩ := mk_ y4.drew
 rw [← hu0] at kd ⊢
 clear hu0
 have s6 := s4.later kd
 have R6 := R4.below kd R4.lt
 have I6 := I4.keep (kd.block _ I4.at_.lt)
 have Q6 := Q4.below kd Q4.lt
 have o6 := o4.later kd
 have B6 := B4.trans (kd.mono B4.size)
 have z6 := kd.size
 clear kd s4 R4 Q4 o4 B4 I4
 refine tw 0 10 (.agg #[.bool m.up, .int .i64 m.li, .int .i64 m.ep, .slice a m.lg.length c, .int .i64 m.sd, .int .i64 m.ac, .int .i64 m.al]) ?_ (hy := by intro Y hSw; obtain ⟨X0, X1, X2, X3, X4, X5, X6⟩ := hSw; go_simp)
 refine tw 1 11 (.pointer (some ⟨cb, 0, none⟩)) ?_
 refine w1 2 fun Kz hKz => ?_
 go_simp
 go_at_call 17
 refine (drawBt u0 s6 (by omega)).mono ?_
 rintro e u1 ⟨x, rfl, s7, g7, _⟩
 have R7 := R6.keep (g7.block _ R6.lt (by simp; omega))
 have I7 := I6.keep (g7.block _ I6.at_.lt (by simp; omega))
 have Q7 := Q6.keep (g7.block _ Q6.lt (by simp; omega))
 have o7 := o6.keep (fun g e => g7.block g (o6.lt g e).2 (by have := og g e; simp; omega))
 have B7 : Below w.heap.size w u1 := B6.grown g7 B6.size (fun k e => by simp at e; omega)
 clear R6 Q6 o6 B6 s6 s7 g7 I6
 refine hKz _ _ ⟨Q7, ?_⟩
 clear hKz Kz
 refine w1 3 fun Kz hKz => ?_
 have cc := R7
 obtain ⟨z0, z1, z2, z3, z4, z5, z6, zf⟩ := cc
 have g0 := zf 0
 have g1 := zf 1
 have g2 := zf 2
 have g3 := zf 3
 have g4 := zf 4
 have g5 := zf 5
 have g6 := zf 6
 go_simp
 clear z0 z1 z2 z3 z4 z5 z6 zf g0 g1 g2 g3 g4 g5 g6
 obtain ⟨u2, hu2⟩ := mk_ (((((((u1.setCell ⟨R, 0, none⟩ (.bool m.up)).setCell ⟨R, 1, none⟩ (.int .i64 m.li)).setCell ⟨R, 2, none⟩ (.int .i64 m.ep)).setCell ⟨R, 3, none⟩ (.slice a m.lg.length c)).setCell ⟨R, 4, none⟩ (.int .i64 m.sd)).setCell ⟨R, 5, none⟩ (.int .i64 m.ac)).setCell ⟨R, 6, none⟩ (.int .i64 m.al))
 have R8 : MiBox u2 R m (.slice a m.lg.length c) := by rw [hu2]; exact R7.put m _
 have kp : ∀ k, k ≠ R → u2.heap[k]? = u1.heap[k]? := fun k hk => by rw [hu2]; exact heap_put7 _ _ _ m _ hk
 have I8 := I7.keep (kp _ (by omega))
 have Q8 := Q7.keep (kp _ (by omega))
 have o8 := o7.keep (fun g e => kp g (by have := og g e; omega))
 have B8 : Below w.heap.size w u2 := by rw [hu2]; exact below_put7 m _ B7 (by omega)
 rw [← hu2]
 clear hu2 kp R7 Q7 o7 B7 I7
 refine hKz _ _ ⟨Q8, ?_⟩
 clear hKz Kz
 refine w1 4 fun Kz hKz => ?_
 have cc := I8
 obtain ⟨⟨e0, e1, e2, e3, e4, e5, e6, e7⟩, ef⟩ := cc
 have f0 := ef 0
 have f1 := ef 1
 have f2 := ef 2
 have f3 := ef 3
 have f4 := ef 4
 have f5 := ef 5
 have f6 := ef 6
 have f7 := ef 7
 go_simp
 clear e0 e1 e2 e3 e4 e5 e6 e7 ef f0 f1 f2 f3 f4 f5 f6 f7
 obtain ⟨u3, hu3⟩ := mk_ ((((((((u2.setCell ⟨R + 1, 0, none⟩ (.int .i64 x.k)).setCell ⟨R + 1, 1, none⟩ (.int .i64 x.q)).setCell ⟨R + 1, 2, none⟩ (.int .i64 x.r)).setCell ⟨R + 1, 3, none⟩ (.int .i64 x.c)).setCell ⟨R + 1, 4, none⟩ (.int .i64 x.b)).setCell ⟨R + 1, 5, none⟩ (.int .i64 x.p)).setCell ⟨R + 1, 6, none⟩ (.int .i64 x.h)).setCell ⟨R + 1, 7, none⟩ (.bool x.up))
 have I9 : InAt u3 (R + 1) x := by rw [hu3]; exact I8.puts x
 have kp : ∀ k, k ≠ R + 1 → u3.heap[k]? = u2.heap[k]? := fun k hk => by rw [hu3, Below.heap_setCell _ _ _ _ hk, Below.heap_setCell _ _ _ _ hk, Below.heap_setCell _ _ _ _ hk, Below.heap_setCell _ _ _ _ hk, Below.heap_setCell _ _ _ _ hk, Below.heap_setCell _ _ _ _ hk, Below.heap_setCell _ _ _ _ hk, Below.heap_setCell _ _ _ _ hk]
 have R9 := R8.keep (kp _ (by omega))
 have Q9 := Q8.keep (kp _ (by omega))
 have o9 := o8.keep (fun g e => kp g (by have := og g e; omega))
 have B9 : Below w.heap.size w u3 := by rw [hu3]; exact ((((((((B8.setCell (p := ⟨R + 1, 0, none⟩) (by show _ ≤ R + 1; omega) _).setCell (p := ⟨R + 1, 1, none⟩) (by show _ ≤ R + 1; omega) _).setCell (p := ⟨R + 1, 2, none⟩) (by show _ ≤ R + 1; omega) _).setCell (p := ⟨R + 1, 3, none⟩) (by show _ ≤ R + 1; omega) _).setCell (p := ⟨R + 1, 4, none⟩) (by show _ ≤ R + 1; omega) _).setCell (p := ⟨R + 1, 5, none⟩) (by show _ ≤ R + 1; omega) _).setCell (p := ⟨R + 1, 6, none⟩) (by show _ ≤ R + 1; omega) _).setCell (p := ⟨R + 1, 7, none⟩) (by show _ ≤ R + 1; omega) _)
 rw [← hu3]
 clear hu3 kp R8 I8 Q8 o8 B8
 refine hKz _ _ ⟨Q9, ?_⟩
 clear hKz Kz
 refine wpAnyH_done (by kernel_rfl) ?_ _
 have OZ := o9.base (base' := w.heap.size) (by omega)
 obtain ⟨z0, z1, z2, z3, z4, z5, z6, zf⟩ := R9
 obtain ⟨e0, e1, e2, e3, e4, e5, e6, e7⟩ := I9
 clear zf Q9 o9
 go_wp2
 refine bodyPost_ret (v := .tuple #[.agg #[.bool m.up, .int .i64 m.li, .int .i64 m.ep, .slice a m.lg.length c, .int .i64 m.sd, .int .i64 m.ac, .int .i64 m.al], .agg #[.int .i64 x.k, .int .i64 x.q, .int .i64 x.r, .int .i64 x.c, .int .i64 x.b, .int .i64 x.p, .int .i64 x.h, .bool x.up]]) (by simp [results, Try.results5, go_sem, *]) rfl ⟨m, a, c, x, rfl, hL, OZ, B9⟩
set_option maxHeartbeats 8000000 in
theorem drawRd (hR : BoxesDrawn) (ad : Option Addr) (len cap : Nat) (f : Nat → Int) (w : World) (h : Code0 w ad len f) :
  Calls Try.prog 8 #[.slice ad len cap] w fun e w' => ∃ m a c p, e = .returned (.tuple #[.agg #[.bool (Mi.up m), .int .i64 (Mi.li m), .int .i64 (Mi.ep m), .slice a (Mi.lg m).length c, .int .i64 (Mi.sd m), .int .i64 (Mi.ac m), .int .i64 (Mi.al m)], .int .i64 p]) ∧ (Mi.lg m).length ≤ 61 ∧ FOwn ikEnc 8 30 w.heap.size w' (.slice a (Mi.lg m).length c) (Mi.lg m) ∧ Below w.heap.size w w' := by
 obtain ⟨R, hRe⟩ := mk_ w.heap.size
 have hRl0 : w.heap.size ≤ R := by omega
 obtain ⟨x0, hx0⟩ := mk_ (w.alloc (Obj.cells #[.bool false, .int .i64 0, .int .i64 0, .slice none 0 0, .int .i64 0, .int .i64 0, .int .i64 0] 26))
 have B0 : Below w.heap.size w x0 := by rw [hx0]; exact below_new _
 have R0 : MiBox x0 R ⟨false, 0, 0, [], 0, 0, 0⟩ (.slice none 0 0) := by rw [hx0, hRe]; constructor <;> simp [go_sem]
 have h0 := h.later B0 (Nat.le_refl _)
 go_enter Try.func8, Try.ntmps8
 go_wp2_with fail
 go_at_call 15
 rw [← hx0, ← hRe]
 clear hx0 hRe
 refine (drawNew ad len cap f x0 h0.view h0.lt h0.small h0.bytes).mono ?_
 rintro e y1 ⟨rfl, s1, b1, z1⟩
 have R1 := R0.below b1 R0.lt
 have B1 := B0.trans (b1.mono B0.size)
 have hc1 : x0.heap.size < y1.heap.size := s1.cur.lt
 have hRl := R0.lt
 generalize hcb : x0.heap.size = cb at *
 have hbR : w.heap.size ≤ cb := by rw [← hcb]; exact B0.size
 have hRc : R ≠ cb := by omega
 clear R0 z1 hcb
 go_wp2_with fail
 go_at_call 16
 refine (drawMM hR y1 s1 hc1).mono ?_
 rintro e y2 ⟨m, a, c, rfl, hL, o2, s2, g2⟩
 have R2 := R1.keep (g2.block _ R1.lt (by simp; omega))
 have B2 : Below w.heap.size w y2 := B1.grown g2 B1.size (fun k e => by simp at e; omega)
 have hc2 : cb < y2.heap.size := s2.cur.lt
 have z2 := g2.size
 have R1l := R1.lt
 clear R1 s1 g2 b1 B1
 obtain ⟨y4, hy4⟩ := mk_ (y2.alloc (Obj.cells #[.bool m.up, .int .i64 m.li, .int .i64 m.ep, .slice a m.lg.length c, .int .i64 m.sd, .int .i64 m.ac, .int .i64 m.al] 26))
 have kn : Below y2.heap.size y2 y4 := by rw [hy4]; exact below_new _
 have Q4 : MiAt y4 y2.heap.size m (.slice a m.lg.length c) := by rw [hy4]; exact MiAt.new y2 _ _ _
 have s4 := s2.later kn
 have R4 := R2.below kn R2.lt
 have B4 := B2.trans (kn.mono B2.size)
 have og : ∀ g_, (Value.slice a m.lg.length c).ownBlock = some g_ → y1.heap.size ≤ g_ ∧ g_ < y2.heap.size := fun g_ e => o2.lt g_ e
 have o4 := o2.later kn
 go_upto_region 3 with fail
 rw [← hy4]
 have z4 := kn.size
 clear hy4 kn s2 R2 B2 o2
 generalize y2.heap.size = Q at Q4 og hc2 z2 z4 ⊢
 have hQc : Q ≠ cb := by omega
 refine wp_region_held (S := fun Y => MiAt Y Q m (.slice a m.lg.length c)) (by kernel_rfl) ?_
 change wpAnyH _ _ _ _ _ _ _ _ (World.drew _)
 have kd : Below y4.heap.size y4 y4.drew := (Below.refl _ _).drew
 obtain ⟨u0, hu0⟩ := mk_ y4.drew
 rw [← hu0] at kd ⊢
 clear hu0
 have s6 := s4.later kd
 have R6 := R4.below kd R4.lt
 have Q6 := Q4.below kd Q4.lt
 have o6 := o4.later kd
 have B6 := B4.trans (kd.mono B4.size)
 have z6 := kd.size
 clear kd s4 R4 Q4 o4 B4
 refine tw 0 10 (.agg #[.bool m.up, .int .i64 m.li, .int .i64 m.ep, .slice a m.lg.length c, .int .i64 m.sd, .int .i64 m.ac, .int .i64 m.al]) ?_ (hy := by intro Y hSw; obtain ⟨X0, X1, X2, X3, X4, X5, X6⟩ := hSw; go_simp)
 refine tw 1 11 (.pointer (some ⟨cb, 0, none⟩)) ?_
 refine tw 2 12 (.pointer (some ⟨Q, 6, none⟩)) ?_
 refine tw 3 13 (.int .i64 m.al) ?_ (hy := by intro Y hSw; obtain ⟨X0, X1, X2, X3, X4, X5, X6⟩ := hSw; go_simp)
 refine w1 4 fun Kz hKz => ?_
 go_simp
 obtain ⟨v0, hv0⟩ := mk_ (u0.alloc (Obj.cells #[.int .i64 0, .int .i64 m.al, .int .i64 1, .int .i64 2] 3))
 have kn : Below u0.heap.size u0 v0 := by rw [hv0]; exact below_new _
 have hg : ∀ i, i < 4 → ∃ z, v0.cell? ⟨u0.heap.size, i, none⟩ = some (.int .i64 z) ∧ True := fun i h_ => by rw [hv0]; rcases (by omega : i = 0 ∨ i = 1 ∨ i = 2 ∨ i = 3) with rfl | rfl | rfl | rfl; exact ⟨0, by simp [go_sem], trivial⟩; exact ⟨m.al, by simp [go_sem], trivial⟩; exact ⟨1, by simp [go_sem], trivial⟩; exact ⟨2, by simp [go_sem], trivial⟩
 have s6 := s6.later kn
 have R6 := R6.below kn R6.lt
 have Q6 := Q6.below kn Q6.lt
 have o6 := o6.later kn
 have B6 := B6.trans (kn.mono B6.size)
 have hne : u0.heap.size ≠ cb := by omega
 have zk := kn.size
 rw [← hv0]
 clear hv0 kn
 generalize u0.heap.size = E at hg hne ⊢
 refine hKz _ _ ⟨Q6, ?_⟩
 clear hKz Kz
 refine w1 5 fun Kz hKz => ?_
 go_simp
 go_at_call 22
 refine (pickIntP s6 (fun _ => True) E 4 4 hne (by decide) (by decide) hg).mono ?_
 rintro e u1 ⟨p, rfl, _, s7, g7⟩
 clear hg
 have R7 := R6.keep (g7.block _ R6.lt (by simp; omega))
 have Q7 := Q6.keep (g7.block _ Q6.lt (by simp; omega))
 have o7 := o6.keep (fun g e => g7.block g (o6.lt g e).2 (by have := og g e; simp; omega))
 have B7 : Below w.heap.size w u1 := B6.grown g7 B6.size (fun k e => by simp at e; omega)
 clear R6 Q6 o6 B6 s6 s7 g7
 refine hKz _ _ ⟨Q7, ?_⟩
 clear hKz Kz
 refine w1 6 fun Kz hKz => ?_
 have cc := R7
 obtain ⟨z0, z1, z2, z3, z4, z5, z6, zf⟩ := cc
 have g0 := zf 0
 have g1 := zf 1
 have g2 := zf 2
 have g3 := zf 3
 have g4 := zf 4
 have g5 := zf 5
 have g6 := zf 6
 go_simp
 clear z0 z1 z2 z3 z4 z5 z6 zf g0 g1 g2 g3 g4 g5 g6
 obtain ⟨u2, hu2⟩ := mk_ (((((((u1.setCell ⟨R, 0, none⟩ (.bool m.up)).setCell ⟨R, 1, none⟩ (.int .i64 m.li)).setCell ⟨R, 2, none⟩ (.int .i64 m.ep)).setCell ⟨R, 3, none⟩ (.slice a m.lg.length c)).setCell ⟨R, 4, none⟩ (.int .i64 m.sd)).setCell ⟨R, 5, none⟩ (.int .i64 m.ac)).setCell ⟨R, 6, none⟩ (.int .i64 m.al))
 have R8 : MiBox u2 R m (.slice a m.lg.length c) := by rw [hu2]; exact R7.put m _
 have kp : ∀ k, k ≠ R → u2.heap[k]? = u1.heap[k]? := fun k hk => by rw [hu2]; exact heap_put7 _ _ _ m _ hk
 have Q8 := Q7.keep (kp _ (by omega))
 have o8 := o7.keep (fun g e => kp g (by have := og g e; omega))
 have B8 : Below w.heap.size w u2 := by rw [hu2]; exact below_put7 m _ B7 (by omega)
 rw [← hu2]
 clear hu2 kp R7 Q7 o7 B7
 refine hKz _ _ ⟨Q8, ?_⟩
 clear hKz Kz
 refine tw 7 3 (.int .i64 p) ?_
 refine wpAnyH_done (by kernel_rfl) ?_ _
 have OZ := o8.base (base' := w.heap.size) (by omega)
 obtain ⟨z0, z1, z2, z3, z4, z5, z6, zf⟩ := R8
 clear zf Q8 o8
 go_wp2
 refine bodyPost_ret (v := .tuple #[.agg #[.bool m.up, .int .i64 m.li, .int .i64 m.ep, .slice a m.lg.length c, .int .i64 m.sd, .int .i64 m.ac, .int .i64 m.al], .int .i64 p]) (by simp [results, Try.results8, go_sem, *]) rfl ⟨m, a, c, p, rfl, hL, OZ, B8⟩
theorem setCells_put (g : Nat) : ∀ (vs : List Value) (o : Nat) (w : World), w.setCells g o vs = putAll w g o vs
 | [], _, _ => rfl
 | v :: vs, o, w => setCells_put g vs (o + 1) (w.setCell ⟨g, o, none⟩ v)
structure Turned (q : Nat) (o : Option Nat) (w w' : World) : Prop where
 os : w'.os = w.os
 tape : w'.tape = w.tape
 output : w'.output = w.output
 size : w.heap.size ≤ w'.heap.size
 block : ∀ k, k < w.heap.size → k ≠ q → o ≠ some k → w'.heap[k]? = w.heap[k]?
theorem Turned.below {q : Nat} {o : Option Nat} {w w' : World} (h : Turned q o w w') {B : Nat} (hB : B ≤ w.heap.size) (h1 : B ≤ q) (h2 : ∀ g, o = some g → B ≤ g) : Below B w w' :=
 ⟨h.os, h.tape, h.output, h.size, fun k hk => h.block k (by omega) (by omega) (fun e => by have := h2 k e; omega)⟩
theorem Turned.refl (q : Nat) (o : Option Nat) (w : World) : Turned q o w w := ⟨rfl, rfl, rfl, Nat.le_refl _, fun _ _ _ _ => rfl⟩
theorem Turned.set {q : Nat} {o : Option Nat} {w w' : World} (h : Turned q o w w') (i : Nat) (v : Value) : Turned q o w (w'.setCell ⟨q, i, none⟩ v) :=
 ⟨h.os, h.tape, h.output, by simpa using h.size, fun k hk h1 h2 => (Below.heap_setCell _ _ _ _ h1).trans (h.block k hk h1 h2)⟩
theorem Turned.put {q g : Nat} {w : World} (o : Nat) (vs : List Value) : Turned q (some g) w (putAll w g o vs) := by
 have hb := below_putAll (B := 0) (g := g) (a := w) (Nat.zero_le _) vs o (Below.refl 0 w)
 exact ⟨hb.os, hb.tape, hb.output, hb.size, fun k _ _ h2 => heap_putAll vs w o k (fun e => h2 (by rw [e]))⟩
theorem zeroIk (w : World) : (zeroValue 30).run Try.prog w = .ok (.agg #[.int .i64 0, .int .i64 0, .int .i64 0, .int .i64 0, .int .i64 0, .int .i64 0, .int .i64 0, .bool false]) w := by kernel_rfl
theorem clearIk (w : World) (ty : TypeId) (g n c : Nat) (hn : 0 < n) (hc : ∀ j, j < n * 8 → (w.cell? ⟨g, j, none⟩).isSome = true) (hf : ∀ j, w.frozen? ⟨g, j, none⟩ = false) :
  ∃ vs, (Builtin.clear_ #[24] ty #[.slice (some ⟨g, 0, none⟩) n c]).run Try.prog w = .ok (.tuple #[]) (putAll w g 0 vs) := by
 obtain ⟨z, hz⟩ : ∃ z, z = Value.agg #[.int .i64 0, .int .i64 0, .int .i64 0, .int .i64 0, .int .i64 0, .int .i64 0, .int .i64 0, .bool false] := ⟨_, rfl⟩
 have h8 : z.cells.size = 8 := by rw [hz]; rfl
 have hl : (Builtin.zeroCells z.cells n).toList.length = n * 8 := by simp [Builtin.zeroCells, h8]
 have h1 : ∀ v ∈ (Builtin.zeroCells z.cells n).toList, v.oneCell' = true := by
  intro v hv
  simp only [Builtin.zeroCells, h8, Array.toList_map, List.mem_map] at hv
  obtain ⟨i, _, rfl⟩ := hv
  have : i % 8 = 0 ∨ i % 8 = 1 ∨ i % 8 = 2 ∨ i % 8 = 3 ∨ i % 8 = 4 ∨ i % 8 = 5 ∨ i % 8 = 6 ∨ i % 8 = 7 := by omega
  rw [hz]
  rcases this with e | e | e | e | e | e | e | e <;> rw [e] <;> rfl
 have hst := run_storeCells_cells (P := Try.prog) g 0 (Builtin.zeroCells z.cells n).toList 0 w (by rw [hl]; simpa using hc) (fun j _ => by simpa using hf j) h1
 simp only [Nat.add_zero] at hst
 rw [setCells_put] at hst
 refine ⟨(Builtin.zeroCells z.cells n).toList, ?_⟩
 have hzv : ∀ w : World, (zeroValue 30).run Try.prog w = .ok z w := fun w => by rw [hz]; exact zeroIk w
 obtain ⟨k, rfl⟩ : ∃ k, n = k + 1 := ⟨n - 1, by omega⟩
 simp [Builtin.clear_, run_underlying Try.underlying24, hzv, hst]
set_option maxHeartbeats 2000000 in
theorem emptyI (m : Mi) (q base : Nat) (ad : Option Addr) (cap : Nat) (w : World) (M : MgBox w q m (.slice ad m.lg.length cap)) (O : FOwn ikEnc 8 30 base w (.slice ad m.lg.length cap) m.lg) (hq : ∀ g, (Value.slice ad m.lg.length cap).ownBlock = some g → g ≠ q) :
  Calls Try.prog 46 #[.pointer (some ⟨q, 0, none⟩)] w fun e w' => e = .returned (.tuple #[]) ∧ MgBox w' q m (.slice ad 0 cap) ∧ Turned q (Value.slice ad m.lg.length cap).ownBlock w w' := by
 have hcl : ∃ w1, (∀ ty, (Builtin.clear_ #[24] ty #[.slice ad m.lg.length cap]).run Try.prog w = .ok (.tuple #[]) w1) ∧ MgBox w1 q m (.slice ad m.lg.length cap) ∧ Turned q (Value.slice ad m.lg.length cap).ownBlock w w1 := by
  cases ad with
  | none =>
   refine ⟨w, fun ty => ?_, M, Turned.refl _ _ _⟩
   simp [Builtin.clear_, run_underlying Try.underlying24]
  | some a =>
   by_cases h0 : m.lg.length = 0
   ·
    refine ⟨w, fun ty => ?_, M, Turned.refl _ _ _⟩
    rw [h0]
    simp [Builtin.clear_, run_underlying Try.underlying24]
   ·
    have ha : ∃ g, a = ⟨g, 0, none⟩ := by
     rcases O.2 with ⟨e, _⟩ | ⟨g, c, cur, e, _⟩
     ·
      cases e
     ·
      simp only [Value.slice.injEq, Option.some.injEq] at e
      exact ⟨g, e.1⟩
    obtain ⟨g, rfl⟩ := ha
    have hc : ∀ j, j < m.lg.length * 8 → (w.cell? ⟨g, j, none⟩).isSome = true := fun j hj => by
     rw [World.ownsRow.cellAt O j hj]
     have hx : (fcells ikEnc m.lg).length = m.lg.length * 8 := fcells_len ikEnc_len _
     rw [List.getElem?_eq_getElem (by omega)]
     rfl
    have hne : q ≠ g := fun e => hq g rfl e.symm
    obtain ⟨vs, hvs⟩ := clearIk w 0 g m.lg.length cap (by omega) hc (fun j => O.frozen j)
    refine ⟨putAll w g 0 vs, fun ty => hvs, M.keep (heap_putAll vs w 0 q hne), Turned.put 0 vs⟩
 obtain ⟨w1, hcl, M1, T1⟩ := hcl
 have M2 := M1.log (.slice ad 0 cap)
 have T2 := T1.set 0 (.slice ad 0 cap)
 have c0 := M.c0
 have d0 := M1.c0
 have f0 := M1.fr 0
 clear M M1 T1 O hq
 cases ad with
 | none =>
  go_enter Try.func46, Try.ntmps46
  go_wp2_with (simp only [hcl])
  go_end0
  exact ⟨rfl, M2, T2⟩
 | some a =>
  go_enter Try.func46, Try.ntmps46
  go_wp2_with (simp only [hcl])
  go_end0
  exact ⟨rfl, M2, T2⟩
theorem MgBox.fallen {w : World} {q : Nat} {m : Mi} {v : Value} (h : MgBox w q m v) : MgBox ((((((w.setCell ⟨q, 1, none⟩ (.bool false)).setCell ⟨q, 2, none⟩ (.int .i64 m.li)).setCell ⟨q, 3, none⟩ (.int .i64 0)).setCell ⟨q, 4, none⟩ (.int .i64 0)).setCell ⟨q, 5, none⟩ (.int .i64 0)).setCell ⟨q, 6, none⟩ (.int .i64 0)) q ⟨false, m.li, 0, [], 0, 0, 0⟩ v := by
 obtain ⟨h0, h1, h2, h3, h4, h5, h6, hf⟩ := h
 have h0 : (w.setCell ⟨q, 1, none⟩ (.bool false)).cell? ⟨q, 0, none⟩ = _ := (pset_else (by decide)).trans h0
 have h1 : (w.setCell ⟨q, 1, none⟩ (.bool false)).cell? ⟨q, 1, none⟩ = some (.bool false) := pset_same h1
 have h2 : (w.setCell ⟨q, 1, none⟩ (.bool false)).cell? ⟨q, 2, none⟩ = _ := (pset_else (by decide)).trans h2
 have h3 : (w.setCell ⟨q, 1, none⟩ (.bool false)).cell? ⟨q, 3, none⟩ = _ := (pset_else (by decide)).trans h3
 have h4 : (w.setCell ⟨q, 1, none⟩ (.bool false)).cell? ⟨q, 4, none⟩ = _ := (pset_else (by decide)).trans h4
 have h5 : (w.setCell ⟨q, 1, none⟩ (.bool false)).cell? ⟨q, 5, none⟩ = _ := (pset_else (by decide)).trans h5
 have h6 : (w.setCell ⟨q, 1, none⟩ (.bool false)).cell? ⟨q, 6, none⟩ = _ := (pset_else (by decide)).trans h6
 have h0 : ((w.setCell ⟨q, 1, none⟩ (.bool false)).setCell ⟨q, 2, none⟩ (.int .i64 m.li)).cell? ⟨q, 0, none⟩ = _ := (pset_else (by decide)).trans h0
 have h1 : ((w.setCell ⟨q, 1, none⟩ (.bool false)).setCell ⟨q, 2, none⟩ (.int .i64 m.li)).cell? ⟨q, 1, none⟩ = _ := (pset_else (by decide)).trans h1
 have h2 : ((w.setCell ⟨q, 1, none⟩ (.bool false)).setCell ⟨q, 2, none⟩ (.int .i64 m.li)).cell? ⟨q, 2, none⟩ = some (.int .i64 m.li) := pset_same h2
 have h3 : ((w.setCell ⟨q, 1, none⟩ (.bool false)).setCell ⟨q, 2, none⟩ (.int .i64 m.li)).cell? ⟨q, 3, none⟩ = _ := (pset_else (by decide)).trans h3
 have h4 : ((w.setCell ⟨q, 1, none⟩ (.bool false)).setCell ⟨q, 2, none⟩ (.int .i64 m.li)).cell? ⟨q, 4, none⟩ = _ := (pset_else (by decide)).trans h4
 have h5 : ((w.setCell ⟨q, 1, none⟩ (.bool false)).setCell ⟨q, 2, none⟩ (.int .i64 m.li)).cell? ⟨q, 5, none⟩ = _ := (pset_else (by decide)).trans h5
 have h6 : ((w.setCell ⟨q, 1, none⟩ (.bool false)).setCell ⟨q, 2, none⟩ (.int .i64 m.li)).cell? ⟨q, 6, none⟩ = _ := (pset_else (by decide)).trans h6
 have h0 : (((w.setCell ⟨q, 1, none⟩ (.bool false)).setCell ⟨q, 2, none⟩ (.int .i64 m.li)).setCell ⟨q, 3, none⟩ (.int .i64 0)).cell? ⟨q, 0, none⟩ = _ := (pset_else (by decide)).trans h0
 have h1 : (((w.setCell ⟨q, 1, none⟩ (.bool false)).setCell ⟨q, 2, none⟩ (.int .i64 m.li)).setCell ⟨q, 3, none⟩ (.int .i64 0)).cell? ⟨q, 1, none⟩ = _ := (pset_else (by decide)).trans h1
 have h2 : (((w.setCell ⟨q, 1, none⟩ (.bool false)).setCell ⟨q, 2, none⟩ (.int .i64 m.li)).setCell ⟨q, 3, none⟩ (.int .i64 0)).cell? ⟨q, 2, none⟩ = _ := (pset_else (by decide)).trans h2
 have h3 : (((w.setCell ⟨q, 1, none⟩ (.bool false)).setCell ⟨q, 2, none⟩ (.int .i64 m.li)).setCell ⟨q, 3, none⟩ (.int .i64 0)).cell? ⟨q, 3, none⟩ = some (.int .i64 0) := pset_same h3
 have h4 : (((w.setCell ⟨q, 1, none⟩ (.bool false)).setCell ⟨q, 2, none⟩ (.int .i64 m.li)).setCell ⟨q, 3, none⟩ (.int .i64 0)).cell? ⟨q, 4, none⟩ = _ := (pset_else (by decide)).trans h4
 have h5 : (((w.setCell ⟨q, 1, none⟩ (.bool false)).setCell ⟨q, 2, none⟩ (.int .i64 m.li)).setCell ⟨q, 3, none⟩ (.int .i64 0)).cell? ⟨q, 5, none⟩ = _ := (pset_else (by decide)).trans h5
 have h6 : (((w.setCell ⟨q, 1, none⟩ (.bool false)).setCell ⟨q, 2, none⟩ (.int .i64 m.li)).setCell ⟨q, 3, none⟩ (.int .i64 0)).cell? ⟨q, 6, none⟩ = _ := (pset_else (by decide)).trans h6
 have h0 : ((((w.setCell ⟨q, 1, none⟩ (.bool false)).setCell ⟨q, 2, none⟩ (.int .i64 m.li)).setCell ⟨q, 3, none⟩ (.int .i64 0)).setCell ⟨q, 4, none⟩ (.int .i64 0)).cell? ⟨q, 0, none⟩ = _ := (pset_else (by decide)).trans h0
 have h1 : ((((w.setCell ⟨q, 1, none⟩ (.bool false)).setCell ⟨q, 2, none⟩ (.int .i64 m.li)).setCell ⟨q, 3, none⟩ (.int .i64 0)).setCell ⟨q, 4, none⟩ (.int .i64 0)).cell? ⟨q, 1, none⟩ = _ := (pset_else (by decide)).trans h1
 have h2 : ((((w.setCell ⟨q, 1, none⟩ (.bool false)).setCell ⟨q, 2, none⟩ (.int .i64 m.li)).setCell ⟨q, 3, none⟩ (.int .i64 0)).setCell ⟨q, 4, none⟩ (.int .i64 0)).cell? ⟨q, 2, none⟩ = _ := (pset_else (by decide)).trans h2
 have h3 : ((((w.setCell ⟨q, 1, none⟩ (.bool false)).setCell ⟨q, 2, none⟩ (.int .i64 m.li)).setCell ⟨q, 3, none⟩ (.int .i64 0)).setCell ⟨q, 4, none⟩ (.int .i64 0)).cell? ⟨q, 3, none⟩ = _ := (pset_else (by decide)).trans h3
 have h4 : ((((w.setCell ⟨q, 1, none⟩ (.bool false)).setCell ⟨q, 2, none⟩ (.int .i64 m.li)).setCell ⟨q, 3, none⟩ (.int .i64 0)).setCell ⟨q, 4, none⟩ (.int .i64 0)).cell? ⟨q, 4, none⟩ = some (.int .i64 0) := pset_same h4
 have h5 : ((((w.setCell ⟨q, 1, none⟩ (.bool false)).setCell ⟨q, 2, none⟩ (.int .i64 m.li)).setCell ⟨q, 3, none⟩ (.int .i64 0)).setCell ⟨q, 4, none⟩ (.int .i64 0)).cell? ⟨q, 5, none⟩ = _ := (pset_else (by decide)).trans h5
 have h6 : ((((w.setCell ⟨q, 1, none⟩ (.bool false)).setCell ⟨q, 2, none⟩ (.int .i64 m.li)).setCell ⟨q, 3, none⟩ (.int .i64 0)).setCell ⟨q, 4, none⟩ (.int .i64 0)).cell? ⟨q, 6, none⟩ = _ := (pset_else (by decide)).trans h6
 have h0 : (((((w.setCell ⟨q, 1, none⟩ (.bool false)).setCell ⟨q, 2, none⟩ (.int .i64 m.li)).setCell ⟨q, 3, none⟩ (.int .i64 0)).setCell ⟨q, 4, none⟩ (.int .i64 0)).setCell ⟨q, 5, none⟩ (.int .i64 0)).cell? ⟨q, 0, none⟩ = _ := (pset_else (by decide)).trans h0
 have h1 : (((((w.setCell ⟨q, 1, none⟩ (.bool false)).setCell ⟨q, 2, none⟩ (.int .i64 m.li)).setCell ⟨q, 3, none⟩ (.int .i64 0)).setCell ⟨q, 4, none⟩ (.int .i64 0)).setCell ⟨q, 5, none⟩ (.int .i64 0)).cell? ⟨q, 1, none⟩ = _ := (pset_else (by decide)).trans h1
 have h2 : (((((w.setCell ⟨q, 1, none⟩ (.bool false)).setCell ⟨q, 2, none⟩ (.int .i64 m.li)).setCell ⟨q, 3, none⟩ (.int .i64 0)).setCell ⟨q, 4, none⟩ (.int .i64 0)).setCell ⟨q, 5, none⟩ (.int .i64 0)).cell? ⟨q, 2, none⟩ = _ := (pset_else (by decide)).trans h2
 have h3 : (((((w.setCell ⟨q, 1, none⟩ (.bool false)).setCell ⟨q, 2, none⟩ (.int .i64 m.li)).setCell ⟨q, 3, none⟩ (.int .i64 0)).setCell ⟨q, 4, none⟩ (.int .i64 0)).setCell ⟨q, 5, none⟩ (.int .i64 0)).cell? ⟨q, 3, none⟩ = _ := (pset_else (by decide)).trans h3
 have h4 : (((((w.setCell ⟨q, 1, none⟩ (.bool false)).setCell ⟨q, 2, none⟩ (.int .i64 m.li)).setCell ⟨q, 3, none⟩ (.int .i64 0)).setCell ⟨q, 4, none⟩ (.int .i64 0)).setCell ⟨q, 5, none⟩ (.int .i64 0)).cell? ⟨q, 4, none⟩ = _ := (pset_else (by decide)).trans h4
 have h5 : (((((w.setCell ⟨q, 1, none⟩ (.bool false)).setCell ⟨q, 2, none⟩ (.int .i64 m.li)).setCell ⟨q, 3, none⟩ (.int .i64 0)).setCell ⟨q, 4, none⟩ (.int .i64 0)).setCell ⟨q, 5, none⟩ (.int .i64 0)).cell? ⟨q, 5, none⟩ = some (.int .i64 0) := pset_same h5
 have h6 : (((((w.setCell ⟨q, 1, none⟩ (.bool false)).setCell ⟨q, 2, none⟩ (.int .i64 m.li)).setCell ⟨q, 3, none⟩ (.int .i64 0)).setCell ⟨q, 4, none⟩ (.int .i64 0)).setCell ⟨q, 5, none⟩ (.int .i64 0)).cell? ⟨q, 6, none⟩ = _ := (pset_else (by decide)).trans h6
 have h0 : ((((((w.setCell ⟨q, 1, none⟩ (.bool false)).setCell ⟨q, 2, none⟩ (.int .i64 m.li)).setCell ⟨q, 3, none⟩ (.int .i64 0)).setCell ⟨q, 4, none⟩ (.int .i64 0)).setCell ⟨q, 5, none⟩ (.int .i64 0)).setCell ⟨q, 6, none⟩ (.int .i64 0)).cell? ⟨q, 0, none⟩ = _ := (pset_else (by decide)).trans h0
 have h1 : ((((((w.setCell ⟨q, 1, none⟩ (.bool false)).setCell ⟨q, 2, none⟩ (.int .i64 m.li)).setCell ⟨q, 3, none⟩ (.int .i64 0)).setCell ⟨q, 4, none⟩ (.int .i64 0)).setCell ⟨q, 5, none⟩ (.int .i64 0)).setCell ⟨q, 6, none⟩ (.int .i64 0)).cell? ⟨q, 1, none⟩ = _ := (pset_else (by decide)).trans h1
 have h2 : ((((((w.setCell ⟨q, 1, none⟩ (.bool false)).setCell ⟨q, 2, none⟩ (.int .i64 m.li)).setCell ⟨q, 3, none⟩ (.int .i64 0)).setCell ⟨q, 4, none⟩ (.int .i64 0)).setCell ⟨q, 5, none⟩ (.int .i64 0)).setCell ⟨q, 6, none⟩ (.int .i64 0)).cell? ⟨q, 2, none⟩ = _ := (pset_else (by decide)).trans h2
 have h3 : ((((((w.setCell ⟨q, 1, none⟩ (.bool false)).setCell ⟨q, 2, none⟩ (.int .i64 m.li)).setCell ⟨q, 3, none⟩ (.int .i64 0)).setCell ⟨q, 4, none⟩ (.int .i64 0)).setCell ⟨q, 5, none⟩ (.int .i64 0)).setCell ⟨q, 6, none⟩ (.int .i64 0)).cell? ⟨q, 3, none⟩ = _ := (pset_else (by decide)).trans h3
 have h4 : ((((((w.setCell ⟨q, 1, none⟩ (.bool false)).setCell ⟨q, 2, none⟩ (.int .i64 m.li)).setCell ⟨q, 3, none⟩ (.int .i64 0)).setCell ⟨q, 4, none⟩ (.int .i64 0)).setCell ⟨q, 5, none⟩ (.int .i64 0)).setCell ⟨q, 6, none⟩ (.int .i64 0)).cell? ⟨q, 4, none⟩ = _ := (pset_else (by decide)).trans h4
 have h5 : ((((((w.setCell ⟨q, 1, none⟩ (.bool false)).setCell ⟨q, 2, none⟩ (.int .i64 m.li)).setCell ⟨q, 3, none⟩ (.int .i64 0)).setCell ⟨q, 4, none⟩ (.int .i64 0)).setCell ⟨q, 5, none⟩ (.int .i64 0)).setCell ⟨q, 6, none⟩ (.int .i64 0)).cell? ⟨q, 5, none⟩ = _ := (pset_else (by decide)).trans h5
 have h6 : ((((((w.setCell ⟨q, 1, none⟩ (.bool false)).setCell ⟨q, 2, none⟩ (.int .i64 m.li)).setCell ⟨q, 3, none⟩ (.int .i64 0)).setCell ⟨q, 4, none⟩ (.int .i64 0)).setCell ⟨q, 5, none⟩ (.int .i64 0)).setCell ⟨q, 6, none⟩ (.int .i64 0)).cell? ⟨q, 6, none⟩ = some (.int .i64 0) := pset_same h6
 refine ⟨h0, h1, h2, h3, h4, h5, h6, fun i => ?_⟩
 rw [World.frozen?_setCell, World.frozen?_setCell, World.frozen?_setCell, World.frozen?_setCell, World.frozen?_setCell, World.frozen?_setCell]
 exact hf i
set_option maxHeartbeats 2000000 in
theorem fallI (m : Mi) (q base : Nat) (ad : Option Addr) (cap : Nat) (w : World) (M : MgBox w q m (.slice ad m.lg.length cap)) (O : FOwn ikEnc 8 30 base w (.slice ad m.lg.length cap) m.lg) (hq : ∀ g, (Value.slice ad m.lg.length cap).ownBlock = some g → g ≠ q) :
  Calls Try.prog 38 #[.pointer (some ⟨q, 0, none⟩)] w fun e w' => e = .returned (.tuple #[]) ∧ MgBox w' q ⟨false, m.li, 0, [], 0, 0, 0⟩ (.slice ad 0 cap) ∧ Turned q (Value.slice ad m.lg.length cap).ownBlock w w' := by
 go_enter Try.func38, Try.ntmps38
 go_wp2_with fail
 go_at_call 46
 refine (emptyI m q base ad cap w M O hq).mono ?_
 rintro e w1 ⟨rfl, M1, T1⟩
 have M2 := M1.fallen
 have T3 : Turned q (Value.slice ad m.lg.length cap).ownBlock w ((((((w1.setCell ⟨q, 1, none⟩ (.bool false)).setCell ⟨q, 2, none⟩ (.int .i64 m.li)).setCell ⟨q, 3, none⟩ (.int .i64 0)).setCell ⟨q, 4, none⟩ (.int .i64 0)).setCell ⟨q, 5, none⟩ (.int .i64 0)).setCell ⟨q, 6, none⟩ (.int .i64 0)) := ((((((T1.set 1 _).set 2 _).set 3 _).set 4 _).set 5 _).set 6 _)
 clear T1 O hq M
 obtain ⟨c0, c1, c2, c3, c4, c5, c6, fr⟩ := M1
 have f1 := fr 1
 have f2 := fr 2
 have f3 := fr 3
 have f4 := fr 4
 have f5 := fr 5
 have f6 := fr 6
 clear fr
 go_wp2
 go_end0
 exact ⟨rfl, M2, T3⟩
end Go.Proofs.Ytnpiljegdiconaa
