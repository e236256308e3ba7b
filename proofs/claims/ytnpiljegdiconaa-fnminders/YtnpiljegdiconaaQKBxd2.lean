import Derived.Test.YtnpiljegdiconaaQM11
namespace Go.Proofs.Ytnpiljegdiconaa
open Go.ChangeShapes Go.WideShapes Go.ChangeAt Go.RowKit
open Go.ChangeMaps (open_string shut_string)
set_option linter.unusedVariables false
set_option maxRecDepth 100000
theorem p_two_len (x : BxD) : x.p.two.length = x.two.length := by unfold BxD.p; simp
set_option maxHeartbeats 4000000 in
theorem mindsXS (x : BxD) (s : Int) (w : World) (hV : BxV w x) :
  Calls Try.prog 71 #[.agg #[.int .i64 x.id, .int .i64 x.po, .int .i64 x.rg.ep, .int .i64 x.rg.ow, .int .i64 x.rg.pa, .slice x.aT x.two.length x.cT, .slice x.aN x.net.length x.cN, .slice x.aG x.ga.length x.cG, .slice x.aL x.ln.length x.cL, .slice x.aS x.sd.length x.cS], .int .i64 s] w fun e w' => e = .returned (.bool (mindsX x.p s)) ∧ Below w.heap.size w w' := by
 obtain ⟨R, hR⟩ := mk_ (mindsX x.p s)
 rw [← hR]
 replace hR : Hid _ := hR
 obtain ⟨y, hy⟩ := mk_ (w.alloc (Obj.cells #[.int .i64 x.id, .int .i64 x.po, .int .i64 x.rg.ep, .int .i64 x.rg.ow, .int .i64 x.rg.pa, .slice x.aT x.two.length x.cT, .slice x.aN x.net.length x.cN, .slice x.aG x.ga.length x.cG, .slice x.aL x.ln.length x.cL, .slice x.aS x.sd.length x.cS] 79))
 have B0 : Below w.heap.size w y := by rw [hy]; exact below_new _
 have A : BxAt y w.heap.size x := by rw [hy]; exact BxAt.new w _ x
 have V := hV.later B0
 go_enter Try.func71, Try.ntmps71
 go_upto_region 1 with fail
 rw [← hy]
 clear hy hV
 refine wp_region_held (S := fun Y => Below y.heap.size y Y) (by kernel_rfl) ?_
 change wpAnyH _ _ _ _ _ _ _ _ (World.drew _)
 have hb0 : Below y.heap.size y y.drew := (Below.refl _ _).drew
 obtain ⟨u0, hy0⟩ := mk_ y.drew
 rw [← hy0] at hb0 ⊢
 clear hy0
 refine tw 0 5 (.int .i64 s) ?_
 refine tw 1 6 (.pointer (some ⟨w.heap.size, 5, none⟩)) ?_
 refine tw 2 7 (.slice x.aT x.two.length x.cT) ?_ (hy := by intro Y hSw; obtain ⟨X0, X1, X2, X3, X4, X5, X6, X7, X8, X9⟩ := A.below hSw A.lt; go_simp)
 refine tw 3 8 (.int .i64 (x.two.length : Int)) ?_
 have bt := V.bt
 have hwr : IntKind.i64.wrap ((x.two.length : Int) - 1) = (x.two.length : Int) - 1 := by rw [IntKind.wrap_i64]; omega
 refine tw 4 9 (.int .i64 ((x.two.length : Int) - 1)) ?_
 refine w1 5 fun Kz hKz => ?_
 go_simp
 go_at_call 26
 refine (inB s 0 ((x.two.length : Int) - 1) u0).mono ?_
 rintro e u1 ⟨rfl, hw_⟩
 have hb1 : Below y.heap.size y u1 := by rw [hw_]; exact hb0
 clear hw_
 refine hKz _ _ ⟨hb1, ?_⟩
 clear hKz Kz
 clear hwr
 cases h1 : decide (0 ≤ s ∧ s ≤ (x.two.length : Int) - 1)
 ·
  have hN : Hid (R = false) := by unfold Hid; rw [hR.out]; unfold mindsX; rw [show decide (0 ≤ s ∧ s < ((x.p.two).length : Int)) = false from decide_eq_false (by have := of_decide_eq_false h1; rw [p_two_len]; omega)]; rfl
  clear h1
  refine tw 6 11 (.bool false) ?_
  refine ts 7 12 ?_
  refine ts 8 13 ?_
  refine ts 9 14 ?_
  refine ts 10 15 ?_
  refine ts 11 16 ?_
  refine ts 12 17 ?_
  refine ts 13 18 ?_
  refine ts 14 19 ?_
  refine ts 15 20 ?_
  refine tw 16 21 (.bool false) ?_
  refine tw 17 4 (.bool false) ?_
  refine wpAnyH_done (by kernel_rfl) ?_ _
  go_wp2
  go_ret
  exact ⟨by rw [hN.out]; rfl, B0.trans (hb1.mono B0.size)⟩
 ·
  have h1' := of_decide_eq_true h1
  obtain ⟨k, rfl⟩ : ∃ k : Nat, s = (k : Int) := ⟨s.toNat, by omega⟩
  have hk : k < x.two.length := by omega
  have hcap := V.ct
  obtain ⟨d, hd⟩ : ∃ d, x.two.getD k MiD.nil = d := ⟨_, rfl⟩
  have hvl := V.l k hk
  have hll := V.bl k hk
  rw [hd] at hvl hll
  have hN : Hid (R = mindsB x.rg (k : Int) d.m) := by unfold Hid; rw [hR.out]; unfold mindsX; rw [show decide (0 ≤ (k : Int) ∧ (k : Int) < ((x.p.two).length : Int)) = true from decide_eq_true (by rw [p_two_len]; omega), mOf_p, Int.toNat_natCast, hd]; rfl
  obtain ⟨b, off, hat, _⟩ := V.t (by omega)
  have hck : ∀ Y, Below y.heap.size y Y → MdAtO Y b (off + k * 7) d := fun Y hY => by have ht := (V.later hY).t; rw [hat] at ht; rw [← hd]; exact mdAtO_of (ht.at_ mdEnc_len MiD.nil hk)
  replace hd : Hid _ := hd
  clear h1 h1'
  refine tw 6 11 (.bool true) ?_
  refine tw 7 12 (.pointer (some ⟨w.heap.size, 2, none⟩)) ?_
  refine tw 8 13 (.agg #[.int .i64 x.rg.ep, .int .i64 x.rg.ow, .int .i64 x.rg.pa]) ?_ (hy := by intro Y hSw; obtain ⟨X0, X1, X2, X3, X4, X5, X6, X7, X8, X9⟩ := A.below hSw A.lt; go_simp)
  refine tw 9 14 (.int .i64 (k : Int)) ?_
  refine tw 10 15 (.pointer (some ⟨w.heap.size, 5, none⟩)) ?_
  refine tw 11 16 (.slice (some ⟨b, off, none⟩) x.two.length x.cT) ?_ (hy := by intro Y hSw; obtain ⟨X0, X1, X2, X3, X4, X5, X6, X7, X8, X9⟩ := A.below hSw A.lt; rw [hat] at X5; go_simp)
  refine tw 12 17 (.int .i64 (k : Int)) ?_
  refine tw 13 18 (.pointer (some ⟨b, off + k * 7, none⟩)) ?_ (hy := by intro Y hSw; go_simp; try omega)
  refine tw 14 19 (.agg #[.bool d.m.up, .int .i64 d.m.li, .int .i64 d.m.ep, .slice d.ad d.m.lg.length d.cap, .int .i64 d.m.sd, .int .i64 d.m.ac, .int .i64 d.m.al]) ?_ (hy := by intro Y hSw; obtain ⟨X0, X1, X2, X3, X4, X5, X6⟩ := hck Y hSw; go_simp)
  refine w1 15 fun Kz hKz => ?_
  go_simp
  go_at_call 78
  refine (mindsS x.rg (k : Int) d.m d.ad d.cap u1 (hvl.below hb1 (hvl.lt ikEnc_len (by omega))) (by omega)).mono ?_
  rintro e u2 ⟨rfl, kq⟩
  rw [← hN.out]
  have hb2 : Below y.heap.size y u2 := hb1.trans (kq.mono hb1.size)
  clear kq
  refine hKz _ _ ⟨hb2, ?_⟩
  clear hKz Kz
  refine tw 16 21 (.bool R) ?_
  refine tw 17 4 (.bool R) ?_
  refine wpAnyH_done (by kernel_rfl) ?_ _
  go_wp2
  go_ret
  exact ⟨rfl, B0.trans (hb2.mono B0.size)⟩
set_option maxHeartbeats 4000000 in
theorem whoS (x : BxD) (w : World) (hV : BxV w x) :
  Calls Try.prog 67 #[.agg #[.int .i64 x.id, .int .i64 x.po, .int .i64 x.rg.ep, .int .i64 x.rg.ow, .int .i64 x.rg.pa, .slice x.aT x.two.length x.cT, .slice x.aN x.net.length x.cN, .slice x.aG x.ga.length x.cG, .slice x.aL x.ln.length x.cL, .slice x.aS x.sd.length x.cS]] w fun e w' => e = .returned (.int .i64 (whoX x.p)) ∧ Below w.heap.size w w' := by
 obtain ⟨R, hR⟩ := mk_ (whoX x.p)
 rw [← hR]
 replace hR : Hid _ := hR
 obtain ⟨y, hy⟩ := mk_ (w.alloc (Obj.cells #[.int .i64 x.id, .int .i64 x.po, .int .i64 x.rg.ep, .int .i64 x.rg.ow, .int .i64 x.rg.pa, .slice x.aT x.two.length x.cT, .slice x.aN x.net.length x.cN, .slice x.aG x.ga.length x.cG, .slice x.aL x.ln.length x.cL, .slice x.aS x.sd.length x.cS] 79))
 have B0 : Below w.heap.size w y := by rw [hy]; exact below_new _
 have A : BxAt y w.heap.size x := by rw [hy]; exact BxAt.new w _ x
 have V := hV.later B0
 go_enter Try.func67, Try.ntmps67
 go_upto_region 2 with fail
 rw [← hy]
 clear hy hV
 refine wp_loop_rounds 3 ?_
 rw [rounds_succ]
 have cc := A
 obtain ⟨a0, a1, a2, a3, a4, a5, a6, a7, a8, a9⟩ := cc
 go_wp2_with fail
 go_at_call 71
 clear a0 a1 a2 a3 a4 a5 a6 a7 a8 a9
 refine (mindsXS x 0 y V).mono ?_
 rintro e v1 ⟨rfl, k1⟩
 have A := A.below k1 A.lt
 have V := V.later k1
 have B1 := B0.trans (k1.mono B0.size)
 clear k1 B0
 cases h0 : mindsX x.p 0
 ·
  replace h0 : Hid _ := h0
  go_wp2
  rw [rounds_succ]
  have cc := A
  obtain ⟨a0, a1, a2, a3, a4, a5, a6, a7, a8, a9⟩ := cc
  go_wp2_with fail
  go_at_call 71
  clear a0 a1 a2 a3 a4 a5 a6 a7 a8 a9
  refine (mindsXS x 1 v1 V).mono ?_
  rintro e v2 ⟨rfl, k2⟩
  have B2 := B1.trans (k2.mono B1.size)
  clear k2 B1
  cases h1 : mindsX x.p 1
  ·
   have hN : Hid (R = -1) := by unfold Hid; rw [hR.out]; unfold whoX; rw [h0.out, h1]; rfl
   clear h1
   go_wp2
   rw [rounds_succ]
   go_wp2
   go_ret
   exact ⟨by rw [hN.out]; rfl, B2⟩
  ·
   have hN : Hid (R = 1) := by unfold Hid; rw [hR.out]; unfold whoX; rw [h0.out, h1]; rfl
   clear h1
   go_wp2
   go_ret
   exact ⟨by rw [hN.out]; rfl, B2⟩
 ·
  have hN : Hid (R = 0) := by unfold Hid; rw [hR.out]; unfold whoX; rw [h0]; rfl
  clear h0
  go_wp2
  go_ret
  exact ⟨by rw [hN.out]; rfl, B1⟩
end Go.Proofs.Ytnpiljegdiconaa
