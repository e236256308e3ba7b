import Derived.Test.YtnpiljegdiconabGreatQM12
namespace Go.Proofs.YtnpiljegdiconabGreat
open Go.ChangeShapes Go.WideShapes Go.ChangeAt Go.RowKit
open Go.ChangeMaps (open_string shut_string)
set_option linter.unusedVariables false
set_option maxRecDepth 100000
set_option maxHeartbeats 2000000 in
theorem ikEqS (ad ad' : Option Addr) (cap cap' : Nat) (L : List Ik) (w : World) (hv : FView ikEnc w ad L) (hv' : FView ikEnc w ad' L) (hl : L.length ≤ 1048576) :
  Calls Tryz.prog 34 #[.slice ad L.length cap, .slice ad' L.length cap'] w fun e w' => e = .returned (.bool true) ∧ Below w.heap.size w w' := by
 have hB := hv.lt ikEnc_len (by omega)
 have hB' := hv'.lt ikEnc_len (by omega)
 go_enter Tryz.func34, Tryz.ntmps34
 go_wp2
 go_loopw [5] (fun i wr => ∃ k : Nat, k ≤ L.length ∧ i = .int .i64 k ∧ Below w.heap.size w wr) (fun i _ => L.length - (intOf i).toNat)
 case atStart => exact ⟨0, Nat.zero_le _, rfl, Below.refl _ _⟩
 case round =>
  obtain ⟨k, hk, rfl, hb⟩ := hrel
  by_cases hlt : k < L.length
  ·
   obtain ⟨b, off, rfl, _⟩ := hv (by omega)
   obtain ⟨b', off', rfl, _⟩ := hv' (by omega)
   obtain ⟨h, hh⟩ : ∃ h, L.getD k Ik.nil = h := ⟨_, rfl⟩
   have hc : ∀ Y, Below w.heap.size w Y → IkAtO Y b (off + k * 8) h := fun Y hY => by rw [← hh]; exact ikAtO_of ((hv.below hY hB).at_ ikEnc_len Ik.nil hlt)
   have hc' : ∀ Y, Below w.heap.size w Y → IkAtO Y b' (off' + k * 8) h := fun Y hY => by rw [← hh]; exact ikAtO_of ((hv'.below hY hB').at_ ikEnc_len Ik.nil hlt)
   clear hh hv hv' hB hB'
   go_wp2_with fail
   refine wp_region_held (S := fun Y => Below w.heap.size w Y) (by kernel_rfl) ?_
   change wpAnyH _ _ _ _ _ _ _ _ (World.drew _)
   have hb0 : Below w.heap.size w wr.drew := hb.drew
   refine tw 0 17 (.slice (some ⟨b, off, none⟩) L.length cap) ?_
   refine tw 1 18 (.int .i64 k) ?_
   refine tw 2 19 (.pointer (some ⟨b, off + k * 8, none⟩)) ?_ (hy := by intro Y hSw; go_simp; try omega)
   refine tw 3 20 (.agg #[.int .i64 h.k, .int .i64 h.q, .int .i64 h.r, .int .i64 h.c, .int .i64 h.b, .int .i64 h.p, .int .i64 h.h, .bool h.up]) ?_ (hy := by intro Y hSw; obtain ⟨X0, X1, X2, X3, X4, X5, X6, X7⟩ := hc Y hSw; go_simp)
   refine tw 4 21 (.slice (some ⟨b', off', none⟩) L.length cap') ?_
   refine tw 5 22 (.int .i64 k) ?_
   refine tw 6 23 (.pointer (some ⟨b', off' + k * 8, none⟩)) ?_ (hy := by intro Y hSw; go_simp; try omega)
   refine tw 7 24 (.agg #[.int .i64 h.k, .int .i64 h.q, .int .i64 h.r, .int .i64 h.c, .int .i64 h.b, .int .i64 h.p, .int .i64 h.h, .bool h.up]) ?_ (hy := by intro Y hSw; obtain ⟨X0, X1, X2, X3, X4, X5, X6, X7⟩ := hc' Y hSw; go_simp)
   refine wpAnyH_all (rs := [8]) (by kernel_rfl) (by simp) ?_
   intro i hi; obtain rfl : i = 8 := by simpa using hi
   refine wpOp_step rfl (fun K hK => ?_)
   rw [if_pos (by kernel_rfl)]
   go_simp
   go_at_call 60
   refine (eqInI h _).mono ?_
   rintro e y1 ⟨rfl, j1⟩
   have hb1 : Below w.heap.size w y1 := hb0.trans (j1.mono hb0.size)
   refine hK _ _ ⟨hb1, ?_⟩
   clear hK K hi
   refine tw 9 26 (.bool false) ?_
   refine wpAnyH_done (by kernel_rfl) ?_ _
   go_wp2
   go_roundw
   case rel => exact ⟨k + 1, by omega, by go_num, hb1⟩
   case measure => simp [intOf]; omega
  ·
   obtain rfl : k = L.length := by omega
   go_wp2
   go_ret
   exact ⟨rfl, hb⟩
set_option maxHeartbeats 2000000 in
theorem regOkS (r : Rg) (w : World) : Calls Tryz.prog 42 #[.agg #[.int .i64 r.ep, .int .i64 r.ow, .int .i64 r.pa]] w fun e w' => e = .returned (.bool (rgOk r)) ∧ Below w.heap.size w w' := by
 obtain ⟨R, hR⟩ := mk_ (rgOk r)
 rw [← hR]
 replace hR : Hid _ := hR
 obtain ⟨y, hy⟩ := mk_ (w.alloc (Obj.cells #[.int .i64 r.ep, .int .i64 r.ow, .int .i64 r.pa] 33))
 have B0 : Below w.heap.size w y := by rw [hy]; exact below_new _
 have A : RgAt y w.heap.size r := by rw [hy]; exact RgAt.new w _ r
 go_enter Tryz.func42, Tryz.ntmps42
 go_upto_region 1 with fail
 rw [← hy]
 clear hy
 have cc := A
 obtain ⟨x0, x1, x2⟩ := cc
 go_wp2_with fail
 go_at_call 46
 refine (inB r.ep 1 100000 y).mono ?_
 rintro e v0 ⟨rfl, hw_⟩
 have A := (by rw [hw_]; exact A : RgAt v0 w.heap.size r)
 have B0 := (by rw [hw_]; exact B0 : Below w.heap.size w v0)
 clear hw_
 clear x0 x1 x2
 cases h1 : decide (1 ≤ r.ep ∧ r.ep ≤ 100000)
 ·
  have hN : Hid (R = false) := by unfold Hid; rw [hR.out]; unfold rgOk; rw [h1]; rfl
  clear h1
  go_wp2
  go_ret
  exact ⟨by rw [hN.out]; rfl, B0⟩
 ·
  replace h1 : Hid _ := h1
  have cc := A
  obtain ⟨x0, x1, x2⟩ := cc
  go_wp2_with fail
  go_at_call 46
  refine (inB r.ow 0 1 v0).mono ?_
  rintro e v1 ⟨rfl, hw_⟩
  have A := (by rw [hw_]; exact A : RgAt v1 w.heap.size r)
  have B0 := (by rw [hw_]; exact B0 : Below w.heap.size w v1)
  clear hw_
  clear x0 x1 x2
  cases h2 : decide (0 ≤ r.ow ∧ r.ow ≤ 1)
  ·
   have hN : Hid (R = false) := by unfold Hid; rw [hR.out]; unfold rgOk; rw [h1.out, h2]; rfl
   clear h2
   go_wp2
   go_ret
   exact ⟨by rw [hN.out]; rfl, B0⟩
  ·
   replace h2 : Hid _ := h2
   have cc := A
   obtain ⟨x0, x1, x2⟩ := cc
   go_wp2_with fail
   go_at_call 46
   refine (inB r.pa 0 100000 v1).mono ?_
   rintro e v2 ⟨rfl, hw_⟩
   have A := (by rw [hw_]; exact A : RgAt v2 w.heap.size r)
   have B0 := (by rw [hw_]; exact B0 : Below w.heap.size w v2)
   clear hw_
   clear x0 x1 x2
   rw [show decide (0 ≤ r.pa ∧ r.pa ≤ 100000) = numB r.pa from rfl]
   have hN : Hid (R = numB r.pa) := by unfold Hid; rw [hR.out]; unfold rgOk; rw [h1.out, h2.out]; rfl
   rw [← hN.out]
   go_wp2
   go_ret
   exact ⟨rfl, B0⟩
set_option maxHeartbeats 2000000 in
theorem mindsS (r : Rg) (s : Int) (m : Mi) (ad : Option Addr) (cap : Nat) (w : World) (hv : FView ikEnc w ad m.lg) (hl : m.lg.length ≤ 1048577) :
  Calls Tryz.prog 47 #[.agg #[.int .i64 r.ep, .int .i64 r.ow, .int .i64 r.pa], .int .i64 s, .agg #[.bool m.up, .int .i64 m.li, .int .i64 m.ep, .slice ad m.lg.length cap, .int .i64 m.sd, .int .i64 m.ac, .int .i64 m.al]] w fun e w' => e = .returned (.bool (mindsB r s m)) ∧ Below w.heap.size w w' := by
 have hB := hv.lt ikEnc_len (by omega)
 obtain ⟨R, hR⟩ := mk_ (mindsB r s m)
 rw [← hR]
 replace hR : Hid _ := hR
 obtain ⟨y, hy⟩ := mk_ ((w.alloc (Obj.cells #[.int .i64 r.ep, .int .i64 r.ow, .int .i64 r.pa] 33)).alloc (Obj.cells #[.bool m.up, .int .i64 m.li, .int .i64 m.ep, .slice ad m.lg.length cap, .int .i64 m.sd, .int .i64 m.ac, .int .i64 m.al] 49))
 have B0 : Below w.heap.size w y := by rw [hy]; exact ((Below.refl _ _).alloc (Nat.le_refl _) _).alloc (by simp) _
 have A : RgAt y w.heap.size r := by rw [hy]; constructor <;> simp [go_sem]
 have M : MiAt y (w.heap.size + 1) m (.slice ad m.lg.length cap) := by rw [hy]; constructor <;> simp [go_sem]
 have hv1 := hv.below B0 hB
 clear hv hB
 go_enter Tryz.func47, Tryz.ntmps47
 have cc := A
 obtain ⟨x0, x1, x2⟩ := cc
 go_wp2_with fail
 go_at_call 42
 rw [← hy]
 clear hy x0 x1 x2
 refine (regOkS r y).mono ?_
 rintro e v1 ⟨rfl, k1⟩
 have A := A.below k1 A.lt
 have M := M.below k1 M.lt
 have hv1 := hv1.below k1 (hv1.lt ikEnc_len (by omega))
 have B1 := B0.trans (k1.mono B0.size)
 clear k1 B0
 cases h1 : rgOk r
 ·
  have hN : Hid (R = false) := by unfold Hid; rw [hR.out]; unfold mindsB; rw [h1]; rfl
  clear h1
  go_wp2
  go_ret
  exact ⟨by rw [hN.out]; rfl, B1⟩
 ·
  replace h1 : Hid _ := h1
  have cc := M
  obtain ⟨x0, x1, x2, x3, x4, x5, x6⟩ := cc
  go_wp2_with fail
  go_at_call 43
  clear x0 x1 x2 x3 x4 x5 x6
  refine (miOkS m ad cap v1 hv1 hl).mono ?_
  rintro e v2 ⟨rfl, k2⟩
  have A := A.below k2 A.lt
  have M := M.below k2 M.lt
  have B2 := B1.trans (k2.mono B1.size)
  clear k2 B1 hv1
  cases h2 : miOk m
  ·
   have hN : Hid (R = false) := by unfold Hid; rw [hR.out]; unfold mindsB; rw [h1.out, h2]; rfl
   clear h2
   go_wp2
   go_ret
   exact ⟨by rw [hN.out]; rfl, B2⟩
  ·
   replace h2 : Hid _ := h2
   obtain ⟨x0, x1, x2, x3, x4, x5, x6⟩ := M
   obtain ⟨z0, z1, z2⟩ := A
   cases h3 : m.up
   ·
    rw [h3] at x0
    have hN : Hid (R = false) := by unfold Hid; rw [hR.out]; unfold mindsB; rw [h1.out, h2.out, h3]; rfl
    go_wp2
    go_ret
    exact ⟨by rw [hN.out]; rfl, B2⟩
   ·
    rw [h3] at x0
    by_cases h4 : s = r.ow
    ·
     have d4 : (s == r.ow) = true := by simpa using h4
     have hN : Hid (R = (m.ep == r.ep)) := by unfold Hid; rw [hR.out]; unfold mindsB; rw [h1.out, h2.out, h3, decide_eq_true h4]; by_cases h5 : m.ep = r.ep <;> simp [h5]
     replace h4 : Hid _ := h4
     go_wp2
     go_ret
     exact ⟨by rw [hN.out]; rfl, B2⟩
    ·
     have d4 : (s == r.ow) = false := by rw [beq_eq_false_iff_ne]; exact h4
     have hN : Hid (R = false) := by unfold Hid; rw [hR.out]; unfold mindsB; rw [h1.out, h2.out, h3, decide_eq_false h4]; rfl
     clear h4
     go_wp2
     go_ret
     exact ⟨by rw [hN.out]; rfl, B2⟩
theorem p_two_len (x : BxD) : x.p.two.length = x.two.length := by unfold BxD.p; simp
set_option maxHeartbeats 4000000 in
theorem mindsXS (x : BxD) (s : Int) (w : World) (hV : BxV w x) :
  Calls Tryz.prog 18 #[.agg #[.int .i64 x.id, .int .i64 x.po, .int .i64 x.rg.ep, .int .i64 x.rg.ow, .int .i64 x.rg.pa, .slice x.aT x.two.length x.cT, .slice x.aN x.net.length x.cN, .slice x.aG x.ga.length x.cG, .slice x.aL x.ln.length x.cL, .slice x.aS x.sd.length x.cS], .int .i64 s] w fun e w' => e = .returned (.bool (mindsX x.p s)) ∧ Below w.heap.size w w' := by
 obtain ⟨R, hR⟩ := mk_ (mindsX x.p s)
 rw [← hR]
 replace hR : Hid _ := hR
 obtain ⟨y, hy⟩ := mk_ (w.alloc (Obj.cells #[.int .i64 x.id, .int .i64 x.po, .int .i64 x.rg.ep, .int .i64 x.rg.ow, .int .i64 x.rg.pa, .slice x.aT x.two.length x.cT, .slice x.aN x.net.length x.cN, .slice x.aG x.ga.length x.cG, .slice x.aL x.ln.length x.cL, .slice x.aS x.sd.length x.cS] 39))
 have B0 : Below w.heap.size w y := by rw [hy]; exact below_new _
 have A : BxAt y w.heap.size x := by rw [hy]; exact BxAt.new w _ x
 have V := hV.later B0
 go_enter Tryz.func18, Tryz.ntmps18
 go_upto_region 1 with fail
 rw [← hy]
 clear hy hV
 refine wp_region_held (S := fun Y => Below y.heap.size y Y) (by kernel_rfl) ?_
 change wpAnyH _ _ _ _ _ _ _ _ (World.drew _)
 have hb0 : Below y.heap.size y y.drew := (Below.refl _ _).drew
 obtain ⟨u0, hy0⟩ := mk_ y.drew
 rw [← hy0] at hb0 ⊢
 clear hy0
 refine tw 0 5 (.int .i64 s) ?_
 refine tw 1 6 (.pointer (some ⟨w.heap.size, 5, none⟩)) ?_
 refine tw 2 7 (.slice x.aT x.two.length x.cT) ?_ (hy := by intro Y hSw; obtain ⟨X0, X1, X2, X3, X4, X5, X6, X7, X8, X9⟩ := A.below hSw A.lt; go_simp)
 refine tw 3 8 (.int .i64 (x.two.length : Int)) ?_
 have bt := V.bt
 have hwr : IntKind.i64.wrap ((x.two.length : Int) - 1) = (x.two.length : Int) - 1 := by rw [IntKind.wrap_i64]; omega
 refine tw 4 9 (.int .i64 ((x.two.length : Int) - 1)) ?_
 refine w1 5 fun Kz hKz => ?_
 go_simp
 go_at_call 46
 refine (inB s 0 ((x.two.length : Int) - 1) u0).mono ?_
 rintro e u1 ⟨rfl, hw_⟩
 have hb1 : Below y.heap.size y u1 := by rw [hw_]; exact hb0
 clear hw_
 refine hKz _ _ ⟨hb1, ?_⟩
 clear hKz Kz
 clear hwr
 cases h1 : decide (0 ≤ s ∧ s ≤ (x.two.length : Int) - 1)
 ·
  have hN : Hid (R = false) := by unfold Hid; rw [hR.out]; unfold mindsX; rw [show decide (0 ≤ s ∧ s < ((x.p.two).length : Int)) = false from decide_eq_false (by have := of_decide_eq_false h1; rw [p_two_len]; omega)]; rfl
  clear h1
  refine tw 6 11 (.bool false) ?_
  refine ts 7 12 ?_
  refine ts 8 13 ?_
  refine ts 9 14 ?_
  refine ts 10 15 ?_
  refine ts 11 16 ?_
  refine ts 12 17 ?_
  refine ts 13 18 ?_
  refine ts 14 19 ?_
  refine ts 15 20 ?_
  refine tw 16 21 (.bool false) ?_
  refine tw 17 4 (.bool false) ?_
  refine wpAnyH_done (by kernel_rfl) ?_ _
  go_wp2
  go_ret
  exact ⟨by rw [hN.out]; rfl, B0.trans (hb1.mono B0.size)⟩
 ·
  have h1' := of_decide_eq_true h1
  obtain ⟨k, rfl⟩ : ∃ k : Nat, s = (k : Int) := ⟨s.toNat, by omega⟩
  have hk : k < x.two.length := by omega
  have hcap := V.ct
  obtain ⟨d, hd⟩ : ∃ d, x.two.getD k MiD.nil = d := ⟨_, rfl⟩
  have hvl := V.l k hk
  have hll := V.bl k hk
  rw [hd] at hvl hll
  have hN : Hid (R = mindsB x.rg (k : Int) d.m) := by unfold Hid; rw [hR.out]; unfold mindsX; rw [show decide (0 ≤ (k : Int) ∧ (k : Int) < ((x.p.two).length : Int)) = true from decide_eq_true (by rw [p_two_len]; omega), mOf_p, Int.toNat_natCast, hd]; rfl
  obtain ⟨b, off, hat, _⟩ := V.t (by omega)
  have hck : ∀ Y, Below y.heap.size y Y → MdAtO Y b (off + k * 7) d := fun Y hY => by have ht := (V.later hY).t; rw [hat] at ht; rw [← hd]; exact mdAtO_of (ht.at_ mdEnc_len MiD.nil hk)
  replace hd : Hid _ := hd
  clear h1 h1'
  refine tw 6 11 (.bool true) ?_
  refine tw 7 12 (.pointer (some ⟨w.heap.size, 2, none⟩)) ?_
  refine tw 8 13 (.agg #[.int .i64 x.rg.ep, .int .i64 x.rg.ow, .int .i64 x.rg.pa]) ?_ (hy := by intro Y hSw; obtain ⟨X0, X1, X2, X3, X4, X5, X6, X7, X8, X9⟩ := A.below hSw A.lt; go_simp)
  refine tw 9 14 (.int .i64 (k : Int)) ?_
  refine tw 10 15 (.pointer (some ⟨w.heap.size, 5, none⟩)) ?_
  refine tw 11 16 (.slice (some ⟨b, off, none⟩) x.two.length x.cT) ?_ (hy := by intro Y hSw; obtain ⟨X0, X1, X2, X3, X4, X5, X6, X7, X8, X9⟩ := A.below hSw A.lt; rw [hat] at X5; go_simp)
  refine tw 12 17 (.int .i64 (k : Int)) ?_
  refine tw 13 18 (.pointer (some ⟨b, off + k * 7, none⟩)) ?_ (hy := by intro Y hSw; go_simp; try omega)
  refine tw 14 19 (.agg #[.bool d.m.up, .int .i64 d.m.li, .int .i64 d.m.ep, .slice d.ad d.m.lg.length d.cap, .int .i64 d.m.sd, .int .i64 d.m.ac, .int .i64 d.m.al]) ?_ (hy := by intro Y hSw; obtain ⟨X0, X1, X2, X3, X4, X5, X6⟩ := hck Y hSw; go_simp)
  refine w1 15 fun Kz hKz => ?_
  go_simp
  go_at_call 47
  refine (mindsS x.rg (k : Int) d.m d.ad d.cap u1 (hvl.below hb1 (hvl.lt ikEnc_len (by omega))) (by omega)).mono ?_
  rintro e u2 ⟨rfl, kq⟩
  rw [← hN.out]
  have hb2 : Below y.heap.size y u2 := hb1.trans (kq.mono hb1.size)
  clear kq
  refine hKz _ _ ⟨hb2, ?_⟩
  clear hKz Kz
  refine tw 16 21 (.bool R) ?_
  refine tw 17 4 (.bool R) ?_
  refine wpAnyH_done (by kernel_rfl) ?_ _
  go_wp2
  go_ret
  exact ⟨rfl, B0.trans (hb2.mono B0.size)⟩
end Go.Proofs.YtnpiljegdiconabGreat
