import Derived.Test.YtnpiljegdiconabGreatQM21
namespace Go.Proofs.YtnpiljegdiconabGreat
open Go.ChangeShapes Go.WideShapes Go.ChangeAt Go.RowKit
open Go.ChangeMaps (open_string shut_string)
set_option linter.unusedVariables false
set_option maxRecDepth 100000
set_option maxHeartbeats 4000000 in
theorem mindsI (r : Rg) (s : Int) (m : Mi) (ad : Option Addr) (cap : Nat) (w : World) (hv : FView ikEnc w ad m.lg) (hl : m.lg.length ≤ 1048577) :
  Calls Tryz.prog 107 #[.agg #[.int .i64 r.ep, .int .i64 r.ow, .int .i64 r.pa], .int .i64 s, .agg #[.bool m.up, .int .i64 m.li, .int .i64 m.ep, .slice ad m.lg.length cap, .int .i64 m.sd, .int .i64 m.ac, .int .i64 m.al]] w fun e w' => e = .returned (.bool (mindsB r s m)) ∧ Below w.heap.size w w' := by
 have hB := hv.lt ikEnc_len (by omega)
 obtain ⟨R, hR⟩ := mk_ (mindsB r s m)
 rw [← hR]
 replace hR : Hid _ := hR
 obtain ⟨y, hy⟩ := mk_ ((w.alloc (Obj.cells #[.int .i64 r.ep, .int .i64 r.ow, .int .i64 r.pa] 33)).alloc (Obj.cells #[.bool m.up, .int .i64 m.li, .int .i64 m.ep, .slice ad m.lg.length cap, .int .i64 m.sd, .int .i64 m.ac, .int .i64 m.al] 49))
 have B0 : Below w.heap.size w y := by rw [hy]; exact ((Below.refl _ _).alloc (Nat.le_refl _) _).alloc (by simp) _
 have A : RgAt y w.heap.size r := by rw [hy]; constructor <;> simp [go_sem]
 have M : MiAt y (w.heap.size + 1) m (.slice ad m.lg.length cap) := by rw [hy]; constructor <;> simp [go_sem]
 have S0 := M.lt
 have hv1 := hv.below B0 hB
 clear hv hB
 go_enter Tryz.func107, Tryz.ntmps107
 go_upto_region 1 with fail
 rw [← hy]
 clear hy
 refine wp_region_held (S := fun Y => Below y.heap.size y Y) (by kernel_rfl) ?_
 change wpAnyH _ _ _ _ _ _ _ _ (World.drew _)
 have hb0 : Below y.heap.size y y.drew := (Below.refl _ _).drew
 obtain ⟨u0, hy0⟩ := mk_ y.drew
 rw [← hy0] at hb0 ⊢
 clear hy0
 refine tw 0 7 (.agg #[.int .i64 r.ep, .int .i64 r.ow, .int .i64 r.pa]) ?_ (hy := by intro Y hSw; obtain ⟨X0, X1, X2⟩ := A.below hSw A.lt; go_simp)
 refine w1 1 fun Kz hKz => ?_
 go_simp
 go_at_call 76
 refine (regOkI r u0).mono ?_
 rintro e u1 ⟨rfl, kq⟩
 have hb1 : Below y.heap.size y u1 := hb0.trans (kq.mono hb0.size)
 clear kq
 refine hKz _ _ ⟨hb1, ?_⟩
 clear hKz Kz
 cases h1 : (rgOk r)
 ·
  replace h1 : Hid _ := h1
  refine tw 2 9 (.bool false) ?_
  refine ts 3 10 ?_
  refine ts 4 11 ?_
  refine tw 5 12 (.bool false) ?_
  refine tw 6 13 (.bool false) ?_
  refine ts 7 14 ?_
  refine ts 8 15 ?_
  refine tw 9 16 (.bool false) ?_
  refine tw 10 17 (.bool false) ?_
  refine ts 11 18 ?_
  refine ts 13 20 ?_
  refine ts 14 21 ?_
  refine ts 15 22 ?_
  refine ts 12 19 ?_
  refine ts 16 23 ?_
  refine tw 17 24 (.bool false) ?_
  refine tw 18 6 (.bool false) ?_
  refine wpAnyH_done (by kernel_rfl) ?_ _
  have hN : Hid (R = false) := by unfold Hid; rw [hR.out]; unfold mindsB; rw [h1.out]; rfl
  go_wp2
  go_ret
  exact ⟨by rw [hN.out]; rfl, B0.trans (hb1.mono B0.size)⟩
 ·
  replace h1 : Hid _ := h1
  refine tw 2 9 (.bool true) ?_
  refine tw 3 10 (.agg #[.bool m.up, .int .i64 m.li, .int .i64 m.ep, .slice ad m.lg.length cap, .int .i64 m.sd, .int .i64 m.ac, .int .i64 m.al]) ?_ (hy := by intro Y hSw; obtain ⟨X0, X1, X2, X3, X4, X5, X6⟩ := M.below hSw M.lt; go_simp)
  refine w1 4 fun Kz hKz => ?_
  go_simp
  go_at_call 103
  refine (miOkI m ad cap u1 (hv1.below hb1 (hv1.lt ikEnc_len (by omega))) hl).mono ?_
  rintro e u2 ⟨rfl, kq⟩
  have hb2 : Below y.heap.size y u2 := hb1.trans (kq.mono hb1.size)
  clear kq
  refine hKz _ _ ⟨hb2, ?_⟩
  clear hKz Kz
  cases h2 : (miOk m)
  ·
   replace h2 : Hid _ := h2
   refine tw 5 12 (.bool false) ?_
   refine tw 6 13 (.bool false) ?_
   refine ts 7 14 ?_
   refine ts 8 15 ?_
   refine tw 9 16 (.bool false) ?_
   refine tw 10 17 (.bool false) ?_
   refine ts 11 18 ?_
   refine ts 13 20 ?_
   refine ts 14 21 ?_
   refine ts 15 22 ?_
   refine ts 12 19 ?_
   refine ts 16 23 ?_
   refine tw 17 24 (.bool false) ?_
   refine tw 18 6 (.bool false) ?_
   refine wpAnyH_done (by kernel_rfl) ?_ _
   have hN : Hid (R = false) := by unfold Hid; rw [hR.out]; unfold mindsB; rw [h1.out, h2.out]; rfl
   go_wp2
   go_ret
   exact ⟨by rw [hN.out]; rfl, B0.trans (hb2.mono B0.size)⟩
  ·
   replace h2 : Hid _ := h2
   refine tw 5 12 (.bool true) ?_
   refine tw 6 13 (.bool true) ?_
   refine tw 7 14 (.pointer (some ⟨w.heap.size + 1, 0, none⟩)) ?_
   refine tw 8 15 (.bool (m.up)) ?_ (hy := by intro Y hSw; obtain ⟨X0, X1, X2, X3, X4, X5, X6⟩ := M.below hSw M.lt; go_simp)
   cases h3 : (m.up)
   ·
    replace h3 : Hid _ := h3
    refine tw 9 16 (.bool false) ?_
    refine tw 10 17 (.bool false) ?_
    refine ts 11 18 ?_
    refine ts 13 20 ?_
    refine ts 14 21 ?_
    refine ts 15 22 ?_
    refine ts 12 19 ?_
    refine ts 16 23 ?_
    refine tw 17 24 (.bool false) ?_
    refine tw 18 6 (.bool false) ?_
    refine wpAnyH_done (by kernel_rfl) ?_ _
    have hN : Hid (R = false) := by unfold Hid; rw [hR.out]; unfold mindsB; rw [h1.out, h2.out, h3.out]; rfl
    go_wp2
    go_ret
    exact ⟨by rw [hN.out]; rfl, B0.trans (hb2.mono B0.size)⟩
   ·
    replace h3 : Hid _ := h3
    refine tw 9 16 (.bool true) ?_
    refine tw 10 17 (.bool true) ?_
    refine tw 11 18 (.agg #[.int .i64 r.ep, .int .i64 r.ow, .int .i64 r.pa]) ?_ (hy := by intro Y hSw; obtain ⟨X0, X1, X2⟩ := A.below hSw A.lt; go_simp)
    refine tw 13 20 (.int .i64 s) ?_
    refine tw 14 21 (.pointer (some ⟨w.heap.size + 1, 2, none⟩)) ?_
    refine tw 15 22 (.int .i64 m.ep) ?_ (hy := by intro Y hSw; obtain ⟨X0, X1, X2, X3, X4, X5, X6⟩ := M.below hSw M.lt; go_simp)
    refine w1 12 fun Kz hKz => ?_
    go_simp
    go_at_call 125
    refine (regOfI r u2).mono ?_
    rintro e u3 ⟨qg, rfl, G, lg, kq⟩
    have hb3 : Below y.heap.size y u3 := hb2.trans (kq.mono hb2.size)
    have lg2 : y.heap.size ≤ qg := by have := hb2.size; omega
    clear kq lg
    refine hKz _ _ ⟨hb3, ?_⟩
    clear hKz Kz
    refine w1 16 fun Kz hKz => ?_
    go_simp
    go_at_call 126
    refine (isOfI r s m.ep qg u3 G).mono ?_
    rintro e u4 ⟨rfl, G', tq⟩
    have hb4 : Below y.heap.size y u4 := hb3.trans (tq.below hb3.size lg2 (fun g e => by cases e))
    clear tq G'
    refine hKz _ _ ⟨hb4, ?_⟩
    clear hKz Kz
    refine tw 17 24 (.bool (decide (r.ow = s) && decide (r.ep = m.ep))) ?_
    refine tw 18 6 (.bool (decide (r.ow = s) && decide (r.ep = m.ep))) ?_
    refine wpAnyH_done (by kernel_rfl) ?_ _
    have hN : Hid (R = (decide (r.ow = s) && decide (r.ep = m.ep))) := by unfold Hid; rw [hR.out]; unfold mindsB; rw [h1.out, h2.out, h3.out]; simp [eq_comm]
    go_wp2
    go_ret
    exact ⟨by rw [hN.out]; rfl, B0.trans (hb4.mono B0.size)⟩
end Go.Proofs.YtnpiljegdiconabGreat
