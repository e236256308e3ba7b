import Derived.Test.YtnpiljegdiconabGreatQKWRr4
namespace Go.Proofs.YtnpiljegdiconabGreat
open Go.ChangeShapes Go.WideShapes Go.ChangeAt Go.RowKit
open Go.ChangeMaps (open_string shut_string)
set_option linter.unusedVariables false
set_option maxRecDepth 100000
set_option maxHeartbeats 4000000 in
theorem mindsAtI (x : BxD) (s : Int) (w : World) (hV : BxV w x) :
  Calls Tryz.prog 83 #[.agg #[.int .i64 x.id, .int .i64 x.po, .int .i64 x.rg.ep, .int .i64 x.rg.ow, .int .i64 x.rg.pa, .slice x.aT x.two.length x.cT, .slice x.aN x.net.length x.cN, .slice x.aG x.ga.length x.cG, .slice x.aL x.ln.length x.cL, .slice x.aS x.sd.length x.cS], .int .i64 s] w fun e w' => e = .returned (.bool (mindsX x.p s)) ∧ Below w.heap.size w w' := by
 obtain ⟨R, hR⟩ := mk_ (mindsX x.p s)
 rw [← hR]
 replace hR : Hid _ := hR
 obtain ⟨y, hy⟩ := mk_ (w.alloc (Obj.cells #[.int .i64 x.id, .int .i64 x.po, .int .i64 x.rg.ep, .int .i64 x.rg.ow, .int .i64 x.rg.pa, .slice x.aT x.two.length x.cT, .slice x.aN x.net.length x.cN, .slice x.aG x.ga.length x.cG, .slice x.aL x.ln.length x.cL, .slice x.aS x.sd.length x.cS] 39))
 have B0 : Below w.heap.size w y := by rw [hy]; exact below_new _
 have A : BxAt y w.heap.size x := by rw [hy]; exact BxAt.new w _ x
 have V := hV.later B0
 go_enter Tryz.func83, Tryz.ntmps83
 go_upto_region 1 with fail
 rw [← hy]
 clear hy hV
 refine wp_region_held (S := fun Y => Below y.heap.size y Y) (by kernel_rfl) ?_
 change wpAnyH _ _ _ _ _ _ _ _ (World.drew _)
 have hb0 : Below y.heap.size y y.drew := (Below.refl _ _).drew
 obtain ⟨u0, hy0⟩ := mk_ y.drew
 rw [← hy0] at hb0 ⊢
 clear hy0
 refine tw 0 5 (.int .i64 s) ?_
 by_cases h1 : 0 ≤ s
 ·
  have d1 : decide (0 ≤ s) = true := decide_eq_true h1
  refine tw 1 6 (.bool true) ?_
  refine tw 2 7 (.bool true) ?_
  refine tw 3 8 (.int .i64 s) ?_
  refine tw 4 9 (.pointer (some ⟨w.heap.size, 5, none⟩)) ?_
  refine tw 5 10 (.slice x.aT x.two.length x.cT) ?_ (hy := by intro Y hSw; obtain ⟨X0, X1, X2, X3, X4, X5, X6, X7, X8, X9⟩ := A.below hSw A.lt; go_simp)
  refine tw 6 11 (.int .i64 (x.two.length : Int)) ?_
  by_cases h2 : s < (x.two.length : Int)
  ·
   have d2 : decide (s < (x.two.length : Int)) = true := decide_eq_true h2
   refine tw 7 12 (.bool true) ?_
   refine tw 8 13 (.bool true) ?_
   refine tw 9 14 (.bool true) ?_
   clear d1 d2
   obtain ⟨k, rfl⟩ : ∃ k : Nat, s = (k : Int) := ⟨s.toNat, by omega⟩
   have hk : k < x.two.length := by omega
   have hcap := V.ct
   obtain ⟨d, hd⟩ : ∃ d, x.two.getD k MiD.nil = d := ⟨_, rfl⟩
   have hvl := V.l k hk
   have hll := V.bl k hk
   rw [hd] at hvl hll
   have hN : Hid (R = mindsB x.rg (k : Int) d.m) := by unfold Hid; rw [hR.out]; unfold mindsX; rw [show decide (0 ≤ (k : Int) ∧ (k : Int) < ((x.p.two).length : Int)) = true from decide_eq_true (by rw [p_two_len]; omega), mOf_p, Int.toNat_natCast, hd]; rfl
   obtain ⟨b, off, hat, _⟩ := V.t (by omega)
   have hck : ∀ Y, Below y.heap.size y Y → MdAtO Y b (off + k * 7) d := fun Y hY => by have ht := (V.later hY).t; rw [hat] at ht; rw [← hd]; exact mdAtO_of (ht.at_ mdEnc_len MiD.nil hk)
   replace hd : Hid _ := hd
   clear h1 h2
   refine tw 10 15 (.pointer (some ⟨w.heap.size, 2, none⟩)) ?_
   refine tw 11 16 (.agg #[.int .i64 x.rg.ep, .int .i64 x.rg.ow, .int .i64 x.rg.pa]) ?_ (hy := by intro Y hSw; obtain ⟨X0, X1, X2, X3, X4, X5, X6, X7, X8, X9⟩ := A.below hSw A.lt; go_simp)
   refine tw 12 17 (.int .i64 (k : Int)) ?_
   refine tw 13 18 (.pointer (some ⟨w.heap.size, 5, none⟩)) ?_
   refine tw 14 19 (.slice (some ⟨b, off, none⟩) x.two.length x.cT) ?_ (hy := by intro Y hSw; obtain ⟨X0, X1, X2, X3, X4, X5, X6, X7, X8, X9⟩ := A.below hSw A.lt; rw [hat] at X5; go_simp)
   refine tw 15 20 (.int .i64 (k : Int)) ?_
   refine tw 16 21 (.pointer (some ⟨b, off + k * 7, none⟩)) ?_ (hy := by intro Y hSw; go_simp; try omega)
   refine tw 17 22 (.agg #[.bool d.m.up, .int .i64 d.m.li, .int .i64 d.m.ep, .slice d.ad d.m.lg.length d.cap, .int .i64 d.m.sd, .int .i64 d.m.ac, .int .i64 d.m.al]) ?_ (hy := by intro Y hSw; obtain ⟨X0, X1, X2, X3, X4, X5, X6⟩ := hck Y hSw; go_simp)
   refine w1 18 fun Kz hKz => ?_
   go_simp
   go_at_call 107
   refine (mindsI x.rg (k : Int) d.m d.ad d.cap u0 (hvl.below hb0 (hvl.lt ikEnc_len (by omega))) (by omega)).mono ?_
   rintro e u2 ⟨rfl, kq⟩
   rw [← hN.out]
   have hb2 : Below y.heap.size y u2 := hb0.trans (kq.mono hb0.size)
   clear kq
   refine hKz _ _ ⟨hb2, ?_⟩
   clear hKz Kz
   refine tw 19 24 (.bool R) ?_
   refine tw 20 4 (.bool R) ?_
   refine wpAnyH_done (by kernel_rfl) ?_ _
   go_wp2
   go_ret
   exact ⟨rfl, B0.trans (hb2.mono B0.size)⟩
  ·
   have d2 : decide (s < (x.two.length : Int)) = false := decide_eq_false h2
   have hN : Hid (R = false) := by unfold Hid; rw [hR.out]; unfold mindsX; rw [show decide (0 ≤ s ∧ s < ((x.p.two).length : Int)) = false from decide_eq_false (by rw [p_two_len]; omega)]; rfl
   refine tw 7 12 (.bool false) ?_
   refine tw 8 13 (.bool false) ?_
   refine tw 9 14 (.bool false) ?_
   refine ts 10 15 ?_
   refine ts 11 16 ?_
   refine ts 12 17 ?_
   refine ts 13 18 ?_
   refine ts 14 19 ?_
   refine ts 15 20 ?_
   refine ts 16 21 ?_
   refine ts 17 22 ?_
   refine ts 18 23 ?_
   refine tw 19 24 (.bool false) ?_
   refine tw 20 4 (.bool false) ?_
   refine wpAnyH_done (by kernel_rfl) ?_ _
   go_wp2
   go_ret
   exact ⟨by rw [hN.out]; rfl, B0.trans (hb0.mono B0.size)⟩
 ·
  have d1 : decide (0 ≤ s) = false := decide_eq_false h1
  have hN : Hid (R = false) := by unfold Hid; rw [hR.out]; unfold mindsX; rw [show decide (0 ≤ s ∧ s < ((x.p.two).length : Int)) = false from decide_eq_false (by omega)]; rfl
  refine tw 1 6 (.bool false) ?_
  refine tw 2 7 (.bool false) ?_
  refine ts 3 8 ?_
  refine ts 4 9 ?_
  refine ts 5 10 ?_
  refine ts 6 11 ?_
  refine ts 7 12 ?_
  refine tw 8 13 (.bool false) ?_
  refine tw 9 14 (.bool false) ?_
  refine ts 10 15 ?_
  refine ts 11 16 ?_
  refine ts 12 17 ?_
  refine ts 13 18 ?_
  refine ts 14 19 ?_
  refine ts 15 20 ?_
  refine ts 16 21 ?_
  refine ts 17 22 ?_
  refine ts 18 23 ?_
  refine tw 19 24 (.bool false) ?_
  refine tw 20 4 (.bool false) ?_
  refine wpAnyH_done (by kernel_rfl) ?_ _
  go_wp2
  go_ret
  exact ⟨by rw [hN.out]; rfl, B0.trans (hb0.mono B0.size)⟩
set_option linter.unusedSimpArgs false in
set_option maxHeartbeats 4000000 in
theorem whoMI (x : BxD) (q : Nat) (w : World) (hA : BxAt w q x) (hV : BxV w x) :
  Calls Tryz.prog 54 #[.pointer (some ⟨q, 0, none⟩)] w fun e w' => e = .returned (.tuple #[.int .i64 x.rg.ow, .bool (mindsX x.p x.rg.ow)]) ∧ Below w.heap.size w w' := by
 have A := hA
 have J := hV
 go_enter Tryz.func54, Tryz.ntmps54
 go_upto_region 1 with fail
 refine wp_region_held (S := fun Y => Below w.heap.size w Y) (by kernel_rfl) ?_
 change wpAnyH _ _ _ _ _ _ _ _ (World.drew _)
 have hb0 : Below w.heap.size w w.drew := (Below.refl _ _).drew
 obtain ⟨u0, hu0⟩ := mk_ w.drew
 rw [← hu0] at hb0 ⊢
 clear hu0
 refine tw 0 4 (.pointer (some ⟨q, 0, none⟩)) ?_
 refine tw 1 5 (.pointer (some ⟨q, 0, none⟩)) ?_
 refine tw 2 6 (.pointer (some ⟨q, 2, none⟩)) ?_
 refine tw 3 7 (.pointer (some ⟨q, 3, none⟩)) ?_
 refine tw 4 8 (.int .i64 x.rg.ow) ?_ (hy := by intro Y hSw; obtain ⟨X0, X1, X2, X3, X4, X5, X6, X7, X8, X9⟩ := A.below hSw A.lt; go_simp)
 refine tw 5 9 (.pointer (some ⟨q, 0, none⟩)) ?_
 refine tw 6 10 (.pointer (some ⟨q, 0, none⟩)) ?_
 refine tw 7 11 (.agg #[.int .i64 x.id, .int .i64 x.po, .int .i64 x.rg.ep, .int .i64 x.rg.ow, .int .i64 x.rg.pa, .slice x.aT x.two.length x.cT, .slice x.aN x.net.length x.cN, .slice x.aG x.ga.length x.cG, .slice x.aL x.ln.length x.cL, .slice x.aS x.sd.length x.cS]) ?_ (hy := by intro Y hSw; obtain ⟨X0, X1, X2, X3, X4, X5, X6, X7, X8, X9⟩ := A.below hSw A.lt; go_simp)
 refine tw 8 12 (.pointer (some ⟨q, 0, none⟩)) ?_
 refine tw 9 13 (.pointer (some ⟨q, 0, none⟩)) ?_
 refine tw 10 14 (.pointer (some ⟨q, 2, none⟩)) ?_
 refine tw 11 15 (.pointer (some ⟨q, 3, none⟩)) ?_
 refine tw 12 16 (.int .i64 x.rg.ow) ?_ (hy := by intro Y hSw; obtain ⟨X0, X1, X2, X3, X4, X5, X6, X7, X8, X9⟩ := A.below hSw A.lt; go_simp)
 refine w1 13 fun Kz hKz => ?_
 go_simp
 go_at_call 83
 refine (mindsAtI x x.rg.ow u0 (J.later hb0)).mono ?_
 rintro e u1 ⟨rfl, kq⟩
 have hb1 : Below w.heap.size w u1 := hb0.trans (kq.mono hb0.size)
 clear kq
 refine hKz _ _ ⟨hb1, ?_⟩
 clear hKz Kz
 refine tw 14 2 (.int .i64 x.rg.ow) ?_
 refine tw 15 3 (.bool (mindsX x.p x.rg.ow)) ?_
 refine wpAnyH_done (by kernel_rfl) ?_ _
 go_wp2
 refine bodyPost_ret (v := .tuple #[.int .i64 x.rg.ow, .bool (mindsX x.p x.rg.ow)]) (by simp [results, Tryz.results54, go_sem, *]) rfl ⟨rfl, hb1⟩
set_option linter.unusedSimpArgs false in
set_option maxHeartbeats 4000000 in
theorem ownRI (x : BxD) (w : World) (hJ : BxJ w x) (hb : bxOk x.p = true) :
  Calls Tryz.prog 28 #[.agg #[.int .i64 x.id, .int .i64 x.po, .int .i64 x.rg.ep, .int .i64 x.rg.ow, .int .i64 x.rg.pa, .slice x.aT x.two.length x.cT, .slice x.aN x.net.length x.cN, .slice x.aG x.ga.length x.cG, .slice x.aL x.ln.length x.cL, .slice x.aS x.sd.length x.cS]] w fun e w' => YN e (ownJ x.p) ∧ Below w.heap.size w w' := by
 obtain ⟨Q, hQ⟩ : ∃ Q : Prop, Q = (ownJ x.p) := ⟨_, rfl⟩
 rw [← hQ]
 replace hQ : Hid _ := hQ
 obtain ⟨y, hy⟩ := mk_ (w.alloc (Obj.cells #[.int .i64 x.id, .int .i64 x.po, .int .i64 x.rg.ep, .int .i64 x.rg.ow, .int .i64 x.rg.pa, .slice x.aT x.two.length x.cT, .slice x.aN x.net.length x.cN, .slice x.aG x.ga.length x.cG, .slice x.aL x.ln.length x.cL, .slice x.aS x.sd.length x.cS] 39))
 have B : Below w.heap.size w y := by rw [hy]; exact below_new _
 have A : BxAt y w.heap.size x := by rw [hy]; exact BxAt.new w _ x
 have J := hJ.later B
 obtain ⟨o0, o1⟩ := bxOk_ow hb
 obtain ⟨k, hk⟩ : ∃ k : Nat, x.rg.ow = (k : Int) := ⟨x.rg.ow.toNat, by omega⟩
 have hk2 : k < 2 := by omega
 obtain ⟨h2, _⟩ := bxOk_smJ hb
 have hkl : k < x.two.length := by omega
 have hmo : mOf x.p x.rg.ow = (x.two.getD k MiD.nil).m := by rw [hk, mOf_p]; simp only [Int.toNat_natCast]
 obtain ⟨mb, hmb⟩ : ∃ b, mindsX x.p x.rg.ow = b := ⟨_, rfl⟩
 have hQ2 : Hid (Q ↔ (mb = true → begJ x.ln (x.two.getD k MiD.nil).m.lg ∧ (x.two.getD k MiD.nil).m.sd = (x.ln.length : Int))) := by unfold Hid; rw [hQ.out]; unfold ownJ; show (mindsX x.p x.rg.ow = true → begJ x.ln (mOf x.p x.rg.ow).lg ∧ (mOf x.p x.rg.ow).sd = (x.ln.length : Int)) ↔ _; rw [hmo, hmb]
 have hln : x.ln.length ≤ 60 := (bxOk_smJ hb).2.2.2.2.1
 clear hQ hmo o0 o1 h2
 replace hb : Hid _ := hb
 replace hmb : Hid _ := hmb
 replace hk : Hid _ := hk
 go_enter Tryz.func28, Tryz.ntmps28
 go_upto_region 1 with fail
 rw [← hy]
 clear hy
 go_wp2_with fail
 go_at_call 54
 refine (whoMI x w.heap.size y A J.v).mono ?_
 rintro e u1 ⟨rfl, kq⟩
 rw [hmb.out, hk.out]
 have A := A.below kq A.lt
 have J := J.later kq
 have B := B.trans (kq.mono B.size)
 clear kq
 go_upto_region 2 with fail
 cases mb
 ·
  refine wp_region_held (S := fun Y => Below u1.heap.size u1 Y) (by kernel_rfl) ?_
  change wpAnyH _ _ _ _ _ _ _ _ (World.drew _)
  have hb0 : Below u1.heap.size u1 u1.drew := (Below.refl _ _).drew
  obtain ⟨u0, hu0⟩ := mk_ u1.drew
  rw [← hu0] at hb0 ⊢
  clear hu0
  refine tw 0 9 (.bool false) ?_
  refine tw 1 10 (.bool true) ?_
  refine tw 2 11 (.bool true) ?_
  refine ts 3 12 ?_
  refine ts 4 13 ?_
  refine ts 5 14 ?_
  refine ts 6 15 ?_
  refine ts 7 16 ?_
  refine ts 8 17 ?_
  refine ts 9 18 ?_
  refine ts 10 19 ?_
  refine ts 11 20 ?_
  refine ts 12 21 ?_
  refine ts 13 22 ?_
  refine ts 14 23 ?_
  refine ts 15 24 ?_
  refine ts 16 25 ?_
  refine tw 17 26 (.bool true) ?_
  refine tw 18 2 (.bool true) ?_
  refine wpAnyH_done (by kernel_rfl) ?_ _
  have B := B.trans (hb0.mono B.size)
  go_wp2
  go_ret
  exact ⟨YN.yes (hQ2.out.2 (fun h => by cases h)), B⟩
 ·
  obtain ⟨g, off, hat, _⟩ := J.v.t (by omega)
  obtain ⟨m, hm⟩ : ∃ m, x.two.getD k MiD.nil = m := ⟨_, rfl⟩
  have M0 : MdAtO u1 g (off + k * 7) m := by have h1 := J.v.t; rw [hat] at h1; have := mdAtO_of (h1.at_ mdEnc_len MiD.nil hkl); rw [hm] at this; exact this
  have gl : g < u1.heap.size := J.v.t.lt mdEnc_len (by omega) _ hat (by omega)
  replace hat : Hid _ := hat
  have hQ3 : Hid (Q ↔ begJ x.ln m.m.lg ∧ m.m.sd = (x.ln.length : Int)) := by unfold Hid; rw [hQ2.out, hm]; exact ⟨fun h => h rfl, fun h _ => h⟩
  have hbm : Hid (∀ rc : Bool, (rc = true ↔ begJ x.ln (x.two.getD k MiD.nil).m.lg) → (rc = true ↔ begJ x.ln m.m.lg)) := by unfold Hid; intro rc h; rw [hm] at h; exact h
  clear hm hQ2
  refine wp_region_held (S := fun Y => Below u1.heap.size u1 Y) (by kernel_rfl) ?_
  change wpAnyH _ _ _ _ _ _ _ _ (World.drew _)
  have hb0 : Below u1.heap.size u1 u1.drew := (Below.refl _ _).drew
  obtain ⟨u0, hu0⟩ := mk_ u1.drew
  rw [← hu0] at hb0 ⊢
  clear hu0
  refine tw 0 9 (.bool true) ?_
  refine tw 1 10 (.bool false) ?_
  refine tw 2 11 (.bool false) ?_
  refine tw 3 12 (.agg #[.int .i64 x.id, .int .i64 x.po, .int .i64 x.rg.ep, .int .i64 x.rg.ow, .int .i64 x.rg.pa, .slice x.aT x.two.length x.cT, .slice x.aN x.net.length x.cN, .slice x.aG x.ga.length x.cG, .slice x.aL x.ln.length x.cL, .slice x.aS x.sd.length x.cS]) ?_ (hy := by intro Y hSw; obtain ⟨X0, X1, X2, X3, X4, X5, X6, X7, X8, X9⟩ := A.below hSw A.lt; go_simp)
  refine tw 4 13 (.int .i64 (k : Int)) ?_
  refine w1 5 fun Kz hKz => ?_
  go_simp
  go_at_call 55
  refine (beginsI x k hk2 u0 (J.later hb0) hb.out).mono ?_
  rintro e u2 ⟨⟨rc, rfl, hrc0⟩, kq⟩
  have hb1 : Below u1.heap.size u1 u2 := hb0.trans (kq.mono hb0.size)
  have hrc : Hid (rc = true ↔ begJ x.ln m.m.lg) := hbm.out rc hrc0
  clear kq hrc0 hbm
  refine hKz _ _ ⟨hb1, ?_⟩
  clear hKz Kz
  cases rc
  ·
   refine tw 6 15 (.bool false) ?_
   refine ts 7 16 ?_
   refine ts 8 17 ?_
   refine ts 9 18 ?_
   refine ts 10 19 ?_
   refine ts 11 20 ?_
   refine ts 12 21 ?_
   refine ts 13 22 ?_
   refine ts 14 23 ?_
   refine ts 15 24 ?_
   refine tw 16 25 (.bool false) ?_
   refine tw 17 26 (.bool false) ?_
   refine tw 18 2 (.bool false) ?_
   refine wpAnyH_done (by kernel_rfl) ?_ _
   have B := B.trans (hb1.mono B.size)
   go_wp2
   go_ret
   exact ⟨YN.no (fun q_ => by have h1 := (hQ3.out.1 q_).1; have h2 := hrc.out.2 h1; first | cases h2 | exact h2.elim), B⟩
  ·
   refine tw 6 15 (.bool true) ?_
   refine tw 7 16 (.pointer (some ⟨w.heap.size, 5, none⟩)) ?_
   refine tw 8 17 (.slice (some ⟨g, off, none⟩) x.two.length x.cT) ?_ (hy := by intro Y hSw; obtain ⟨X0, X1, X2, X3, X4, X5, X6, X7, X8, X9⟩ := A.below hSw A.lt; rw [hat.out] at X5; go_simp)
   refine tw 9 18 (.int .i64 (k : Int)) ?_
   refine tw 10 19 (.pointer (some ⟨g, off + k * 7, none⟩)) ?_ (hy := by intro Y hSw; go_simp; try omega)
   refine tw 11 20 (.pointer (some ⟨g, off + k * 7 + 4, none⟩)) ?_
   refine tw 12 21 (.int .i64 m.m.sd) ?_ (hy := by intro Y hSw; obtain ⟨X0, X1, X2, X3, X4, X5, X6⟩ := M0.belowJ hSw gl; go_simp)
   refine tw 13 22 (.agg #[.int .i64 x.id, .int .i64 x.po, .int .i64 x.rg.ep, .int .i64 x.rg.ow, .int .i64 x.rg.pa, .slice x.aT x.two.length x.cT, .slice x.aN x.net.length x.cN, .slice x.aG x.ga.length x.cG, .slice x.aL x.ln.length x.cL, .slice x.aS x.sd.length x.cS]) ?_ (hy := by intro Y hSw; obtain ⟨X0, X1, X2, X3, X4, X5, X6, X7, X8, X9⟩ := A.below hSw A.lt; go_simp)
   refine w1 14 fun Kz hKz => ?_
   go_simp
   go_at_call 56
   refine (relI x u2 (by omega)).mono ?_
   rintro e u3 ⟨rfl, kq⟩
   have hb2 : Below u1.heap.size u1 u3 := hb1.trans (kq.mono hb1.size)
   clear kq
   refine hKz _ _ ⟨hb2, ?_⟩
   clear hKz Kz
   have hbj : Hid (begJ x.ln m.m.lg) := by unfold Hid; first | exact hrc.out.1 rfl | exact hrc.out.1 trivial
   clear hrc
   by_cases hs : m.m.sd = (x.ln.length : Int)
   ·
    have hd : (m.m.sd == (x.ln.length : Int)) = true := by simpa using hs
    replace hs : Hid (m.m.sd = (x.ln.length : Int)) := hs
    refine tw 15 24 (.bool true) ?_
    refine tw 16 25 (.bool true) ?_
    refine tw 17 26 (.bool true) ?_
    refine tw 18 2 (.bool true) ?_
    refine wpAnyH_done (by kernel_rfl) ?_ _
    have B := B.trans (hb2.mono B.size)
    go_wp2
    go_ret
    exact ⟨YN.yes (hQ3.out.2 ⟨hbj.out, hs.out⟩), B⟩
   ·
    have hd : (m.m.sd == (x.ln.length : Int)) = false := by simpa using hs
    replace hs : Hid (¬ m.m.sd = (x.ln.length : Int)) := hs
    refine tw 15 24 (.bool false) ?_
    refine tw 16 25 (.bool false) ?_
    refine tw 17 26 (.bool false) ?_
    refine tw 18 2 (.bool false) ?_
    refine wpAnyH_done (by kernel_rfl) ?_ _
    have B := B.trans (hb2.mono B.size)
    go_wp2
    go_ret
    exact ⟨YN.no (fun q_ => hs.out (hQ3.out.1 q_).2), B⟩
end Go.Proofs.YtnpiljegdiconabGreat
