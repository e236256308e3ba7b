import Derived.Test.YtnpiljegdiconabGreatQKWWi1
namespace Go.Proofs.YtnpiljegdiconabGreat
open Go.ChangeShapes Go.WideShapes Go.ChangeAt Go.RowKit
open Go.ChangeMaps (open_string shut_string)
set_option linter.unusedVariables false
set_option maxRecDepth 100000
set_option maxHeartbeats 2000000 in
theorem wiEqS (ad ad' : Option Addr) (cap cap' : Nat) (L : List Wi) (w : World) (hv : FView wiEnc w ad L) (hv' : FView wiEnc w ad' L) (hl : L.length ≤ 1048576) :
  Calls Tryz.prog 32 #[.slice ad L.length cap, .slice ad' L.length cap'] w fun e w' => e = .returned (.bool true) ∧ Below w.heap.size w w' := by
 have hB := hv.lt wiEnc_len (by omega)
 have hB' := hv'.lt wiEnc_len (by omega)
 go_enter Tryz.func32, Tryz.ntmps32
 go_wp2
 go_loopw [5] (fun i wr => ∃ k : Nat, k ≤ L.length ∧ i = .int .i64 k ∧ Below w.heap.size w wr) (fun i _ => L.length - (intOf i).toNat)
 case atStart => exact ⟨0, Nat.zero_le _, rfl, Below.refl _ _⟩
 case round =>
  obtain ⟨k, hk, rfl, hb⟩ := hrel
  by_cases hlt : k < L.length
  ·
   obtain ⟨b, off, rfl, _⟩ := hv (by omega)
   obtain ⟨b', off', rfl, _⟩ := hv' (by omega)
   obtain ⟨h, hh⟩ : ∃ h, L.getD k Wi.nil = h := ⟨_, rfl⟩
   have hc : ∀ Y, Below w.heap.size w Y → WiAtO Y b (off + k * 12) h := fun Y hY => by rw [← hh]; exact wiAtO_of ((hv.below hY hB).at_ wiEnc_len Wi.nil hlt)
   have hc' : ∀ Y, Below w.heap.size w Y → WiAtO Y b' (off' + k * 12) h := fun Y hY => by rw [← hh]; exact wiAtO_of ((hv'.below hY hB').at_ wiEnc_len Wi.nil hlt)
   clear hh hv hv' hB hB'
   go_wp2_with fail
   refine wp_region_held (S := fun Y => Below w.heap.size w Y) (by kernel_rfl) ?_
   change wpAnyH _ _ _ _ _ _ _ _ (World.drew _)
   have hb0 : Below w.heap.size w wr.drew := hb.drew
   refine tw 0 17 (.slice (some ⟨b, off, none⟩) L.length cap) ?_
   refine tw 1 18 (.int .i64 k) ?_
   refine tw 2 19 (.pointer (some ⟨b, off + k * 12, none⟩)) ?_ (hy := by intro Y hSw; go_simp; try omega)
   refine tw 3 20 (.agg #[.int .i64 h.fr, .bool h.ak, .int .i64 h.li, .int .i64 h.n, .int .i64 h.x.k, .int .i64 h.x.q, .int .i64 h.x.r, .int .i64 h.x.c, .int .i64 h.x.b, .int .i64 h.x.p, .int .i64 h.x.h, .bool h.x.up]) ?_ (hy := by intro Y hSw; obtain ⟨X0, X1, X2, X3, X4, X5, X6, X7, X8, X9, X10, X11⟩ := hc Y hSw; go_simp)
   refine tw 4 21 (.slice (some ⟨b', off', none⟩) L.length cap') ?_
   refine tw 5 22 (.int .i64 k) ?_
   refine tw 6 23 (.pointer (some ⟨b', off' + k * 12, none⟩)) ?_ (hy := by intro Y hSw; go_simp; try omega)
   refine tw 7 24 (.agg #[.int .i64 h.fr, .bool h.ak, .int .i64 h.li, .int .i64 h.n, .int .i64 h.x.k, .int .i64 h.x.q, .int .i64 h.x.r, .int .i64 h.x.c, .int .i64 h.x.b, .int .i64 h.x.p, .int .i64 h.x.h, .bool h.x.up]) ?_ (hy := by intro Y hSw; obtain ⟨X0, X1, X2, X3, X4, X5, X6, X7, X8, X9, X10, X11⟩ := hc' Y hSw; go_simp)
   refine w1 8 fun Kz hKz => ?_
   go_simp
   go_at_call 59
   refine (eqWiI h _).mono ?_
   rintro e y1 ⟨rfl, j1⟩
   have hb1 : Below w.heap.size w y1 := hb0.trans (j1.mono hb0.size)
   refine hKz _ _ ⟨hb1, ?_⟩
   clear hKz Kz
   refine tw 9 26 (.bool false) ?_
   refine wpAnyH_done (by kernel_rfl) ?_ _
   go_wp2
   go_roundw
   case rel => exact ⟨k + 1, by omega, by go_num, hb1⟩
   case measure => simp [intOf]; omega
  ·
   obtain rfl : k = L.length := by omega
   go_wp2
   go_ret
   exact ⟨rfl, hb⟩
theorem numFitsI (n : Int) (w : World) : Calls Tryz.prog 101 #[.int .i64 n] w fun e w' => e = .returned (.bool (numB n)) ∧ w' = w := by
 obtain ⟨R, hR⟩ := mk_ (numB n)
 rw [← hR]
 replace hR : Hid _ := hR
 by_cases h1 : 0 ≤ n
 ·
  have d1 : decide (0 ≤ n) = true := decide_eq_true h1
  have hN : Hid (R = decide (n ≤ 100000)) := by unfold Hid; rw [hR.out]; unfold numB; by_cases h2 : n ≤ 100000 <;> simp [h1, h2]
  clear hR
  go_enter Tryz.func101, Tryz.ntmps101
  go_wp2
  go_ret
  exact ⟨by rw [hN.out]; rfl, rfl⟩
 ·
  have d1 : decide (0 ≤ n) = false := decide_eq_false h1
  have hN : Hid (R = false) := by unfold Hid; rw [hR.out]; unfold numB; simp [h1]
  clear hR
  go_enter Tryz.func101, Tryz.ntmps101
  go_wp2
  go_ret
  exact ⟨by rw [hN.out]; rfl, rfl⟩
set_option maxHeartbeats 1000000 in
theorem cloneK (ad : Option Addr) (cap : Nat) (L : List Ik) (w : World) (hv : FView ikEnc w ad L) (hl : L.length ≤ 1048577) :
  Calls Tryz.prog 155 #[.slice ad L.length cap] w fun e w' => ∃ ad' cap', e = .returned (.slice ad' L.length cap') ∧ FOwn ikEnc 8 80 w.heap.size w' (.slice ad' L.length cap') L ∧ Below w.heap.size w w' := by
 obtain ⟨i1, hj, hy0, hy1, hy2⟩ := info_parts ikInfo
 cases ad with
 | none =>
  obtain rfl := hv.none_nil
  have hEq : ∀ (y : World) (c : Nat), (binOp .eql 36 (.slice none 0 c) (.slice none 0 0)).run Tryz.prog y = .ok (.bool true) y := fun y c => Go.Lib.run_eql_slice_nil y 36 80 none 0 c 0 0 Tryz.underlying36
  simp only [List.length_nil]
  go_enter Tryz.func155, Tryz.ntmps155
  go_wp2
  go_ret
  exact ⟨_, _, rfl, FOwn.nil, Below.refl _ _⟩
 | some a =>
  have hB := hv.lt ikEnc_len (by omega)
  have B0 := below_new (w := w) (Obj.cells #[] 80)
  have hv1 : FView ikEnc (w.alloc (Obj.cells #[] 80)) (some a) L := hv.below B0 hB
  have hEq : ∀ (y : World), (binOp .eql 36 (.slice (some a) L.length cap) (.slice none 0 0)).run Tryz.prog y = .ok (.bool false) y := fun y => Go.Lib.run_eql_slice_nil y 36 80 (some a) L.length cap 0 0 Tryz.underlying36
  go_enter Tryz.func155, Tryz.ntmps155
  go_wp2_with (first | (at_builtin; refine fappL ikEnc_len ikEnc_ones rfl _ _ 36 rfl w.heap.size 80 i1 (.agg #[.int .i64 0, .int .i64 0, .int .i64 0, .int .i64 0, .int .i64 0, .int .i64 0, .int .i64 0, .bool false]) 64 Tryz.underlying36 hj hy0 hy1 hy2 rfl (by decide) (by decide) _ ([] : List Ik) rfl (FOwn.empty w) (some a) cap L rfl (fun e => by cases e) hv1 ?z0 ?z1 ?_) | go_in)
  case z0 => simp; omega
  case z1 => simp
  intro vZ wZ hownZ hgrowZ _
  have BZ : Below w.heap.size w wZ := B0.grown hgrowZ (by simp) (fun j e => ((FOwn.empty w : FOwn ikEnc 8 80 _ _ _ _).lt j e).1)
  replace hownZ : FOwn ikEnc 8 80 w.heap.size wZ vZ L := hownZ
  obtain ⟨adZ, capZ, rfl⟩ := hownZ.open_
  clear hgrowZ B0 hv1
  go_wp2
  go_ret
  exact ⟨_, _, rfl, hownZ, BZ⟩
set_option maxHeartbeats 1000000 in
theorem jourI (ad : Option Addr) (cap : Nat) (L : List Ik) (w : World) (hv : FView ikEnc w ad L) (hl : L.length ≤ 1048577) :
  Calls Tryz.prog 140 #[.slice ad L.length cap] w fun e w' => ∃ a c, e = .returned (.agg #[.slice a L.length c]) ∧ FOwn ikEnc 8 80 w.heap.size w' (.slice a L.length c) L ∧ Below w.heap.size w w' := by
 have hB := hv.lt ikEnc_len (by omega)
 obtain ⟨y, hy⟩ := mk_ (w.alloc (Obj.cells #[.slice none 0 0] 166))
 have B0 : Below w.heap.size w y := by rw [hy]; exact below_new _
 have c0 : y.cell? ⟨w.heap.size, 0, none⟩ = some (.slice none 0 0) := by rw [hy]; simp [go_sem]
 have f0 : y.frozen? ⟨w.heap.size, 0, none⟩ = false := by rw [hy]; simp [go_sem]
 have S0 := World.block_lt_of_cell? _ _ c0
 go_enter Tryz.func140, Tryz.ntmps140
 go_wp2_with fail
 go_at_call 155
 rw [← hy]
 clear hy
 refine (cloneK ad cap L y (hv.below B0 hB) hl).mono ?_
 rintro e w1 ⟨a1, c1, rfl, O1, k1⟩
 have B1 := B0.trans (k1.mono B0.size)
 have c0 := (World.cell?_of_block (a := ⟨w.heap.size, 0, none⟩) (k1.block _ S0)).trans c0
 have f0 := (World.frozen?_of_block (a := ⟨w.heap.size, 0, none⟩) (k1.block _ S0)).trans f0
 have hne : ∀ g, (Value.slice a1 L.length c1).ownBlock = some g → g ≠ w.heap.size := fun g e => by have := (O1.lt g e).1; omega
 have O2 : FOwn ikEnc 8 80 w.heap.size (w1.setCell ⟨w.heap.size, 0, none⟩ (.slice a1 L.length c1)) (.slice a1 L.length c1) L := (O1.base B0.size).keep fun g e => Below.heap_setCell _ _ _ _ (hne g e)
 have B2 := B1.setCell (p := ⟨w.heap.size, 0, none⟩) (Nat.le_refl _) (.slice a1 L.length c1)
 clear k1 B0 hv hB O1 B1 hne
 go_wp2
 refine bodyPost_ret (v := .agg #[.slice a1 L.length c1]) (by simp [results, Tryz.results140, go_sem, *]) rfl ⟨_, _, rfl, O2, B2⟩
set_option maxHeartbeats 2000000 in
theorem mindOf (m : Mi) (ad : Option Addr) (cap : Nat) (w : World) (hv : FView ikEnc w ad m.lg) (hl : m.lg.length ≤ 1048577) :
  Calls Tryz.prog 122 #[.agg #[.bool m.up, .int .i64 m.li, .int .i64 m.ep, .slice ad m.lg.length cap, .int .i64 m.sd, .int .i64 m.ac, .int .i64 m.al]] w fun e w' => ∃ q a c, e = .returned (.pointer (some ⟨q, 0, none⟩)) ∧ MgBox w' q m (.slice a m.lg.length c) ∧ FOwn ikEnc 8 80 w.heap.size w' (.slice a m.lg.length c) m.lg ∧ (∀ g, (Value.slice a m.lg.length c).ownBlock = some g → g < q) ∧ w.heap.size < q ∧ Below w.heap.size w w' := by
 have hB := hv.lt ikEnc_len (by omega)
 obtain ⟨y, hy⟩ := mk_ (w.alloc (Obj.cells #[.bool m.up, .int .i64 m.li, .int .i64 m.ep, .slice ad m.lg.length cap, .int .i64 m.sd, .int .i64 m.ac, .int .i64 m.al] 49))
 have B0 : Below w.heap.size w y := by rw [hy]; exact below_new _
 have A : MiAt y w.heap.size m (.slice ad m.lg.length cap) := by rw [hy]; exact MiAt.new w _ _ _
 have S0 := A.lt
 have hv1 := hv.below B0 hB
 go_enter Tryz.func122, Tryz.ntmps122
 go_upto_region 1 with fail
 rw [← hy]
 clear hy
 refine wp_region_held (S := fun Y => Below y.heap.size y Y) (by kernel_rfl) ?_
 change wpAnyH _ _ _ _ _ _ _ _ (World.drew _)
 have hb0 : Below y.heap.size y y.drew := (Below.refl _ _).drew
 obtain ⟨u0, hy0⟩ := mk_ y.drew
 rw [← hy0] at hb0 ⊢
 clear hy0
 refine tw 0 3 (.pointer (some ⟨w.heap.size, 3, none⟩)) ?_
 refine tw 1 4 (.slice ad m.lg.length cap) ?_ (hy := by intro Y hSw; obtain ⟨X0, X1, X2, X3, X4, X5, X6⟩ := A.below hSw (by omega); go_simp)
 refine tw 3 6 (.pointer (some ⟨w.heap.size, 0, none⟩)) ?_
 refine tw 4 7 (.bool m.up) ?_ (hy := by intro Y hSw; obtain ⟨X0, X1, X2, X3, X4, X5, X6⟩ := A.below hSw (by omega); go_simp)
 refine tw 5 8 (.pointer (some ⟨w.heap.size, 1, none⟩)) ?_
 refine tw 6 9 (.int .i64 m.li) ?_ (hy := by intro Y hSw; obtain ⟨X0, X1, X2, X3, X4, X5, X6⟩ := A.below hSw (by omega); go_simp)
 refine tw 7 10 (.pointer (some ⟨w.heap.size, 2, none⟩)) ?_
 refine tw 8 11 (.int .i64 m.ep) ?_ (hy := by intro Y hSw; obtain ⟨X0, X1, X2, X3, X4, X5, X6⟩ := A.below hSw (by omega); go_simp)
 refine tw 9 12 (.pointer (some ⟨w.heap.size, 4, none⟩)) ?_
 refine tw 10 13 (.int .i64 m.sd) ?_ (hy := by intro Y hSw; obtain ⟨X0, X1, X2, X3, X4, X5, X6⟩ := A.below hSw (by omega); go_simp)
 refine tw 11 14 (.pointer (some ⟨w.heap.size, 5, none⟩)) ?_
 refine tw 12 15 (.int .i64 m.ac) ?_ (hy := by intro Y hSw; obtain ⟨X0, X1, X2, X3, X4, X5, X6⟩ := A.below hSw (by omega); go_simp)
 refine tw 13 16 (.pointer (some ⟨w.heap.size, 6, none⟩)) ?_
 refine tw 14 17 (.int .i64 m.al) ?_ (hy := by intro Y hSw; obtain ⟨X0, X1, X2, X3, X4, X5, X6⟩ := A.below hSw (by omega); go_simp)
 refine tw 15 18 (.agg #[.bool m.up, .int .i64 m.li, .int .i64 m.ep, .int .i64 m.sd, .int .i64 m.ac, .int .i64 m.al]) ?_
 refine w1 2 fun Kz hKz => ?_
 go_simp
 go_at_call 140
 refine (jourI ad cap m.lg u0 (hv1.below hb0 (hv1.lt ikEnc_len (by omega))) hl).mono ?_
 rintro e u1 ⟨a1, c1, rfl, O1, kq⟩
 have hb1 : Below y.heap.size y u1 := hb0.trans (kq.mono hb0.size)
 clear kq
 refine hKz _ _ ⟨hb1, ?_⟩
 clear hKz Kz
 refine tw 16 19 (.agg #[.slice a1 m.lg.length c1, .bool m.up, .int .i64 m.li, .int .i64 m.ep, .int .i64 m.sd, .int .i64 m.ac, .int .i64 m.al]) ?_
 refine w1 17 fun Kz hKz => ?_
 go_simp
 obtain ⟨u2, hu⟩ := mk_ (u1.alloc (Obj.cells #[.slice a1 m.lg.length c1, .bool m.up, .int .i64 m.li, .int .i64 m.ep, .int .i64 m.sd, .int .i64 m.ac, .int .i64 m.al] 171))
 have kq : Below u1.heap.size u1 u2 := by rw [hu]; exact below_new _
 have M2 : MgBox u2 u1.heap.size m (.slice a1 m.lg.length c1) := by rw [hu]; exact MgBox.new u1 _ _ _
 have hb2 : Below y.heap.size y u2 := hb1.trans (kq.mono hb1.size)
 have O2 := O1.later kq
 have lo := O1.lt
 have hb1s := hb1.size
 obtain ⟨q, hq⟩ := mk_ u1.heap.size
 rw [← hq] at M2 lo hb1s ⊢
 rw [← hu]
 clear hu kq hq
 refine hKz _ _ ⟨hb2, ?_⟩
 clear hKz Kz
 refine tw 18 2 (.pointer (some ⟨q, 0, none⟩)) ?_
 refine wpAnyH_done (by kernel_rfl) ?_ _
 have hO := O1.lt
 go_wp2
 go_ret
 exact ⟨q, a1, c1, rfl, M2, O2.base (Nat.le_trans B0.size hb0.size), fun g e => (lo g e).2, by omega, B0.trans (hb2.mono B0.size)⟩
end Go.Proofs.YtnpiljegdiconabGreat
