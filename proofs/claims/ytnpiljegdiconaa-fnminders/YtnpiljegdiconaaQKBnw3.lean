import Derived.Test.YtnpiljegdiconaaQM19
namespace Go.Proofs.Ytnpiljegdiconaa
open Go.ChangeShapes Go.WideShapes Go.ChangeAt Go.RowKit
open Go.ChangeMaps (open_string shut_string)
set_option linter.unusedVariables false
set_option maxRecDepth 100000
structure BxGe (B : Nat) (x : BxD) : Prop where
 t : ∀ a, x.aT = some a → 0 < x.two.length → B ≤ a.block
 l : ∀ i, i < x.two.length → ∀ a, (x.two.getD i MiD.nil).ad = some a → 0 < (x.two.getD i MiD.nil).m.lg.length → B ≤ a.block
 n : ∀ a, x.aN = some a → 0 < x.net.length → B ≤ a.block
 g : ∀ a, x.aG = some a → 0 < x.ga.length → B ≤ a.block
 i : ∀ a, x.aL = some a → 0 < x.ln.length → B ≤ a.block
 s : ∀ a, x.aS = some a → 0 < x.sd.length → B ≤ a.block
theorem BxIn.keptN {w w' : World} {x : BxD} {n : Nat} (h : BxIn w x) (hin : BxGe n x) (k : ∀ g, n ≤ g → w'.heap[g]? = w.heap[g]?) : BxIn w' x :=
 ⟨⟨h.t.row.carry (fun a e p => k _ (hin.t a e p)), fun i hi => (h.t.nest i hi).carry (fun a e p => k _ (hin.l i hi a e p)), h.t.nil0⟩, h.tm, h.ts, h.tc, h.tn, h.n.carry (fun a e p => k _ (hin.n a e p)), h.nm, h.nn, h.g.carry (fun a e p => k _ (hin.g a e p)), h.gm, h.gn, h.i.carry (fun a e p => k _ (hin.i a e p)), h.im, h.ic, h.s.carry (fun a e p => k _ (hin.s a e p)), h.sm, h.sn⟩
set_option maxHeartbeats 4000000 in
theorem newXS (id po : Int) (w : World) :
  Calls Try.prog 49 #[.int .i64 id, .int .i64 po] w fun e w' => ∃ x2 : BxD, (e = .returned (.tuple #[.agg #[.int .i64 x2.id, .int .i64 x2.po, .int .i64 x2.rg.ep, .int .i64 x2.rg.ow, .int .i64 x2.rg.pa, .slice x2.aT x2.two.length x2.cT, .slice x2.aN x2.net.length x2.cN, .slice x2.aG x2.ga.length x2.cG, .slice x2.aL x2.ln.length x2.cL, .slice x2.aS x2.sd.length x2.cS], .bool (nOk id po)]) ∧ x2.p = newX id po ∧ BxSm x2) ∧ BxIn w' x2 ∧ Below w.heap.size w w' := by
 obtain ⟨y, hy⟩ := mk_ (w.alloc (Obj.cells #[.int .i64 0, .int .i64 0, .int .i64 0, .int .i64 0, .int .i64 0, .slice none 0 0, .slice none 0 0, .slice none 0 0, .slice none 0 0, .slice none 0 0] 79))
 have B0 : Below w.heap.size w y := by rw [hy]; exact below_new _
 have Z : BxB y w.heap.size BxD.zero := by rw [hy]; refine ⟨?_, fun i => ?_⟩; constructor <;> simp [go_sem, BxD.zero]; simp [go_sem]
 go_enter Try.func49, Try.ntmps49
 go_wp2_with fail
 go_at_call 54
 rw [← hy]
 clear hy
 refine (newBS id po y).mono ?_
 rintro e u0 ⟨ad', cap', rfl, O', k0⟩
 have Z := Z.below k0 Z.lt
 have B1 := B0.trans (k0.mono B0.size)
 have s0 := k0.size
 have zl := Z.lt
 clear k0 B0
 obtain ⟨u1, hu1⟩ := mk_ (u0.alloc (Obj.cells #[.int .i64 (newI id po), .slice ad' (newL id po).length cap'] 110))
 have kk : Below u0.heap.size u0 u1 := by rw [hu1]; exact below_new _
 have BB : BrAt u1 u0.heap.size (newI id po) (.slice ad' (newL id po).length cap') := by rw [hu1]; exact BrAt.new u0 _ _ _
 have Z := Z.below kk Z.lt
 have O' := O'.later kk
 have B2 := B1.trans (kk.mono B1.size)
 have s1 := BB.lt
 clear kk B1
 go_upto_region 2 with fail
 rw [← hu1]
 clear hu1
 obtain ⟨qb, hqb⟩ := mk_ u0.heap.size
 rw [← hqb] at BB s1 ⊢
 replace hqb := Nat.le_of_eq hqb.symm
 have cc := BB
 obtain ⟨bb0, bb1⟩ := cc
 go_wp2_with fail
 go_at_call 55
 clear bb0 bb1
 refine (gatesS12 (newI id po) ad' cap' (newL id po) u1 O'.view.2 (Nat.le_trans (newL_le id po) (by omega))).mono ?_
 rintro e u2 ⟨aG, cG, rfl, OG, k2⟩
 have lG : ∀ g, (Value.slice aG (gatesR (newL id po)).length cG).ownBlock = some g → g < u2.heap.size := fun g e => (OG.lt g e).2
 have Z := Z.below k2 Z.lt
 have B3 := B2.trans (k2.mono B2.size)
 have s2 := k2.size
 clear k2 B2 BB O'
 obtain ⟨u3, hu3⟩ := mk_ (u2.alloc (Obj.cells #[.int .i64 id, .int .i64 po, .int .i64 1, .int .i64 0, .int .i64 0, .slice none 0 0, .slice none 0 0, .slice aG (gatesR (newL id po)).length cG, .slice none 0 0, .slice none 0 0] 79))
 have kk : Below u2.heap.size u2 u3 := by rw [hu3]; exact below_new _
 have Hb : BxB u3 u2.heap.size ⟨id, po, ⟨1, 0, 0⟩, [], none, 0, [], none, 0, gatesR (newL id po), aG, cG, [], none, 0, [], none, 0⟩ := by rw [hu3]; refine ⟨?_, fun i => ?_⟩; constructor <;> simp [go_sem]; simp [go_sem]
 have Z := Z.below kk Z.lt
 have OG := OG.later kk
 have B4 := B3.trans (kk.mono B3.size)
 have s3 := Hb.lt
 clear kk B3
 go_upto_region 3 with fail
 rw [← hu3]
 clear hu3
 obtain ⟨qh, hqh⟩ := mk_ u2.heap.size
 rw [← hqh] at Hb s3 ⊢
 have hqh1 := Nat.le_of_eq hqh
 replace hqh := Nat.le_of_eq hqh.symm
 have Hb3 := Hb
 obtain ⟨u4, hu4⟩ := mk_ (u3.setCell ⟨qh, 5, none⟩ (.slice (some ⟨u3.heap.size, 0, none⟩) 2 2))
 have Hc := Hb.sT twoD (some ⟨u3.heap.size, 0, none⟩) 2 2 rfl
 rw [← hu4] at Hc
 have kp : ∀ k, k ≠ qh → u4.heap[k]? = u3.heap[k]? := fun k hk => by rw [hu4, Below.heap_setCell _ _ _ _ hk]
 have Z := Z.keep (kp _ (by omega))
 have OG := OG.keep (fun g e => kp g (by have := lG g e; omega))
 have B5 : Below w.heap.size w u4 := by rw [hu4]; exact B4.setCell (p := ⟨qh, 5, none⟩) (by show _ ≤ qh; omega) _
 have s45 : u4.heap.size = u3.heap.size := by rw [hu4]; simp
 obtain ⟨u5, hu5⟩ := mk_ (u4.alloc (Obj.cells #[.bool true, .int .i64 1, .int .i64 1, .slice none 0 0, .int .i64 0, .int .i64 0, .int .i64 0, .bool true, .int .i64 2, .int .i64 0, .slice none 0 0, .int .i64 0, .int .i64 0, .int .i64 0] 26))
 have OT : MOwn u4.heap.size (u4.heap.size + 1) u5 (.slice (some ⟨u4.heap.size, 0, none⟩) 2 2) twoD := by rw [hu5]; exact twoOwn u4
 have kk : Below u4.heap.size u4 u5 := by rw [hu5]; exact below_new _
 have Z := Z.below kk Z.lt
 have Hc := Hc.below kk Hc.lt
 have OG := OG.later kk
 have B6 := B5.trans (kk.mono B5.size)
 have s4 : u4.heap.size < u5.heap.size := by rw [hu5]; simp
 rw [s45] at OT s4
 replace s45 := Nat.le_of_eq s45
 clear kk B4 kp Hb
 obtain ⟨⟨h0, h1, h2, h3, h4, h5, h6, h7, h8, h9⟩, hf⟩ := Hb3
 have hf5 := hf 5
 clear hf
 go_upto_region 4 with fail
 rw [← hu4, ← hu5]
 clear hu4 hu5 h0 h1 h2 h3 h4 h5 h6 h7 h8 h9 hf5 B5
 obtain ⟨q2, hq2⟩ := mk_ u3.heap.size
 rw [← hq2] at Hc OT s4 ⊢
 replace hq2 := Nat.le_of_eq hq2.symm
 have J : BxIn u5 ⟨id, po, ⟨1, 0, 0⟩, twoD, some ⟨q2, 0, none⟩, 2, [], none, 0, gatesR (newL id po), aG, cG, [], none, 0, [], none, 0⟩ := by
  have hv := OT.view.2
  exact ⟨hv, by show (2 : Nat) ≤ _; unfold maxLen; omega, fun i hi => Nat.le_trans ((newX_sm id po q2 aG cG).ls i hi) (by unfold maxLen; omega), Nat.le_refl _, (fun e => by cases e), FView.nil, Nat.zero_le _, fun _ => rfl, OG.view.2, Nat.le_trans (newX_sm id po q2 aG cG).g (by unfold maxLen; omega), fun e => own_noneM (by have e1 : aG = none := e; have := OG; rw [e1] at this; exact this), FView.nil, Nat.zero_le _, fun _ => rfl, FView.nil, Nat.zero_le _, fun _ => rfl⟩
 have hap : BxGe (w.heap.size + 1) ⟨id, po, ⟨1, 0, 0⟩, twoD, some ⟨q2, 0, none⟩, 2, [], none, 0, gatesR (newL id po), aG, cG, [], none, 0, [], none, 0⟩ := by
  refine ⟨fun a e _ => ?_, fun i hi a e _ => ?_, fun a e => (by cases e), fun a e p => ?_, fun a e => (by cases e), fun a e => (by cases e)⟩
  ·
   cases e; show _ ≤ q2; omega
  ·
   match i, hi, e with
   | 0, _, e => cases e
   | 1, _, e => cases e
  ·
   have e : aG = some a := e
   have hg := OG.lt a.block (by rw [e]; rfl)
   omega
 have cc := Hc
 obtain ⟨⟨h0, h1, h2, h3, h4, h5, h6, h7, h8, h9⟩, hf⟩ := cc
 go_wp2_with fail
 go_at_call 53
 clear h0 h1 h2 h3 h4 h5 h6 h7 h8 h9 hf
 refine (boxOkS ⟨id, po, ⟨1, 0, 0⟩, twoD, some ⟨q2, 0, none⟩, 2, [], none, 0, gatesR (newL id po), aG, cG, [], none, 0, [], none, 0⟩ u5 (J.v (newX_sm id po q2 aG cG))).mono ?_
 rintro e u6 ⟨rfl, k6⟩
 rw [newX_p, newBx_okB]
 have Z := Z.below k6 Z.lt
 have Hc := Hc.below k6 Hc.lt
 have J := J.below k6
 have B7 := B6.trans (k6.mono B6.size)
 have s6 := k6.size
 clear k6 B6 OT OG
 cases h1 : nOk id po
 ·
  have hX : Hid (newX id po = BxD.zero.p) := by unfold Hid newX; rw [h1]; rfl
  replace h1 : Hid _ := h1
  obtain ⟨W9, hW9⟩ := mk_ ((((((((((u6.setCell ⟨w.heap.size, 0, none⟩ (.int .i64 0)).setCell ⟨w.heap.size, 1, none⟩ (.int .i64 0)).setCell ⟨w.heap.size, 2, none⟩ (.int .i64 0)).setCell ⟨w.heap.size, 3, none⟩ (.int .i64 0)).setCell ⟨w.heap.size, 4, none⟩ (.int .i64 0)).setCell ⟨w.heap.size, 5, none⟩ (.slice none 0 0)).setCell ⟨w.heap.size, 6, none⟩ (.slice none 0 0)).setCell ⟨w.heap.size, 7, none⟩ (.slice none 0 0)).setCell ⟨w.heap.size, 8, none⟩ (.slice none 0 0)).setCell ⟨w.heap.size, 9, none⟩ (.slice none 0 0))
  have ZZ : BxB W9 w.heap.size BxD.zero := by rw [hW9]; exact Z.put BxD.zero
  have kp : ∀ k, k ≠ w.heap.size → W9.heap[k]? = u6.heap[k]? := fun k hk => by rw [hW9, Below.heap_setCell _ _ _ _ hk, Below.heap_setCell _ _ _ _ hk, Below.heap_setCell _ _ _ _ hk, Below.heap_setCell _ _ _ _ hk, Below.heap_setCell _ _ _ _ hk, Below.heap_setCell _ _ _ _ hk, Below.heap_setCell _ _ _ _ hk, Below.heap_setCell _ _ _ _ hk, Below.heap_setCell _ _ _ _ hk, Below.heap_setCell _ _ _ _ hk]
  have B9 : Below w.heap.size w W9 := by rw [hW9]; exact ((((((((((B7.setCell (p := ⟨w.heap.size, 0, none⟩) (Nat.le_refl _) _).setCell (p := ⟨w.heap.size, 1, none⟩) (Nat.le_refl _) _).setCell (p := ⟨w.heap.size, 2, none⟩) (Nat.le_refl _) _).setCell (p := ⟨w.heap.size, 3, none⟩) (Nat.le_refl _) _).setCell (p := ⟨w.heap.size, 4, none⟩) (Nat.le_refl _) _).setCell (p := ⟨w.heap.size, 5, none⟩) (Nat.le_refl _) _).setCell (p := ⟨w.heap.size, 6, none⟩) (Nat.le_refl _) _).setCell (p := ⟨w.heap.size, 7, none⟩) (Nat.le_refl _) _).setCell (p := ⟨w.heap.size, 8, none⟩) (Nat.le_refl _) _).setCell (p := ⟨w.heap.size, 9, none⟩) (Nat.le_refl _) _)
  have s9 : W9.heap.size = u6.heap.size := by rw [hW9]; simp
  have hM : BxIn W9 BxD.zero := ((zeroN (lo := 0) (hi := 0) (w := W9) (Nat.le_refl _)).m).in_ zero_sm
  obtain ⟨⟨t0, t1, t2, t3, t4, t5, t6, t7, t8, t9⟩, tf⟩ := ZZ
  clear tf
  try dsimp only [BxD.zero] at t0 t1 t2 t3 t4 t5 t6 t7 t8 t9
  try rw [show twoD.length = 2 from rfl] at t5
  have cc := Z
  obtain ⟨⟨z0, z1, z2, z3, z4, z5, z6, z7, z8, z9⟩, zf⟩ := cc
  obtain ⟨e0, e1, e2, e3, e4, e5, e6, e7, e8, e9⟩ := ten zf
  clear zf
  go_wp2
  refine bodyPost_ret (v := .tuple #[.agg #[.int .i64 0, .int .i64 0, .int .i64 0, .int .i64 0, .int .i64 0, .slice none 0 0, .slice none 0 0, .slice none 0 0, .slice none 0 0, .slice none 0 0], .bool false]) (by simp [results, Try.results49, go_sem, *]) rfl ⟨BxD.zero, ⟨by rw [h1.out]; rfl, hX.out.symm, zero_sm⟩, ?_, ?_⟩
  ·
   rw [← hW9]; exact hM
  ·
   rw [← hW9]; exact B9
 ·
  have hX : Hid (newX id po = newBx id po) := by unfold Hid newX; rw [h1]; rfl
  replace h1 : Hid _ := h1
  have cc := Hc
  obtain ⟨⟨c0, c1, c2, c3, c4, c5, c6, c7, c8, c9⟩, cf⟩ := cc
  clear cf
  rw [show twoD.length = 2 from rfl] at c5
  obtain ⟨W9, hW9⟩ := mk_ ((((((((((u6.setCell ⟨w.heap.size, 0, none⟩ (.int .i64 id)).setCell ⟨w.heap.size, 1, none⟩ (.int .i64 po)).setCell ⟨w.heap.size, 2, none⟩ (.int .i64 1)).setCell ⟨w.heap.size, 3, none⟩ (.int .i64 0)).setCell ⟨w.heap.size, 4, none⟩ (.int .i64 0)).setCell ⟨w.heap.size, 5, none⟩ (.slice (some ⟨q2, 0, none⟩) 2 2)).setCell ⟨w.heap.size, 6, none⟩ (.slice none 0 0)).setCell ⟨w.heap.size, 7, none⟩ (.slice aG (gatesR (newL id po)).length cG)).setCell ⟨w.heap.size, 8, none⟩ (.slice none 0 0)).setCell ⟨w.heap.size, 9, none⟩ (.slice none 0 0))
  have ZZ : BxB W9 w.heap.size ⟨id, po, ⟨1, 0, 0⟩, twoD, some ⟨q2, 0, none⟩, 2, [], none, 0, gatesR (newL id po), aG, cG, [], none, 0, [], none, 0⟩ := by rw [hW9]; exact Z.put ⟨id, po, ⟨1, 0, 0⟩, twoD, some ⟨q2, 0, none⟩, 2, [], none, 0, gatesR (newL id po), aG, cG, [], none, 0, [], none, 0⟩
  have kp : ∀ k, k ≠ w.heap.size → W9.heap[k]? = u6.heap[k]? := fun k hk => by rw [hW9, Below.heap_setCell _ _ _ _ hk, Below.heap_setCell _ _ _ _ hk, Below.heap_setCell _ _ _ _ hk, Below.heap_setCell _ _ _ _ hk, Below.heap_setCell _ _ _ _ hk, Below.heap_setCell _ _ _ _ hk, Below.heap_setCell _ _ _ _ hk, Below.heap_setCell _ _ _ _ hk, Below.heap_setCell _ _ _ _ hk, Below.heap_setCell _ _ _ _ hk]
  have B9 : Below w.heap.size w W9 := by rw [hW9]; exact ((((((((((B7.setCell (p := ⟨w.heap.size, 0, none⟩) (Nat.le_refl _) _).setCell (p := ⟨w.heap.size, 1, none⟩) (Nat.le_refl _) _).setCell (p := ⟨w.heap.size, 2, none⟩) (Nat.le_refl _) _).setCell (p := ⟨w.heap.size, 3, none⟩) (Nat.le_refl _) _).setCell (p := ⟨w.heap.size, 4, none⟩) (Nat.le_refl _) _).setCell (p := ⟨w.heap.size, 5, none⟩) (Nat.le_refl _) _).setCell (p := ⟨w.heap.size, 6, none⟩) (Nat.le_refl _) _).setCell (p := ⟨w.heap.size, 7, none⟩) (Nat.le_refl _) _).setCell (p := ⟨w.heap.size, 8, none⟩) (Nat.le_refl _) _).setCell (p := ⟨w.heap.size, 9, none⟩) (Nat.le_refl _) _)
  have s9 : W9.heap.size = u6.heap.size := by rw [hW9]; simp
  have hM : BxIn W9 ⟨id, po, ⟨1, 0, 0⟩, twoD, some ⟨q2, 0, none⟩, 2, [], none, 0, gatesR (newL id po), aG, cG, [], none, 0, [], none, 0⟩ := J.keptN hap (fun g hg => kp g (fun e => by omega))
  obtain ⟨⟨t0, t1, t2, t3, t4, t5, t6, t7, t8, t9⟩, tf⟩ := ZZ
  clear tf
  try dsimp only [BxD.zero] at t0 t1 t2 t3 t4 t5 t6 t7 t8 t9
  try rw [show twoD.length = 2 from rfl] at t5
  have cc := Z
  obtain ⟨⟨z0, z1, z2, z3, z4, z5, z6, z7, z8, z9⟩, zf⟩ := cc
  obtain ⟨e0, e1, e2, e3, e4, e5, e6, e7, e8, e9⟩ := ten zf
  clear zf
  go_wp2
  refine bodyPost_ret (v := .tuple #[.agg #[.int .i64 id, .int .i64 po, .int .i64 1, .int .i64 0, .int .i64 0, .slice (some ⟨q2, 0, none⟩) 2 2, .slice none 0 0, .slice aG (gatesR (newL id po)).length cG, .slice none 0 0, .slice none 0 0], .bool true]) (by simp [results, Try.results49, go_sem, *]) rfl ⟨⟨id, po, ⟨1, 0, 0⟩, twoD, some ⟨q2, 0, none⟩, 2, [], none, 0, gatesR (newL id po), aG, cG, [], none, 0, [], none, 0⟩, ⟨by rw [h1.out]; rfl, (newX_p id po q2 aG cG).trans hX.out.symm, newX_sm id po q2 aG cG⟩, ?_, ?_⟩
  ·
   rw [← hW9]; exact hM
  ·
   rw [← hW9]; exact B9
end Go.Proofs.Ytnpiljegdiconaa
