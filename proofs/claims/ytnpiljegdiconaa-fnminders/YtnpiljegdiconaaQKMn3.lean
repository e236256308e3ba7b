import Derived.Test.YtnpiljegdiconaaQM14
namespace Go.Proofs.Ytnpiljegdiconaa
open Go.ChangeShapes Go.WideShapes Go.ChangeAt Go.RowKit
open Go.ChangeMaps (open_string shut_string)
set_option linter.unusedVariables false
set_option maxRecDepth 100000
theorem MiBox.setUp {w : World} {q : Nat} {m : Mi} {v : Value} (h : MiBox w q m v) (z : Bool) : MiBox (w.setCell ⟨q, 0, none⟩ (.bool z)) q ⟨z, m.li, m.ep, m.lg, m.sd, m.ac, m.al⟩ v :=
 ⟨pset_same h.c0, (pset_else (by decide)).trans h.c1, (pset_else (by decide)).trans h.c2, (pset_else (by decide)).trans h.c3, (pset_else (by decide)).trans h.c4, (pset_else (by decide)).trans h.c5, (pset_else (by decide)).trans h.c6, fun i => by rw [World.frozen?_setCell]; exact h.fr i⟩
theorem MiBox.setEp {w : World} {q : Nat} {m : Mi} {v : Value} (h : MiBox w q m v) (z : Int) : MiBox (w.setCell ⟨q, 2, none⟩ (.int .i64 z)) q ⟨m.up, m.li, z, m.lg, m.sd, m.ac, m.al⟩ v :=
 ⟨(pset_else (by decide)).trans h.c0, (pset_else (by decide)).trans h.c1, pset_same h.c2, (pset_else (by decide)).trans h.c3, (pset_else (by decide)).trans h.c4, (pset_else (by decide)).trans h.c5, (pset_else (by decide)).trans h.c6, fun i => by rw [World.frozen?_setCell]; exact h.fr i⟩
theorem MiBox.setSd {w : World} {q : Nat} {m : Mi} {v : Value} (h : MiBox w q m v) (z : Int) : MiBox (w.setCell ⟨q, 4, none⟩ (.int .i64 z)) q ⟨m.up, m.li, m.ep, m.lg, z, m.ac, m.al⟩ v :=
 ⟨(pset_else (by decide)).trans h.c0, (pset_else (by decide)).trans h.c1, (pset_else (by decide)).trans h.c2, (pset_else (by decide)).trans h.c3, pset_same h.c4, (pset_else (by decide)).trans h.c5, (pset_else (by decide)).trans h.c6, fun i => by rw [World.frozen?_setCell]; exact h.fr i⟩
theorem MiBox.setAc {w : World} {q : Nat} {m : Mi} {v : Value} (h : MiBox w q m v) (z : Int) : MiBox (w.setCell ⟨q, 5, none⟩ (.int .i64 z)) q ⟨m.up, m.li, m.ep, m.lg, m.sd, z, m.al⟩ v :=
 ⟨(pset_else (by decide)).trans h.c0, (pset_else (by decide)).trans h.c1, (pset_else (by decide)).trans h.c2, (pset_else (by decide)).trans h.c3, (pset_else (by decide)).trans h.c4, pset_same h.c5, (pset_else (by decide)).trans h.c6, fun i => by rw [World.frozen?_setCell]; exact h.fr i⟩
set_option maxHeartbeats 8000000 in
theorem drawMM (hR : BoxesDrawn) {cb : Nat} {ad : Option Addr} {len cap : Nat} {f : Nat → Int} (w : World) (hs : Src w cb ad len cap f) (hcb : cb < w.heap.size) : Calls Try.prog 16 #[.pointer (some ⟨cb, 0, none⟩)] w fun e w' => DrewM 61 w cb ad len cap f e w' := by
 obtain ⟨i0, hi0, hz0, hz1, hz2⟩ := info_parts ikInfo
 obtain ⟨y0, hy0⟩ := mk_ (w.alloc (Obj.cells #[.bool false, .int .i64 0, .int .i64 0, .slice none 0 0, .int .i64 0, .int .i64 0, .int .i64 0] 26))
 have D0 : DV w cb ad len cap y0 := by rw [hy0]; exact (DV.start hs).alloc _
 have R0 : MiBox y0 w.heap.size ⟨false, 0, 0, [], 0, 0, 0⟩ (.slice none 0 0) := by rw [hy0]; exact MiBox.new w _ ⟨false, 0, 0, [], 0, 0, 0⟩ _
 have z0 := R0.lt
 go_enter Try.func16, Try.ntmps16
 go_wp2_with fail
 go_at_call 28
 rw [← hy0]
 clear hy0
 refine (drawMR hR y0 (D0.src hs) (by omega)).mono ?_
 rintro e y1 ⟨m, a, c, rfl, hl, O, s1, g1⟩
 have D := D0.step s1 g1
 have R := R0.keep (g1.block _ R0.lt (by simp; omega))
 have z1 := g1.size
 have lo := O.lt
 clear D0 R0 s1 g1
 obtain ⟨y2, hy2⟩ := mk_ (y1.alloc (Obj.cells #[.bool m.up, .int .i64 m.li, .int .i64 m.ep, .slice a m.lg.length c, .int .i64 m.sd, .int .i64 m.ac, .int .i64 m.al] 26))
 have k2 : Below y1.heap.size y1 y2 := by rw [hy2]; exact below_new _
 have N : MiBox y2 y1.heap.size m (.slice a m.lg.length c) := by rw [hy2]; exact MiBox.new y1 _ _ _
 have D := D.later8 k2
 have R := R.below k2 R.lt
 have O := O.later k2
 have z2 := N.lt
 go_upto_region 2 with fail
 rw [← hy2]
 clear hy2 k2
 obtain ⟨Q, hQ⟩ := mk_ y1.heap.size
 rw [← hQ] at N lo z1 z2 ⊢
 clear hQ
 go_wp2_with fail
 go_at_call 29
 refine (drawBelow (D.src hs) 10 (by decide) (by decide)).mono ?_
 rintro e y3 ⟨v, rfl, v0, v1, s_, g3⟩
 have z3 := g3.size
 have D := D.step s_ g3
 have R := R.keep (g3.block _ R.lt (by simp; omega))
 have N := N.keep (g3.block _ N.lt (by simp; omega))
 have O := O.keep (fun g_ e => g3.block g_ (O.lt g_ e).2 (by have := lo g_ e; simp; omega))
 clear s_ g3
 by_cases h0 : v = 0
 ·
  subst h0
  obtain ⟨mm, hmm⟩ : ∃ q_ : Mi, q_ = ⟨!m.up, m.li, m.ep, m.lg, m.sd, m.ac, m.al⟩ := ⟨_, rfl⟩
  obtain ⟨y6, hy6⟩ := mk_ (y3.setCell ⟨Q, 0, none⟩ (.bool (!m.up)))
  have hl6 : mm.lg.length ≤ 61 := by rw [hmm]; show m.lg.length ≤ 61; omega
  have N6 : MiBox y6 Q mm (.slice a mm.lg.length c) := by rw [hy6, hmm]; exact N.setUp (!m.up)
  have kp : ∀ k, k ≠ Q → y6.heap[k]? = y3.heap[k]? := fun k hk => by rw [hy6]; exact Below.heap_setCell _ _ _ _ hk
  have R := R.keep (kp _ (by omega))
  have O6 : FOwn ikEnc 8 30 y0.heap.size y6 (.slice a mm.lg.length c) mm.lg := by rw [hmm]; exact O.keep (fun g_ e => kp g_ (by have := lo g_ e; omega))
  have lo6 : ∀ g, (Value.slice a mm.lg.length c).ownBlock = some g → y0.heap.size ≤ g ∧ g < Q := by rw [hmm]; exact lo
  have D : DV w cb ad len cap y6 := by rw [hy6]; exact D.set (by omega) hcb _
  obtain ⟨n0, n1, n2, n3, n4, n5, n6, nf⟩ := N
  have fj := nf 0
  clear nf kp hmm
  go_upto_region 13 with fail
  rw [← hy6]
  clear hy6 n0 n1 n2 n3 n4 n5 n6 fj O
  have N := N6
  have O := O6
  have lo := lo6
  clear N6 O6 lo6
  have O9 : FOwn ikEnc 8 30 w.heap.size (((((((y6.setCell ⟨w.heap.size, 0, none⟩ (.bool mm.up)).setCell ⟨w.heap.size, 1, none⟩ (.int .i64 mm.li)).setCell ⟨w.heap.size, 2, none⟩ (.int .i64 mm.ep)).setCell ⟨w.heap.size, 3, none⟩ (.slice a mm.lg.length c)).setCell ⟨w.heap.size, 4, none⟩ (.int .i64 mm.sd)).setCell ⟨w.heap.size, 5, none⟩ (.int .i64 mm.ac)).setCell ⟨w.heap.size, 6, none⟩ (.int .i64 mm.al)) (.slice a mm.lg.length c) mm.lg := (O.base (by omega)).keep (fun g_ e => heap_put7 y6 w.heap.size g_ mm _ (by have := lo g_ e; omega))
  have D9 : DV w cb ad len cap (((((((y6.setCell ⟨w.heap.size, 0, none⟩ (.bool mm.up)).setCell ⟨w.heap.size, 1, none⟩ (.int .i64 mm.li)).setCell ⟨w.heap.size, 2, none⟩ (.int .i64 mm.ep)).setCell ⟨w.heap.size, 3, none⟩ (.slice a mm.lg.length c)).setCell ⟨w.heap.size, 4, none⟩ (.int .i64 mm.sd)).setCell ⟨w.heap.size, 5, none⟩ (.int .i64 mm.ac)).setCell ⟨w.heap.size, 6, none⟩ (.int .i64 mm.al)) := ((((((D.set (Nat.le_refl _) hcb _).set (Nat.le_refl _) hcb _).set (Nat.le_refl _) hcb _).set (Nat.le_refl _) hcb _).set (Nat.le_refl _) hcb _).set (Nat.le_refl _) hcb _).set (Nat.le_refl _) hcb _
  have sZ := D9.src hs
  have gZ := D9.gr
  obtain ⟨z0, z1, z2, z3, z4, z5, z6, zf⟩ := R
  have g0 := zf 0
  have g1 := zf 1
  have g2 := zf 2
  have g3 := zf 3
  have g4 := zf 4
  have g5 := zf 5
  have g6 := zf 6
  obtain ⟨n0, n1, n2, n3, n4, n5, n6, nf⟩ := N
  clear zf nf O D D9
  go_wp2
  refine bodyPost_ret (v := .agg #[.bool mm.up, .int .i64 mm.li, .int .i64 mm.ep, .slice a mm.lg.length c, .int .i64 mm.sd, .int .i64 mm.ac, .int .i64 mm.al]) (by simp [results, Try.results16, go_sem, *]) rfl ⟨mm, a, c, rfl, hl6, O9, sZ, gZ⟩
 ·
  by_cases h1 : v = 1
  ·
   subst h1
   go_wp2_with fail
   go_at_call 29
   refine (drawBelow (D.src hs) 9 (by decide) (by decide)).mono ?_
   rintro e y4 ⟨u, rfl, u0, u1, s_, g4⟩
   have z4 := g4.size
   have D := D.step s_ g4
   have R := R.keep (g4.block _ R.lt (by simp; omega))
   have N := N.keep (g4.block _ N.lt (by simp; omega))
   have O := O.keep (fun g_ e => g4.block g_ (O.lt g_ e).2 (by have := lo g_ e; simp; omega))
   clear s_ g4
   obtain ⟨mm, hmm⟩ : ∃ q_ : Mi, q_ = ⟨m.up, m.li, m.ep, m.lg, u - 1, m.ac, m.al⟩ := ⟨_, rfl⟩
   obtain ⟨y6, hy6⟩ := mk_ (y4.setCell ⟨Q, 4, none⟩ (.int .i64 (u - 1)))
   have hl6 : mm.lg.length ≤ 61 := by rw [hmm]; show m.lg.length ≤ 61; omega
   have N6 : MiBox y6 Q mm (.slice a mm.lg.length c) := by rw [hy6, hmm]; exact N.setSd (u - 1)
   have kp : ∀ k, k ≠ Q → y6.heap[k]? = y4.heap[k]? := fun k hk => by rw [hy6]; exact Below.heap_setCell _ _ _ _ hk
   have R := R.keep (kp _ (by omega))
   have O6 : FOwn ikEnc 8 30 y0.heap.size y6 (.slice a mm.lg.length c) mm.lg := by rw [hmm]; exact O.keep (fun g_ e => kp g_ (by have := lo g_ e; omega))
   have lo6 : ∀ g, (Value.slice a mm.lg.length c).ownBlock = some g → y0.heap.size ≤ g ∧ g < Q := by rw [hmm]; exact lo
   have D : DV w cb ad len cap y6 := by rw [hy6]; exact D.set (by omega) hcb _
   obtain ⟨n0, n1, n2, n3, n4, n5, n6, nf⟩ := N
   have fj := nf 4
   clear nf kp hmm
   go_upto_region 13 with fail
   rw [← hy6]
   clear hy6 n0 n1 n2 n3 n4 n5 n6 fj O
   have N := N6
   have O := O6
   have lo := lo6
   clear N6 O6 lo6
   have O9 : FOwn ikEnc 8 30 w.heap.size (((((((y6.setCell ⟨w.heap.size, 0, none⟩ (.bool mm.up)).setCell ⟨w.heap.size, 1, none⟩ (.int .i64 mm.li)).setCell ⟨w.heap.size, 2, none⟩ (.int .i64 mm.ep)).setCell ⟨w.heap.size, 3, none⟩ (.slice a mm.lg.length c)).setCell ⟨w.heap.size, 4, none⟩ (.int .i64 mm.sd)).setCell ⟨w.heap.size, 5, none⟩ (.int .i64 mm.ac)).setCell ⟨w.heap.size, 6, none⟩ (.int .i64 mm.al)) (.slice a mm.lg.length c) mm.lg := (O.base (by omega)).keep (fun g_ e => heap_put7 y6 w.heap.size g_ mm _ (by have := lo g_ e; omega))
   have D9 : DV w cb ad len cap (((((((y6.setCell ⟨w.heap.size, 0, none⟩ (.bool mm.up)).setCell ⟨w.heap.size, 1, none⟩ (.int .i64 mm.li)).setCell ⟨w.heap.size, 2, none⟩ (.int .i64 mm.ep)).setCell ⟨w.heap.size, 3, none⟩ (.slice a mm.lg.length c)).setCell ⟨w.heap.size, 4, none⟩ (.int .i64 mm.sd)).setCell ⟨w.heap.size, 5, none⟩ (.int .i64 mm.ac)).setCell ⟨w.heap.size, 6, none⟩ (.int .i64 mm.al)) := ((((((D.set (Nat.le_refl _) hcb _).set (Nat.le_refl _) hcb _).set (Nat.le_refl _) hcb _).set (Nat.le_refl _) hcb _).set (Nat.le_refl _) hcb _).set (Nat.le_refl _) hcb _).set (Nat.le_refl _) hcb _
   have sZ := D9.src hs
   have gZ := D9.gr
   obtain ⟨z0, z1, z2, z3, z4, z5, z6, zf⟩ := R
   have g0 := zf 0
   have g1 := zf 1
   have g2 := zf 2
   have g3 := zf 3
   have g4 := zf 4
   have g5 := zf 5
   have g6 := zf 6
   obtain ⟨n0, n1, n2, n3, n4, n5, n6, nf⟩ := N
   clear zf nf O D D9
   go_wp2
   refine bodyPost_ret (v := .agg #[.bool mm.up, .int .i64 mm.li, .int .i64 mm.ep, .slice a mm.lg.length c, .int .i64 mm.sd, .int .i64 mm.ac, .int .i64 mm.al]) (by simp [results, Try.results16, go_sem, *]) rfl ⟨mm, a, c, rfl, hl6, O9, sZ, gZ⟩
  ·
   by_cases h2 : v = 2
   ·
    subst h2
    go_wp2_with fail
    go_at_call 29
    refine (drawBelow (D.src hs) 9 (by decide) (by decide)).mono ?_
    rintro e y4 ⟨u, rfl, u0, u1, s_, g4⟩
    have z4 := g4.size
    have D := D.step s_ g4
    have R := R.keep (g4.block _ R.lt (by simp; omega))
    have N := N.keep (g4.block _ N.lt (by simp; omega))
    have O := O.keep (fun g_ e => g4.block g_ (O.lt g_ e).2 (by have := lo g_ e; simp; omega))
    clear s_ g4
    obtain ⟨mm, hmm⟩ : ∃ q_ : Mi, q_ = ⟨m.up, m.li, m.ep, m.lg, m.sd, u - 1, m.al⟩ := ⟨_, rfl⟩
    obtain ⟨y6, hy6⟩ := mk_ (y4.setCell ⟨Q, 5, none⟩ (.int .i64 (u - 1)))
    have hl6 : mm.lg.length ≤ 61 := by rw [hmm]; show m.lg.length ≤ 61; omega
    have N6 : MiBox y6 Q mm (.slice a mm.lg.length c) := by rw [hy6, hmm]; exact N.setAc (u - 1)
    have kp : ∀ k, k ≠ Q → y6.heap[k]? = y4.heap[k]? := fun k hk => by rw [hy6]; exact Below.heap_setCell _ _ _ _ hk
    have R := R.keep (kp _ (by omega))
    have O6 : FOwn ikEnc 8 30 y0.heap.size y6 (.slice a mm.lg.length c) mm.lg := by rw [hmm]; exact O.keep (fun g_ e => kp g_ (by have := lo g_ e; omega))
    have lo6 : ∀ g, (Value.slice a mm.lg.length c).ownBlock = some g → y0.heap.size ≤ g ∧ g < Q := by rw [hmm]; exact lo
    have D : DV w cb ad len cap y6 := by rw [hy6]; exact D.set (by omega) hcb _
    obtain ⟨n0, n1, n2, n3, n4, n5, n6, nf⟩ := N
    have fj := nf 5
    clear nf kp hmm
    go_upto_region 13 with fail
    rw [← hy6]
    clear hy6 n0 n1 n2 n3 n4 n5 n6 fj O
    have N := N6
    have O := O6
    have lo := lo6
    clear N6 O6 lo6
    have O9 : FOwn ikEnc 8 30 w.heap.size (((((((y6.setCell ⟨w.heap.size, 0, none⟩ (.bool mm.up)).setCell ⟨w.heap.size, 1, none⟩ (.int .i64 mm.li)).setCell ⟨w.heap.size, 2, none⟩ (.int .i64 mm.ep)).setCell ⟨w.heap.size, 3, none⟩ (.slice a mm.lg.length c)).setCell ⟨w.heap.size, 4, none⟩ (.int .i64 mm.sd)).setCell ⟨w.heap.size, 5, none⟩ (.int .i64 mm.ac)).setCell ⟨w.heap.size, 6, none⟩ (.int .i64 mm.al)) (.slice a mm.lg.length c) mm.lg := (O.base (by omega)).keep (fun g_ e => heap_put7 y6 w.heap.size g_ mm _ (by have := lo g_ e; omega))
    have D9 : DV w cb ad len cap (((((((y6.setCell ⟨w.heap.size, 0, none⟩ (.bool mm.up)).setCell ⟨w.heap.size, 1, none⟩ (.int .i64 mm.li)).setCell ⟨w.heap.size, 2, none⟩ (.int .i64 mm.ep)).setCell ⟨w.heap.size, 3, none⟩ (.slice a mm.lg.length c)).setCell ⟨w.heap.size, 4, none⟩ (.int .i64 mm.sd)).setCell ⟨w.heap.size, 5, none⟩ (.int .i64 mm.ac)).setCell ⟨w.heap.size, 6, none⟩ (.int .i64 mm.al)) := ((((((D.set (Nat.le_refl _) hcb _).set (Nat.le_refl _) hcb _).set (Nat.le_refl _) hcb _).set (Nat.le_refl _) hcb _).set (Nat.le_refl _) hcb _).set (Nat.le_refl _) hcb _).set (Nat.le_refl _) hcb _
    have sZ := D9.src hs
    have gZ := D9.gr
    obtain ⟨z0, z1, z2, z3, z4, z5, z6, zf⟩ := R
    have g0 := zf 0
    have g1 := zf 1
    have g2 := zf 2
    have g3 := zf 3
    have g4 := zf 4
    have g5 := zf 5
    have g6 := zf 6
    obtain ⟨n0, n1, n2, n3, n4, n5, n6, nf⟩ := N
    clear zf nf O D D9
    go_wp2
    refine bodyPost_ret (v := .agg #[.bool mm.up, .int .i64 mm.li, .int .i64 mm.ep, .slice a mm.lg.length c, .int .i64 mm.sd, .int .i64 mm.ac, .int .i64 mm.al]) (by simp [results, Try.results16, go_sem, *]) rfl ⟨mm, a, c, rfl, hl6, O9, sZ, gZ⟩
   ·
    by_cases h3 : v = 3
    ·
     subst h3
     go_upto_region 10 with fail
     refine wp_region_held (S := fun _ => True) (by kernel_rfl) ?_
     change wpAnyH _ _ _ _ _ _ _ _ (World.drew _)
     have kd : Below y3.heap.size y3 y3.drew := (Below.refl _ _).drew
     obtain ⟨u0, hu0⟩ := mk_ y3.drew
     rw [← hu0] at kd ⊢
     clear hu0
     have D := D.later8 kd
     have R := R.below kd R.lt
     have N := N.below kd N.lt
     have O := O.later kd
     have zd := kd.size
     clear kd
     have hT : True := trivial
     refine tw 0 28 (.pointer (some ⟨Q, 3, none⟩)) ?_
     refine tw 2 30 (.pointer (some ⟨cb, 0, none⟩)) ?_
     refine wpAnyH_all (rs := [1, 3]) (by kernel_rfl) (by simp) ?_
     intro i hi; rcases (by simpa using hi : i = 1 ∨ i = 3) with rfl | rfl
     ·
      refine wpOp_step rfl (fun Kz hKz => ?_)
      rw [if_pos (by kernel_rfl)]
      have c3 := N.c3
      go_simp
      clear c3
      refine hKz _ _ ⟨trivial, ?_⟩
      clear hKz Kz hi
      refine w1 3 fun Kz hKz => ?_
      go_simp
      go_at_call 17
      refine (drawBt u0 (D.src hs) (by omega)).mono ?_
      rintro e u1 ⟨xx, rfl, s_, g1, _⟩
      have zc := g1.size
      have D := D.step s_ g1
      have R := R.keep (g1.block _ R.lt (by simp; omega))
      have N := N.keep (g1.block _ N.lt (by simp; omega))
      have O := O.keep (fun g_ e => g1.block g_ (O.lt g_ e).2 (by have := lo g_ e; simp; omega))
      clear s_ g1
      refine hKz _ _ ⟨trivial, ?_⟩
      clear hKz Kz
      refine w1 4 fun Kz hKz => ?_
      go_simp
      obtain ⟨u2, hu2⟩ := mk_ (u1.alloc (Obj.cells #[.int .i64 xx.k, .int .i64 xx.q, .int .i64 xx.r, .int .i64 xx.c, .int .i64 xx.b, .int .i64 xx.p, .int .i64 xx.h, .bool xx.up] 30))
      have V1 : FView ikEnc u2 (some ⟨u1.heap.size, 0, none⟩) [xx] := by rw [hu2]; exact FView.oneJ u1 _ xx
      have kq : Below u1.heap.size u1 u2 := by rw [hu2]; exact below_new _
      have D := D.later8 kq
      have R := R.below kq R.lt
      have N := N.below kq N.lt
      have O := O.later kq
      have zq := kq.size
      rw [← hu2]
      clear hu2 kq
      refine hKz _ _ ⟨trivial, ?_⟩
      clear hKz Kz
      refine w1 5 fun Kz hKz => ?_
      refine fapp ikEnc_len ikEnc_ones 33 _ _ 24 rfl rfl y0.heap.size 30 i0 (.agg #[.int .i64 0, .int .i64 0, .int .i64 0, .int .i64 0, .int .i64 0, .int .i64 0, .int .i64 0, .bool false]) 64 Try.underlying24 hi0 hz0 hz1 hz2 rfl (by decide) (by decide) (.slice a m.lg.length c) m.lg rfl O (some ⟨u1.heap.size, 0, none⟩) 1 [xx] rfl (fun e => by cases e) V1 (by simp; omega) (by omega) ?_
      intro vN u3 oN gN hob
      obtain ⟨mm, hmm⟩ : ∃ q_ : Mi, q_ = ⟨m.up, m.li, m.ep, m.lg ++ [xx], m.sd, m.ac, m.al⟩ := ⟨_, rfl⟩
      have hl6 : mm.lg.length ≤ 61 := by rw [hmm]; show (m.lg ++ [xx]).length ≤ 61; simp; omega
      have oN : FOwn ikEnc 8 30 y0.heap.size u3 vN mm.lg := by rw [hmm]; exact oN
      replace hmm : Hid _ := hmm
      have kb : ∀ k, k < u2.heap.size → (∀ g_, (Value.slice a m.lg.length c).ownBlock = some g_ → k ≠ g_) → u3.heap[k]? = u2.heap[k]? := fun k hk he => gN.block k hk (fun e => he k e.symm rfl)
      have hqn : ∀ g_, vN.ownBlock = some g_ → g_ ≠ Q := fun g_ e => hob.elim (fun h => by rw [h] at e; have := lo g_ e; omega) (fun h => by rw [h] at e; have e2 := Option.some.inj e; omega)
      have R := R.keep (kb _ R.lt (fun g_ e => by have := lo g_ e; omega))
      have N := N.keep (kb _ N.lt (fun g_ e => by have := lo g_ e; omega))
      have D : DV w cb ad len cap u3 := ⟨D.cur.carry (kb _ D.cur.lt (fun g_ e => by have := lo g_ e; omega)), grown_row D.gr gN (fun k e => by have := lo k e; omega)⟩
      have zN := gN.size
      obtain ⟨aN, cN, rfl⟩ := oN.open_
      clear gN kb hob V1 O
      simp only [List.set_cons_zero, List.set_cons_succ]
      refine hKz _ _ ⟨trivial, ?_⟩
      clear hKz Kz
      refine tw 6 34 (.pointer (some ⟨Q, 3, none⟩)) ?_
      refine w1 7 fun Kz hKz => ?_
      have c3 := N.c3
      have f3 := N.fr 3
      go_simp
      clear c3 f3
      obtain ⟨y6, hy6⟩ := mk_ (u3.setCell ⟨Q, 3, none⟩ (.slice aN mm.lg.length cN))
      have N6 : MiBox y6 Q mm (.slice aN mm.lg.length cN) := by rw [hy6, hmm.out]; exact (N.log _).lg (m.lg ++ [xx])
      have kp : ∀ k, k ≠ Q → y6.heap[k]? = u3.heap[k]? := fun k hk => by rw [hy6]; exact Below.heap_setCell _ _ _ _ hk
      have R := R.keep (kp _ (by omega))
      have O := oN.keep (fun g_ e => kp g_ (hqn g_ e))
      have D : DV w cb ad len cap y6 := by rw [hy6]; exact D.set (by omega) hcb _
      rw [← hy6]
      clear hy6 kp hmm oN N
      refine hKz _ _ ⟨trivial, ?_⟩
      clear hKz Kz
      refine wpAnyH_done (by kernel_rfl) ?_ _
      have N := N6
      clear N6
      have lo := O.lt
      have O9 : FOwn ikEnc 8 30 w.heap.size (((((((y6.setCell ⟨w.heap.size, 0, none⟩ (.bool mm.up)).setCell ⟨w.heap.size, 1, none⟩ (.int .i64 mm.li)).setCell ⟨w.heap.size, 2, none⟩ (.int .i64 mm.ep)).setCell ⟨w.heap.size, 3, none⟩ (.slice aN mm.lg.length cN)).setCell ⟨w.heap.size, 4, none⟩ (.int .i64 mm.sd)).setCell ⟨w.heap.size, 5, none⟩ (.int .i64 mm.ac)).setCell ⟨w.heap.size, 6, none⟩ (.int .i64 mm.al)) (.slice aN mm.lg.length cN) mm.lg := (O.base (by omega)).keep (fun g_ e => heap_put7 y6 w.heap.size g_ mm _ (by have := lo g_ e; omega))
      have D9 : DV w cb ad len cap (((((((y6.setCell ⟨w.heap.size, 0, none⟩ (.bool mm.up)).setCell ⟨w.heap.size, 1, none⟩ (.int .i64 mm.li)).setCell ⟨w.heap.size, 2, none⟩ (.int .i64 mm.ep)).setCell ⟨w.heap.size, 3, none⟩ (.slice aN mm.lg.length cN)).setCell ⟨w.heap.size, 4, none⟩ (.int .i64 mm.sd)).setCell ⟨w.heap.size, 5, none⟩ (.int .i64 mm.ac)).setCell ⟨w.heap.size, 6, none⟩ (.int .i64 mm.al)) := ((((((D.set (Nat.le_refl _) hcb _).set (Nat.le_refl _) hcb _).set (Nat.le_refl _) hcb _).set (Nat.le_refl _) hcb _).set (Nat.le_refl _) hcb _).set (Nat.le_refl _) hcb _).set (Nat.le_refl _) hcb _
      have sZ := D9.src hs
      have gZ := D9.gr
      obtain ⟨z0, z1, z2, z3, z4, z5, z6, zf⟩ := R
      have g0 := zf 0
      have g1 := zf 1
      have g2 := zf 2
      have g3 := zf 3
      have g4 := zf 4
      have g5 := zf 5
      have g6 := zf 6
      obtain ⟨n0, n1, n2, n3, n4, n5, n6, nf⟩ := N
      clear zf nf O D D9
      go_wp2
      refine bodyPost_ret (v := .agg #[.bool mm.up, .int .i64 mm.li, .int .i64 mm.ep, .slice aN mm.lg.length cN, .int .i64 mm.sd, .int .i64 mm.ac, .int .i64 mm.al]) (by simp [results, Try.results16, go_sem, *]) rfl ⟨mm, aN, cN, rfl, hl6, O9, sZ, gZ⟩
     ·
      refine wpOp_step rfl (fun Kz hKz => ?_)
      rw [if_pos (by kernel_rfl)]
      go_simp
      go_at_call 17
      refine (drawBt u0 (D.src hs) (by omega)).mono ?_
      rintro e u1 ⟨xx, rfl, s_, g1, _⟩
      have zc := g1.size
      have D := D.step s_ g1
      have R := R.keep (g1.block _ R.lt (by simp; omega))
      have N := N.keep (g1.block _ N.lt (by simp; omega))
      have O := O.keep (fun g_ e => g1.block g_ (O.lt g_ e).2 (by have := lo g_ e; simp; omega))
      clear s_ g1
      refine hKz _ _ ⟨trivial, ?_⟩
      clear hKz Kz hi
      refine wpAnyH_all (rs := [1, 4]) (by kernel_rfl) (by simp) ?_
      intro i hi; rcases (by simpa using hi : i = 1 ∨ i = 4) with rfl | rfl
      focus
       refine wpOp_step rfl (fun Kz hKz => ?_)
       rw [if_pos (by kernel_rfl)]
       have c3 := N.c3
       go_simp
       clear c3
       refine hKz _ _ ⟨trivial, ?_⟩
       clear hKz Kz hi
       refine w1 4 fun Kz hKz => ?_
       go_simp
       obtain ⟨u2, hu2⟩ := mk_ (u1.alloc (Obj.cells #[.int .i64 xx.k, .int .i64 xx.q, .int .i64 xx.r, .int .i64 xx.c, .int .i64 xx.b, .int .i64 xx.p, .int .i64 xx.h, .bool xx.up] 30))
       have V1 : FView ikEnc u2 (some ⟨u1.heap.size, 0, none⟩) [xx] := by rw [hu2]; exact FView.oneJ u1 _ xx
       have kq : Below u1.heap.size u1 u2 := by rw [hu2]; exact below_new _
       have D := D.later8 kq
       have R := R.below kq R.lt
       have N := N.below kq N.lt
       have O := O.later kq
       have zq := kq.size
       rw [← hu2]
       clear hu2 kq
      rotate_left
      focus
       refine wpOp_step rfl (fun Kz hKz => ?_)
       rw [if_pos (by kernel_rfl)]
       go_simp
       obtain ⟨u2, hu2⟩ := mk_ (u1.alloc (Obj.cells #[.int .i64 xx.k, .int .i64 xx.q, .int .i64 xx.r, .int .i64 xx.c, .int .i64 xx.b, .int .i64 xx.p, .int .i64 xx.h, .bool xx.up] 30))
       have V1 : FView ikEnc u2 (some ⟨u1.heap.size, 0, none⟩) [xx] := by rw [hu2]; exact FView.oneJ u1 _ xx
       have kq : Below u1.heap.size u1 u2 := by rw [hu2]; exact below_new _
       have D := D.later8 kq
       have R := R.below kq R.lt
       have N := N.below kq N.lt
       have O := O.later kq
       have zq := kq.size
       rw [← hu2]
       clear hu2 kq
       refine hKz _ _ ⟨trivial, ?_⟩
       clear hKz Kz hi
       refine w1 1 fun Kz hKz => ?_
       have c3 := N.c3
       go_simp
       clear c3
      rotate_left
      all_goals
       refine hKz _ _ ⟨trivial, ?_⟩
       clear hKz Kz
       refine w1 5 fun Kz hKz => ?_
       refine fapp ikEnc_len ikEnc_ones 33 _ _ 24 rfl rfl y0.heap.size 30 i0 (.agg #[.int .i64 0, .int .i64 0, .int .i64 0, .int .i64 0, .int .i64 0, .int .i64 0, .int .i64 0, .bool false]) 64 Try.underlying24 hi0 hz0 hz1 hz2 rfl (by decide) (by decide) (.slice a m.lg.length c) m.lg rfl O (some ⟨u1.heap.size, 0, none⟩) 1 [xx] rfl (fun e => by cases e) V1 (by simp; omega) (by omega) ?_
       intro vN u3 oN gN hob
       obtain ⟨mm, hmm⟩ : ∃ q_ : Mi, q_ = ⟨m.up, m.li, m.ep, m.lg ++ [xx], m.sd, m.ac, m.al⟩ := ⟨_, rfl⟩
       have hl6 : mm.lg.length ≤ 61 := by rw [hmm]; show (m.lg ++ [xx]).length ≤ 61; simp; omega
       have oN : FOwn ikEnc 8 30 y0.heap.size u3 vN mm.lg := by rw [hmm]; exact oN
       replace hmm : Hid _ := hmm
       have kb : ∀ k, k < u2.heap.size → (∀ g_, (Value.slice a m.lg.length c).ownBlock = some g_ → k ≠ g_) → u3.heap[k]? = u2.heap[k]? := fun k hk he => gN.block k hk (fun e => he k e.symm rfl)
       have hqn : ∀ g_, vN.ownBlock = some g_ → g_ ≠ Q := fun g_ e => hob.elim (fun h => by rw [h] at e; have := lo g_ e; omega) (fun h => by rw [h] at e; have e2 := Option.some.inj e; omega)
       have R := R.keep (kb _ R.lt (fun g_ e => by have := lo g_ e; omega))
       have N := N.keep (kb _ N.lt (fun g_ e => by have := lo g_ e; omega))
       have D : DV w cb ad len cap u3 := ⟨D.cur.carry (kb _ D.cur.lt (fun g_ e => by have := lo g_ e; omega)), grown_row D.gr gN (fun k e => by have := lo k e; omega)⟩
       have zN := gN.size
       obtain ⟨aN, cN, rfl⟩ := oN.open_
       clear gN kb hob V1 O
       simp only [List.set_cons_zero, List.set_cons_succ]
       refine hKz _ _ ⟨trivial, ?_⟩
       clear hKz Kz
       refine tw 6 34 (.pointer (some ⟨Q, 3, none⟩)) ?_
       refine w1 7 fun Kz hKz => ?_
       have c3 := N.c3
       have f3 := N.fr 3
       go_simp
       clear c3 f3
       obtain ⟨y6, hy6⟩ := mk_ (u3.setCell ⟨Q, 3, none⟩ (.slice aN mm.lg.length cN))
       have N6 : MiBox y6 Q mm (.slice aN mm.lg.length cN) := by rw [hy6, hmm.out]; exact (N.log _).lg (m.lg ++ [xx])
       have kp : ∀ k, k ≠ Q → y6.heap[k]? = u3.heap[k]? := fun k hk => by rw [hy6]; exact Below.heap_setCell _ _ _ _ hk
       have R := R.keep (kp _ (by omega))
       have O := oN.keep (fun g_ e => kp g_ (hqn g_ e))
       have D : DV w cb ad len cap y6 := by rw [hy6]; exact D.set (by omega) hcb _
       rw [← hy6]
       clear hy6 kp hmm oN N
       refine hKz _ _ ⟨trivial, ?_⟩
       clear hKz Kz
       refine wpAnyH_done (by kernel_rfl) ?_ _
       have N := N6
       clear N6
       have lo := O.lt
       have O9 : FOwn ikEnc 8 30 w.heap.size (((((((y6.setCell ⟨w.heap.size, 0, none⟩ (.bool mm.up)).setCell ⟨w.heap.size, 1, none⟩ (.int .i64 mm.li)).setCell ⟨w.heap.size, 2, none⟩ (.int .i64 mm.ep)).setCell ⟨w.heap.size, 3, none⟩ (.slice aN mm.lg.length cN)).setCell ⟨w.heap.size, 4, none⟩ (.int .i64 mm.sd)).setCell ⟨w.heap.size, 5, none⟩ (.int .i64 mm.ac)).setCell ⟨w.heap.size, 6, none⟩ (.int .i64 mm.al)) (.slice aN mm.lg.length cN) mm.lg := (O.base (by omega)).keep (fun g_ e => heap_put7 y6 w.heap.size g_ mm _ (by have := lo g_ e; omega))
       have D9 : DV w cb ad len cap (((((((y6.setCell ⟨w.heap.size, 0, none⟩ (.bool mm.up)).setCell ⟨w.heap.size, 1, none⟩ (.int .i64 mm.li)).setCell ⟨w.heap.size, 2, none⟩ (.int .i64 mm.ep)).setCell ⟨w.heap.size, 3, none⟩ (.slice aN mm.lg.length cN)).setCell ⟨w.heap.size, 4, none⟩ (.int .i64 mm.sd)).setCell ⟨w.heap.size, 5, none⟩ (.int .i64 mm.ac)).setCell ⟨w.heap.size, 6, none⟩ (.int .i64 mm.al)) := ((((((D.set (Nat.le_refl _) hcb _).set (Nat.le_refl _) hcb _).set (Nat.le_refl _) hcb _).set (Nat.le_refl _) hcb _).set (Nat.le_refl _) hcb _).set (Nat.le_refl _) hcb _).set (Nat.le_refl _) hcb _
       have sZ := D9.src hs
       have gZ := D9.gr
       obtain ⟨z0, z1, z2, z3, z4, z5, z6, zf⟩ := R
       have g0 := zf 0
       have g1 := zf 1
       have g2 := zf 2
       have g3 := zf 3
       have g4 := zf 4
       have g5 := zf 5
       have g6 := zf 6
       obtain ⟨n0, n1, n2, n3, n4, n5, n6, nf⟩ := N
       clear zf nf O D D9
       go_wp2
       refine bodyPost_ret (v := .agg #[.bool mm.up, .int .i64 mm.li, .int .i64 mm.ep, .slice aN mm.lg.length cN, .int .i64 mm.sd, .int .i64 mm.ac, .int .i64 mm.al]) (by simp [results, Try.results16, go_sem, *]) rfl ⟨mm, aN, cN, rfl, hl6, O9, sZ, gZ⟩
    ·
     by_cases h4 : v = 4
     ·
      subst h4
      obtain ⟨y4, hy4⟩ := mk_ (y3.alloc (Obj.cells #[.int .i64 (-1), .int .i64 0, .int .i64 1, .int .i64 100001] 3))
      have kn : Below y3.heap.size y3 y4 := by rw [hy4]; exact below_new _
      have hg : ∀ i, i < 4 → ∃ z, y4.cell? ⟨y3.heap.size, i, none⟩ = some (.int .i64 z) ∧ True := by
        intro i h_
        rw [hy4]
        rcases (by omega : i = 0 ∨ i = 1 ∨ i = 2 ∨ i = 3) with rfl | rfl | rfl | rfl
        ·
         exact ⟨-1, by simp [go_sem], trivial⟩
        ·
         exact ⟨0, by simp [go_sem], trivial⟩
        ·
         exact ⟨1, by simp [go_sem], trivial⟩
        ·
         exact ⟨100001, by simp [go_sem], trivial⟩
      have D := D.later8 kn
      have R := R.below kn R.lt
      have N := N.below kn N.lt
      have O := O.later kn
      have hne : y3.heap.size ≠ cb := by omega
      go_wp2_with fail
      go_at_call 22
      rw [← hy4]
      have z4 := kn.size
      clear hy4 kn
      generalize y3.heap.size = E at hg hne ⊢
      refine (pickIntP (D.src hs) (fun _ => True) E 4 4 hne (by decide) (by decide) hg).mono ?_
      rintro e y5 ⟨u, rfl, _, s_, g5⟩
      have z5 := g5.size
      clear hg
      have D := D.step s_ g5
      have R := R.keep (g5.block _ R.lt (by simp; omega))
      have N := N.keep (g5.block _ N.lt (by simp; omega))
      have O := O.keep (fun g_ e => g5.block g_ (O.lt g_ e).2 (by have := lo g_ e; simp; omega))
      clear s_ g5
      obtain ⟨mm, hmm⟩ : ∃ q_ : Mi, q_ = ⟨m.up, m.li, u, m.lg, m.sd, m.ac, m.al⟩ := ⟨_, rfl⟩
      obtain ⟨y6, hy6⟩ := mk_ (y5.setCell ⟨Q, 2, none⟩ (.int .i64 u))
      have hl6 : mm.lg.length ≤ 61 := by rw [hmm]; show m.lg.length ≤ 61; omega
      have N6 : MiBox y6 Q mm (.slice a mm.lg.length c) := by rw [hy6, hmm]; exact N.setEp u
      have kp : ∀ k, k ≠ Q → y6.heap[k]? = y5.heap[k]? := fun k hk => by rw [hy6]; exact Below.heap_setCell _ _ _ _ hk
      have R := R.keep (kp _ (by omega))
      have O6 : FOwn ikEnc 8 30 y0.heap.size y6 (.slice a mm.lg.length c) mm.lg := by rw [hmm]; exact O.keep (fun g_ e => kp g_ (by have := lo g_ e; omega))
      have lo6 : ∀ g, (Value.slice a mm.lg.length c).ownBlock = some g → y0.heap.size ≤ g ∧ g < Q := by rw [hmm]; exact lo
      have D : DV w cb ad len cap y6 := by rw [hy6]; exact D.set (by omega) hcb _
      obtain ⟨n0, n1, n2, n3, n4, n5, n6, nf⟩ := N
      have fj := nf 2
      clear nf kp hmm
      go_upto_region 13 with fail
      rw [← hy6]
      clear hy6 n0 n1 n2 n3 n4 n5 n6 fj O
      have N := N6
      have O := O6
      have lo := lo6
      clear N6 O6 lo6
      have O9 : FOwn ikEnc 8 30 w.heap.size (((((((y6.setCell ⟨w.heap.size, 0, none⟩ (.bool mm.up)).setCell ⟨w.heap.size, 1, none⟩ (.int .i64 mm.li)).setCell ⟨w.heap.size, 2, none⟩ (.int .i64 mm.ep)).setCell ⟨w.heap.size, 3, none⟩ (.slice a mm.lg.length c)).setCell ⟨w.heap.size, 4, none⟩ (.int .i64 mm.sd)).setCell ⟨w.heap.size, 5, none⟩ (.int .i64 mm.ac)).setCell ⟨w.heap.size, 6, none⟩ (.int .i64 mm.al)) (.slice a mm.lg.length c) mm.lg := (O.base (by omega)).keep (fun g_ e => heap_put7 y6 w.heap.size g_ mm _ (by have := lo g_ e; omega))
      have D9 : DV w cb ad len cap (((((((y6.setCell ⟨w.heap.size, 0, none⟩ (.bool mm.up)).setCell ⟨w.heap.size, 1, none⟩ (.int .i64 mm.li)).setCell ⟨w.heap.size, 2, none⟩ (.int .i64 mm.ep)).setCell ⟨w.heap.size, 3, none⟩ (.slice a mm.lg.length c)).setCell ⟨w.heap.size, 4, none⟩ (.int .i64 mm.sd)).setCell ⟨w.heap.size, 5, none⟩ (.int .i64 mm.ac)).setCell ⟨w.heap.size, 6, none⟩ (.int .i64 mm.al)) := ((((((D.set (Nat.le_refl _) hcb _).set (Nat.le_refl _) hcb _).set (Nat.le_refl _) hcb _).set (Nat.le_refl _) hcb _).set (Nat.le_refl _) hcb _).set (Nat.le_refl _) hcb _).set (Nat.le_refl _) hcb _
      have sZ := D9.src hs
      have gZ := D9.gr
      obtain ⟨z0, z1, z2, z3, z4, z5, z6, zf⟩ := R
      have g0 := zf 0
      have g1 := zf 1
      have g2 := zf 2
      have g3 := zf 3
      have g4 := zf 4
      have g5 := zf 5
      have g6 := zf 6
      obtain ⟨n0, n1, n2, n3, n4, n5, n6, nf⟩ := N
      clear zf nf O D D9
      go_wp2
      refine bodyPost_ret (v := .agg #[.bool mm.up, .int .i64 mm.li, .int .i64 mm.ep, .slice a mm.lg.length c, .int .i64 mm.sd, .int .i64 mm.ac, .int .i64 mm.al]) (by simp [results, Try.results16, go_sem, *]) rfl ⟨mm, a, c, rfl, hl6, O9, sZ, gZ⟩
     ·
      have d0 : (v == 0) = false := by rw [beq_eq_false_iff_ne]; exact h0
      have d1 : (v == 1) = false := by rw [beq_eq_false_iff_ne]; exact h1
      have d2 : (v == 2) = false := by rw [beq_eq_false_iff_ne]; exact h2
      have d3 : (v == 3) = false := by rw [beq_eq_false_iff_ne]; exact h3
      have d4 : (v == 4) = false := by rw [beq_eq_false_iff_ne]; exact h4
      clear h0 h1 h2 h3 h4
      have O9 : FOwn ikEnc 8 30 w.heap.size (((((((y3.setCell ⟨w.heap.size, 0, none⟩ (.bool m.up)).setCell ⟨w.heap.size, 1, none⟩ (.int .i64 m.li)).setCell ⟨w.heap.size, 2, none⟩ (.int .i64 m.ep)).setCell ⟨w.heap.size, 3, none⟩ (.slice a m.lg.length c)).setCell ⟨w.heap.size, 4, none⟩ (.int .i64 m.sd)).setCell ⟨w.heap.size, 5, none⟩ (.int .i64 m.ac)).setCell ⟨w.heap.size, 6, none⟩ (.int .i64 m.al)) (.slice a m.lg.length c) m.lg := (O.base (by omega)).keep (fun g_ e => heap_put7 y3 w.heap.size g_ m _ (by have := lo g_ e; omega))
      have D9 : DV w cb ad len cap (((((((y3.setCell ⟨w.heap.size, 0, none⟩ (.bool m.up)).setCell ⟨w.heap.size, 1, none⟩ (.int .i64 m.li)).setCell ⟨w.heap.size, 2, none⟩ (.int .i64 m.ep)).setCell ⟨w.heap.size, 3, none⟩ (.slice a m.lg.length c)).setCell ⟨w.heap.size, 4, none⟩ (.int .i64 m.sd)).setCell ⟨w.heap.size, 5, none⟩ (.int .i64 m.ac)).setCell ⟨w.heap.size, 6, none⟩ (.int .i64 m.al)) := ((((((D.set (Nat.le_refl _) hcb _).set (Nat.le_refl _) hcb _).set (Nat.le_refl _) hcb _).set (Nat.le_refl _) hcb _).set (Nat.le_refl _) hcb _).set (Nat.le_refl _) hcb _).set (Nat.le_refl _) hcb _
      have sZ := D9.src hs
      have gZ := D9.gr
      obtain ⟨z0, z1, z2, z3, z4, z5, z6, zf⟩ := R
      have g0 := zf 0
      have g1 := zf 1
      have g2 := zf 2
      have g3 := zf 3
      have g4 := zf 4
      have g5 := zf 5
      have g6 := zf 6
      obtain ⟨n0, n1, n2, n3, n4, n5, n6, nf⟩ := N
      clear zf nf O D D9
      go_wp2
      refine bodyPost_ret (v := .agg #[.bool m.up, .int .i64 m.li, .int .i64 m.ep, .slice a m.lg.length c, .int .i64 m.sd, .int .i64 m.ac, .int .i64 m.al]) (by simp [results, Try.results16, go_sem, *]) rfl ⟨m, a, c, rfl, (by omega), O9, sZ, gZ⟩
end Go.Proofs.Ytnpiljegdiconaa
