import Derived.Test.YtnpiljegdiconaaQKMg5
namespace Go.Proofs.Ytnpiljegdiconaa
open Go.ChangeShapes Go.WideShapes Go.ChangeAt Go.RowKit
open Go.ChangeMaps (open_string shut_string)
set_option linter.unusedVariables false
set_option maxRecDepth 100000
set_option maxHeartbeats 4000000 in
theorem writeI (m : Mi) (x : Ik) (q base : Nat) (ad : Option Addr) (cap : Nat) (w : World) (M : MgBox w q m (.slice ad m.lg.length cap)) (O : FOwn ikEnc 8 30 base w (.slice ad m.lg.length cap) m.lg) (hq : ∀ g, (Value.slice ad m.lg.length cap).ownBlock = some g → g ≠ q) (hl : m.lg.length ≤ 1048577) (hb : base ≤ w.heap.size) :
  Calls Try.prog 19 #[.pointer (some ⟨q, 0, none⟩), .agg #[.int .i64 x.k, .int .i64 x.q, .int .i64 x.r, .int .i64 x.c, .int .i64 x.b, .int .i64 x.p, .int .i64 x.h, .bool x.up]] w fun e w' => e = .returned (.tuple #[]) ∧ ∃ a c, MgBox w' q (noteM m x) (.slice a (noteM m x).lg.length c) ∧ FOwn ikEnc 8 30 base w' (.slice a (noteM m x).lg.length c) (noteM m x).lg ∧ (∀ g, (Value.slice a (noteM m x).lg.length c).ownBlock = some g → g ≠ q) ∧ Turned q (Value.slice ad m.lg.length cap).ownBlock w w' := by
 obtain ⟨i1, hj, hy0, hy1, hy2⟩ := info_parts ikInfo
 obtain ⟨y, hy⟩ := mk_ (w.alloc (Obj.cells #[.int .i64 x.k, .int .i64 x.q, .int .i64 x.r, .int .i64 x.c, .int .i64 x.b, .int .i64 x.p, .int .i64 x.h, .bool x.up] 30))
 have B0 : Below w.heap.size w y := by rw [hy]; exact below_new _
 have X : InAt y w.heap.size x := by rw [hy]; exact InAt.new w _ x
 have S0 := X.lt
 have lq := M.lt
 have lo : ∀ g, (Value.slice ad m.lg.length cap).ownBlock = some g → g < w.heap.size := fun g e => (O.lt g e).2
 have M := M.below B0 M.lt
 have O := O.later B0
 go_enter Try.func19, Try.ntmps19
 go_upto_region 1 with fail
 rw [← hy]
 clear hy
 refine wp_region_held (S := fun Y => InAt Y w.heap.size x) (by kernel_rfl) ?_
 change wpAnyH _ _ _ _ _ _ _ _ (World.drew _)
 have hb0 : Below y.heap.size y y.drew := (Below.refl _ _).drew
 obtain ⟨u0, hy0'⟩ : ∃ y_, y_ = y.drew := ⟨_, rfl⟩
 rw [← hy0'] at hb0 ⊢
 clear hy0'
 have hs0 : InAt u0 w.heap.size x := X.below hb0 X.lt
 have M0 := M.below hb0 M.lt
 have O0 := O.later hb0
 have z0 := hb0.size
 refine tw 0 4 (.pointer (some ⟨q, 0, none⟩)) ?_
 refine tw 1 5 (.pointer (some ⟨q, 0, none⟩)) ?_
 refine tw 2 6 (.pointer (some ⟨q, 0, none⟩)) ?_
 refine tw 3 7 (.pointer (some ⟨q, 0, none⟩)) ?_
 refine tw 5 9 (.agg #[.int .i64 x.k, .int .i64 x.q, .int .i64 x.r, .int .i64 x.c, .int .i64 x.b, .int .i64 x.p, .int .i64 x.h, .bool x.up]) ?_ (hy := by intro Y hSw; obtain ⟨X0, X1, X2, X3, X4, X5, X6, X7⟩ := hSw; go_simp)
 refine wpAnyH_all (rs := [4, 6]) (by kernel_rfl) (by simp) ?_
 intro i hi; rcases (by simpa using hi : i = 4 ∨ i = 6) with rfl | rfl
 focus
  refine wpOp_step rfl (fun Kz hKz => ?_)
  rw [if_pos (by kernel_rfl)]
  have c0 := M0.c0
  go_simp
  clear c0
  refine hKz _ _ ⟨hs0, ?_⟩
  clear hKz Kz hi
  refine w1 6 fun Kz hKz => ?_
  go_simp
  obtain ⟨u1, hu1⟩ := mk_ (u0.alloc (Obj.cells #[.int .i64 x.k, .int .i64 x.q, .int .i64 x.r, .int .i64 x.c, .int .i64 x.b, .int .i64 x.p, .int .i64 x.h, .bool x.up] 30))
  have V1 : FView ikEnc u1 (some ⟨u0.heap.size, 0, none⟩) [x] := by rw [hu1]; exact FView.oneK u0 _ x
  have k1 : Below u0.heap.size u0 u1 := by rw [hu1]; exact below_new _
  have hs1 := hs0.below k1 hs0.lt
  have M1 := M0.below k1 M0.lt
  have O1 := O0.later k1
  rw [← hu1]
  clear hu1
  have z1 := k1.size
 rotate_left
 focus
  refine wpOp_step rfl (fun Kz hKz => ?_)
  rw [if_pos (by kernel_rfl)]
  go_simp
  obtain ⟨u1, hu1⟩ := mk_ (u0.alloc (Obj.cells #[.int .i64 x.k, .int .i64 x.q, .int .i64 x.r, .int .i64 x.c, .int .i64 x.b, .int .i64 x.p, .int .i64 x.h, .bool x.up] 30))
  have V1 : FView ikEnc u1 (some ⟨u0.heap.size, 0, none⟩) [x] := by rw [hu1]; exact FView.oneK u0 _ x
  have k1 : Below u0.heap.size u0 u1 := by rw [hu1]; exact below_new _
  have hs1 := hs0.below k1 hs0.lt
  have M1 := M0.below k1 M0.lt
  have O1 := O0.later k1
  rw [← hu1]
  clear hu1
  have z1 := k1.size
  refine hKz _ _ ⟨hs1, ?_⟩
  clear hKz Kz hi
  refine w1 4 fun Kz hKz => ?_
  have c0 := M1.c0
  go_simp
  clear c0
 rotate_left
 all_goals
  refine hKz _ _ ⟨hs1, ?_⟩
  clear hKz Kz
  refine w1 7 fun Kz hKz => ?_
  refine fapp ikEnc_len ikEnc_ones 11 _ _ 24 rfl rfl base 30 i1 (.agg #[.int .i64 0, .int .i64 0, .int .i64 0, .int .i64 0, .int .i64 0, .int .i64 0, .int .i64 0, .bool false]) 64 Try.underlying24 hj hy0 hy1 hy2 rfl (by decide) (by decide) (.slice ad m.lg.length cap) m.lg rfl O1 (some ⟨u0.heap.size, 0, none⟩) 1 [x] rfl (fun e => by cases e) V1 (by simp; omega) (by omega) ?_
  intro vN u2 oN gN hob
  replace oN : FOwn ikEnc 8 30 base u2 vN (noteM m x).lg := oN
  have hk2 : ∀ k, k < u1.heap.size → (∀ g, (Value.slice ad m.lg.length cap).ownBlock = some g → k ≠ g) → u2.heap[k]? = u1.heap[k]? := fun k hk he => gN.block k hk (fun e => he k e.symm rfl)
  have hs2 := hs1.keep (hk2 _ hs1.lt (fun g e => by have := lo g e; omega))
  have M2 := M1.keep (hk2 _ M1.lt (fun g e => by have := hq g e; omega))
  have hqn : ∀ g, vN.ownBlock = some g → g ≠ q := fun g e => hob.elim (fun h => by rw [h] at e; exact hq g e) (fun h => by rw [h] at e; have e2 := Option.some.inj e; omega)
  have T2 : Turned q (Value.slice ad m.lg.length cap).ownBlock w u2 := ⟨gN.os.trans (k1.os.trans (hb0.os.trans B0.os)), gN.tape.trans (k1.tape.trans (hb0.tape.trans B0.tape)), gN.output.trans (k1.output.trans (hb0.output.trans B0.output)), by have := gN.size; have := B0.size; omega, fun k hk h1 h2 => (hk2 k (by have := B0.size; omega) (fun g e e2 => h2 (by rw [e, e2]))).trans ((k1.block k (by have := B0.size; omega)).trans ((hb0.block k (by have := B0.size; omega)).trans (B0.block k hk)))⟩
  obtain ⟨aN, cN, rfl⟩ := oN.open_
  clear gN hk2 hob k1 M1 O1 V1 hs1
  simp only [List.set_cons_zero, List.set_cons_succ]
  refine hKz _ _ ⟨hs2, ?_⟩
  clear hKz Kz
  refine tw 8 12 (.pointer (some ⟨q, 0, none⟩)) ?_
  refine tw 9 13 (.pointer (some ⟨q, 0, none⟩)) ?_
  refine w1 10 fun Kz hKz => ?_
  have c0 := M2.c0
  have f0 := M2.fr 0
  go_simp
  clear c0 f0
  have hs3 : InAt (u2.setCell ⟨q, 0, none⟩ (.slice aN (noteM m x).lg.length cN)) w.heap.size x := hs2.keep (Below.heap_setCell _ _ _ _ (by show w.heap.size ≠ q; omega))
  have M3 : MgBox (u2.setCell ⟨q, 0, none⟩ (.slice aN (noteM m x).lg.length cN)) q (noteM m x) (.slice aN (noteM m x).lg.length cN) := (M2.log (.slice aN (noteM m x).lg.length cN)).lg (m.lg ++ [x])
  have O3 : FOwn ikEnc 8 30 base (u2.setCell ⟨q, 0, none⟩ (.slice aN (noteM m x).lg.length cN)) (.slice aN (noteM m x).lg.length cN) (noteM m x).lg := oN.keep (fun g e => Below.heap_setCell _ _ _ _ (hqn g e))
  have T3 := T2.set 0 (.slice aN (noteM m x).lg.length cN)
  refine hKz _ _ ⟨hs3, ?_⟩
  clear hKz Kz
  refine wpAnyH_done (by kernel_rfl) ?_ _
  go_wp2
  go_end0
  exact ⟨rfl, aN, cN, M3, O3, hqn, T3⟩
set_option maxHeartbeats 4000000 in
theorem toldI12 (m : Mi) (q : Nat) (ad : Option Addr) (cap : Nat) (w : World) (M : MgBox w q m (.slice ad m.lg.length cap)) :
  Calls Try.prog 20 #[.pointer (some ⟨q, 0, none⟩)] w fun e w' => e = .returned (.agg #[.bool m.up, .int .i64 m.li, .int .i64 m.ep, .slice ad m.lg.length cap, .int .i64 m.sd, .int .i64 m.ac, .int .i64 m.al]) ∧ Below w.heap.size w w' := by
 obtain ⟨y, hy⟩ := mk_ (w.alloc (Obj.cells #[.bool false, .int .i64 0, .int .i64 0, .slice none 0 0, .int .i64 0, .int .i64 0, .int .i64 0] 26))
 have B0 : Below w.heap.size w y := by rw [hy]; exact below_new _
 have A1 : MiBox y w.heap.size ⟨false, 0, 0, [], 0, 0, 0⟩ (.slice none 0 0) := by rw [hy]; constructor <;> simp [go_sem]
 have S0 := A1.lt
 have lq := M.lt
 have M := M.below B0 M.lt
 go_enter Try.func20, Try.ntmps20
 go_upto_region 1 with fail
 rw [← hy]
 clear hy
 refine wp_region_held (S := fun Y => Below w.heap.size y Y) (by kernel_rfl) ?_
 change wpAnyH _ _ _ _ _ _ _ _ (World.drew _)
 have hb0 : Below y.heap.size y y.drew := (Below.refl _ _).drew
 obtain ⟨u0, hy0'⟩ : ∃ y_, y_ = y.drew := ⟨_, rfl⟩
 rw [← hy0'] at hb0 ⊢
 clear hy0'
 have hc0 : Below w.heap.size y u0 := hb0.mono (by omega)
 refine tw 0 3 (.pointer (some ⟨q, 0, none⟩)) ?_
 refine tw 1 4 (.pointer (some ⟨q, 0, none⟩)) ?_
 refine tw 2 5 (.pointer (some ⟨q, 1, none⟩)) ?_
 refine tw 3 6 (.pointer (some ⟨q, 1, none⟩)) ?_
 refine tw 4 7 (.bool m.up) ?_ (hy := by intro Y hSw; obtain ⟨X0, X1, X2, X3, X4, X5, X6, XF⟩ := M.below hSw lq; go_simp)
 refine tw 5 8 (.pointer (some ⟨q, 0, none⟩)) ?_
 refine tw 6 9 (.pointer (some ⟨q, 0, none⟩)) ?_
 refine tw 7 10 (.pointer (some ⟨q, 1, none⟩)) ?_
 refine tw 8 11 (.pointer (some ⟨q, 2, none⟩)) ?_
 refine tw 9 12 (.int .i64 m.li) ?_ (hy := by intro Y hSw; obtain ⟨X0, X1, X2, X3, X4, X5, X6, XF⟩ := M.below hSw lq; go_simp)
 refine tw 10 13 (.pointer (some ⟨q, 0, none⟩)) ?_
 refine tw 11 14 (.pointer (some ⟨q, 0, none⟩)) ?_
 refine tw 12 15 (.pointer (some ⟨q, 1, none⟩)) ?_
 refine tw 13 16 (.pointer (some ⟨q, 3, none⟩)) ?_
 refine tw 14 17 (.int .i64 m.ep) ?_ (hy := by intro Y hSw; obtain ⟨X0, X1, X2, X3, X4, X5, X6, XF⟩ := M.below hSw lq; go_simp)
 refine tw 15 18 (.pointer (some ⟨q, 0, none⟩)) ?_
 refine tw 16 19 (.pointer (some ⟨q, 0, none⟩)) ?_
 refine tw 17 20 (.pointer (some ⟨q, 0, none⟩)) ?_
 refine tw 18 21 (.pointer (some ⟨q, 0, none⟩)) ?_
 refine tw 19 22 (.slice ad m.lg.length cap) ?_ (hy := by intro Y hSw; obtain ⟨X0, X1, X2, X3, X4, X5, X6, XF⟩ := M.below hSw lq; go_simp)
 refine tw 20 23 (.pointer (some ⟨q, 0, none⟩)) ?_
 refine tw 21 24 (.pointer (some ⟨q, 0, none⟩)) ?_
 refine tw 22 25 (.pointer (some ⟨q, 1, none⟩)) ?_
 refine tw 23 26 (.pointer (some ⟨q, 4, none⟩)) ?_
 refine tw 24 27 (.int .i64 m.sd) ?_ (hy := by intro Y hSw; obtain ⟨X0, X1, X2, X3, X4, X5, X6, XF⟩ := M.below hSw lq; go_simp)
 refine tw 25 28 (.pointer (some ⟨q, 0, none⟩)) ?_
 refine tw 26 29 (.pointer (some ⟨q, 0, none⟩)) ?_
 refine tw 27 30 (.pointer (some ⟨q, 1, none⟩)) ?_
 refine tw 28 31 (.pointer (some ⟨q, 5, none⟩)) ?_
 refine tw 29 32 (.int .i64 m.ac) ?_ (hy := by intro Y hSw; obtain ⟨X0, X1, X2, X3, X4, X5, X6, XF⟩ := M.below hSw lq; go_simp)
 refine tw 30 33 (.pointer (some ⟨q, 0, none⟩)) ?_
 refine tw 31 34 (.pointer (some ⟨q, 0, none⟩)) ?_
 refine tw 32 35 (.pointer (some ⟨q, 1, none⟩)) ?_
 refine tw 33 36 (.pointer (some ⟨q, 6, none⟩)) ?_
 refine tw 34 37 (.int .i64 m.al) ?_ (hy := by intro Y hSw; obtain ⟨X0, X1, X2, X3, X4, X5, X6, XF⟩ := M.below hSw lq; go_simp)
 refine tw 35 38 (.agg #[.bool m.up, .int .i64 m.li, .int .i64 m.ep, .slice ad m.lg.length cap, .int .i64 m.sd, .int .i64 m.ac, .int .i64 m.al]) ?_
 refine w1 36 fun Kz hKz => ?_
 have A2 := A1.below hb0 A1.lt
 have cc := A2
 obtain ⟨z0, z1, z2, z3, z4, z5, z6, zf⟩ := cc
 have g0 := zf 0
 have g1 := zf 1
 have g2 := zf 2
 have g3 := zf 3
 have g4 := zf 4
 have g5 := zf 5
 have g6 := zf 6
 go_simp
 clear z0 z1 z2 z3 z4 z5 z6 zf g0 g1 g2 g3 g4 g5 g6
 have A3 := A2.put m (.slice ad m.lg.length cap)
 have hc1 := below_put7 (q := w.heap.size) m (.slice ad m.lg.length cap) hc0 (Nat.le_refl _)
 obtain ⟨u1, hu1⟩ := mk_ (((((((u0.setCell ⟨w.heap.size, 0, none⟩ (.bool m.up)).setCell ⟨w.heap.size, 1, none⟩ (.int .i64 m.li)).setCell ⟨w.heap.size, 2, none⟩ (.int .i64 m.ep)).setCell ⟨w.heap.size, 3, none⟩ (.slice ad m.lg.length cap)).setCell ⟨w.heap.size, 4, none⟩ (.int .i64 m.sd)).setCell ⟨w.heap.size, 5, none⟩ (.int .i64 m.ac)).setCell ⟨w.heap.size, 6, none⟩ (.int .i64 m.al))
 rw [← hu1] at A3 hc1 ⊢
 clear hu1
 refine hKz _ _ ⟨hc1, ?_⟩
 clear hKz Kz
 refine wpAnyH_done (by kernel_rfl) ?_ _
 have B9 := B0.trans hc1
 obtain ⟨z0, z1, z2, z3, z4, z5, z6, zf⟩ := A3
 clear zf
 go_wp2
 refine bodyPost_ret (v := .agg #[.bool m.up, .int .i64 m.li, .int .i64 m.ep, .slice ad m.lg.length cap, .int .i64 m.sd, .int .i64 m.ac, .int .i64 m.al]) (by simp [results, Try.results20, go_sem, *]) rfl ⟨rfl, B9⟩
theorem note_is (m : Mi) (x : Ik) : noteB m x = miOk (noteM m x) := by
 unfold noteB
 cases hU : m.up with
 | true => rfl
 | false =>
  have h : miOk (noteM m x) = false := by
   rw [Bool.eq_false_iff]
   intro e
   unfold miOk noteM at e
   rw [hU] at e
   simp at e
  rw [h]; rfl
set_option maxHeartbeats 4000000 in
theorem noteI (m : Mi) (x : Ik) (ad : Option Addr) (cap : Nat) (w : World) (hv : FView ikEnc w ad m.lg) (hl : m.lg.length ≤ 1048576) :
  Calls Try.prog 6 #[.agg #[.bool m.up, .int .i64 m.li, .int .i64 m.ep, .slice ad m.lg.length cap, .int .i64 m.sd, .int .i64 m.ac, .int .i64 m.al], .agg #[.int .i64 x.k, .int .i64 x.q, .int .i64 x.r, .int .i64 x.c, .int .i64 x.b, .int .i64 x.p, .int .i64 x.h, .bool x.up]] w fun e w' => ∃ a c, e = .returned (.tuple #[.agg #[.bool (noteR m x).up, .int .i64 (noteR m x).li, .int .i64 (noteR m x).ep, .slice a (noteR m x).lg.length c, .int .i64 (noteR m x).sd, .int .i64 (noteR m x).ac, .int .i64 (noteR m x).al], .bool (noteB m x)]) ∧ FOwn ikEnc 8 30 w.heap.size w' (.slice a (noteR m x).lg.length c) (noteR m x).lg ∧ Below w.heap.size w w' := by
 have hB := hv.lt ikEnc_len (by omega)
 obtain ⟨y, hy⟩ := mk_ (((w.alloc (Obj.cells #[.bool m.up, .int .i64 m.li, .int .i64 m.ep, .slice ad m.lg.length cap, .int .i64 m.sd, .int .i64 m.ac, .int .i64 m.al] 26)).alloc (Obj.cells #[.int .i64 x.k, .int .i64 x.q, .int .i64 x.r, .int .i64 x.c, .int .i64 x.b, .int .i64 x.p, .int .i64 x.h, .bool x.up] 30)).alloc (Obj.cells #[.bool false, .int .i64 0, .int .i64 0, .slice none 0 0, .int .i64 0, .int .i64 0, .int .i64 0] 26))
 have B0 : Below w.heap.size w y := by rw [hy]; exact (((Below.refl _ _).alloc (Nat.le_refl _) _).alloc (by simp) _).alloc (by simp; omega) _
 have A0 : MiAt y w.heap.size m (.slice ad m.lg.length cap) := by rw [hy]; constructor <;> simp [go_sem]
 have X0 : InAt y (w.heap.size + 1) x := by rw [hy]; constructor <;> simp [go_sem]
 have A1 : MiBox y (w.heap.size + 1 + 1) ⟨false, 0, 0, [], 0, 0, 0⟩ (.slice none 0 0) := by rw [hy]; constructor <;> simp [go_sem]
 have S0 := A1.lt
 have hv1 := hv.below B0 hB
 clear hv hB
 have HV : ∀ a, ad = some a → 0 < m.lg.length → a.block < y.heap.size := hv1.lt ikEnc_len (by omega)
 go_enter Try.func6, Try.ntmps6
 have cc := A0
 obtain ⟨x0, x1, x2, x3, x4, x5, x6⟩ := cc
 go_wp2_with fail
 go_at_call 18
 rw [← hy]
 clear hy x0 x1 x2 x3 x4 x5 x6
 refine (mindOf m ad cap y hv1 (by omega)).mono ?_
 rintro e u1 ⟨q, a1, c1, rfl, M1, O1, lo1, lq1, k1⟩
 have B1 := B0.trans (k1.mono B0.size)
 have A0 := A0.below k1 A0.lt
 have X0 := X0.below k1 X0.lt
 have A1 := A1.below k1 A1.lt
 have hv1 := hv1.below k1 (hv1.lt ikEnc_len (by omega))
 have s1 := k1.size
 clear k1 B0
 go_upto_region 2 with fail
 refine wp_region_held (S := fun Y => Below y.heap.size u1 Y) (by kernel_rfl) ?_
 change wpAnyH _ _ _ _ _ _ _ _ (World.drew _)
 have hb0 : Below u1.heap.size u1 u1.drew := (Below.refl _ _).drew
 obtain ⟨u0, hy0'⟩ : ∃ y_, y_ = u1.drew := ⟨_, rfl⟩
 rw [← hy0'] at hb0 ⊢
 clear hy0'
 have hc0 : Below y.heap.size u1 u0 := hb0.mono s1
 have lx := S0
 refine tw 0 10 (.pointer (some ⟨q, 0, none⟩)) ?_
 refine tw 1 11 (.pointer (some ⟨q, 0, none⟩)) ?_
 refine tw 2 12 (.pointer (some ⟨q, 0, none⟩)) ?_
 refine tw 3 13 (.agg #[.int .i64 x.k, .int .i64 x.q, .int .i64 x.r, .int .i64 x.c, .int .i64 x.b, .int .i64 x.p, .int .i64 x.h, .bool x.up]) ?_ (hy := by intro Y hSw; obtain ⟨X0_, X1_, X2_, X3_, X4_, X5_, X6_, X7_⟩ := X0.below hSw (by omega); go_simp)
 refine w1 4 fun Kz hKz => ?_
 go_simp
 go_at_call 19
 refine (writeI m x q _ a1 c1 u0 (M1.below hb0 M1.lt) (O1.later hb0) (fun g e => by have := lo1 g e; omega) (by omega) (by have := hb0.size; omega)).mono ?_
 rintro e u2 ⟨rfl, a2, c2, M2, O2, hq2, T2⟩
 have k2 : Below y.heap.size u1 u2 := hc0.trans (T2.below (by have := hb0.size; omega) (by omega) (fun g e => (O1.lt g e).1))
 clear T2 M1 O1 lo1 hb0 hc0
 refine hKz _ _ ⟨k2, ?_⟩
 clear hKz Kz
 refine wpAnyH_done (by kernel_rfl) ?_ _
 have B2 := B1.trans (k2.mono (by omega))
 have A0 := A0.below k2 (by omega)
 have A1 := A1.below k2 (by omega)
 have hv1 := hv1.below k2 (fun a e p => HV a e p)
 have s2 := k2.size
 clear k2 B1 X0
 go_wp2_with fail
 go_at_call 20
 refine (toldI12 (noteM m x) q a2 c2 u2 M2).mono ?_
 rintro e u3 ⟨rfl, k3⟩
 have B3 := B2.trans (k3.mono B2.size)
 have A0 := A0.below k3 A0.lt
 have A1 := A1.below k3 A1.lt
 have hv1 := hv1.below k3 (hv1.lt ikEnc_len (by omega))
 have O2 := O2.later k3
 have s3 := k3.size
 clear k3 B2 M2 hq2
 obtain ⟨u4, hu4⟩ := mk_ (u3.alloc (Obj.cells #[.bool (noteM m x).up, .int .i64 (noteM m x).li, .int .i64 (noteM m x).ep, .slice a2 (noteM m x).lg.length c2, .int .i64 (noteM m x).sd, .int .i64 (noteM m x).ac, .int .i64 (noteM m x).al] 26))
 have k4 : Below u3.heap.size u3 u4 := by rw [hu4]; exact below_new _
 have N : MiAt u4 u3.heap.size (noteM m x) (.slice a2 (noteM m x).lg.length c2) := by rw [hu4]; exact MiAt.new u3 _ _ _
 have B4 := B3.trans (k4.mono B3.size)
 have A0 := A0.below k4 A0.lt
 have A1 := A1.below k4 A1.lt
 have hv1 := hv1.below k4 (hv1.lt ikEnc_len (by omega))
 have O2 := O2.later k4
 have s4 := k4.size
 go_upto_region 4 with fail
 rw [← hu4]
 clear hu4 k4 B3
 have cc := N
 obtain ⟨n0, n1, n2, n3, n4, n5, n6⟩ := cc
 go_wp2_with fail
 go_at_call 13
 clear n0 n1 n2 n3 n4 n5 n6
 refine (miOkI (noteM m x) a2 c2 u4 O2.view.2 (by show (m.lg ++ [x]).length ≤ _; simp; omega)).mono ?_
 rintro e u5 ⟨rfl, k5⟩
 have B5 := B4.trans (k5.mono B4.size)
 have A0 := A0.below k5 A0.lt
 have A1 := A1.below k5 A1.lt
 have hv1 := hv1.below k5 (hv1.lt ikEnc_len (by omega))
 have O2 := O2.later k5
 have N := N.below k5 N.lt
 have s5 := k5.size
 clear k5 B4
 have hM : Hid (noteB m x = miOk (noteM m x)) := note_is m x
 cases hO : miOk (noteM m x)
 ·
  have hNB : Hid (noteB m x = false) := by unfold Hid; rw [hM.out, hO]
  have hNR : Hid (noteR m x = m) := note_not hNB.out
  have cc := A0
  obtain ⟨x0, x1, x2, x3, x4, x5, x6⟩ := cc
  clear hO
  go_wp2_with fail
  go_at_call 18
  clear x0 x1 x2 x3 x4 x5 x6
  refine (mindOf m ad cap u5 hv1 (by omega)).mono ?_
  rintro e u6 ⟨q6, a3, c3, rfl, M6, O3, _, _, k6⟩
  have B6 := B5.trans (k6.mono B5.size)
  have A1 := A1.below k6 A1.lt
  have s6 := k6.size
  clear k6 B5
  go_wp2_with fail
  go_at_call 20
  refine (toldI12 m q6 a3 c3 u6 M6).mono ?_
  rintro e u7 ⟨rfl, k7⟩
  have B7 := B6.trans (k7.mono B6.size)
  have A1 := A1.below k7 A1.lt
  have O3 := O3.later k7
  have s7 := k7.size
  clear k7 B6 M6
  have B9 := below_put7 (q := w.heap.size + 1 + 1) m (.slice a3 m.lg.length c3) B7 (by omega)
  have O9 := (O3.base (base' := w.heap.size) (by omega)).keep (fun g e => heap_put7 u7 (w.heap.size + 1 + 1) g m (.slice a3 m.lg.length c3) (by have := (O3.lt g e).1; omega))
  obtain ⟨z0, z1, z2, z3, z4, z5, z6, zf⟩ := A1
  have g0 := zf 0
  have g1 := zf 1
  have g2 := zf 2
  have g3 := zf 3
  have g4 := zf 4
  have g5 := zf 5
  have g6 := zf 6
  clear zf
  go_wp2
  refine bodyPost_ret (v := .tuple #[.agg #[.bool m.up, .int .i64 m.li, .int .i64 m.ep, .slice a3 m.lg.length c3, .int .i64 m.sd, .int .i64 m.ac, .int .i64 m.al], .bool false]) (by simp [results, Try.results6, go_sem, *]) rfl ⟨a3, c3, by rw [hNR.out, hNB.out], by rw [hNR.out]; exact O9, B9⟩
 ·
  have hNB : Hid (noteB m x = true) := by unfold Hid; rw [hM.out, hO]
  have hNR : Hid (noteR m x = (noteM m x)) := by unfold Hid noteR; rw [if_pos hNB.out]
  clear hO
  obtain ⟨n0, n1, n2, n3, n4, n5, n6⟩ := N
  have B9 := below_put7 (q := w.heap.size + 1 + 1) (noteM m x) (.slice a2 (noteM m x).lg.length c2) B5 (by omega)
  have O9 := (O2.base (base' := w.heap.size) (by omega)).keep (fun g e => heap_put7 u5 (w.heap.size + 1 + 1) g (noteM m x) (.slice a2 (noteM m x).lg.length c2) (by have := (O2.lt g e).1; omega))
  obtain ⟨z0, z1, z2, z3, z4, z5, z6, zf⟩ := A1
  have g0 := zf 0
  have g1 := zf 1
  have g2 := zf 2
  have g3 := zf 3
  have g4 := zf 4
  have g5 := zf 5
  have g6 := zf 6
  clear zf
  go_wp2
  refine bodyPost_ret (v := .tuple #[.agg #[.bool (noteM m x).up, .int .i64 (noteM m x).li, .int .i64 (noteM m x).ep, .slice a2 (noteM m x).lg.length c2, .int .i64 (noteM m x).sd, .int .i64 (noteM m x).ac, .int .i64 (noteM m x).al], .bool true]) (by simp [results, Try.results6, go_sem, *]) rfl ⟨a2, c2, by rw [hNR.out, hNB.out], by rw [hNR.out]; exact O9, B9⟩
end Go.Proofs.Ytnpiljegdiconaa
