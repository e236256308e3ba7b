import Derived.Test.YtnpiljegdiconaaGreatQM22
namespace Go.Proofs.YtnpiljegdiconaaGreat
open Go.ChangeShapes Go.WideShapes Go.ChangeAt Go.RowKit
open Go.ChangeMaps (open_string shut_string)
set_option linter.unusedVariables false
set_option maxRecDepth 100000
set_option linter.unusedSimpArgs false in
set_option maxHeartbeats 8000000 in
theorem drawRegOk (ad : Option Addr) (len cap : Nat) (f : Nat → Int) (w : World) (h : Code0 w ad len f) : Calls Tryz.prog 16 #[.slice ad len cap] w fun e w' => ∃ r : Rg, e = .returned (.agg #[.int .i64 r.ep, .int .i64 r.ow, .int .i64 r.pa]) ∧ RgLo r ∧ Below w.heap.size w w' := by
 obtain ⟨R_, hRe⟩ := mk_ w.heap.size;have hRl0 : w.heap.size ≤ R_ := by omega
 obtain ⟨x0, hx0⟩ := mk_ (w.alloc (Obj.cells #[.int .i64 0, .int .i64 0, .int .i64 0] 25));have B0 : Below w.heap.size w x0 := by rw [hx0]; exact below_new _
 have R0 : RgBox x0 R_ (⟨0, 0, 0⟩ : Rg) := by rw [hx0, hRe]; exact ⟨RgAt.new w _ (⟨0, 0, 0⟩ : Rg), fun i => by simp [go_sem]⟩
 have h0 := h.later B0 (Nat.le_refl _);have lR0 := R0.lt;go_enter Tryz.func16, Tryz.ntmps16
 go_wp2_with fail
 go_at_call 52
 rw [← hx0, ← hRe];clear hx0 hRe;refine (drawNew ad len cap f x0 h0.view h0.lt h0.small h0.bytes).mono ?_;rintro e y1 ⟨rfl, s1, b1, z1_⟩;have B := B0.trans (b1.mono B0.size);have hc1 : x0.heap.size < y1.heap.size := s1.cur.lt;generalize hcb : x0.heap.size = cb at *
 have hbR : w.heap.size ≤ cb := by rw [← hcb]; exact B0.size
 have R := R0.below b1 lR0;have hRc : R_ < cb := lR0;clear R0 lR0 z1_ hcb b1;go_wp2_with fail
 go_at_call 69
 refine (drawReg y1 s1 hc1).mono ?_;rintro e y2 ⟨r, rfl, lo, s_, g2⟩;clear s1;have B := B.grown g2 B.size (fun k e => by simp at e; omega);have R := R.keep (g2.block _ R.lt (by simp; omega));have c_ := s_.cur.lt;clear g2;have BZ := below_put3 (q := R_) r B (by omega);obtain ⟨⟨c0, c1, c2⟩, cf⟩ := R;have g0 := cf 0;have g1 := cf 1;have g2 := cf 2;clear cf s_ c_;go_wp2
 refine bodyPost_ret (v := .agg #[.int .i64 r.ep, .int .i64 r.ow, .int .i64 r.pa]) (by simp [results, Tryz.results16, go_sem, *]) rfl ⟨r, rfl, lo, BZ⟩
set_option linter.unusedSimpArgs false in
set_option maxHeartbeats 8000000 in
theorem drawMinds (ad : Option Addr) (len cap : Nat) (f : Nat → Int) (w : World) (h : Code0 w ad len f) : Calls Tryz.prog 15 #[.slice ad len cap] w fun e w' => ∃ (r : Rg) (s : Int) (m : Mi) (a : Option Addr) (c : Nat), e = .returned (.tuple #[.agg #[.int .i64 r.ep, .int .i64 r.ow, .int .i64 r.pa], .int .i64 s, .agg #[.bool m.up, .int .i64 m.li, .int .i64 m.ep, .slice a m.lg.length c, .int .i64 m.sd, .int .i64 m.ac, .int .i64 m.al]]) ∧ (-2 ≤ r.ep ∧ r.ep ≤ 200000) ∧ (-1 ≤ s ∧ s ≤ 3) ∧ m.lg.length ≤ 61 ∧ FOwn ikEnc 8 105 w.heap.size w' (.slice a m.lg.length c) m.lg ∧ Below w.heap.size w w' := by
 obtain ⟨R_, hRe⟩ := mk_ w.heap.size;have hRl0 : w.heap.size ≤ R_ := by omega
 obtain ⟨x0, hx0⟩ := mk_ ((w.alloc (Obj.cells #[.int .i64 0, .int .i64 0, .int .i64 0] 25)).alloc (Obj.cells #[.bool false, .int .i64 0, .int .i64 0, .slice none 0 0, .int .i64 0, .int .i64 0, .int .i64 0] 28));have B0 : Below w.heap.size w x0 := by rw [hx0]; exact (below_new _).trans ((below_new _).mono (by simp))
 have R0 : RgBox x0 R_ (⟨0, 0, 0⟩ : Rg) := by rw [hx0, hRe]; have h1 : RgBox (w.alloc (Obj.cells #[.int .i64 0, .int .i64 0, .int .i64 0] 25)) w.heap.size (⟨0, 0, 0⟩ : Rg) := ⟨RgAt.new w _ (⟨0, 0, 0⟩ : Rg), fun i => by simp [go_sem]⟩; exact h1.keep ((below_new _ : Below (w.alloc (Obj.cells #[.int .i64 0, .int .i64 0, .int .i64 0] 25)).heap.size (w.alloc (Obj.cells #[.int .i64 0, .int .i64 0, .int .i64 0] 25)) _).block _ h1.lt)
 have N0 : MiBox x0 (R_ + 1) (⟨false, 0, 0, [], 0, 0, 0⟩ : Mi) (.slice none 0 0) := by rw [hx0, hRe]; have h1 := MiBox.new (w.alloc (Obj.cells #[.int .i64 0, .int .i64 0, .int .i64 0] 25)) 28 (⟨false, 0, 0, [], 0, 0, 0⟩ : Mi) (.slice none 0 0); rw [show (w.alloc (Obj.cells #[.int .i64 0, .int .i64 0, .int .i64 0] 25)).heap.size = w.heap.size + 1 from by simp] at h1; exact h1
 have h0 := h.later B0 (Nat.le_refl _);have lR0 := R0.lt;have lN0 := N0.lt;go_enter Tryz.func15, Tryz.ntmps15
 go_wp2_with fail
 go_at_call 52
 rw [← hx0, ← hRe];clear hx0 hRe;refine (drawNew ad len cap f x0 h0.view h0.lt h0.small h0.bytes).mono ?_;rintro e y1 ⟨rfl, s1, b1, z1_⟩;have B := B0.trans (b1.mono B0.size);have hc1 : x0.heap.size < y1.heap.size := s1.cur.lt;generalize hcb : x0.heap.size = cb at *
 have hbR : w.heap.size ≤ cb := by rw [← hcb]; exact B0.size
 have R := R0.below b1 lR0;have N := N0.keep (b1.block _ lN0);have hRc : R_ < cb := lR0;have hNc : R_ + 1 < cb := lN0;clear R0 lR0 z1_ hcb b1 N0 lN0;go_wp2_with fail
 go_at_call 53
 refine (drawOf y1 s1 hc1).mono ?_;rintro e y2 ⟨r, s, m, a, c, rfl, lo, sb, hl, O, s_, g2⟩;have hOg : ∀ g, (Value.slice a m.lg.length c).ownBlock = some g → y1.heap.size ≤ g := fun g e => (O.lt g e).1
 have hOq : ∀ g, (Value.slice a m.lg.length c).ownBlock = some g → g < y2.heap.size := fun g e => (O.lt g e).2
 have zy := g2.size;clear s1;have B := B.grown g2 B.size (fun k e => by simp at e; omega);have R := R.keep (g2.block _ R.lt (by simp; omega));have N := N.keep (g2.block _ N.lt (by simp; omega));have c_ := s_.cur.lt;clear g2;have lo_ : -2 ≤ r.ep ∧ r.ep ≤ 200000 := lo.1;have O := O.base (base' := w.heap.size) (by omega);clear lo;obtain ⟨y3, hy3⟩ := mk_ ((y2.alloc (Obj.cells #[.int .i64 r.ep, .int .i64 r.ow, .int .i64 r.pa] 25)).alloc (Obj.cells #[.bool m.up, .int .i64 m.li, .int .i64 m.ep, .slice a m.lg.length c, .int .i64 m.sd, .int .i64 m.ac, .int .i64 m.al] 28));have k3 : Below y2.heap.size y2 y3 := by rw [hy3]; exact (below_new _).trans ((below_new _).mono (by simp))
 have A : RgBox y3 y2.heap.size r := by rw [hy3]; have h1 : RgBox (y2.alloc (Obj.cells #[.int .i64 r.ep, .int .i64 r.ow, .int .i64 r.pa] 25)) y2.heap.size r := ⟨RgAt.new y2 _ r, fun i => by simp [go_sem]⟩; exact h1.keep ((below_new _ : Below (y2.alloc (Obj.cells #[.int .i64 r.ep, .int .i64 r.ow, .int .i64 r.pa] 25)).heap.size (y2.alloc (Obj.cells #[.int .i64 r.ep, .int .i64 r.ow, .int .i64 r.pa] 25)) _).block _ h1.lt)
 have M : MiBox y3 (y2.heap.size + 1) m (.slice a m.lg.length c) := by rw [hy3]; have h1 := MiBox.new (y2.alloc (Obj.cells #[.int .i64 r.ep, .int .i64 r.ow, .int .i64 r.pa] 25)) 28 m (.slice a m.lg.length c); rw [show (y2.alloc (Obj.cells #[.int .i64 r.ep, .int .i64 r.ow, .int .i64 r.pa] 25)).heap.size = y2.heap.size + 1 from by simp] at h1; exact h1
 have R := R.below k3 R.lt;have N := N.keep (k3.block _ N.lt);have O := O.later k3;have lo9 := O.lt;have B := B.trans (k3.mono B.size);have zA := A.lt;have zM := M.lt;have S_ := s_.later k3;go_upto_region 2 with fail
 rw [← hy3];clear hy3;obtain ⟨q6, hq6⟩ := mk_ y2.heap.size;rw [← hq6] at A M zA zM c_ zy hOq ⊢;clear hq6 k3 lo9;have hOR : ∀ g, (Value.slice a m.lg.length c).ownBlock = some g → g ≠ R_ := fun g e => by have := hOg g e; omega
 have hON : ∀ g, (Value.slice a m.lg.length c).ownBlock = some g → g ≠ R_ + 1 := fun g e => by have := hOg g e; omega
 clear S_ s_;refine wp_region_held (S := fun Y => RgBox Y q6 r ∧ MiBox Y (q6 + 1) m (.slice a m.lg.length c)) (by kernel_rfl) ?_;change wpAnyH _ _ _ _ _ _ _ _ (World.drew _);have kd : Below y3.heap.size y3 y3.drew := (Below.refl _ _).drew;obtain ⟨u0, hu0⟩ := mk_ y3.drew;rw [← hu0] at kd ⊢;clear hu0;have R := R.below kd R.lt;have N := N.keep (kd.block _ N.lt);have A := A.below kd A.lt;have M := M.keep (kd.block _ M.lt);have O := O.later kd;have B := B.trans (kd.mono B.size);have hS : RgBox u0 q6 r ∧ MiBox u0 (q6 + 1) m (.slice a m.lg.length c) := ⟨A, M⟩;refine tw 0 15 (.agg #[.int .i64 r.ep, .int .i64 r.ow, .int .i64 r.pa]) ?_ (hy := by intro Y hSw; obtain ⟨X0, X1, X2⟩ := hSw.1.at_; go_simp);refine tw 1 16 (.int .i64 s) ?_;refine tw 2 17 (.agg #[.bool m.up, .int .i64 m.li, .int .i64 m.ep, .slice a m.lg.length c, .int .i64 m.sd, .int .i64 m.ac, .int .i64 m.al]) ?_ (hy := by intro Y hSw; obtain ⟨X0, X1, X2, X3, X4, X5, X6, _⟩ := hSw.2; go_simp);clear hS;refine w1 3 fun Kz hKz => ?_
 obtain ⟨⟨c0, c1, c2⟩, cf⟩ := id R;have g0 := cf 0;have g1 := cf 1;have g2 := cf 2;clear cf;go_simp
 clear c0 c1 c2 g0 g1 g2;obtain ⟨v7, hv7⟩ := mk_ (((u0.setCell ⟨R_, 0, none⟩ (.int .i64 r.ep)).setCell ⟨R_, 1, none⟩ (.int .i64 r.ow)).setCell ⟨R_, 2, none⟩ (.int .i64 r.pa));have kp : ∀ k, k ≠ R_ → v7.heap[k]? = u0.heap[k]? := fun k hk => by rw [hv7]; exact heap_put3 _ _ _ r hk
 have R : RgBox v7 R_ r := by rw [hv7]; exact R.put r
 have B : Below w.heap.size w v7 := by rw [hv7]; exact below_put3 r B (by omega)
 have O := O.keep (fun g e => kp g (hOR g e));have N := N.keep (kp _ (by omega));have A := A.keep (kp _ (by omega));have M := M.keep (kp _ (by omega));rw [← hv7];clear hv7 kp;refine hKz _ _ ⟨⟨A, M⟩, ?_⟩;clear hKz Kz;have hS : RgBox v7 q6 r ∧ MiBox v7 (q6 + 1) m (.slice a m.lg.length c) := ⟨A, M⟩;refine tw 4 3 (.int .i64 s) ?_;clear hS;refine w1 5 fun Kz hKz => ?_
 obtain ⟨c0, c1, c2, c3, c4, c5, c6, cf⟩ := id N;have g0 := cf 0;have g1 := cf 1;have g2 := cf 2;have g3 := cf 3;have g4 := cf 4;have g5 := cf 5;have g6 := cf 6;clear cf;go_simp
 clear c0 c1 c2 c3 c4 c5 c6 g0 g1 g2 g3 g4 g5 g6;obtain ⟨v8, hv7⟩ := mk_ (((((((v7.setCell ⟨(R_ + 1), 0, none⟩ (.bool m.up)).setCell ⟨(R_ + 1), 1, none⟩ (.int .i64 m.li)).setCell ⟨(R_ + 1), 2, none⟩ (.int .i64 m.ep)).setCell ⟨(R_ + 1), 3, none⟩ (.slice a m.lg.length c)).setCell ⟨(R_ + 1), 4, none⟩ (.int .i64 m.sd)).setCell ⟨(R_ + 1), 5, none⟩ (.int .i64 m.ac)).setCell ⟨(R_ + 1), 6, none⟩ (.int .i64 m.al));have kp : ∀ k, k ≠ R_ + 1 → v8.heap[k]? = v7.heap[k]? := fun k hk => by rw [hv7]; exact heap_put7 v7 (R_ + 1) k m _ hk
 have N : MiBox v8 (R_ + 1) m (.slice a m.lg.length c) := by rw [hv7]; exact N.put m _
 have B : Below w.heap.size w v8 := by rw [hv7]; exact below_put7 (q := R_ + 1) m _ B (by omega)
 have O := O.keep (fun g e => kp g (hON g e));have R := R.keep (kp _ (by omega));have A := A.keep (kp _ (by omega));have M := M.keep (kp _ (by omega));rw [← hv7];clear hv7 kp;refine hKz _ _ ⟨⟨A, M⟩, ?_⟩;clear hKz Kz;refine wpAnyH_done (by kernel_rfl) ?_ _;obtain ⟨⟨c0, c1, c2⟩, _⟩ := R;obtain ⟨n0, n1, n2, n3, n4, n5, n6, _⟩ := N;clear A M;go_wp2
 refine bodyPost_ret (v := .tuple #[.agg #[.int .i64 r.ep, .int .i64 r.ow, .int .i64 r.pa], .int .i64 s, .agg #[.bool m.up, .int .i64 m.li, .int .i64 m.ep, .slice a m.lg.length c, .int .i64 m.sd, .int .i64 m.ac, .int .i64 m.al]]) (by simp [results, Tryz.results15, go_sem, *]) rfl ⟨r, s, m, a, c, rfl, lo_, sb, hl, O, B⟩
set_option linter.unusedSimpArgs false in
set_option maxHeartbeats 8000000 in
theorem drawTake (ad : Option Addr) (len cap : Nat) (f : Nat → Int) (w : World) (h : Code0 w ad len f) : Calls Tryz.prog 9 #[.slice ad len cap] w fun e w' => ∃ (r : Rg) (s : Int) (m : Mi) (a : Option Addr) (c : Nat), e = .returned (.tuple #[.agg #[.int .i64 r.ep, .int .i64 r.ow, .int .i64 r.pa], .int .i64 s, .agg #[.bool m.up, .int .i64 m.li, .int .i64 m.ep, .slice a m.lg.length c, .int .i64 m.sd, .int .i64 m.ac, .int .i64 m.al]]) ∧ (-2 ≤ r.ep ∧ r.ep ≤ 200000) ∧ (-1 ≤ s ∧ s ≤ 3) ∧ m.lg.length ≤ 61 ∧ FOwn ikEnc 8 105 w.heap.size w' (.slice a m.lg.length c) m.lg ∧ Below w.heap.size w w' := by
 obtain ⟨R_, hRe⟩ := mk_ w.heap.size;have hRl0 : w.heap.size ≤ R_ := by omega
 obtain ⟨x0, hx0⟩ := mk_ ((w.alloc (Obj.cells #[.int .i64 0, .int .i64 0, .int .i64 0] 25)).alloc (Obj.cells #[.bool false, .int .i64 0, .int .i64 0, .slice none 0 0, .int .i64 0, .int .i64 0, .int .i64 0] 28));have B0 : Below w.heap.size w x0 := by rw [hx0]; exact (below_new _).trans ((below_new _).mono (by simp))
 have R0 : RgBox x0 R_ (⟨0, 0, 0⟩ : Rg) := by rw [hx0, hRe]; have h1 : RgBox (w.alloc (Obj.cells #[.int .i64 0, .int .i64 0, .int .i64 0] 25)) w.heap.size (⟨0, 0, 0⟩ : Rg) := ⟨RgAt.new w _ (⟨0, 0, 0⟩ : Rg), fun i => by simp [go_sem]⟩; exact h1.keep ((below_new _ : Below (w.alloc (Obj.cells #[.int .i64 0, .int .i64 0, .int .i64 0] 25)).heap.size (w.alloc (Obj.cells #[.int .i64 0, .int .i64 0, .int .i64 0] 25)) _).block _ h1.lt)
 have N0 : MiBox x0 (R_ + 1) (⟨false, 0, 0, [], 0, 0, 0⟩ : Mi) (.slice none 0 0) := by rw [hx0, hRe]; have h1 := MiBox.new (w.alloc (Obj.cells #[.int .i64 0, .int .i64 0, .int .i64 0] 25)) 28 (⟨false, 0, 0, [], 0, 0, 0⟩ : Mi) (.slice none 0 0); rw [show (w.alloc (Obj.cells #[.int .i64 0, .int .i64 0, .int .i64 0] 25)).heap.size = w.heap.size + 1 from by simp] at h1; exact h1
 have h0 := h.later B0 (Nat.le_refl _);have lR0 := R0.lt;have lN0 := N0.lt;go_enter Tryz.func9, Tryz.ntmps9
 go_wp2_with fail
 go_at_call 52
 rw [← hx0, ← hRe];clear hx0 hRe;refine (drawNew ad len cap f x0 h0.view h0.lt h0.small h0.bytes).mono ?_;rintro e y1 ⟨rfl, s1, b1, z1_⟩;have B := B0.trans (b1.mono B0.size);have hc1 : x0.heap.size < y1.heap.size := s1.cur.lt;generalize hcb : x0.heap.size = cb at *
 have hbR : w.heap.size ≤ cb := by rw [← hcb]; exact B0.size
 have R := R0.below b1 lR0;have N := N0.keep (b1.block _ lN0);have hRc : R_ < cb := lR0;have hNc : R_ + 1 < cb := lN0;clear R0 lR0 z1_ hcb b1 N0 lN0;go_wp2_with fail
 go_at_call 53
 refine (drawOf y1 s1 hc1).mono ?_;rintro e y2 ⟨r, s, m, a, c, rfl, lo, sb, hl, O, s_, g2⟩;have hOg : ∀ g, (Value.slice a m.lg.length c).ownBlock = some g → y1.heap.size ≤ g := fun g e => (O.lt g e).1
 have hOq : ∀ g, (Value.slice a m.lg.length c).ownBlock = some g → g < y2.heap.size := fun g e => (O.lt g e).2
 have zy := g2.size;clear s1;have B := B.grown g2 B.size (fun k e => by simp at e; omega);have R := R.keep (g2.block _ R.lt (by simp; omega));have N := N.keep (g2.block _ N.lt (by simp; omega));have c_ := s_.cur.lt;clear g2;have lo_ : -2 ≤ r.ep ∧ r.ep ≤ 200000 := lo.1;have O := O.base (base' := w.heap.size) (by omega);clear lo;obtain ⟨y3, hy3⟩ := mk_ ((y2.alloc (Obj.cells #[.int .i64 r.ep, .int .i64 r.ow, .int .i64 r.pa] 25)).alloc (Obj.cells #[.bool m.up, .int .i64 m.li, .int .i64 m.ep, .slice a m.lg.length c, .int .i64 m.sd, .int .i64 m.ac, .int .i64 m.al] 28));have k3 : Below y2.heap.size y2 y3 := by rw [hy3]; exact (below_new _).trans ((below_new _).mono (by simp))
 have A : RgBox y3 y2.heap.size r := by rw [hy3]; have h1 : RgBox (y2.alloc (Obj.cells #[.int .i64 r.ep, .int .i64 r.ow, .int .i64 r.pa] 25)) y2.heap.size r := ⟨RgAt.new y2 _ r, fun i => by simp [go_sem]⟩; exact h1.keep ((below_new _ : Below (y2.alloc (Obj.cells #[.int .i64 r.ep, .int .i64 r.ow, .int .i64 r.pa] 25)).heap.size (y2.alloc (Obj.cells #[.int .i64 r.ep, .int .i64 r.ow, .int .i64 r.pa] 25)) _).block _ h1.lt)
 have M : MiBox y3 (y2.heap.size + 1) m (.slice a m.lg.length c) := by rw [hy3]; have h1 := MiBox.new (y2.alloc (Obj.cells #[.int .i64 r.ep, .int .i64 r.ow, .int .i64 r.pa] 25)) 28 m (.slice a m.lg.length c); rw [show (y2.alloc (Obj.cells #[.int .i64 r.ep, .int .i64 r.ow, .int .i64 r.pa] 25)).heap.size = y2.heap.size + 1 from by simp] at h1; exact h1
 have R := R.below k3 R.lt;have N := N.keep (k3.block _ N.lt);have O := O.later k3;have lo9 := O.lt;have B := B.trans (k3.mono B.size);have zA := A.lt;have zM := M.lt;have S_ := s_.later k3;go_upto_region 3 with fail
 rw [← hy3];clear hy3;obtain ⟨q6, hq6⟩ := mk_ y2.heap.size;rw [← hq6] at A M zA zM c_ zy hOq ⊢;clear hq6 k3 lo9;have hOR : ∀ g, (Value.slice a m.lg.length c).ownBlock = some g → g ≠ R_ := fun g e => by have := hOg g e; omega
 have hON : ∀ g, (Value.slice a m.lg.length c).ownBlock = some g → g ≠ R_ + 1 := fun g e => by have := hOg g e; omega
 clear s_ c_;go_wp2_with fail
 go_at_call 54
 refine (drawOnce S_ 2 (by decide) (by decide)).mono ?_;rintro e y4 ⟨b, rfl, s_, g4⟩;have O := O.keep (fun g e => g4.block g (O.lt g e).2 (by have := hOg g e; simp; omega));have B := B.grown g4 B.size (fun k e => by simp at e; omega);have R := R.keep (g4.block _ R.lt (by simp; omega));have N := N.keep (g4.block _ N.lt (by simp; omega));have A := A.keep (g4.block _ A.lt (by simp; omega));have M := M.keep (g4.block _ M.lt (by simp; omega));have c_ := s_.cur.lt;clear g4;clear s_ c_ S_;cases b
 ·
  go_upto_region 5 with fail
  refine wp_region_held (S := fun Y => RgBox Y q6 r ∧ MiBox Y (q6 + 1) m (.slice a m.lg.length c)) (by kernel_rfl) ?_;change wpAnyH _ _ _ _ _ _ _ _ (World.drew _);have kd : Below y4.heap.size y4 y4.drew := (Below.refl _ _).drew;obtain ⟨u0, hu0⟩ := mk_ y4.drew;rw [← hu0] at kd ⊢;clear hu0;have R := R.below kd R.lt;have N := N.keep (kd.block _ N.lt);have A := A.below kd A.lt;have M := M.keep (kd.block _ M.lt);have O := O.later kd;have B := B.trans (kd.mono B.size);have hS : RgBox u0 q6 r ∧ MiBox u0 (q6 + 1) m (.slice a m.lg.length c) := ⟨A, M⟩;refine tw 0 22 (.agg #[.int .i64 r.ep, .int .i64 r.ow, .int .i64 r.pa]) ?_ (hy := by intro Y hSw; obtain ⟨X0, X1, X2⟩ := hSw.1.at_; go_simp);refine tw 1 23 (.int .i64 s) ?_;refine tw 2 24 (.agg #[.bool m.up, .int .i64 m.li, .int .i64 m.ep, .slice a m.lg.length c, .int .i64 m.sd, .int .i64 m.ac, .int .i64 m.al]) ?_ (hy := by intro Y hSw; obtain ⟨X0, X1, X2, X3, X4, X5, X6, _⟩ := hSw.2; go_simp);clear hS;refine w1 3 fun Kz hKz => ?_
  obtain ⟨⟨c0, c1, c2⟩, cf⟩ := id R;have g0 := cf 0;have g1 := cf 1;have g2 := cf 2;clear cf;go_simp
  clear c0 c1 c2 g0 g1 g2;obtain ⟨v7, hv7⟩ := mk_ (((u0.setCell ⟨R_, 0, none⟩ (.int .i64 r.ep)).setCell ⟨R_, 1, none⟩ (.int .i64 r.ow)).setCell ⟨R_, 2, none⟩ (.int .i64 r.pa));have kp : ∀ k, k ≠ R_ → v7.heap[k]? = u0.heap[k]? := fun k hk => by rw [hv7]; exact heap_put3 _ _ _ r hk
  have R : RgBox v7 R_ r := by rw [hv7]; exact R.put r
  have B : Below w.heap.size w v7 := by rw [hv7]; exact below_put3 r B (by omega)
  have O := O.keep (fun g e => kp g (hOR g e));have N := N.keep (kp _ (by omega));have A := A.keep (kp _ (by omega));have M := M.keep (kp _ (by omega));rw [← hv7];clear hv7 kp;refine hKz _ _ ⟨⟨A, M⟩, ?_⟩;clear hKz Kz;have hS : RgBox v7 q6 r ∧ MiBox v7 (q6 + 1) m (.slice a m.lg.length c) := ⟨A, M⟩;refine tw 4 3 (.int .i64 s) ?_;clear hS;refine w1 5 fun Kz hKz => ?_
  obtain ⟨c0, c1, c2, c3, c4, c5, c6, cf⟩ := id N;have g0 := cf 0;have g1 := cf 1;have g2 := cf 2;have g3 := cf 3;have g4 := cf 4;have g5 := cf 5;have g6 := cf 6;clear cf;go_simp
  clear c0 c1 c2 c3 c4 c5 c6 g0 g1 g2 g3 g4 g5 g6;obtain ⟨v8, hv7⟩ := mk_ (((((((v7.setCell ⟨(R_ + 1), 0, none⟩ (.bool m.up)).setCell ⟨(R_ + 1), 1, none⟩ (.int .i64 m.li)).setCell ⟨(R_ + 1), 2, none⟩ (.int .i64 m.ep)).setCell ⟨(R_ + 1), 3, none⟩ (.slice a m.lg.length c)).setCell ⟨(R_ + 1), 4, none⟩ (.int .i64 m.sd)).setCell ⟨(R_ + 1), 5, none⟩ (.int .i64 m.ac)).setCell ⟨(R_ + 1), 6, none⟩ (.int .i64 m.al));have kp : ∀ k, k ≠ R_ + 1 → v8.heap[k]? = v7.heap[k]? := fun k hk => by rw [hv7]; exact heap_put7 v7 (R_ + 1) k m _ hk
  have N : MiBox v8 (R_ + 1) m (.slice a m.lg.length c) := by rw [hv7]; exact N.put m _
  have B : Below w.heap.size w v8 := by rw [hv7]; exact below_put7 (q := R_ + 1) m _ B (by omega)
  have O := O.keep (fun g e => kp g (hON g e));have R := R.keep (kp _ (by omega));have A := A.keep (kp _ (by omega));have M := M.keep (kp _ (by omega));rw [← hv7];clear hv7 kp;refine hKz _ _ ⟨⟨A, M⟩, ?_⟩;clear hKz Kz;refine wpAnyH_done (by kernel_rfl) ?_ _;obtain ⟨⟨c0, c1, c2⟩, _⟩ := R;obtain ⟨n0, n1, n2, n3, n4, n5, n6, _⟩ := N;clear A M;go_wp2
  refine bodyPost_ret (v := .tuple #[.agg #[.int .i64 r.ep, .int .i64 r.ow, .int .i64 r.pa], .int .i64 s, .agg #[.bool m.up, .int .i64 m.li, .int .i64 m.ep, .slice a m.lg.length c, .int .i64 m.sd, .int .i64 m.ac, .int .i64 m.al]]) (by simp [results, Tryz.results9, go_sem, *]) rfl ⟨r, s, m, a, c, rfl, lo_, sb, hl, O, B⟩
 obtain ⟨m0, m1, m2, m3, m4, m5, m6, mf⟩ := id M;obtain ⟨⟨r0, r1, r2⟩, rf⟩ := id A;have g2 := rf 2;clear mf rf;go_upto_region 5 with fail
 clear m0 m1 m2 m3 m4 m5 m6 r0 r1 r2 g2;obtain ⟨y5, hy5⟩ := mk_ (y4.setCell ⟨q6, 2, none⟩ (.int .i64 m.li));obtain ⟨rr, hrr⟩ : ∃ q_ : Rg, q_ = ⟨r.ep, r.ow, m.li⟩ := ⟨_, rfl⟩;have kp : ∀ k, k ≠ q6 → y5.heap[k]? = y4.heap[k]? := fun k hk => by rw [hy5]; exact Below.heap_setCell _ _ _ _ hk
 have A : RgBox y5 q6 rr := by rw [hy5, hrr]; exact A.set2 m.li
 have B : Below w.heap.size w y5 := by rw [hy5]; exact B.setCell (p := ⟨q6, 2, none⟩) (by show _ ≤ q6; omega) _
 have R := R.keep (kp _ (by omega));have N := N.keep (kp _ (by omega));have M := M.keep (kp _ (by omega));have O := O.keep (fun g e => kp g (by have := hOq g e; omega));have lo2 : -2 ≤ rr.ep ∧ rr.ep ≤ 200000 := by rw [hrr]; exact lo_
 rw [← hy5];clear hy5 kp hrr lo_;refine wp_region_held (S := fun Y => RgBox Y q6 rr ∧ MiBox Y (q6 + 1) m (.slice a m.lg.length c)) (by kernel_rfl) ?_;change wpAnyH _ _ _ _ _ _ _ _ (World.drew _);have kd : Below y5.heap.size y5 y5.drew := (Below.refl _ _).drew;obtain ⟨u0, hu0⟩ := mk_ y5.drew;rw [← hu0] at kd ⊢;clear hu0;have R := R.below kd R.lt;have N := N.keep (kd.block _ N.lt);have A := A.below kd A.lt;have M := M.keep (kd.block _ M.lt);have O := O.later kd;have B := B.trans (kd.mono B.size);have hS : RgBox u0 q6 rr ∧ MiBox u0 (q6 + 1) m (.slice a m.lg.length c) := ⟨A, M⟩;refine tw 0 22 (.agg #[.int .i64 rr.ep, .int .i64 rr.ow, .int .i64 rr.pa]) ?_ (hy := by intro Y hSw; obtain ⟨X0, X1, X2⟩ := hSw.1.at_; go_simp);refine tw 1 23 (.int .i64 s) ?_;refine tw 2 24 (.agg #[.bool m.up, .int .i64 m.li, .int .i64 m.ep, .slice a m.lg.length c, .int .i64 m.sd, .int .i64 m.ac, .int .i64 m.al]) ?_ (hy := by intro Y hSw; obtain ⟨X0, X1, X2, X3, X4, X5, X6, _⟩ := hSw.2; go_simp);clear hS;refine w1 3 fun Kz hKz => ?_
 obtain ⟨⟨c0, c1, c2⟩, cf⟩ := id R;have g0 := cf 0;have g1 := cf 1;have g2 := cf 2;clear cf;go_simp
 clear c0 c1 c2 g0 g1 g2;obtain ⟨v7, hv7⟩ := mk_ (((u0.setCell ⟨R_, 0, none⟩ (.int .i64 rr.ep)).setCell ⟨R_, 1, none⟩ (.int .i64 rr.ow)).setCell ⟨R_, 2, none⟩ (.int .i64 rr.pa));have kp : ∀ k, k ≠ R_ → v7.heap[k]? = u0.heap[k]? := fun k hk => by rw [hv7]; exact heap_put3 _ _ _ rr hk
 have R : RgBox v7 R_ rr := by rw [hv7]; exact R.put rr
 have B : Below w.heap.size w v7 := by rw [hv7]; exact below_put3 rr B (by omega)
 have O := O.keep (fun g e => kp g (hOR g e));have N := N.keep (kp _ (by omega));have A := A.keep (kp _ (by omega));have M := M.keep (kp _ (by omega));rw [← hv7];clear hv7 kp;refine hKz _ _ ⟨⟨A, M⟩, ?_⟩;clear hKz Kz;have hS : RgBox v7 q6 rr ∧ MiBox v7 (q6 + 1) m (.slice a m.lg.length c) := ⟨A, M⟩;refine tw 4 3 (.int .i64 s) ?_;clear hS;refine w1 5 fun Kz hKz => ?_
 obtain ⟨c0, c1, c2, c3, c4, c5, c6, cf⟩ := id N;have g0 := cf 0;have g1 := cf 1;have g2 := cf 2;have g3 := cf 3;have g4 := cf 4;have g5 := cf 5;have g6 := cf 6;clear cf;go_simp
 clear c0 c1 c2 c3 c4 c5 c6 g0 g1 g2 g3 g4 g5 g6;obtain ⟨v8, hv7⟩ := mk_ (((((((v7.setCell ⟨(R_ + 1), 0, none⟩ (.bool m.up)).setCell ⟨(R_ + 1), 1, none⟩ (.int .i64 m.li)).setCell ⟨(R_ + 1), 2, none⟩ (.int .i64 m.ep)).setCell ⟨(R_ + 1), 3, none⟩ (.slice a m.lg.length c)).setCell ⟨(R_ + 1), 4, none⟩ (.int .i64 m.sd)).setCell ⟨(R_ + 1), 5, none⟩ (.int .i64 m.ac)).setCell ⟨(R_ + 1), 6, none⟩ (.int .i64 m.al));have kp : ∀ k, k ≠ R_ + 1 → v8.heap[k]? = v7.heap[k]? := fun k hk => by rw [hv7]; exact heap_put7 v7 (R_ + 1) k m _ hk
 have N : MiBox v8 (R_ + 1) m (.slice a m.lg.length c) := by rw [hv7]; exact N.put m _
 have B : Below w.heap.size w v8 := by rw [hv7]; exact below_put7 (q := R_ + 1) m _ B (by omega)
 have O := O.keep (fun g e => kp g (hON g e));have R := R.keep (kp _ (by omega));have A := A.keep (kp _ (by omega));have M := M.keep (kp _ (by omega));rw [← hv7];clear hv7 kp;refine hKz _ _ ⟨⟨A, M⟩, ?_⟩;clear hKz Kz;refine wpAnyH_done (by kernel_rfl) ?_ _;obtain ⟨⟨c0, c1, c2⟩, _⟩ := R;obtain ⟨n0, n1, n2, n3, n4, n5, n6, _⟩ := N;clear A M;go_wp2
 refine bodyPost_ret (v := .tuple #[.agg #[.int .i64 rr.ep, .int .i64 rr.ow, .int .i64 rr.pa], .int .i64 s, .agg #[.bool m.up, .int .i64 m.li, .int .i64 m.ep, .slice a m.lg.length c, .int .i64 m.sd, .int .i64 m.ac, .int .i64 m.al]]) (by simp [results, Tryz.results9, go_sem, *]) rfl ⟨rr, s, m, a, c, rfl, lo2, sb, hl, O, B⟩
set_option linter.unusedSimpArgs false in
set_option maxHeartbeats 8000000 in
theorem drawPairs (ad : Option Addr) (len cap : Nat) (f : Nat → Int) (w : World) (h : Code0 w ad len f) : Calls Tryz.prog 12 #[.slice ad len cap] w fun e w' => ∃ (r : Rg) (s : Int) (m : Mi) (a : Option Addr) (c : Nat) (z : Int), e = .returned (.tuple #[.agg #[.int .i64 r.ep, .int .i64 r.ow, .int .i64 r.pa], .int .i64 s, .agg #[.bool m.up, .int .i64 m.li, .int .i64 m.ep, .slice a m.lg.length c, .int .i64 m.sd, .int .i64 m.ac, .int .i64 m.al], .int .i64 z]) ∧ (-2 ≤ r.ep ∧ r.ep ≤ 200000) ∧ (-1 ≤ s ∧ s ≤ 3) ∧ m.lg.length ≤ 61 ∧ FOwn ikEnc 8 105 w.heap.size w' (.slice a m.lg.length c) m.lg ∧ Below w.heap.size w w' := by
 obtain ⟨R_, hRe⟩ := mk_ w.heap.size;have hRl0 : w.heap.size ≤ R_ := by omega
 obtain ⟨x0, hx0⟩ := mk_ ((w.alloc (Obj.cells #[.int .i64 0, .int .i64 0, .int .i64 0] 25)).alloc (Obj.cells #[.bool false, .int .i64 0, .int .i64 0, .slice none 0 0, .int .i64 0, .int .i64 0, .int .i64 0] 28));have B0 : Below w.heap.size w x0 := by rw [hx0]; exact (below_new _).trans ((below_new _).mono (by simp))
 have R0 : RgBox x0 R_ (⟨0, 0, 0⟩ : Rg) := by rw [hx0, hRe]; have h1 : RgBox (w.alloc (Obj.cells #[.int .i64 0, .int .i64 0, .int .i64 0] 25)) w.heap.size (⟨0, 0, 0⟩ : Rg) := ⟨RgAt.new w _ (⟨0, 0, 0⟩ : Rg), fun i => by simp [go_sem]⟩; exact h1.keep ((below_new _ : Below (w.alloc (Obj.cells #[.int .i64 0, .int .i64 0, .int .i64 0] 25)).heap.size (w.alloc (Obj.cells #[.int .i64 0, .int .i64 0, .int .i64 0] 25)) _).block _ h1.lt)
 have N0 : MiBox x0 (R_ + 1) (⟨false, 0, 0, [], 0, 0, 0⟩ : Mi) (.slice none 0 0) := by rw [hx0, hRe]; have h1 := MiBox.new (w.alloc (Obj.cells #[.int .i64 0, .int .i64 0, .int .i64 0] 25)) 28 (⟨false, 0, 0, [], 0, 0, 0⟩ : Mi) (.slice none 0 0); rw [show (w.alloc (Obj.cells #[.int .i64 0, .int .i64 0, .int .i64 0] 25)).heap.size = w.heap.size + 1 from by simp] at h1; exact h1
 have h0 := h.later B0 (Nat.le_refl _);have lR0 := R0.lt;have lN0 := N0.lt;go_enter Tryz.func12, Tryz.ntmps12
 go_wp2_with fail
 go_at_call 52
 rw [← hx0, ← hRe];clear hx0 hRe;refine (drawNew ad len cap f x0 h0.view h0.lt h0.small h0.bytes).mono ?_;rintro e y1 ⟨rfl, s1, b1, z1_⟩;have B := B0.trans (b1.mono B0.size);have hc1 : x0.heap.size < y1.heap.size := s1.cur.lt;generalize hcb : x0.heap.size = cb at *
 have hbR : w.heap.size ≤ cb := by rw [← hcb]; exact B0.size
 have R := R0.below b1 lR0;have N := N0.keep (b1.block _ lN0);have hRc : R_ < cb := lR0;have hNc : R_ + 1 < cb := lN0;clear R0 lR0 z1_ hcb b1 N0 lN0;go_wp2_with fail
 go_at_call 53
 refine (drawOf y1 s1 hc1).mono ?_;rintro e y2 ⟨r, s, m, a, c, rfl, lo, sb, hl, O, s_, g2⟩;have hOg : ∀ g, (Value.slice a m.lg.length c).ownBlock = some g → y1.heap.size ≤ g := fun g e => (O.lt g e).1
 have hOq : ∀ g, (Value.slice a m.lg.length c).ownBlock = some g → g < y2.heap.size := fun g e => (O.lt g e).2
 have zy := g2.size;clear s1;have B := B.grown g2 B.size (fun k e => by simp at e; omega);have R := R.keep (g2.block _ R.lt (by simp; omega));have N := N.keep (g2.block _ N.lt (by simp; omega));have c_ := s_.cur.lt;clear g2;have lo_ : -2 ≤ r.ep ∧ r.ep ≤ 200000 := lo.1;have O := O.base (base' := w.heap.size) (by omega);clear lo;obtain ⟨y3, hy3⟩ := mk_ ((y2.alloc (Obj.cells #[.int .i64 r.ep, .int .i64 r.ow, .int .i64 r.pa] 25)).alloc (Obj.cells #[.bool m.up, .int .i64 m.li, .int .i64 m.ep, .slice a m.lg.length c, .int .i64 m.sd, .int .i64 m.ac, .int .i64 m.al] 28));have k3 : Below y2.heap.size y2 y3 := by rw [hy3]; exact (below_new _).trans ((below_new _).mono (by simp))
 have A : RgBox y3 y2.heap.size r := by rw [hy3]; have h1 : RgBox (y2.alloc (Obj.cells #[.int .i64 r.ep, .int .i64 r.ow, .int .i64 r.pa] 25)) y2.heap.size r := ⟨RgAt.new y2 _ r, fun i => by simp [go_sem]⟩; exact h1.keep ((below_new _ : Below (y2.alloc (Obj.cells #[.int .i64 r.ep, .int .i64 r.ow, .int .i64 r.pa] 25)).heap.size (y2.alloc (Obj.cells #[.int .i64 r.ep, .int .i64 r.ow, .int .i64 r.pa] 25)) _).block _ h1.lt)
 have M : MiBox y3 (y2.heap.size + 1) m (.slice a m.lg.length c) := by rw [hy3]; have h1 := MiBox.new (y2.alloc (Obj.cells #[.int .i64 r.ep, .int .i64 r.ow, .int .i64 r.pa] 25)) 28 m (.slice a m.lg.length c); rw [show (y2.alloc (Obj.cells #[.int .i64 r.ep, .int .i64 r.ow, .int .i64 r.pa] 25)).heap.size = y2.heap.size + 1 from by simp] at h1; exact h1
 have R := R.below k3 R.lt;have N := N.keep (k3.block _ N.lt);have O := O.later k3;have lo9 := O.lt;have B := B.trans (k3.mono B.size);have zA := A.lt;have zM := M.lt;have S_ := s_.later k3;go_upto_region 3 with fail
 rw [← hy3];clear hy3;obtain ⟨q6, hq6⟩ := mk_ y2.heap.size;rw [← hq6] at A M zA zM c_ zy hOq ⊢;clear hq6 k3 lo9;have hOR : ∀ g, (Value.slice a m.lg.length c).ownBlock = some g → g ≠ R_ := fun g e => by have := hOg g e; omega
 have hON : ∀ g, (Value.slice a m.lg.length c).ownBlock = some g → g ≠ R_ + 1 := fun g e => by have := hOg g e; omega
 clear s_ c_;refine wp_region_held (S := fun Y => RgBox Y q6 r ∧ MiBox Y (q6 + 1) m (.slice a m.lg.length c)) (by kernel_rfl) ?_;change wpAnyH _ _ _ _ _ _ _ _ (World.drew _);have kd : Below y3.heap.size y3 y3.drew := (Below.refl _ _).drew;obtain ⟨u0, hu0⟩ := mk_ y3.drew;rw [← hu0] at kd ⊢;clear hu0;have R := R.below kd R.lt;have N := N.keep (kd.block _ N.lt);have A := A.below kd A.lt;have M := M.keep (kd.block _ M.lt);have O := O.later kd;have B := B.trans (kd.mono B.size);have hS : RgBox u0 q6 r ∧ MiBox u0 (q6 + 1) m (.slice a m.lg.length c) := ⟨A, M⟩;have S_ := S_.later kd;have zd := kd.size;refine tw 0 18 (.agg #[.int .i64 r.ep, .int .i64 r.ow, .int .i64 r.pa]) ?_ (hy := by intro Y hSw; obtain ⟨X0, X1, X2⟩ := hSw.1.at_; go_simp);refine tw 1 19 (.int .i64 s) ?_;refine tw 2 20 (.agg #[.bool m.up, .int .i64 m.li, .int .i64 m.ep, .slice a m.lg.length c, .int .i64 m.sd, .int .i64 m.ac, .int .i64 m.al]) ?_ (hy := by intro Y hSw; obtain ⟨X0, X1, X2, X3, X4, X5, X6, _⟩ := hSw.2; go_simp);refine tw 3 21 (.pointer (some ⟨cb, 0, none⟩)) ?_;refine tw 4 22 (.pointer (some ⟨q6 + 1, 6, none⟩)) ?_;refine tw 5 23 (.int .i64 m.al) ?_ (hy := by intro Y hSw; obtain ⟨X0, X1, X2, X3, X4, X5, X6, _⟩ := hSw.2; go_simp);refine tw 6 24 (.pointer (some ⟨q6 + 1, 6, none⟩)) ?_;refine tw 7 25 (.int .i64 m.al) ?_ (hy := by intro Y hSw; obtain ⟨X0, X1, X2, X3, X4, X5, X6, _⟩ := hSw.2; go_simp);clear hS;refine w1 8 fun Kz hKz => ?_
 go_simp
 obtain ⟨v1, hv1⟩ := mk_ (u0.alloc (Obj.cells #[.int .i64 0, .int .i64 m.al, .int .i64 m.al, .int .i64 1] 3));have kn : Below u0.heap.size u0 v1 := by rw [hv1]; exact below_new _
 have hg : ∀ i, i < 4 → ∃ z, v1.cell? ⟨u0.heap.size, i, none⟩ = some (.int .i64 z) ∧ True := by
  intro i h_;rw [hv1];rcases (by omega : i = 0 ∨ i = 1 ∨ i = 2 ∨ i = 3) with rfl | rfl | rfl | rfl
  ·
   exact ⟨0, by simp [go_sem], trivial⟩
  ·
   exact ⟨m.al, by simp [go_sem], trivial⟩
  ·
   exact ⟨m.al, by simp [go_sem], trivial⟩
  exact ⟨1, by simp [go_sem], trivial⟩
 have R := R.below kn R.lt;have N := N.keep (kn.block _ N.lt);have A := A.below kn A.lt;have M := M.keep (kn.block _ M.lt);have O := O.later kn;have B := B.trans (kn.mono B.size);have S_ := S_.later kn;have hne : u0.heap.size ≠ cb := by omega
 rw [← hv1];clear hv1 kn;refine hKz _ _ ⟨⟨A, M⟩, ?_⟩;clear hKz Kz;refine w1 9 fun Kz hKz => ?_
 go_simp
 go_at_call 66
 refine (pickIntP S_ (fun _ => True) u0.heap.size 4 4 hne (by decide) (by decide) hg).mono ?_;rintro e v2 ⟨z, rfl, _, s_, g4⟩;have O := O.keep (fun g e => g4.block g (O.lt g e).2 (by have := hOg g e; simp; omega));have B := B.grown g4 B.size (fun k e => by simp at e; omega);have R := R.keep (g4.block _ R.lt (by simp; omega));have N := N.keep (g4.block _ N.lt (by simp; omega));have A := A.keep (g4.block _ A.lt (by simp; omega));have M := M.keep (g4.block _ M.lt (by simp; omega));have c_ := s_.cur.lt;clear g4;clear s_ c_ S_ hg;refine hKz _ _ ⟨⟨A, M⟩, ?_⟩;clear hKz Kz;refine w1 10 fun Kz hKz => ?_
 obtain ⟨⟨c0, c1, c2⟩, cf⟩ := id R;have g0 := cf 0;have g1 := cf 1;have g2 := cf 2;clear cf;go_simp
 clear c0 c1 c2 g0 g1 g2;obtain ⟨v7, hv7⟩ := mk_ (((v2.setCell ⟨R_, 0, none⟩ (.int .i64 r.ep)).setCell ⟨R_, 1, none⟩ (.int .i64 r.ow)).setCell ⟨R_, 2, none⟩ (.int .i64 r.pa));have kp : ∀ k, k ≠ R_ → v7.heap[k]? = v2.heap[k]? := fun k hk => by rw [hv7]; exact heap_put3 _ _ _ r hk
 have R : RgBox v7 R_ r := by rw [hv7]; exact R.put r
 have B : Below w.heap.size w v7 := by rw [hv7]; exact below_put3 r B (by omega)
 have O := O.keep (fun g e => kp g (hOR g e));have N := N.keep (kp _ (by omega));have A := A.keep (kp _ (by omega));have M := M.keep (kp _ (by omega));rw [← hv7];clear hv7 kp;refine hKz _ _ ⟨⟨A, M⟩, ?_⟩;clear hKz Kz;have hS : RgBox v7 q6 r ∧ MiBox v7 (q6 + 1) m (.slice a m.lg.length c) := ⟨A, M⟩;refine tw 11 3 (.int .i64 s) ?_;clear hS;refine w1 12 fun Kz hKz => ?_
 obtain ⟨c0, c1, c2, c3, c4, c5, c6, cf⟩ := id N;have g0 := cf 0;have g1 := cf 1;have g2 := cf 2;have g3 := cf 3;have g4 := cf 4;have g5 := cf 5;have g6 := cf 6;clear cf;go_simp
 clear c0 c1 c2 c3 c4 c5 c6 g0 g1 g2 g3 g4 g5 g6;obtain ⟨v8, hv7⟩ := mk_ (((((((v7.setCell ⟨(R_ + 1), 0, none⟩ (.bool m.up)).setCell ⟨(R_ + 1), 1, none⟩ (.int .i64 m.li)).setCell ⟨(R_ + 1), 2, none⟩ (.int .i64 m.ep)).setCell ⟨(R_ + 1), 3, none⟩ (.slice a m.lg.length c)).setCell ⟨(R_ + 1), 4, none⟩ (.int .i64 m.sd)).setCell ⟨(R_ + 1), 5, none⟩ (.int .i64 m.ac)).setCell ⟨(R_ + 1), 6, none⟩ (.int .i64 m.al));have kp : ∀ k, k ≠ R_ + 1 → v8.heap[k]? = v7.heap[k]? := fun k hk => by rw [hv7]; exact heap_put7 v7 (R_ + 1) k m _ hk
 have N : MiBox v8 (R_ + 1) m (.slice a m.lg.length c) := by rw [hv7]; exact N.put m _
 have B : Below w.heap.size w v8 := by rw [hv7]; exact below_put7 (q := R_ + 1) m _ B (by omega)
 have O := O.keep (fun g e => kp g (hON g e));have R := R.keep (kp _ (by omega));have A := A.keep (kp _ (by omega));have M := M.keep (kp _ (by omega));rw [← hv7];clear hv7 kp;refine hKz _ _ ⟨⟨A, M⟩, ?_⟩;clear hKz Kz;have hS : RgBox v8 q6 r ∧ MiBox v8 (q6 + 1) m (.slice a m.lg.length c) := ⟨A, M⟩;refine tw 13 5 (.int .i64 z) ?_;refine wpAnyH_done (by kernel_rfl) ?_ _;obtain ⟨⟨c0, c1, c2⟩, _⟩ := R;obtain ⟨n0, n1, n2, n3, n4, n5, n6, _⟩ := N;clear A M hS;go_wp2
 refine bodyPost_ret (v := .tuple #[.agg #[.int .i64 r.ep, .int .i64 r.ow, .int .i64 r.pa], .int .i64 s, .agg #[.bool m.up, .int .i64 m.li, .int .i64 m.ep, .slice a m.lg.length c, .int .i64 m.sd, .int .i64 m.ac, .int .i64 m.al], .int .i64 z]) (by simp [results, Tryz.results12, go_sem, *]) rfl ⟨r, s, m, a, c, z, rfl, lo_, sb, hl, O, B⟩
set_option maxHeartbeats 4000000 in
theorem sameIns12 (ad ad' : Option Addr) (cap cap' : Nat) (L : List Ik) (w : World) (hv : FView ikEnc w ad L) (hv' : FView ikEnc w ad' L) (hl : L.length ≤ 1048576) :
  Calls Tryz.prog 70 #[.slice ad L.length cap, .slice ad' L.length cap'] w fun e w' => e = .returned (.bool true) ∧ Below w.heap.size w w' := by
 go_enter Tryz.func70, Tryz.ntmps70
 go_wp2
 go_loopw [5] (fun i wr => ∃ k : Nat, k ≤ L.length ∧ i = .int .i64 (k : Int) ∧ Below w.heap.size w wr) (fun i _ => L.length - (intOf i).toNat)
 case atStart => exact ⟨0, Nat.zero_le _, rfl, Below.refl _ _⟩
 case round =>
  obtain ⟨k, hk, rfl, K⟩ := hrel;have qA := hv.below K (hv.lt ikEnc_len (by omega));have qC := hv'.below K (hv'.lt ikEnc_len (by omega));by_cases hlt : k < L.length
  ·
   obtain ⟨ba, oa, rfl, _⟩ := qA (by omega);obtain ⟨bc, oc, rfl, _⟩ := qC (by omega);obtain ⟨o, ho⟩ : ∃ o, L.getD k Ik.nil = o := ⟨_, rfl⟩;have hA : ∀ Y, Below wr.heap.size wr Y → IkAtO Y ba (oa + k * 8) o := fun Y hY => by rw [← ho]; exact ikAtO_of ((qA.below hY (qA.lt ikEnc_len (by omega))).at_ ikEnc_len Ik.nil hlt)
   have hC : ∀ Y, Below wr.heap.size wr Y → IkAtO Y bc (oc + k * 8) o := fun Y hY => by rw [← ho]; exact ikAtO_of ((qC.below hY (qC.lt ikEnc_len (by omega))).at_ ikEnc_len Ik.nil hlt)
   clear ho;go_upto_region 6 with fail
   refine wp_region_held (S := fun Y => Below wr.heap.size wr Y) (by kernel_rfl) ?_;change wpAnyH _ _ _ _ _ _ _ _ (World.drew _);have hb0 : Below wr.heap.size wr wr.drew := (Below.refl _ _).drew;obtain ⟨u0, hy0⟩ := mk_ wr.drew;rw [← hy0] at hb0 ⊢;clear hy0;refine tw 0 17 (.slice (some ⟨ba, oa, none⟩) L.length cap) ?_;refine tw 1 18 (.int .i64 (k : Int)) ?_;refine tw 2 19 (.pointer (some ⟨ba, oa + k * 8, none⟩)) ?_ (hy := by intro Y hSw; go_simp; try omega);refine tw 3 20 (.agg #[.int .i64 o.k, .int .i64 o.q, .int .i64 o.r, .int .i64 o.c, .int .i64 o.b, .int .i64 o.p, .int .i64 o.h, .bool o.up]) ?_ (hy := by intro Y hSw; obtain ⟨X0, X1, X2, X3, X4, X5, X6, X7⟩ := hA Y hSw; go_simp);refine tw 4 21 (.slice (some ⟨bc, oc, none⟩) L.length cap') ?_;refine tw 5 22 (.int .i64 (k : Int)) ?_;refine tw 6 23 (.pointer (some ⟨bc, oc + k * 8, none⟩)) ?_ (hy := by intro Y hSw; go_simp; try omega);refine tw 7 24 (.agg #[.int .i64 o.k, .int .i64 o.q, .int .i64 o.r, .int .i64 o.c, .int .i64 o.b, .int .i64 o.p, .int .i64 o.h, .bool o.up]) ?_ (hy := by intro Y hSw; obtain ⟨X0, X1, X2, X3, X4, X5, X6, X7⟩ := hC Y hSw; go_simp);refine tw 8 25 (.bool false) ?_ (hy := by intro Y hSw; go_simp);refine wpAnyH_done (by kernel_rfl) ?_ _;go_wp2
   go_roundw
   case rel => exact ⟨k + 1, by omega, by go_num, K.trans (hb0.mono K.size)⟩
   case measure => simp [intOf]; omega
  obtain rfl : k = L.length := by omega
  go_wp2
  go_ret
  exact ⟨rfl, K⟩
theorem sameMi (m : Mi) (ad ad' : Option Addr) (cap cap' : Nat) (w : World) (hv : FView ikEnc w ad m.lg) (hv' : FView ikEnc w ad' m.lg) (hl : m.lg.length ≤ 1048576) :
  Calls Tryz.prog 17 #[.agg #[.bool m.up, .int .i64 m.li, .int .i64 m.ep, .slice ad m.lg.length cap, .int .i64 m.sd, .int .i64 m.ac, .int .i64 m.al], .agg #[.bool m.up, .int .i64 m.li, .int .i64 m.ep, .slice ad' m.lg.length cap', .int .i64 m.sd, .int .i64 m.ac, .int .i64 m.al]] w fun e w' => e = .returned (.bool true) ∧ Below w.heap.size w w' := by
 have hB := hv.lt ikEnc_len (by omega);have hB' := hv'.lt ikEnc_len (by omega);obtain ⟨y, hy⟩ := mk_ ((w.alloc (Obj.cells #[.bool m.up, .int .i64 m.li, .int .i64 m.ep, .slice ad m.lg.length cap, .int .i64 m.sd, .int .i64 m.ac, .int .i64 m.al] 28)).alloc (Obj.cells #[.bool m.up, .int .i64 m.li, .int .i64 m.ep, .slice ad' m.lg.length cap', .int .i64 m.sd, .int .i64 m.ac, .int .i64 m.al] 28));have B0 : Below w.heap.size w y := by rw [hy]; exact ((Below.refl _ _).alloc (Nat.le_refl _) _).alloc (by simp) _
 have A0 : MiAt y w.heap.size m (.slice ad m.lg.length cap) := by rw [hy]; constructor <;> simp [go_sem]
 have A1 : MiAt y (w.heap.size + 1) m (.slice ad' m.lg.length cap') := by rw [hy]; constructor <;> simp [go_sem]
 have S1 := A1.lt;go_enter Tryz.func17, Tryz.ntmps17
 go_wp2_with fail
 go_at_call 70
 rw [← hy];clear hy;refine (sameIns12 ad ad' cap cap' m.lg y (hv.below B0 hB) (hv'.below B0 hB') hl).mono ?_;rintro e w1 ⟨rfl, k1⟩;have B1 := B0.trans (k1.mono B0.size);have A0 := A0.below k1 (by omega);have A1 := A1.below k1 (by omega);clear k1 B0;obtain ⟨a0, a1, a2, a3, a4, a5, a6⟩ := A0;obtain ⟨b0, b1, b2, b3, b4, b5, b6⟩ := A1;go_wp2
 go_ret
 exact ⟨rfl, B1⟩
end Go.Proofs.YtnpiljegdiconaaGreat
