import Derived.Test.YtnpiljegdiconaaGreatQM4
namespace Go.Proofs.YtnpiljegdiconaaGreat
open Go.ChangeShapes Go.WideShapes Go.ChangeAt Go.RowKit
open Go.ChangeMaps (open_string shut_string)
set_option linter.unusedVariables false
set_option maxRecDepth 100000
set_option maxHeartbeats 4000000 in
theorem inOkI (x : Ik) (w : World) : Calls Tryz.prog 147 #[.agg #[.int .i64 x.k, .int .i64 x.q, .int .i64 x.r, .int .i64 x.c, .int .i64 x.b, .int .i64 x.p, .int .i64 x.h, .bool x.up]] w fun e w' => e = .returned (.bool (inOk x)) ∧ Below w.heap.size w w' := by
 obtain ⟨k, q, r, c, b, p, h, up⟩ := x;dsimp only
 obtain ⟨R, hR⟩ := mk_ (inOk ⟨k, q, r, c, b, p, h, up⟩);rw [← hR];by_cases h1 : k = 1
 ·
  subst h1;have hR1 : Hid (R = (decide (0 ≤ q ∧ q ≤ 3) && (vOk r c b p && (decide (0 ≤ h ∧ h ≤ 8) && !up)))) := hR;clear hR;have hm1 : ∀ w_ : World, (method 388 252 (.agg #[.int .i64 q, .int .i64 r, .int .i64 c, .int .i64 b, .int .i64 p, .int .i64 h]) "loop.example/g00470/impl.fits").run Tryz.prog w_ = .ok (271, .agg #[.int .i64 q, .int .i64 r, .int .i64 c, .int .i64 b, .int .i64 p, .int .i64 h]) w_ := fun _ => by kernel_rfl
  have hm2 : ∀ w_ : World, (method 388 252 (.agg #[.int .i64 q, .int .i64 r, .int .i64 c, .int .i64 b, .int .i64 p, .int .i64 h]) "loop.example/g00470/impl.record").run Tryz.prog w_ = .ok (272, .agg #[.int .i64 q, .int .i64 r, .int .i64 c, .int .i64 b, .int .i64 p, .int .i64 h]) w_ := fun _ => by kernel_rfl
  cases hF : (decide (0 ≤ q ∧ q ≤ 3) && (vOk r c b p && decide (0 ≤ h ∧ h ≤ 8))) with
  | false =>
   have hN : Hid (R = false) := by unfold Hid; rw [hR1.out, show (decide (0 ≤ q ∧ q ≤ 3) && (vOk r c b p && (decide (0 ≤ h ∧ h ≤ 8) && !up))) = ((decide (0 ≤ q ∧ q ≤ 3) && (vOk r c b p && decide (0 ≤ h ∧ h ≤ 8))) && !up) by simp [Bool.and_assoc], hF]; rfl
   replace hF : Hid _ := hF;clear hR1;obtain ⟨y, hy⟩ := mk_ (w.alloc (Obj.cells #[.int .i64 1, .int .i64 q, .int .i64 r, .int .i64 c, .int .i64 b, .int .i64 p, .int .i64 h, .bool up] 105));have B0 : Below w.heap.size w y := by rw [hy]; exact below_new _
   have A0 : InAt y w.heap.size ⟨1, q, r, c, b, p, h, up⟩ := by rw [hy]; exact InAt.new w _ ⟨1, q, r, c, b, p, h, up⟩
   have S0 := A0.lt;go_enter Tryz.func147, Tryz.ntmps147
   go_wp2_with fail
   go_at_call 189
   rw [← hy];clear hy;refine (arrI ⟨1, q, r, c, b, p, h, up⟩ y).mono ?_;rintro e y1 ⟨rfl, k1⟩;have B1 := B0.trans (k1.mono B0.size);have A1 := A0.below k1 S0;have S1 := A1.lt;clear A0 k1 B0 S0;rw [show arrV ⟨1, q, r, c, b, p, h, up⟩ = .iface 252 (.agg #[.int .i64 q, .int .i64 r, .int .i64 c, .int .i64 b, .int .i64 p, .int .i64 h]) from rfl];go_upto_region 2 with fail
   refine wp_region_held (S := fun Y => Below y1.heap.size y1 Y) (by kernel_rfl) ?_;change wpAnyH _ _ _ _ _ _ _ _ (World.drew _);have hb0 : Below y1.heap.size y1 y1.drew := (Below.refl _ _).drew;obtain ⟨u0, hy0⟩ := mk_ y1.drew;rw [← hy0] at hb0 ⊢;clear hy0;refine tw 0 6 (.iface 252 (.agg #[.int .i64 q, .int .i64 r, .int .i64 c, .int .i64 b, .int .i64 p, .int .i64 h])) ?_;refine tw 1 7 (.bool true) ?_;refine tw 2 8 (.bool true) ?_;refine tw 3 9 (.iface 252 (.agg #[.int .i64 q, .int .i64 r, .int .i64 c, .int .i64 b, .int .i64 p, .int .i64 h])) ?_;refine wpAnyH_all (rs := [4]) (by kernel_rfl) (by simp) ?_;intro i hi; obtain rfl : i = 4 := by simpa using hi
   refine wpOp_step rfl (fun K hK => ?_);rw [if_pos (by kernel_rfl)];go_simp
   go_at_call 271
   refine (ccFits q r c b p h u0).mono ?_;rintro e u1 ⟨rfl, kq⟩;have hb1 : Below y1.heap.size y1 u1 := hb0.trans (kq.mono hb0.size);clear kq;rw [hF.out];refine hK _ _ ⟨hb1, ?_⟩;clear hK K hi;refine tw 5 11 (.bool false) ?_;refine tw 6 12 (.bool false) ?_;refine ts 7 13 ?_;refine ts 8 14 ?_;refine ts 9 15 ?_;refine ts 10 16 ?_;refine tw 11 17 (.bool false) ?_;refine tw 12 2 (.bool false) ?_;refine wpAnyH_done (by kernel_rfl) ?_ _;go_wp2
   go_ret
   exact ⟨by rw [hN.out]; rfl, B1.trans (hb1.mono B1.size)⟩
  | true =>
   have hN : Hid (R = !up) := by unfold Hid; rw [hR1.out, show (decide (0 ≤ q ∧ q ≤ 3) && (vOk r c b p && (decide (0 ≤ h ∧ h ≤ 8) && !up))) = ((decide (0 ≤ q ∧ q ≤ 3) && (vOk r c b p && decide (0 ≤ h ∧ h ≤ 8))) && !up) by simp [Bool.and_assoc], hF]; rfl
   replace hF : Hid _ := hF;clear hR1;cases up
   ·
    obtain ⟨y, hy⟩ := mk_ (w.alloc (Obj.cells #[.int .i64 1, .int .i64 q, .int .i64 r, .int .i64 c, .int .i64 b, .int .i64 p, .int .i64 h, .bool false] 105));have B0 : Below w.heap.size w y := by rw [hy]; exact below_new _
    have A0 : InAt y w.heap.size ⟨1, q, r, c, b, p, h, false⟩ := by rw [hy]; exact InAt.new w _ ⟨1, q, r, c, b, p, h, false⟩
    have S0 := A0.lt;go_enter Tryz.func147, Tryz.ntmps147
    go_wp2_with fail
    go_at_call 189
    rw [← hy];clear hy;refine (arrI ⟨1, q, r, c, b, p, h, false⟩ y).mono ?_;rintro e y1 ⟨rfl, k1⟩;have B1 := B0.trans (k1.mono B0.size);have A1 := A0.below k1 S0;have S1 := A1.lt;clear A0 k1 B0 S0;rw [show arrV ⟨1, q, r, c, b, p, h, false⟩ = .iface 252 (.agg #[.int .i64 q, .int .i64 r, .int .i64 c, .int .i64 b, .int .i64 p, .int .i64 h]) from rfl];go_upto_region 2 with fail
    refine wp_region_held (S := fun Y => Below y1.heap.size y1 Y) (by kernel_rfl) ?_;change wpAnyH _ _ _ _ _ _ _ _ (World.drew _);have hb0 : Below y1.heap.size y1 y1.drew := (Below.refl _ _).drew;obtain ⟨u0, hy0⟩ := mk_ y1.drew;rw [← hy0] at hb0 ⊢;clear hy0;refine tw 0 6 (.iface 252 (.agg #[.int .i64 q, .int .i64 r, .int .i64 c, .int .i64 b, .int .i64 p, .int .i64 h])) ?_;refine tw 1 7 (.bool true) ?_;refine tw 2 8 (.bool true) ?_;refine tw 3 9 (.iface 252 (.agg #[.int .i64 q, .int .i64 r, .int .i64 c, .int .i64 b, .int .i64 p, .int .i64 h])) ?_;refine wpAnyH_all (rs := [4]) (by kernel_rfl) (by simp) ?_;intro i hi; obtain rfl : i = 4 := by simpa using hi
    refine wpOp_step rfl (fun K hK => ?_);rw [if_pos (by kernel_rfl)];go_simp
    go_at_call 271
    refine (ccFits q r c b p h u0).mono ?_;rintro e u1 ⟨rfl, kq⟩;have hb1 : Below y1.heap.size y1 u1 := hb0.trans (kq.mono hb0.size);clear kq;rw [hF.out];refine hK _ _ ⟨hb1, ?_⟩;clear hK K hi;refine tw 5 11 (.bool true) ?_;refine tw 6 12 (.bool true) ?_;refine tw 7 13 (.iface 252 (.agg #[.int .i64 q, .int .i64 r, .int .i64 c, .int .i64 b, .int .i64 p, .int .i64 h])) ?_;refine tw 9 15 (.agg #[.int .i64 1, .int .i64 q, .int .i64 r, .int .i64 c, .int .i64 b, .int .i64 p, .int .i64 h, .bool false]) ?_ (hy := by intro Y hSw; obtain ⟨X0, X1, X2, X3, X4, X5, X6, X7⟩ := A1.below hSw (by omega); go_simp);refine wpAnyH_all (rs := [8]) (by kernel_rfl) (by simp) ?_;intro i hi; obtain rfl : i = 8 := by simpa using hi
    refine wpOp_step rfl (fun K hK => ?_);rw [if_pos (by kernel_rfl)];go_simp
    go_at_call 272
    refine (ccRec q r c b p h u1).mono ?_;rintro e u2 ⟨rfl, kq⟩;have hb2 : Below y1.heap.size y1 u2 := hb1.trans (kq.mono hb1.size);clear kq;refine hK _ _ ⟨hb2, ?_⟩;clear hK K hi;refine tw 10 16 (.bool true) ?_ (hy := by intro Y hSw; go_simp; all_goals ((repeat' split) <;> first | (simp_all; done) | grind));refine tw 11 17 (.bool true) ?_;refine tw 12 2 (.bool true) ?_;refine wpAnyH_done (by kernel_rfl) ?_ _;go_wp2
    go_ret
    exact ⟨by rw [hN.out]; rfl, B1.trans (hb2.mono B1.size)⟩
   obtain ⟨y, hy⟩ := mk_ (w.alloc (Obj.cells #[.int .i64 1, .int .i64 q, .int .i64 r, .int .i64 c, .int .i64 b, .int .i64 p, .int .i64 h, .bool true] 105));have B0 : Below w.heap.size w y := by rw [hy]; exact below_new _
   have A0 : InAt y w.heap.size ⟨1, q, r, c, b, p, h, true⟩ := by rw [hy]; exact InAt.new w _ ⟨1, q, r, c, b, p, h, true⟩
   have S0 := A0.lt;go_enter Tryz.func147, Tryz.ntmps147
   go_wp2_with fail
   go_at_call 189
   rw [← hy];clear hy;refine (arrI ⟨1, q, r, c, b, p, h, true⟩ y).mono ?_;rintro e y1 ⟨rfl, k1⟩;have B1 := B0.trans (k1.mono B0.size);have A1 := A0.below k1 S0;have S1 := A1.lt;clear A0 k1 B0 S0;rw [show arrV ⟨1, q, r, c, b, p, h, true⟩ = .iface 252 (.agg #[.int .i64 q, .int .i64 r, .int .i64 c, .int .i64 b, .int .i64 p, .int .i64 h]) from rfl];go_upto_region 2 with fail
   refine wp_region_held (S := fun Y => Below y1.heap.size y1 Y) (by kernel_rfl) ?_;change wpAnyH _ _ _ _ _ _ _ _ (World.drew _);have hb0 : Below y1.heap.size y1 y1.drew := (Below.refl _ _).drew;obtain ⟨u0, hy0⟩ := mk_ y1.drew;rw [← hy0] at hb0 ⊢;clear hy0;refine tw 0 6 (.iface 252 (.agg #[.int .i64 q, .int .i64 r, .int .i64 c, .int .i64 b, .int .i64 p, .int .i64 h])) ?_;refine tw 1 7 (.bool true) ?_;refine tw 2 8 (.bool true) ?_;refine tw 3 9 (.iface 252 (.agg #[.int .i64 q, .int .i64 r, .int .i64 c, .int .i64 b, .int .i64 p, .int .i64 h])) ?_;refine wpAnyH_all (rs := [4]) (by kernel_rfl) (by simp) ?_;intro i hi; obtain rfl : i = 4 := by simpa using hi
   refine wpOp_step rfl (fun K hK => ?_);rw [if_pos (by kernel_rfl)];go_simp
   go_at_call 271
   refine (ccFits q r c b p h u0).mono ?_;rintro e u1 ⟨rfl, kq⟩;have hb1 : Below y1.heap.size y1 u1 := hb0.trans (kq.mono hb0.size);clear kq;rw [hF.out];refine hK _ _ ⟨hb1, ?_⟩;clear hK K hi;refine tw 5 11 (.bool true) ?_;refine tw 6 12 (.bool true) ?_;refine tw 7 13 (.iface 252 (.agg #[.int .i64 q, .int .i64 r, .int .i64 c, .int .i64 b, .int .i64 p, .int .i64 h])) ?_;refine tw 9 15 (.agg #[.int .i64 1, .int .i64 q, .int .i64 r, .int .i64 c, .int .i64 b, .int .i64 p, .int .i64 h, .bool true]) ?_ (hy := by intro Y hSw; obtain ⟨X0, X1, X2, X3, X4, X5, X6, X7⟩ := A1.below hSw (by omega); go_simp);refine wpAnyH_all (rs := [8]) (by kernel_rfl) (by simp) ?_;intro i hi; obtain rfl : i = 8 := by simpa using hi
   refine wpOp_step rfl (fun K hK => ?_);rw [if_pos (by kernel_rfl)];go_simp
   go_at_call 272
   refine (ccRec q r c b p h u1).mono ?_;rintro e u2 ⟨rfl, kq⟩;have hb2 : Below y1.heap.size y1 u2 := hb1.trans (kq.mono hb1.size);clear kq;refine hK _ _ ⟨hb2, ?_⟩;clear hK K hi;refine tw 10 16 (.bool false) ?_ (hy := by intro Y hSw; go_simp; all_goals ((repeat' split) <;> first | (simp_all; done) | grind));refine tw 11 17 (.bool false) ?_;refine tw 12 2 (.bool false) ?_;refine wpAnyH_done (by kernel_rfl) ?_ _;go_wp2
   go_ret
   exact ⟨by rw [hN.out]; rfl, B1.trans (hb2.mono B1.size)⟩
 by_cases h2 : k = 2
 ·
  subst h2;have hN : Hid (R = decide (q = 0 ∧ r = 0 ∧ c = 0 ∧ b = 0 ∧ p = 0 ∧ h = 0 ∧ up = false)) := hR;clear hR h1;have hm1 : ∀ w_ : World, (method 388 253 (.agg #[]) "loop.example/g00470/impl.fits").run Tryz.prog w_ = .ok (274, .agg #[]) w_ := fun _ => by kernel_rfl
  have hm2 : ∀ w_ : World, (method 388 253 (.agg #[]) "loop.example/g00470/impl.record").run Tryz.prog w_ = .ok (275, .agg #[]) w_ := fun _ => by kernel_rfl
  obtain ⟨y, hy⟩ := mk_ (w.alloc (Obj.cells #[.int .i64 2, .int .i64 q, .int .i64 r, .int .i64 c, .int .i64 b, .int .i64 p, .int .i64 h, .bool up] 105));have B0 : Below w.heap.size w y := by rw [hy]; exact below_new _
  have A0 : InAt y w.heap.size ⟨2, q, r, c, b, p, h, up⟩ := by rw [hy]; exact InAt.new w _ ⟨2, q, r, c, b, p, h, up⟩
  have S0 := A0.lt;go_enter Tryz.func147, Tryz.ntmps147
  go_wp2_with fail
  go_at_call 189
  rw [← hy];clear hy;refine (arrI ⟨2, q, r, c, b, p, h, up⟩ y).mono ?_;rintro e y1 ⟨rfl, k1⟩;have B1 := B0.trans (k1.mono B0.size);have A1 := A0.below k1 S0;have S1 := A1.lt;clear A0 k1 B0 S0;rw [show arrV ⟨2, q, r, c, b, p, h, up⟩ = .iface 253 (.agg #[]) from rfl];go_upto_region 2 with fail
  refine wp_region_held (S := fun Y => Below y1.heap.size y1 Y) (by kernel_rfl) ?_;change wpAnyH _ _ _ _ _ _ _ _ (World.drew _);have hb0 : Below y1.heap.size y1 y1.drew := (Below.refl _ _).drew;obtain ⟨u0, hy0⟩ := mk_ y1.drew;rw [← hy0] at hb0 ⊢;clear hy0;refine tw 0 6 (.iface 253 (.agg #[])) ?_;refine tw 1 7 (.bool true) ?_;refine tw 2 8 (.bool true) ?_;refine tw 3 9 (.iface 253 (.agg #[])) ?_;refine wpAnyH_all (rs := [4]) (by kernel_rfl) (by simp) ?_;intro i hi; obtain rfl : i = 4 := by simpa using hi
  refine wpOp_step rfl (fun K hK => ?_);rw [if_pos (by kernel_rfl)];go_simp
  go_at_call 274
  refine (tcFits u0).mono ?_;rintro e u1 ⟨rfl, kq⟩;have hb1 : Below y1.heap.size y1 u1 := hb0.trans (kq.mono hb0.size);clear kq;refine hK _ _ ⟨hb1, ?_⟩;clear hK K hi;refine tw 5 11 (.bool true) ?_;refine tw 6 12 (.bool true) ?_;refine tw 7 13 (.iface 253 (.agg #[])) ?_;refine tw 9 15 (.agg #[.int .i64 2, .int .i64 q, .int .i64 r, .int .i64 c, .int .i64 b, .int .i64 p, .int .i64 h, .bool up]) ?_ (hy := by intro Y hSw; obtain ⟨X0, X1, X2, X3, X4, X5, X6, X7⟩ := A1.below hSw (by omega); go_simp);refine wpAnyH_all (rs := [8]) (by kernel_rfl) (by simp) ?_;intro i hi; obtain rfl : i = 8 := by simpa using hi
  refine wpOp_step rfl (fun K hK => ?_);rw [if_pos (by kernel_rfl)];go_simp
  go_at_call 275
  refine (tcRec u1).mono ?_;rintro e u2 ⟨rfl, kq⟩;have hb2 : Below y1.heap.size y1 u2 := hb1.trans (kq.mono hb1.size);clear kq;refine hK _ _ ⟨hb2, ?_⟩;clear hK K hi;refine tw 10 16 (.bool (decide (q = 0 ∧ r = 0 ∧ c = 0 ∧ b = 0 ∧ p = 0 ∧ h = 0 ∧ up = false))) ?_ (hy := by intro Y hSw; go_simp; all_goals ((repeat' split) <;> first | (simp_all; done) | grind));refine tw 11 17 (.bool (decide (q = 0 ∧ r = 0 ∧ c = 0 ∧ b = 0 ∧ p = 0 ∧ h = 0 ∧ up = false))) ?_;refine tw 12 2 (.bool (decide (q = 0 ∧ r = 0 ∧ c = 0 ∧ b = 0 ∧ p = 0 ∧ h = 0 ∧ up = false))) ?_;refine wpAnyH_done (by kernel_rfl) ?_ _;go_wp2
  go_ret
  exact ⟨by rw [hN.out]; rfl, B1.trans (hb2.mono B1.size)⟩
 by_cases h3 : k = 3
 ·
  subst h3;have hR1 : Hid (R = (decide (0 ≤ q ∧ q ≤ 3) && (decide (r = 0 ∧ c = 0 ∧ b = 0 ∧ p = 0) && (h == 0)))) := hR;clear hR h1 h2;have hm1 : ∀ w_ : World, (method 388 255 (.agg #[.int .i64 q, .bool up]) "loop.example/g00470/impl.fits").run Tryz.prog w_ = .ok (276, .agg #[.int .i64 q, .bool up]) w_ := fun _ => by kernel_rfl
  have hm2 : ∀ w_ : World, (method 388 255 (.agg #[.int .i64 q, .bool up]) "loop.example/g00470/impl.record").run Tryz.prog w_ = .ok (277, .agg #[.int .i64 q, .bool up]) w_ := fun _ => by kernel_rfl
  cases hF : decide (0 ≤ q ∧ q ≤ 3) with
  | false =>
   have hN : Hid (R = false) := by unfold Hid; rw [hR1.out, hF]; rfl
   replace hF : Hid _ := hF;clear hR1;obtain ⟨y, hy⟩ := mk_ (w.alloc (Obj.cells #[.int .i64 3, .int .i64 q, .int .i64 r, .int .i64 c, .int .i64 b, .int .i64 p, .int .i64 h, .bool up] 105));have B0 : Below w.heap.size w y := by rw [hy]; exact below_new _
   have A0 : InAt y w.heap.size ⟨3, q, r, c, b, p, h, up⟩ := by rw [hy]; exact InAt.new w _ ⟨3, q, r, c, b, p, h, up⟩
   have S0 := A0.lt;go_enter Tryz.func147, Tryz.ntmps147
   go_wp2_with fail
   go_at_call 189
   rw [← hy];clear hy;refine (arrI ⟨3, q, r, c, b, p, h, up⟩ y).mono ?_;rintro e y1 ⟨rfl, k1⟩;have B1 := B0.trans (k1.mono B0.size);have A1 := A0.below k1 S0;have S1 := A1.lt;clear A0 k1 B0 S0;rw [show arrV ⟨3, q, r, c, b, p, h, up⟩ = .iface 255 (.agg #[.int .i64 q, .bool up]) from rfl];go_upto_region 2 with fail
   refine wp_region_held (S := fun Y => Below y1.heap.size y1 Y) (by kernel_rfl) ?_;change wpAnyH _ _ _ _ _ _ _ _ (World.drew _);have hb0 : Below y1.heap.size y1 y1.drew := (Below.refl _ _).drew;obtain ⟨u0, hy0⟩ := mk_ y1.drew;rw [← hy0] at hb0 ⊢;clear hy0;refine tw 0 6 (.iface 255 (.agg #[.int .i64 q, .bool up])) ?_;refine tw 1 7 (.bool true) ?_;refine tw 2 8 (.bool true) ?_;refine tw 3 9 (.iface 255 (.agg #[.int .i64 q, .bool up])) ?_;refine wpAnyH_all (rs := [4]) (by kernel_rfl) (by simp) ?_;intro i hi; obtain rfl : i = 4 := by simpa using hi
   refine wpOp_step rfl (fun K hK => ?_);rw [if_pos (by kernel_rfl)];go_simp
   go_at_call 276
   refine (lcFits q up u0).mono ?_;rintro e u1 ⟨rfl, kq⟩;have hb1 : Below y1.heap.size y1 u1 := hb0.trans (kq.mono hb0.size);clear kq;rw [hF.out];refine hK _ _ ⟨hb1, ?_⟩;clear hK K hi;refine tw 5 11 (.bool false) ?_;refine tw 6 12 (.bool false) ?_;refine ts 7 13 ?_;refine ts 8 14 ?_;refine ts 9 15 ?_;refine ts 10 16 ?_;refine tw 11 17 (.bool false) ?_;refine tw 12 2 (.bool false) ?_;refine wpAnyH_done (by kernel_rfl) ?_ _;go_wp2
   go_ret
   exact ⟨by rw [hN.out]; rfl, B1.trans (hb1.mono B1.size)⟩
  | true =>
   have hN : Hid (R = decide (r = 0 ∧ c = 0 ∧ b = 0 ∧ p = 0 ∧ h = 0)) := by
    unfold Hid; rw [hR1.out, hF, Bool.true_and]
    by_cases e : h = 0
    ·
     subst e; simp
    simp [e]
   replace hF : Hid _ := hF;clear hR1;obtain ⟨y, hy⟩ := mk_ (w.alloc (Obj.cells #[.int .i64 3, .int .i64 q, .int .i64 r, .int .i64 c, .int .i64 b, .int .i64 p, .int .i64 h, .bool up] 105));have B0 : Below w.heap.size w y := by rw [hy]; exact below_new _
   have A0 : InAt y w.heap.size ⟨3, q, r, c, b, p, h, up⟩ := by rw [hy]; exact InAt.new w _ ⟨3, q, r, c, b, p, h, up⟩
   have S0 := A0.lt;go_enter Tryz.func147, Tryz.ntmps147
   go_wp2_with fail
   go_at_call 189
   rw [← hy];clear hy;refine (arrI ⟨3, q, r, c, b, p, h, up⟩ y).mono ?_;rintro e y1 ⟨rfl, k1⟩;have B1 := B0.trans (k1.mono B0.size);have A1 := A0.below k1 S0;have S1 := A1.lt;clear A0 k1 B0 S0;rw [show arrV ⟨3, q, r, c, b, p, h, up⟩ = .iface 255 (.agg #[.int .i64 q, .bool up]) from rfl];go_upto_region 2 with fail
   refine wp_region_held (S := fun Y => Below y1.heap.size y1 Y) (by kernel_rfl) ?_;change wpAnyH _ _ _ _ _ _ _ _ (World.drew _);have hb0 : Below y1.heap.size y1 y1.drew := (Below.refl _ _).drew;obtain ⟨u0, hy0⟩ := mk_ y1.drew;rw [← hy0] at hb0 ⊢;clear hy0;refine tw 0 6 (.iface 255 (.agg #[.int .i64 q, .bool up])) ?_;refine tw 1 7 (.bool true) ?_;refine tw 2 8 (.bool true) ?_;refine tw 3 9 (.iface 255 (.agg #[.int .i64 q, .bool up])) ?_;refine wpAnyH_all (rs := [4]) (by kernel_rfl) (by simp) ?_;intro i hi; obtain rfl : i = 4 := by simpa using hi
   refine wpOp_step rfl (fun K hK => ?_);rw [if_pos (by kernel_rfl)];go_simp
   go_at_call 276
   refine (lcFits q up u0).mono ?_;rintro e u1 ⟨rfl, kq⟩;have hb1 : Below y1.heap.size y1 u1 := hb0.trans (kq.mono hb0.size);clear kq;rw [hF.out];refine hK _ _ ⟨hb1, ?_⟩;clear hK K hi;refine tw 5 11 (.bool true) ?_;refine tw 6 12 (.bool true) ?_;refine tw 7 13 (.iface 255 (.agg #[.int .i64 q, .bool up])) ?_;refine tw 9 15 (.agg #[.int .i64 3, .int .i64 q, .int .i64 r, .int .i64 c, .int .i64 b, .int .i64 p, .int .i64 h, .bool up]) ?_ (hy := by intro Y hSw; obtain ⟨X0, X1, X2, X3, X4, X5, X6, X7⟩ := A1.below hSw (by omega); go_simp);refine wpAnyH_all (rs := [8]) (by kernel_rfl) (by simp) ?_;intro i hi; obtain rfl : i = 8 := by simpa using hi
   refine wpOp_step rfl (fun K hK => ?_);rw [if_pos (by kernel_rfl)];go_simp
   go_at_call 277
   refine (lcRec q up u1).mono ?_;rintro e u2 ⟨rfl, kq⟩;have hb2 : Below y1.heap.size y1 u2 := hb1.trans (kq.mono hb1.size);clear kq;refine hK _ _ ⟨hb2, ?_⟩;clear hK K hi;refine tw 10 16 (.bool (decide (r = 0 ∧ c = 0 ∧ b = 0 ∧ p = 0 ∧ h = 0))) ?_ (hy := by intro Y hSw; go_simp; all_goals ((repeat' split) <;> first | (simp_all; done) | grind));refine tw 11 17 (.bool (decide (r = 0 ∧ c = 0 ∧ b = 0 ∧ p = 0 ∧ h = 0))) ?_;refine tw 12 2 (.bool (decide (r = 0 ∧ c = 0 ∧ b = 0 ∧ p = 0 ∧ h = 0))) ?_;refine wpAnyH_done (by kernel_rfl) ?_ _;go_wp2
   go_ret
   exact ⟨by rw [hN.out]; rfl, B1.trans (hb2.mono B1.size)⟩
 have hN : Hid (R = false) := by unfold Hid; rw [hR]; unfold inOk; rw [if_neg h1, if_neg h3, if_neg h2]
 have hv : Hid (arrV ⟨k, q, r, c, b, p, h, up⟩ = .nilIface) := by unfold Hid arrV; rw [if_neg h1, if_neg h2, if_neg h3]
 clear hR h1 h2 h3;obtain ⟨y, hy⟩ := mk_ (w.alloc (Obj.cells #[.int .i64 k, .int .i64 q, .int .i64 r, .int .i64 c, .int .i64 b, .int .i64 p, .int .i64 h, .bool up] 105));have B0 : Below w.heap.size w y := by rw [hy]; exact below_new _
 have A0 : InAt y w.heap.size ⟨k, q, r, c, b, p, h, up⟩ := by rw [hy]; exact InAt.new w _ ⟨k, q, r, c, b, p, h, up⟩
 have S0 := A0.lt;go_enter Tryz.func147, Tryz.ntmps147
 go_wp2_with fail
 go_at_call 189
 rw [← hy];clear hy;refine (arrI ⟨k, q, r, c, b, p, h, up⟩ y).mono ?_;rintro e y1 ⟨rfl, k1⟩;have B1 := B0.trans (k1.mono B0.size);have A1 := A0.below k1 S0;have S1 := A1.lt;clear A0 k1 B0 S0;rw [hv.out];go_upto_region 2 with fail
 refine wp_region_held (S := fun Y => Below y1.heap.size y1 Y) (by kernel_rfl) ?_;change wpAnyH _ _ _ _ _ _ _ _ (World.drew _);have hb0 : Below y1.heap.size y1 y1.drew := (Below.refl _ _).drew;obtain ⟨u0, hy0⟩ := mk_ y1.drew;rw [← hy0] at hb0 ⊢;clear hy0;refine tw 0 6 .nilIface ?_;refine tw 1 7 (.bool false) ?_;refine tw 2 8 (.bool false) ?_;refine ts 3 9 ?_;refine ts 4 10 ?_;refine tw 5 11 (.bool false) ?_;refine tw 6 12 (.bool false) ?_;refine ts 7 13 ?_;refine ts 8 14 ?_;refine ts 9 15 ?_;refine ts 10 16 ?_;refine tw 11 17 (.bool false) ?_;refine tw 12 2 (.bool false) ?_;refine wpAnyH_done (by kernel_rfl) ?_ _;go_wp2
 go_ret
 exact ⟨by rw [hN.out]; rfl, B1.trans (hb0.mono B1.size)⟩
end Go.Proofs.YtnpiljegdiconaaGreat
