import Derived.Test.YtjmnaeeknomiaaaGreatRM6
namespace Go.Proofs.YtjmnaeeknomiaaaGreat
open Go.ChangeShapes Go.WideShapes Go.ChangeAt Go.RowKit
open Go.ChangeMaps (open_string shut_string)
set_option linter.unusedVariables false
set_option maxRecDepth 100000
set_option maxHeartbeats 32000000
set_option linter.unusedSimpArgs false
open Go.Proofs.Tryz
attribute [local go_sem] ji ja
theorem Gb (x : Ik) (w : World) : Calls prog 97 #[.agg #[ji x.k, ji x.q, ji x.r, ji x.c, ji x.b, ji x.p, ji x.h, .bool x.up]] w fun e w' => e = .returned (.bool (Ay x)) ∧ Bw w w' := by
 obtain ⟨k, q, r, c, b, p, h, up⟩ := x;dsimp only
 obtain ⟨R, hR⟩ := AC (Ay ⟨k, q, r, c, b, p, h, up⟩);rw [← hR];by_cases h1 : k = 1
 ·
  subst h1;have hR1 : Hid (R = (decide (0 ≤ q ∧ q ≤ 3) && (Ad r c b p && (decide (0 ≤ h ∧ h ≤ 8) && !up)))) := hR;clear hR;have hm1 : ∀ w_ : World, (method 337 187 (.agg #[ji q, ji r, ji c, ji b, ji p, ji h]) "loop.example/g00470/impl.fits").run prog w_ = .ok (223, .agg #[ji q, ji r, ji c, ji b, ji p, ji h]) w_ := fun _ => by kernel_rfl
  have hm2 : ∀ w_ : World, (method 337 187 (.agg #[ji q, ji r, ji c, ji b, ji p, ji h]) "loop.example/g00470/impl.record").run prog w_ = .ok (224, .agg #[ji q, ji r, ji c, ji b, ji p, ji h]) w_ := fun _ => by kernel_rfl
  cases hF : (decide (0 ≤ q ∧ q ≤ 3) && (Ad r c b p && decide (0 ≤ h ∧ h ≤ 8))) with
  | false =>
   have hN : Hid (R = false) := by unfold Hid; rw [hR1.out, show (decide (0 ≤ q ∧ q ≤ 3) && (Ad r c b p && (decide (0 ≤ h ∧ h ≤ 8) && !up))) = ((decide (0 ≤ q ∧ q ≤ 3) && (Ad r c b p && decide (0 ≤ h ∧ h ≤ 8))) && !up) by simp [Bool.and_assoc], hF]; rfl
   replace hF : Hid _ := hF;clear hR1;obtain ⟨y, hy, B0⟩ := AI w (Obj.cells #[ji 1, ji q, ji r, ji c, ji b, ji p, ji h, .bool up] 64);have A0 : BD y w.heap.size ⟨1, q, r, c, b, p, h, up⟩ := by rw [hy]; exact BD.new w _ ⟨1, q, r, c, b, p, h, up⟩
   have S0 := A0.lt;go_enter func97, ntmps97
   go_wp2_with fail
   go_at_call 131
   rw [← hy];clear hy;refine (Ej ⟨1, q, r, c, b, p, h, up⟩ y).mono ?_;rintro e y1 ⟨rfl, k1⟩;have B1 := AE B0 k1;have A1 := A0.below k1 S0;have S1 := A1.lt;clear A0 k1 B0 S0;rw [show DW ⟨1, q, r, c, b, p, h, up⟩ = .iface 187 (.agg #[ji q, ji r, ji c, ji b, ji p, ji h]) from rfl];go_upto_region 2 with fail
   refine AV (fun Y => Bw y1 Y) fun u0 hb0 => ?_
   refine tw 0 6 (.iface 187 (.agg #[ji q, ji r, ji c, ji b, ji p, ji h])) ?_;refine tw 1 7 (.bool true) ?_;refine tw 2 8 (.bool true) ?_;refine tw 3 9 (.iface 187 (.agg #[ji q, ji r, ji c, ji b, ji p, ji h])) ?_;refine wpAnyH_all (rs := [4]) (by kernel_rfl) (by simp) ?_;intro i hi; obtain rfl : i = 4 := by simpa using hi
   refine wpOp_step rfl (fun K hK => ?_);rw [if_pos (by kernel_rfl)];go_simp
   go_at_call 223
   refine (GU q r c b p h u0).mono ?_;rintro e u1 ⟨rfl, kq⟩;have hb1 := AE hb0 kq;clear kq;rw [hF.out];refine hK _ _ ⟨hb1, ?_⟩;clear hK K hi;refine tw 5 11 (.bool false) ?_;refine tw 6 12 (.bool false) ?_;refine ts 7 13 ?_;refine ts 8 14 ?_;refine ts 9 15 ?_;refine ts 10 16 ?_;refine tw 11 17 (.bool false) ?_;refine tw 12 2 (.bool false) ?_;refine AR ?_;go_wp2
   go_ret
   exact ⟨by rw [hN.out]; rfl, AE B1 hb1⟩
  | true =>
   have hN : Hid (R = !up) := by unfold Hid; rw [hR1.out, show (decide (0 ≤ q ∧ q ≤ 3) && (Ad r c b p && (decide (0 ≤ h ∧ h ≤ 8) && !up))) = ((decide (0 ≤ q ∧ q ≤ 3) && (Ad r c b p && decide (0 ≤ h ∧ h ≤ 8))) && !up) by simp [Bool.and_assoc], hF]; rfl
   replace hF : Hid _ := hF;clear hR1;cases up
   ·
    obtain ⟨y, hy, B0⟩ := AI w (Obj.cells #[ji 1, ji q, ji r, ji c, ji b, ji p, ji h, .bool false] 64);have A0 : BD y w.heap.size ⟨1, q, r, c, b, p, h, false⟩ := by rw [hy]; exact BD.new w _ ⟨1, q, r, c, b, p, h, false⟩
    have S0 := A0.lt;go_enter func97, ntmps97
    go_wp2_with fail
    go_at_call 131
    rw [← hy];clear hy;refine (Ej ⟨1, q, r, c, b, p, h, false⟩ y).mono ?_;rintro e y1 ⟨rfl, k1⟩;have B1 := AE B0 k1;have A1 := A0.below k1 S0;have S1 := A1.lt;clear A0 k1 B0 S0;rw [show DW ⟨1, q, r, c, b, p, h, false⟩ = .iface 187 (.agg #[ji q, ji r, ji c, ji b, ji p, ji h]) from rfl];go_upto_region 2 with fail
    refine AV (fun Y => Bw y1 Y) fun u0 hb0 => ?_
    refine tw 0 6 (.iface 187 (.agg #[ji q, ji r, ji c, ji b, ji p, ji h])) ?_;refine tw 1 7 (.bool true) ?_;refine tw 2 8 (.bool true) ?_;refine tw 3 9 (.iface 187 (.agg #[ji q, ji r, ji c, ji b, ji p, ji h])) ?_;refine wpAnyH_all (rs := [4]) (by kernel_rfl) (by simp) ?_;intro i hi; obtain rfl : i = 4 := by simpa using hi
    refine wpOp_step rfl (fun K hK => ?_);rw [if_pos (by kernel_rfl)];go_simp
    go_at_call 223
    refine (GU q r c b p h u0).mono ?_;rintro e u1 ⟨rfl, kq⟩;have hb1 := AE hb0 kq;clear kq;rw [hF.out];refine hK _ _ ⟨hb1, ?_⟩;clear hK K hi;refine tw 5 11 (.bool true) ?_;refine tw 6 12 (.bool true) ?_;refine tw 7 13 (.iface 187 (.agg #[ji q, ji r, ji c, ji b, ji p, ji h])) ?_;refine tw 9 15 (.agg #[ji 1, ji q, ji r, ji c, ji b, ji p, ji h, .bool false]) ?_ (hy := by intro Y hSw; have X := (A1.below hSw (by omega)).all; go_simp);refine wpAnyH_all (rs := [8]) (by kernel_rfl) (by simp) ?_;intro i hi; obtain rfl : i = 8 := by simpa using hi
    refine wpOp_step rfl (fun K hK => ?_);rw [if_pos (by kernel_rfl)];go_simp
    go_at_call 224
    refine (Hp q r c b p h u1).mono ?_;rintro e u2 ⟨rfl, kq⟩;have hb2 := AE hb1 kq;clear kq;refine hK _ _ ⟨hb2, ?_⟩;clear hK K hi;refine tw 10 16 (.bool true) ?_ (hy := by intro Y hSw; go_simp; all_goals ((repeat' split) <;> first | (simp_all; done) | grind));refine tw 11 17 (.bool true) ?_;refine tw 12 2 (.bool true) ?_;refine AR ?_;go_wp2
    go_ret
    exact ⟨by rw [hN.out]; rfl, AE B1 hb2⟩
   obtain ⟨y, hy, B0⟩ := AI w (Obj.cells #[ji 1, ji q, ji r, ji c, ji b, ji p, ji h, .bool true] 64);have A0 : BD y w.heap.size ⟨1, q, r, c, b, p, h, true⟩ := by rw [hy]; exact BD.new w _ ⟨1, q, r, c, b, p, h, true⟩
   have S0 := A0.lt;go_enter func97, ntmps97
   go_wp2_with fail
   go_at_call 131
   rw [← hy];clear hy;refine (Ej ⟨1, q, r, c, b, p, h, true⟩ y).mono ?_;rintro e y1 ⟨rfl, k1⟩;have B1 := AE B0 k1;have A1 := A0.below k1 S0;have S1 := A1.lt;clear A0 k1 B0 S0;rw [show DW ⟨1, q, r, c, b, p, h, true⟩ = .iface 187 (.agg #[ji q, ji r, ji c, ji b, ji p, ji h]) from rfl];go_upto_region 2 with fail
   refine AV (fun Y => Bw y1 Y) fun u0 hb0 => ?_
   refine tw 0 6 (.iface 187 (.agg #[ji q, ji r, ji c, ji b, ji p, ji h])) ?_;refine tw 1 7 (.bool true) ?_;refine tw 2 8 (.bool true) ?_;refine tw 3 9 (.iface 187 (.agg #[ji q, ji r, ji c, ji b, ji p, ji h])) ?_;refine wpAnyH_all (rs := [4]) (by kernel_rfl) (by simp) ?_;intro i hi; obtain rfl : i = 4 := by simpa using hi
   refine wpOp_step rfl (fun K hK => ?_);rw [if_pos (by kernel_rfl)];go_simp
   go_at_call 223
   refine (GU q r c b p h u0).mono ?_;rintro e u1 ⟨rfl, kq⟩;have hb1 := AE hb0 kq;clear kq;rw [hF.out];refine hK _ _ ⟨hb1, ?_⟩;clear hK K hi;refine tw 5 11 (.bool true) ?_;refine tw 6 12 (.bool true) ?_;refine tw 7 13 (.iface 187 (.agg #[ji q, ji r, ji c, ji b, ji p, ji h])) ?_;refine tw 9 15 (.agg #[ji 1, ji q, ji r, ji c, ji b, ji p, ji h, .bool true]) ?_ (hy := by intro Y hSw; have X := (A1.below hSw (by omega)).all; go_simp);refine wpAnyH_all (rs := [8]) (by kernel_rfl) (by simp) ?_;intro i hi; obtain rfl : i = 8 := by simpa using hi
   refine wpOp_step rfl (fun K hK => ?_);rw [if_pos (by kernel_rfl)];go_simp
   go_at_call 224
   refine (Hp q r c b p h u1).mono ?_;rintro e u2 ⟨rfl, kq⟩;have hb2 := AE hb1 kq;clear kq;refine hK _ _ ⟨hb2, ?_⟩;clear hK K hi;refine tw 10 16 (.bool false) ?_ (hy := by intro Y hSw; go_simp; all_goals ((repeat' split) <;> first | (simp_all; done) | grind));refine tw 11 17 (.bool false) ?_;refine tw 12 2 (.bool false) ?_;refine AR ?_;go_wp2
   go_ret
   exact ⟨by rw [hN.out]; rfl, AE B1 hb2⟩
 by_cases h2 : k = 2
 ·
  subst h2;have hN : Hid (R = decide (q = 0 ∧ r = 0 ∧ c = 0 ∧ b = 0 ∧ p = 0 ∧ h = 0 ∧ up = false)) := hR;clear hR h1;have hm1 : ∀ w_ : World, (method 337 188 (.agg #[]) "loop.example/g00470/impl.fits").run prog w_ = .ok (226, .agg #[]) w_ := fun _ => by kernel_rfl
  have hm2 : ∀ w_ : World, (method 337 188 (.agg #[]) "loop.example/g00470/impl.record").run prog w_ = .ok (227, .agg #[]) w_ := fun _ => by kernel_rfl
  obtain ⟨y, hy, B0⟩ := AI w (Obj.cells #[ji 2, ji q, ji r, ji c, ji b, ji p, ji h, .bool up] 64);have A0 : BD y w.heap.size ⟨2, q, r, c, b, p, h, up⟩ := by rw [hy]; exact BD.new w _ ⟨2, q, r, c, b, p, h, up⟩
  have S0 := A0.lt;go_enter func97, ntmps97
  go_wp2_with fail
  go_at_call 131
  rw [← hy];clear hy;refine (Ej ⟨2, q, r, c, b, p, h, up⟩ y).mono ?_;rintro e y1 ⟨rfl, k1⟩;have B1 := AE B0 k1;have A1 := A0.below k1 S0;have S1 := A1.lt;clear A0 k1 B0 S0;rw [show DW ⟨2, q, r, c, b, p, h, up⟩ = .iface 188 (.agg #[]) from rfl];go_upto_region 2 with fail
  refine AV (fun Y => Bw y1 Y) fun u0 hb0 => ?_
  refine tw 0 6 (.iface 188 (.agg #[])) ?_;refine tw 1 7 (.bool true) ?_;refine tw 2 8 (.bool true) ?_;refine tw 3 9 (.iface 188 (.agg #[])) ?_;refine wpAnyH_all (rs := [4]) (by kernel_rfl) (by simp) ?_;intro i hi; obtain rfl : i = 4 := by simpa using hi
  refine wpOp_step rfl (fun K hK => ?_);rw [if_pos (by kernel_rfl)];go_simp
  go_at_call 226
  refine (JO u0).mono ?_;rintro e u1 ⟨rfl, kq⟩;have hb1 := AE hb0 kq;clear kq;refine hK _ _ ⟨hb1, ?_⟩;clear hK K hi;refine tw 5 11 (.bool true) ?_;refine tw 6 12 (.bool true) ?_;refine tw 7 13 (.iface 188 (.agg #[])) ?_;refine tw 9 15 (.agg #[ji 2, ji q, ji r, ji c, ji b, ji p, ji h, .bool up]) ?_ (hy := by intro Y hSw; have X := (A1.below hSw (by omega)).all; go_simp);refine wpAnyH_all (rs := [8]) (by kernel_rfl) (by simp) ?_;intro i hi; obtain rfl : i = 8 := by simpa using hi
  refine wpOp_step rfl (fun K hK => ?_);rw [if_pos (by kernel_rfl)];go_simp
  go_at_call 227
  refine (J7 u1).mono ?_;rintro e u2 ⟨rfl, kq⟩;have hb2 := AE hb1 kq;clear kq;refine hK _ _ ⟨hb2, ?_⟩;clear hK K hi;refine tw 10 16 (.bool (decide (q = 0 ∧ r = 0 ∧ c = 0 ∧ b = 0 ∧ p = 0 ∧ h = 0 ∧ up = false))) ?_ (hy := by intro Y hSw; go_simp; all_goals ((repeat' split) <;> first | (simp_all; done) | grind));refine tw 11 17 (.bool (decide (q = 0 ∧ r = 0 ∧ c = 0 ∧ b = 0 ∧ p = 0 ∧ h = 0 ∧ up = false))) ?_;refine tw 12 2 (.bool (decide (q = 0 ∧ r = 0 ∧ c = 0 ∧ b = 0 ∧ p = 0 ∧ h = 0 ∧ up = false))) ?_;refine AR ?_;go_wp2
  go_ret
  exact ⟨by rw [hN.out]; rfl, AE B1 hb2⟩
 by_cases h3 : k = 3
 ·
  subst h3;have hR1 : Hid (R = (decide (0 ≤ q ∧ q ≤ 3) && (decide (r = 0 ∧ c = 0 ∧ b = 0 ∧ p = 0) && (h == 0)))) := hR;clear hR h1 h2;have hm1 : ∀ w_ : World, (method 337 190 (.agg #[ji q, .bool up]) "loop.example/g00470/impl.fits").run prog w_ = .ok (228, .agg #[ji q, .bool up]) w_ := fun _ => by kernel_rfl
  have hm2 : ∀ w_ : World, (method 337 190 (.agg #[ji q, .bool up]) "loop.example/g00470/impl.record").run prog w_ = .ok (229, .agg #[ji q, .bool up]) w_ := fun _ => by kernel_rfl
  cases hF : decide (0 ≤ q ∧ q ≤ 3) with
  | false =>
   have hN : Hid (R = false) := by unfold Hid; rw [hR1.out, hF]; rfl
   replace hF : Hid _ := hF;clear hR1;obtain ⟨y, hy, B0⟩ := AI w (Obj.cells #[ji 3, ji q, ji r, ji c, ji b, ji p, ji h, .bool up] 64);have A0 : BD y w.heap.size ⟨3, q, r, c, b, p, h, up⟩ := by rw [hy]; exact BD.new w _ ⟨3, q, r, c, b, p, h, up⟩
   have S0 := A0.lt;go_enter func97, ntmps97
   go_wp2_with fail
   go_at_call 131
   rw [← hy];clear hy;refine (Ej ⟨3, q, r, c, b, p, h, up⟩ y).mono ?_;rintro e y1 ⟨rfl, k1⟩;have B1 := AE B0 k1;have A1 := A0.below k1 S0;have S1 := A1.lt;clear A0 k1 B0 S0;rw [show DW ⟨3, q, r, c, b, p, h, up⟩ = .iface 190 (.agg #[ji q, .bool up]) from rfl];go_upto_region 2 with fail
   refine AV (fun Y => Bw y1 Y) fun u0 hb0 => ?_
   refine tw 0 6 (.iface 190 (.agg #[ji q, .bool up])) ?_;refine tw 1 7 (.bool true) ?_;refine tw 2 8 (.bool true) ?_;refine tw 3 9 (.iface 190 (.agg #[ji q, .bool up])) ?_;refine wpAnyH_all (rs := [4]) (by kernel_rfl) (by simp) ?_;intro i hi; obtain rfl : i = 4 := by simpa using hi
   refine wpOp_step rfl (fun K hK => ?_);rw [if_pos (by kernel_rfl)];go_simp
   go_at_call 228
   refine (HZ q up u0).mono ?_;rintro e u1 ⟨rfl, kq⟩;have hb1 := AE hb0 kq;clear kq;rw [hF.out];refine hK _ _ ⟨hb1, ?_⟩;clear hK K hi;refine tw 5 11 (.bool false) ?_;refine tw 6 12 (.bool false) ?_;refine ts 7 13 ?_;refine ts 8 14 ?_;refine ts 9 15 ?_;refine ts 10 16 ?_;refine tw 11 17 (.bool false) ?_;refine tw 12 2 (.bool false) ?_;refine AR ?_;go_wp2
   go_ret
   exact ⟨by rw [hN.out]; rfl, AE B1 hb1⟩
  | true =>
   have hN : Hid (R = decide (r = 0 ∧ c = 0 ∧ b = 0 ∧ p = 0 ∧ h = 0)) := by
    unfold Hid; rw [hR1.out, hF, Bool.true_and]
    by_cases e : h = 0
    ·
     subst e; simp
    simp [e]
   replace hF : Hid _ := hF;clear hR1;obtain ⟨y, hy, B0⟩ := AI w (Obj.cells #[ji 3, ji q, ji r, ji c, ji b, ji p, ji h, .bool up] 64);have A0 : BD y w.heap.size ⟨3, q, r, c, b, p, h, up⟩ := by rw [hy]; exact BD.new w _ ⟨3, q, r, c, b, p, h, up⟩
   have S0 := A0.lt;go_enter func97, ntmps97
   go_wp2_with fail
   go_at_call 131
   rw [← hy];clear hy;refine (Ej ⟨3, q, r, c, b, p, h, up⟩ y).mono ?_;rintro e y1 ⟨rfl, k1⟩;have B1 := AE B0 k1;have A1 := A0.below k1 S0;have S1 := A1.lt;clear A0 k1 B0 S0;rw [show DW ⟨3, q, r, c, b, p, h, up⟩ = .iface 190 (.agg #[ji q, .bool up]) from rfl];go_upto_region 2 with fail
   refine AV (fun Y => Bw y1 Y) fun u0 hb0 => ?_
   refine tw 0 6 (.iface 190 (.agg #[ji q, .bool up])) ?_;refine tw 1 7 (.bool true) ?_;refine tw 2 8 (.bool true) ?_;refine tw 3 9 (.iface 190 (.agg #[ji q, .bool up])) ?_;refine wpAnyH_all (rs := [4]) (by kernel_rfl) (by simp) ?_;intro i hi; obtain rfl : i = 4 := by simpa using hi
   refine wpOp_step rfl (fun K hK => ?_);rw [if_pos (by kernel_rfl)];go_simp
   go_at_call 228
   refine (HZ q up u0).mono ?_;rintro e u1 ⟨rfl, kq⟩;have hb1 := AE hb0 kq;clear kq;rw [hF.out];refine hK _ _ ⟨hb1, ?_⟩;clear hK K hi;refine tw 5 11 (.bool true) ?_;refine tw 6 12 (.bool true) ?_;refine tw 7 13 (.iface 190 (.agg #[ji q, .bool up])) ?_;refine tw 9 15 (.agg #[ji 3, ji q, ji r, ji c, ji b, ji p, ji h, .bool up]) ?_ (hy := by intro Y hSw; have X := (A1.below hSw (by omega)).all; go_simp);refine wpAnyH_all (rs := [8]) (by kernel_rfl) (by simp) ?_;intro i hi; obtain rfl : i = 8 := by simpa using hi
   refine wpOp_step rfl (fun K hK => ?_);rw [if_pos (by kernel_rfl)];go_simp
   go_at_call 229
   refine (KJ q up u1).mono ?_;rintro e u2 ⟨rfl, kq⟩;have hb2 := AE hb1 kq;clear kq;refine hK _ _ ⟨hb2, ?_⟩;clear hK K hi;refine tw 10 16 (.bool (decide (r = 0 ∧ c = 0 ∧ b = 0 ∧ p = 0 ∧ h = 0))) ?_ (hy := by intro Y hSw; go_simp; all_goals ((repeat' split) <;> first | (simp_all; done) | grind));refine tw 11 17 (.bool (decide (r = 0 ∧ c = 0 ∧ b = 0 ∧ p = 0 ∧ h = 0))) ?_;refine tw 12 2 (.bool (decide (r = 0 ∧ c = 0 ∧ b = 0 ∧ p = 0 ∧ h = 0))) ?_;refine AR ?_;go_wp2
   go_ret
   exact ⟨by rw [hN.out]; rfl, AE B1 hb2⟩
 have hN : Hid (R = false) := by unfold Hid; rw [hR]; unfold Ay; rw [if_neg h1, if_neg h3, if_neg h2]
 have hv : Hid (DW ⟨k, q, r, c, b, p, h, up⟩ = .nilIface) := by unfold Hid DW; rw [if_neg h1, if_neg h2, if_neg h3]
 clear hR h1 h2 h3;obtain ⟨y, hy, B0⟩ := AI w (Obj.cells #[ji k, ji q, ji r, ji c, ji b, ji p, ji h, .bool up] 64);have A0 : BD y w.heap.size ⟨k, q, r, c, b, p, h, up⟩ := by rw [hy]; exact BD.new w _ ⟨k, q, r, c, b, p, h, up⟩
 have S0 := A0.lt;go_enter func97, ntmps97
 go_wp2_with fail
 go_at_call 131
 rw [← hy];clear hy;refine (Ej ⟨k, q, r, c, b, p, h, up⟩ y).mono ?_;rintro e y1 ⟨rfl, k1⟩;have B1 := AE B0 k1;have A1 := A0.below k1 S0;have S1 := A1.lt;clear A0 k1 B0 S0;rw [hv.out];go_upto_region 2 with fail
 refine AV (fun Y => Bw y1 Y) fun u0 hb0 => ?_
 refine tw 0 6 .nilIface ?_;refine tw 1 7 (.bool false) ?_;refine tw 2 8 (.bool false) ?_;refine ts 3 9 ?_;refine ts 4 10 ?_;refine tw 5 11 (.bool false) ?_;refine tw 6 12 (.bool false) ?_;refine ts 7 13 ?_;refine ts 8 14 ?_;refine ts 9 15 ?_;refine ts 10 16 ?_;refine tw 11 17 (.bool false) ?_;refine tw 12 2 (.bool false) ?_;refine AR ?_;go_wp2
 go_ret
 exact ⟨by rw [hN.out]; rfl, AE B1 hb0⟩
end Go.Proofs.YtjmnaeeknomiaaaGreat
