import Derived.Test.YthgcbihhdbpbdaaGreatRM8
namespace Go.Proofs.YthgcbihhdbpbdaaGreat
open Go.ChangeShapes Go.WideShapes Go.ChangeAt Go.RowKit
open Go.ChangeMaps (open_string shut_string)
set_option linter.unusedVariables false
set_option maxRecDepth 100000
set_option maxHeartbeats 32000000
set_option linter.unusedSimpArgs false
open Go.Proofs.Tryz
attribute [local go_sem] ji ja bc mc
theorem Ew (x : AG) : x.p.two.length = x.two.length := by unfold AG.p; simp
theorem En (x : AG) (s : Int) (w : World) (hV : Cs w x) :
  Calls prog 64 #[.agg (bc x), ji s] w fun e w' => e = .returned (.bool (Bh x.p s)) ∧ Bw w w' := by
 obtain ⟨R, hR⟩ := AB (Bh x.p s);rw [← hR];replace hR : Hid _ := hR;obtain ⟨y, hy, B0⟩ := AI w (Obj.cells (bc x) 34);have A : AZ y w.heap.size x := by rw [hy]; exact AZ.new w _ x
 have V := hV.later B0;go_enter func64, ntmps64
 go_upto_region 1 with fail
 rw [← hy];clear hy hV;refine AR (fun Y => Bw y Y) fun u0 hb0 => ?_
 refine tw 0 5 (ji s) ?_;refine tw 1 6 (.pointer (some (ja w.heap.size 5))) ?_;refine tw 2 7 (.slice x.aT x.two.length x.cT) ?_ (hy := by intro Y hSw; have X := (A.below hSw A.lt).all; go_simp);refine tw 3 8 (ji (x.two.length : Int)) ?_;have bt := V.bt;have hwr : IntKind.i64.wrap ((x.two.length : Int) - 1) = (x.two.length : Int) - 1 := by rw [IntKind.wrap_i64]; omega
 refine tw 4 9 (ji ((x.two.length : Int) - 1)) ?_;refine w1 5 fun Kz hKz => ?_
 go_simp
 go_at_call 65
 refine (BM s 0 ((x.two.length : Int) - 1) u0).mono ?_;rintro e u1 ⟨rfl, hw_⟩;have hb1 : Bw y u1 := by rw [hw_]; exact hb0
 clear hw_;refine hKz _ _ ⟨hb1, ?_⟩;clear hKz Kz;clear hwr;cases h1 : decide (0 ≤ s ∧ s ≤ (x.two.length : Int) - 1)
 ·
  have hN : Hid (R = false) := by unfold Hid; rw [hR.out]; unfold Bh; rw [show decide (0 ≤ s ∧ s < ((x.p.two).length : Int)) = false from decide_eq_false (by have := of_decide_eq_false h1; rw [Ew]; omega)]; rfl
  clear h1;refine tw 6 11 (.bool false) ?_;refine ts 7 12 ?_;refine ts 8 13 ?_;refine ts 9 14 ?_;refine ts 10 15 ?_;refine ts 11 16 ?_;refine ts 12 17 ?_;refine ts 13 18 ?_;refine ts 14 19 ?_;refine ts 15 20 ?_;refine tw 16 21 (.bool false) ?_;refine tw 17 4 (.bool false) ?_;refine AM ?_;go_wp2
  go_ret
  exact ⟨by rw [hN.out]; rfl, AA B0 hb1⟩
 have h1' := of_decide_eq_true h1;obtain ⟨k, rfl⟩ : ∃ k : Nat, s = (k : Int) := ⟨s.toNat, by omega⟩;have hk : k < x.two.length := by omega
 have hcap := V.ct;obtain ⟨d, hd⟩ : ∃ d, x.two.getD k AF.nil = d := ⟨_, rfl⟩;have hvl := V.l k hk;have hll := V.bl k hk;rw [hd] at hvl hll;have hN : Hid (R = Cz x.rg (k : Int) d.m) := by unfold Hid; rw [hR.out]; unfold Bh; rw [show decide (0 ≤ (k : Int) ∧ (k : Int) < ((x.p.two).length : Int)) = true from decide_eq_true (by rw [Ew]; omega), CC, Int.toNat_natCast, hd]; rfl
 obtain ⟨b, off, hat, _⟩ := V.t (by omega);have hck : ∀ Y, Bw y Y → BE Y b (off + k * 7) d := fun Y hY => by have ht := (V.later hY).t; rw [hat] at ht; rw [← hd]; exact CJ (ht.at_ Au AF.nil hk)
 replace hd : Hid _ := hd;clear h1 h1';refine tw 6 11 (.bool true) ?_;refine tw 7 12 (.pointer (some (ja w.heap.size 2))) ?_;refine tw 8 13 (.agg #[ji x.rg.ep, ji x.rg.ow, ji x.rg.pa]) ?_ (hy := by intro Y hSw; have X := (A.below hSw A.lt).all; go_simp);refine tw 9 14 (ji (k : Int)) ?_;refine tw 10 15 (.pointer (some (ja w.heap.size 5))) ?_;refine tw 11 16 (.slice (some (ja b off)) x.two.length x.cT) ?_ (hy := by intro Y hSw; have X := (A.below hSw A.lt).all; rw [hat] at X; go_simp);refine tw 12 17 (ji (k : Int)) ?_;refine tw 13 18 (.pointer (some ⟨b, off + k * 7, none⟩)) ?_ (hy := by intro Y hSw; go_simp; try omega);refine tw 14 19 (.agg (mc d.m d.ad d.cap)) ?_ (hy := by intro Y hSw; have X := (hck Y hSw).all; go_simp);refine w1 15 fun Kz hKz => ?_
 go_simp
 go_at_call 106
 refine (IE x.rg (k : Int) d.m d.ad d.cap u1 (hvl.below hb1 (hvl.lt Aa (by omega))) (by omega)).mono ?_;rintro e u2 ⟨rfl, kq⟩;rw [← hN.out];have hb2 := AA hb1 kq;clear kq;refine hKz _ _ ⟨hb2, ?_⟩;clear hKz Kz;refine tw 16 21 (.bool R) ?_;refine tw 17 4 (.bool R) ?_;refine AM ?_;go_wp2
 go_ret
 exact ⟨rfl, AA B0 hb2⟩
theorem IX (x : AG) (w : World) (hV : Cs w x) :
  Calls prog 195 #[.agg (bc x)] w fun e w' => e = .returned (ji (Ci x.p)) ∧ Bw w w' := by
 obtain ⟨R, hR⟩ := AB (Ci x.p);rw [← hR];replace hR : Hid _ := hR;obtain ⟨y, hy, B0⟩ := AI w (Obj.cells (bc x) 34);have A : AZ y w.heap.size x := by rw [hy]; exact AZ.new w _ x
 have V := hV.later B0;go_enter func195, ntmps195
 go_upto_region 2 with fail
 rw [← hy];clear hy hV;refine wp_loop_rounds 3 ?_;rw [rounds_succ];have a0 := A.all;go_wp2_with fail
 go_at_call 64
 clear a0;refine (En x 0 y V).mono ?_;rintro e v1 ⟨rfl, k1⟩;have A := A.below k1 A.lt;have V := V.later k1;have B1 := AA B0 k1;clear k1 B0;cases h0 : Bh x.p 0
 ·
  replace h0 : Hid _ := h0;go_wp2
  rw [rounds_succ];have a0 := A.all;go_wp2_with fail
  go_at_call 64
  clear a0;refine (En x 1 v1 V).mono ?_;rintro e v2 ⟨rfl, k2⟩;have B2 := AA B1 k2;clear k2 B1;cases h1 : Bh x.p 1
  ·
   have hN : Hid (R = -1) := by unfold Hid; rw [hR.out]; unfold Ci; rw [h0.out, h1]; rfl
   clear h1;go_wp2
   rw [rounds_succ];go_wp2
   go_ret
   exact ⟨by rw [hN.out]; rfl, B2⟩
  have hN : Hid (R = 1) := by unfold Hid; rw [hR.out]; unfold Ci; rw [h0.out, h1]; rfl
  clear h1;go_wp2
  go_ret
  exact ⟨by rw [hN.out]; rfl, B2⟩
 have hN : Hid (R = 0) := by unfold Hid; rw [hR.out]; unfold Ci; rw [h0]; rfl
 clear h0;go_wp2
 go_ret
 exact ⟨by rw [hN.out]; rfl, B1⟩
end Go.Proofs.YthgcbihhdbpbdaaGreat
