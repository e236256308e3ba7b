import Derived.Test.YtjmnaeeknomiaaaGreatRM10
import Derived.Test.YtjmnaeeknomiaaaGreatRM11
namespace Go.Proofs.YtjmnaeeknomiaaaGreat
open Go.ChangeShapes Go.WideShapes Go.ChangeAt Go.RowKit
open Go.ChangeMaps (open_string shut_string)
set_option linter.unusedVariables false
set_option maxRecDepth 100000
set_option maxHeartbeats 32000000
set_option linter.unusedSimpArgs false
open Go.Proofs.Tryz
structure Di (w : World) (q : Nat) (x : Wi) : Prop where
 c0 : w.cell? (ja q 0) = some (ji x.fr)
 c1 : w.cell? (ja q 1) = some (.bool x.ak)
 c2 : w.cell? (ja q 2) = some (ji x.li)
 c3 : w.cell? (ja q 3) = some (ji x.n)
 c4 : w.cell? (ja q 4) = some (ji x.x.k)
 c5 : w.cell? (ja q 5) = some (ji x.x.q)
 c6 : w.cell? (ja q 6) = some (ji x.x.r)
 c7 : w.cell? (ja q 7) = some (ji x.x.c)
 c8 : w.cell? (ja q 8) = some (ji x.x.b)
 c9 : w.cell? (ja q 9) = some (ji x.x.p)
 c10 : w.cell? (ja q 10) = some (ji x.x.h)
 c11 : w.cell? (ja q 11) = some (.bool x.x.up)
theorem Di.all {w : World} {q : Nat} {x : Wi} (h : Di w q x) : w.cell? (ja q 0) = some (ji x.fr) ∧ w.cell? (ja q 1) = some (.bool x.ak) ∧ w.cell? (ja q 2) = some (ji x.li) ∧ w.cell? (ja q 3) = some (ji x.n) ∧ w.cell? (ja q 4) = some (ji x.x.k) ∧ w.cell? (ja q 5) = some (ji x.x.q) ∧ w.cell? (ja q 6) = some (ji x.x.r) ∧ w.cell? (ja q 7) = some (ji x.x.c) ∧ w.cell? (ja q 8) = some (ji x.x.b) ∧ w.cell? (ja q 9) = some (ji x.x.p) ∧ w.cell? (ja q 10) = some (ji x.x.h) ∧ w.cell? (ja q 11) = some (.bool x.x.up) := ⟨h.c0, h.c1, h.c2, h.c3, h.c4, h.c5, h.c6, h.c7, h.c8, h.c9, h.c10, h.c11⟩
theorem Di.new (w : World) (t : TypeId) (x : Wi) : Di (w.alloc (Obj.cells #[ji x.fr, .bool x.ak, ji x.li, ji x.n, ji x.x.k, ji x.x.q, ji x.x.r, ji x.x.c, ji x.x.b, ji x.x.p, ji x.x.h, .bool x.x.up] t)) w.heap.size x := by
 refine ⟨?_, ?_, ?_, ?_, ?_, ?_, ?_, ?_, ?_, ?_, ?_, ?_⟩ <;> simp [go_sem]
theorem KH (x : Ik) (w : World) : (binOp .neq 64 (.agg #[ji x.k, ji x.q, ji x.r, ji x.c, ji x.b, ji x.p, ji x.h, .bool x.up]) (.agg #[ji 0, ji 0, ji 0, ji 0, ji 0, ji 0, ji 0, .bool false])).run prog w = .ok (.bool (!Db x)) w := by
 have hE : (binOp .eql 64 (.agg (ic x)) (.agg #[ji 0, ji 0, ji 0, ji 0, ji 0, ji 0, ji 0, .bool false])).run prog w = .ok (.bool (Db x)) w := by
  unfold Db;go_simp
  all_goals ((repeat' split) <;> first | (simp_all; done) | grind)
 unfold Db;go_simp
 all_goals ((repeat' split) <;> first | (simp_all; done) | grind)
theorem Kn (x : AG) (w : World) (hV : BT w x) :
  Calls prog 57 #[.agg (bc x)] w fun e w' => e = .returned (.bool (x.net.all BI && decide (x.net.length ≤ 20))) ∧ Bw w w' := by
 obtain ⟨R, hR⟩ := AC (x.net.all BI && decide (x.net.length ≤ 20));rw [← hR];replace hR : Hid _ := hR;obtain ⟨y, hy, B0⟩ := AI w (Obj.cells (bc x) 34);have A : AS y w.heap.size x := by rw [hy]; exact AS.new w _ x
 have V := hV.later B0;have S0 := A.lt;have bn := V.bn;go_enter func57, ntmps57
 go_upto_region 1 with fail
 rw [← hy];clear hy hV;go_wp2
 go_loopw [3] (fun i wr => ∃ k : Nat, k ≤ x.net.length ∧ i = .int .i64 k ∧ (x.net.take k).all BI = true ∧ Below y.heap.size y wr) (fun i _ => x.net.length - (intOf i).toNat)
 case atStart => exact ⟨0, Nat.zero_le _, rfl, rfl, Below.refl _ _⟩
 case round =>
  obtain ⟨k, hk, rfl, T, K⟩ := hrel;replace T : Hid _ := T;have A2 := A.below K S0;have V2 := V.later K;obtain ⟨a0, a1, a2, a3, a4, a5, a6, a7, a8, a9⟩ := id A2;by_cases hlt : k < x.net.length
  ·
   obtain ⟨b, off, hat, _⟩ := V2.n (by omega);rw [hat] at a6;obtain ⟨v, hh⟩ : ∃ v, x.net.getD k Wi.nil = v := ⟨_, rfl⟩;have hck : CX wr b (off + k * 12) v := by
    have ht := V2.n;rw [hat] at ht;rw [← hh];exact E7 (ht.at_ Be Wi.nil hlt)
   have hT := F8 BI x.net Wi.nil hlt;rw [T.out, hh, Bool.true_and] at hT;have hNo : BI v = false → x.net.all BI = false := fun e => GX BI x.net Wi.nil hlt (by rw [hh]; exact e)
   replace hT : Hid _ := hT;replace hh : Hid _ := hh;replace hat : Hid _ := hat;replace hck := hck.all;obtain ⟨u, hu, ku⟩ := AI wr (Obj.cells #[ji v.fr, .bool v.ak, ji v.li, ji v.n, ji v.x.k, ji v.x.q, ji v.x.r, ji v.x.c, ji v.x.b, ji v.x.p, ji v.x.h, .bool v.x.up] 75);have U : Di u wr.heap.size v := by rw [hu]; exact Di.new wr _ v
   have K0 := AE K ku;go_upto_region 5 with fail
   rw [← hu];clear hck hu ku K A2 V2 a0 a1 a2 a3 a4 a5 a6 a7 a8 a9;have c0 := U.all;go_wp2_with fail
   go_at_call 65
   clear c0;refine (BK v.fr 0 1 u).mono ?_;rintro e u1 ⟨rfl, hw_⟩;have U := (by rw [hw_]; exact U : Di u1 wr.heap.size v);have K1 := (by rw [hw_]; exact K0 : Bw y u1);clear hw_ K0;cases h1 : decide (0 ≤ v.fr ∧ v.fr ≤ 1)
   ·
    have hx : BI v = false := by unfold BI; rw [h1]; rfl
    have hN : Hid (R = false) := by unfold Hid; rw [hR.out, hNo hx]; rfl
    clear hx hNo h1;go_wp2
    go_ret
    exact ⟨by rw [hN.out]; rfl, AE B0 K1⟩
   replace h1 : Hid _ := h1;have c0 := U.all;go_wp2_with fail
   go_at_call 65
   clear c0;refine (BK v.li 0 100000 u1).mono ?_;rintro e u2 ⟨rfl, hw_⟩;have U := (by rw [hw_]; exact U : Di u2 wr.heap.size v);have K2 := (by rw [hw_]; exact K1 : Bw y u2);clear hw_ K1;rw [show decide (0 ≤ v.li ∧ v.li ≤ 100000) = BR v.li from rfl];cases h2 : BR v.li
   ·
    have hx : BI v = false := by unfold BI; rw [h1.out, h2]; rfl
    have hN : Hid (R = false) := by unfold Hid; rw [hR.out, hNo hx]; rfl
    clear hx hNo h2;go_wp2
    go_ret
    exact ⟨by rw [hN.out]; rfl, AE B0 K2⟩
   replace h2 : Hid _ := h2;have c0 := U.all;go_wp2_with fail
   go_at_call 65
   clear c0;refine (BK v.n 0 100000 u2).mono ?_;rintro e u3 ⟨rfl, hw_⟩;have U := (by rw [hw_]; exact U : Di u3 wr.heap.size v);have K3 := (by rw [hw_]; exact K2 : Bw y u3);clear hw_ K2;rw [show decide (0 ≤ v.n ∧ v.n ≤ 100000) = BR v.n from rfl];cases h3 : BR v.n
   ·
    have hx : BI v = false := by unfold BI; rw [h1.out, h2.out, h3]; rfl
    have hN : Hid (R = false) := by unfold Hid; rw [hR.out, hNo hx]; rfl
    clear hx hNo h3;go_wp2
    go_ret
    exact ⟨by rw [hN.out]; rfl, AE B0 K3⟩
   replace h3 : Hid _ := h3;cases h4 : v.ak
   ·
    obtain ⟨c0, c1, c2, c3, c4, c5, c6, c7, c8, c9, c10, c11⟩ := id U;rw [h4] at c1;replace h4 : Hid _ := h4;go_wp2_with fail
    go_at_call 82
    clear c0 c1 c2 c3 c4 c5 c6 c7 c8 c9 c10 c11;refine (Fi v.x u3).mono ?_;rintro e u4 ⟨rfl, k4⟩;have K4 := AE K3 k4;clear k4 K3;cases h5 : Ay v.x
    ·
     have hx : BI v = false := by unfold BI; rw [h1.out, h2.out, h3.out, h4.out, if_neg (by decide), h5]; rfl
     have hN : Hid (R = false) := by unfold Hid; rw [hR.out, hNo hx]; rfl
     clear hx hNo h5;go_wp2
     go_ret
     exact ⟨by rw [hN.out]; rfl, AE B0 K4⟩
    replace h5 : Hid _ := h5;have hx : BI v = true := by unfold BI; rw [h1.out, h2.out, h3.out, h4.out, if_neg (by decide), h5.out]; rfl
    have hT2 : Hid ((x.net.take (k + 1)).all BI = true) := by unfold Hid; rw [hT.out, hx]
    clear hx hNo;go_wp2
    go_roundw
    case rel => exact ⟨k + 1, by omega, by go_num, hT2.out, K4⟩
    case measure => simp [intOf]; omega
   have eI := KH v.x;obtain ⟨c0, c1, c2, c3, c4, c5, c6, c7, c8, c9, c10, c11⟩ := id U;rw [h4] at c1;replace h4 : Hid _ := h4;cases h5 : Db v.x
   ·
    rw [h5] at eI;have hx : BI v = false := by unfold BI; rw [h1.out, h2.out, h3.out, h4.out, if_pos rfl, h5]; rfl
    have hN : Hid (R = false) := by unfold Hid; rw [hR.out, hNo hx]; rfl
    clear hx hNo h5;go_wp2
    go_ret
    exact ⟨by rw [hN.out]; rfl, AE B0 K3⟩
   rw [h5] at eI;replace h5 : Hid _ := h5;have hx : BI v = true := by unfold BI; rw [h1.out, h2.out, h3.out, h4.out, if_pos rfl, h5.out]; rfl
   have hT2 : Hid ((x.net.take (k + 1)).all BI = true) := by unfold Hid; rw [hT.out, hx]
   clear hx hNo;go_wp2
   go_roundw
   case rel => exact ⟨k + 1, by omega, by go_num, hT2.out, K3⟩
   case measure => simp [intOf]; omega
  obtain rfl : k = x.net.length := by omega
  have hN : Hid (R = decide ((x.net.length : Int) ≤ 20)) := by
   unfold Hid; rw [hR.out]
   have := T.out;rw [List.take_length] at this;rw [this, Bool.true_and];by_cases h : x.net.length ≤ 20
   ·
    rw [decide_eq_true h, decide_eq_true (by omega)]
   rw [decide_eq_false h, decide_eq_false (by omega)]
  go_wp2
  go_ret
  exact ⟨by rw [hN.out]; rfl, AE B0 K⟩
attribute [local go_sem] ji ja bc mc
theorem Em (x : AG) : x.p.two.length = x.two.length := by unfold AG.p; simp
theorem Eo (x : AG) (s : Int) (w : World) (hV : BT w x) :
  Calls prog 64 #[.agg (bc x), ji s] w fun e w' => e = .returned (.bool (Bp x.p s)) ∧ Bw w w' := by
 obtain ⟨R, hR⟩ := AC (Bp x.p s);rw [← hR];replace hR : Hid _ := hR;obtain ⟨y, hy, B0⟩ := AI w (Obj.cells (bc x) 34);have A : AS y w.heap.size x := by rw [hy]; exact AS.new w _ x
 have V := hV.later B0;go_enter func64, ntmps64
 go_upto_region 1 with fail
 rw [← hy];clear hy hV;refine AV (fun Y => Bw y Y) fun u0 hb0 => ?_
 refine tw 0 5 (ji s) ?_;refine tw 1 6 (.pointer (some (ja w.heap.size 5))) ?_;refine tw 2 7 (.slice x.aT x.two.length x.cT) ?_ (hy := by intro Y hSw; have X := (A.below hSw A.lt).all; go_simp);refine tw 3 8 (ji (x.two.length : Int)) ?_;have bt := V.bt;have hwr : IntKind.i64.wrap ((x.two.length : Int) - 1) = (x.two.length : Int) - 1 := by rw [IntKind.wrap_i64]; omega
 refine tw 4 9 (ji ((x.two.length : Int) - 1)) ?_;refine w1 5 fun Kz hKz => ?_
 go_simp
 go_at_call 65
 refine (BK s 0 ((x.two.length : Int) - 1) u0).mono ?_;rintro e u1 ⟨rfl, hw_⟩;have hb1 : Bw y u1 := by rw [hw_]; exact hb0
 clear hw_;refine hKz _ _ ⟨hb1, ?_⟩;clear hKz Kz;clear hwr;cases h1 : decide (0 ≤ s ∧ s ≤ (x.two.length : Int) - 1)
 ·
  have hN : Hid (R = false) := by unfold Hid; rw [hR.out]; unfold Bp; rw [show decide (0 ≤ s ∧ s < ((x.p.two).length : Int)) = false from decide_eq_false (by have := of_decide_eq_false h1; rw [Em]; omega)]; rfl
  clear h1;refine tw 6 11 (.bool false) ?_;refine ts 7 12 ?_;refine ts 8 13 ?_;refine ts 9 14 ?_;refine ts 10 15 ?_;refine ts 11 16 ?_;refine ts 12 17 ?_;refine ts 13 18 ?_;refine ts 14 19 ?_;refine ts 15 20 ?_;refine tw 16 21 (.bool false) ?_;refine tw 17 4 (.bool false) ?_;refine AR ?_;go_wp2
  go_ret
  exact ⟨by rw [hN.out]; rfl, AE B0 hb1⟩
 have h1' := of_decide_eq_true h1;obtain ⟨k, rfl⟩ : ∃ k : Nat, s = (k : Int) := ⟨s.toNat, by omega⟩;have hk : k < x.two.length := by omega
 have hcap := V.ct;obtain ⟨d, hd⟩ : ∃ d, x.two.getD k AD.nil = d := ⟨_, rfl⟩;have hvl := V.l k hk;have hll := V.bl k hk;rw [hd] at hvl hll;have hN : Hid (R = Cq x.rg (k : Int) d.m) := by unfold Hid; rw [hR.out]; unfold Bp; rw [show decide (0 ≤ (k : Int) ∧ (k : Int) < ((x.p.two).length : Int)) = true from decide_eq_true (by rw [Em]; omega), Br, Int.toNat_natCast, hd]; rfl
 obtain ⟨b, off, hat, _⟩ := V.t (by omega);have hck : ∀ Y, Bw y Y → A8 Y b (off + k * 7) d := fun Y hY => by have ht := (V.later hY).t; rw [hat] at ht; rw [← hd]; exact Bo (ht.at_ Ai AD.nil hk)
 replace hd : Hid _ := hd;clear h1 h1';refine tw 6 11 (.bool true) ?_;refine tw 7 12 (.pointer (some (ja w.heap.size 2))) ?_;refine tw 8 13 (.agg #[ji x.rg.ep, ji x.rg.ow, ji x.rg.pa]) ?_ (hy := by intro Y hSw; have X := (A.below hSw A.lt).all; go_simp);refine tw 9 14 (ji (k : Int)) ?_;refine tw 10 15 (.pointer (some (ja w.heap.size 5))) ?_;refine tw 11 16 (.slice (some (ja b off)) x.two.length x.cT) ?_ (hy := by intro Y hSw; have X := (A.below hSw A.lt).all; rw [hat] at X; go_simp);refine tw 12 17 (ji (k : Int)) ?_;refine tw 13 18 (.pointer (some ⟨b, off + k * 7, none⟩)) ?_ (hy := by intro Y hSw; go_simp; try omega);refine tw 14 19 (.agg (mc d.m d.ad d.cap)) ?_ (hy := by intro Y hSw; have X := (hck Y hSw).all; go_simp);refine w1 15 fun Kz hKz => ?_
 go_simp
 go_at_call 106
 refine (HW x.rg (k : Int) d.m d.ad d.cap u1 (hvl.below hb1 (hvl.lt AT (by omega))) (by omega)).mono ?_;rintro e u2 ⟨rfl, kq⟩;rw [← hN.out];have hb2 := AE hb1 kq;clear kq;refine hKz _ _ ⟨hb2, ?_⟩;clear hKz Kz;refine tw 16 21 (.bool R) ?_;refine tw 17 4 (.bool R) ?_;refine AR ?_;go_wp2
 go_ret
 exact ⟨rfl, AE B0 hb2⟩
theorem Ht (x : AG) (w : World) (hV : BT w x) :
  Calls prog 195 #[.agg (bc x)] w fun e w' => e = .returned (ji (CS x.p)) ∧ Bw w w' := by
 obtain ⟨R, hR⟩ := AC (CS x.p);rw [← hR];replace hR : Hid _ := hR;obtain ⟨y, hy, B0⟩ := AI w (Obj.cells (bc x) 34);have A : AS y w.heap.size x := by rw [hy]; exact AS.new w _ x
 have V := hV.later B0;go_enter func195, ntmps195
 go_upto_region 2 with fail
 rw [← hy];clear hy hV;refine wp_loop_rounds 3 ?_;rw [rounds_succ];have a0 := A.all;go_wp2_with fail
 go_at_call 64
 clear a0;refine (Eo x 0 y V).mono ?_;rintro e v1 ⟨rfl, k1⟩;have A := A.below k1 A.lt;have V := V.later k1;have B1 := AE B0 k1;clear k1 B0;cases h0 : Bp x.p 0
 ·
  replace h0 : Hid _ := h0;go_wp2
  rw [rounds_succ];have a0 := A.all;go_wp2_with fail
  go_at_call 64
  clear a0;refine (Eo x 1 v1 V).mono ?_;rintro e v2 ⟨rfl, k2⟩;have B2 := AE B1 k2;clear k2 B1;cases h1 : Bp x.p 1
  ·
   have hN : Hid (R = -1) := by unfold Hid; rw [hR.out]; unfold CS; rw [h0.out, h1]; rfl
   clear h1;go_wp2
   rw [rounds_succ];go_wp2
   go_ret
   exact ⟨by rw [hN.out]; rfl, B2⟩
  have hN : Hid (R = 1) := by unfold Hid; rw [hR.out]; unfold CS; rw [h0.out, h1]; rfl
  clear h1;go_wp2
  go_ret
  exact ⟨by rw [hN.out]; rfl, B2⟩
 have hN : Hid (R = 0) := by unfold Hid; rw [hR.out]; unfold CS; rw [h0]; rfl
 clear h0;go_wp2
 go_ret
 exact ⟨by rw [hN.out]; rfl, B1⟩
end Go.Proofs.YtjmnaeeknomiaaaGreat
