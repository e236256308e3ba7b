import Derived.Test.YtjmnaeeknomiaaaGreatDoorRM20
namespace Go.Proofs.YtjmnaeeknomiaaaGreatDoor
open Go.ChangeShapes Go.WideShapes Go.ChangeAt Go.RowKit
open Go.ChangeMaps (open_string shut_string)
set_option linter.unusedVariables false
set_option maxRecDepth 100000
set_option maxHeartbeats 32000000
set_option linter.unusedSimpArgs false
open Go.Proofs.Tryz
attribute [local go_sem] ji ja bc mc
theorem AA.first {X : Type} {enc : X → List Value} {n : Nat} {T : TypeId} {base : Nat} {w : World} {ad : Option Addr} {len cap : Nat} {L : List X} (h : AA enc n T base w (.slice ad len cap) L) (hp : 0 < L.length) : ∃ g, ad = some (ja g 0) := by
 rcases h.2 with ⟨e, h0⟩ | ⟨g, c, cur, e, _⟩
 ·
  have := h.view.1;simp only [Value.slice.injEq] at e;omega
 simp only [Value.slice.injEq] at e;exact ⟨g, e.1⟩
theorem G3 (x : AF) (d : De) (w : World) (base : Nat) (hO : AL base w x) (hV : Ck w x) (hbw : base ≤ w.heap.size) (h2 : x.two.length = 2) (ha : 0 ≤ d.a ∧ d.a ≤ 1) (b0 : 0 ≤ (x.two.getD 0 AD.nil).m.li ∧ (x.two.getD 0 AD.nil).m.li ≤ 1000000000) (b1 : 0 ≤ (x.two.getD 1 AD.nil).m.li ∧ (x.two.getD 1 AD.nil).m.li ≤ 1000000000) :
  Calls prog 146 #[.agg (bc x), .agg #[ji d.k, ji d.a, ji d.x.k, ji d.x.q, ji d.x.r, ji d.x.c, ji d.x.b, ji d.x.p, ji d.x.h, .bool d.x.up]] w fun e w' => ∃ x2 : AF, ∃ c : Int, e = .returned (.tuple #[.agg (bc x2), ji c]) ∧ (x2.p, c) = Dw x.p d ∧ AL base w' x2 ∧ Below base w w' ∧ PZ w w' := by
 obtain ⟨y, hy⟩ := AC (((w.alloc (Obj.cells (bc x) 63)).alloc (Obj.cells #[ji d.k, ji d.a, ji d.x.k, ji d.x.q, ji d.x.r, ji d.x.c, ji d.x.b, ji d.x.p, ji d.x.h, .bool d.x.up] 210)).alloc (Obj.cells #[ji 0, ji 0, ji 0, ji 0, ji 0, .slice none 0 0, .slice none 0 0, .slice none 0 0, .slice none 0 0, .slice none 0 0] 63));obtain ⟨B0, A, D, Z⟩ := HU x d w y hy;have PZ_ := PZ.of B0;have O := hO.later B0;have V := hV.later B0;obtain ⟨k, hk⟩ : ∃ k : Nat, d.a = (k : Int) := ⟨d.a.toNat, by omega⟩;have hkl : k < x.two.length := by omega
 obtain ⟨g, hat⟩ := O.t.first (by omega);obtain ⟨m, hm⟩ : ∃ m, x.two.getD k AD.nil = m := ⟨_, rfl⟩;have M0 : BL y g (k * 7) m := by have h1 := O.t.view.2; rw [hat] at h1; have := CZ (h1.at_ BC AD.nil hkl); rw [hm] at this; simpa using this
 have hmo : AZ x.p d.a = m.m := by rw [Ch, hk]; simp only [Int.toNat_natCast]; rw [hm]
 have gl : g < w.heap.size := hV.t.lt BC (by omega) (ja g 0) hat (by omega);have gz := (hO.t.lt g (BP hat rfl)).1;have hct := V.ct;obtain ⟨R, hR⟩ := AC (Dw x.p d);rw [← hR];replace hR : Hid _ := hR;replace hk : Hid _ := hk;replace hat : Hid _ := hat;replace hm : Hid _ := hm;replace hmo : Hid _ := hmo;replace h2 : Hid _ := h2;clear hV hO;go_enter func146, ntmps146
 go_upto_region 1 with fail
 rw [← hy];clear hy;have cA := A.c5;rw [hat.out] at cA;have cD := D.c1;rw [hk.out] at cD;have n0 := M0.all;go_upto_region 2 with fail
 clear n0 cA cD;obtain ⟨u1, hu1, kq⟩ := AM y (Obj.cells (mc m.m m.ad m.cap) 54);rw [← hu1];have N : Ab u1 y.heap.size m.m (.slice m.ad m.m.lg.length m.cap) := by rw [hu1]; exact Ab.new y _ m.m _
 clear hu1;have A := A.below kq A.lt;have D := D.below kq D.lt;have zl := BR Z;have Z : Aj u1 (w.heap.size + 1 + 1) := (kq.block _ zl).trans Z;have O := O.later kq;have PZ_ := PZ_.later kq;have V := V.later kq;have M0 := M0.below kq (by have := B0.size; omega);have B1 := (AG B0 kq).mono hbw;obtain ⟨qn, hqn⟩ := AC y.heap.size;rw [← hqn] at N zl ⊢;clear hqn kq B0;by_cases h7 : d.k = 7
 ·
  cases hu : m.m.up
  ·
   have O9 : AL base (BT u1 (w.heap.size + 1 + 1) x) (x) := O.keepZ Z (fun g_ hg_ => Ak u1 (w.heap.size + 1 + 1) g_ x hg_);have B9 : Below base w (BT u1 (w.heap.size + 1 + 1) x) := CO (q := w.heap.size + 1 + 1) x B1 (by omega);have P9 := PZ_.keep (n := w.heap.size + 1 + 1) (by omega) (fun g_ hg_ => Ak _ (w.heap.size + 1 + 1) g_ x hg_) (by simp);have ZB := Z.box;clear O V M0 Z;have a0 := A.all;have r0 := Ad ZB;clear A;have e0 := D.c0;clear D;replace N := N.all;go_wp2
   refine bodyPost_ret (v := .tuple #[AJ x, ji 3]) (by simp [AJ, results, results146, go_sem, *]) rfl ⟨x, 3, rfl, by rw [hR.out]; unfold Dw; rw [hmo.out]; simp [h7, hu], O9, B9, P9⟩
  have cA := A.c5;rw [hat.out] at cA;have cD := D.c1;rw [hk.out] at cD;have e0 := D.c0;have n0 := N.all;have v0 := M0.all;have ot := O.t;rw [hat.out] at ot;have f0 := ot.frozen (k * 7);have f1 := ot.frozen (k * 7 + 1);have f2 := ot.frozen (k * 7 + 2);have f3 := ot.frozen (k * 7 + 3);have f4 := ot.frozen (k * 7 + 4);have f5 := ot.frozen (k * 7 + 5);have f6 := ot.frozen (k * 7 + 6);clear ot;go_upto_region 4 with fail
  clear v0 n0 cA cD e0 f0 f1 f2 f3 f4 f5 f6;obtain ⟨u2, hu2⟩ := AC (((((((u1.setCell ⟨g, k * 7, none⟩ (.bool false)).setCell ⟨g, k * 7 + 1, none⟩ (ji m.m.li)).setCell ⟨g, k * 7 + 2, none⟩ (ji 0)).setCell ⟨g, k * 7 + 3, none⟩ (.slice none 0 0)).setCell ⟨g, k * 7 + 4, none⟩ (ji 0)).setCell ⟨g, k * 7 + 5, none⟩ (ji 0)).setCell ⟨g, k * 7 + 6, none⟩ (ji 0));have PZ_ := PZ_.row (W2 := u2) O.t (by decide) (BP hat.out rfl) (fun k_ hk_ => by rw [hu2, AE hk_, AE hk_, AE hk_, AE hk_, AE hk_, AE hk_, AE hk_]) (by rw [hu2]; simp);have O : AL base u2 (x.setT k (⟨⟨false, m.m.li, 0, [], 0, 0, 0⟩, none, 0⟩ : AD)) := by rw [hu2]; exact O.setT hat.out hkl (⟨⟨false, m.m.li, 0, [], 0, 0, 0⟩, none, 0⟩ : AD) AA.nil (fun _ e => by cases e)
  have kp : ∀ k_, k_ ≠ g → u2.heap[k_]? = u1.heap[k_]? := fun k_ hk_ => by rw [hu2]; exact DH (BG (⟨⟨false, m.m.li, 0, [], 0, 0, 0⟩, none, 0⟩ : AD)) u1 (k * 7) k_ hk_
  have A := A.keep (kp _ (by omega));have D := D.keep (kp _ (by omega));have N := N.keep (kp _ (by omega));have Z : Aj u2 (w.heap.size + 1 + 1) := (kp _ (by omega)).trans Z;have B1 : Below base w u2 := by rw [hu2]; exact Dp gz (BG (⟨⟨false, m.m.li, 0, [], 0, 0, 0⟩, none, 0⟩ : AD)) (k * 7) B1
  rw [← hu2];clear hu2 kp;have O9 : AL base (BT u2 (w.heap.size + 1 + 1) x) (x.setT k (⟨⟨false, m.m.li, 0, [], 0, 0, 0⟩, none, 0⟩ : AD)) := O.keepZ Z (fun g_ hg_ => Ak u2 (w.heap.size + 1 + 1) g_ x hg_);have B9 : Below base w (BT u2 (w.heap.size + 1 + 1) x) := CO (q := w.heap.size + 1 + 1) x B1 (by omega);have P9 := PZ_.keep (n := w.heap.size + 1 + 1) (by omega) (fun g_ hg_ => Ak _ (w.heap.size + 1 + 1) g_ x hg_) (by simp);have ZB := Z.box;clear O V M0 Z;have a0 := A.all;have r0 := Ad ZB;clear A;have e0 := D.c0;clear D;replace N := N.all;go_wp2
  refine bodyPost_ret (v := .tuple #[AJ x, ji 0]) (by simp [AJ, results, results146, go_sem, *]) rfl ⟨x.setT k (⟨⟨false, m.m.li, 0, [], 0, 0, 0⟩, none, 0⟩ : AD), 0, by simp [AF.setT], by rw [AF.setT_p, hR.out]; unfold Dw; rw [hmo.out, hk.out]; simp [h7, hu], O9, B9, P9⟩
 by_cases h8 : d.k = 8
 ·
  cases hu : m.m.up
  ·
   have e0 := D.c0;have n0 := N.all;go_upto_region 7 with fail
   clear n0 e0;refine An (fun Y => Af Y w.heap.size x ∧ Bt Y (w.heap.size + 1) d) fun u3 kd => ?_
   have sw : w.heap.size + 1 + 1 < u1.heap.size := BR Z;have A := A.below kd A.lt;have D := D.below kd D.lt;have N := N.below kd N.lt;have M0 := M0.below kd (by have := B1.size; omega);have O := O.later kd;have PZ_ := PZ_.later kd;have Z : Aj u3 (w.heap.size + 1 + 1) := (kd.block _ sw).trans Z;have V := V.later kd;have B1 : Below base w u3 := B1.trans (kd.mono (by omega));clear kd sw;have hs : Af u3 w.heap.size x ∧ Bt u3 (w.heap.size + 1) d := ⟨A, D⟩;refine tw 0 58 (.pointer (some (ja w.heap.size 5))) ?_;refine tw 1 59 (.slice (some (ja g 0)) x.two.length x.cT) ?_ (hy := by intro Y hSw; obtain ⟨⟨X0, X1, X2, X3, X4, X5, X6, X7, X8, X9⟩, _⟩ := hSw; rw [hat.out] at X5; go_simp);refine tw 2 60 (.pointer (some ⟨w.heap.size + 1, 1, none⟩)) ?_;refine tw 3 61 (ji (k : Int)) ?_ (hy := by intro Y hSw; have X1 := hSw.2.c1; rw [hk.out] at X1; go_simp);refine tw 4 62 (.agg (bc x)) ?_ (hy := by intro Y hSw; obtain ⟨⟨X0, X1, X2, X3, X4, X5, X6, X7, X8, X9⟩, _⟩ := hSw; go_simp);refine w1 5 fun Kz hKz => ?_
   go_simp
   go_at_call 163
   refine (IY x u3 V h2.out b0 b1).mono ?_;rintro e u4 ⟨rfl, kq⟩;have sw : w.heap.size + 1 + 1 < u3.heap.size := BR Z;have A := A.below kq A.lt;have D := D.below kq D.lt;have N := N.below kq N.lt;have M0 := M0.below kq (by have := B1.size; omega);have O := O.later kq;have PZ_ := PZ_.later kq;have Z : Aj u4 (w.heap.size + 1 + 1) := (kq.block _ sw).trans Z;have V := V.later kq;have B1 : Below base w u4 := B1.trans (kq.mono (by omega));clear kq sw;have hs : Af u4 w.heap.size x ∧ Bt u4 (w.heap.size + 1) d := ⟨A, D⟩;obtain ⟨t, ht⟩ : ∃ t : Int, t = max (x.two.getD 0 AD.nil).m.li (x.two.getD 1 AD.nil).m.li + 1 := ⟨_, rfl⟩;rw [← ht];replace ht : Hid _ := ht;refine hKz _ _ ⟨hs, ?_⟩;clear hKz Kz;refine tw 6 64 (.pointer (some ⟨g, k * 7, none⟩)) ?_ (hy := by intro Y hSw; go_simp; try omega);refine w1 7 fun Kz hKz => ?_
   have v0 := M0.all;have ot := O.t;rw [hat.out] at ot;have f0 := ot.frozen (k * 7);have f1 := ot.frozen (k * 7 + 1);have f2 := ot.frozen (k * 7 + 2);have f3 := ot.frozen (k * 7 + 3);have f4 := ot.frozen (k * 7 + 4);have f5 := ot.frozen (k * 7 + 5);have f6 := ot.frozen (k * 7 + 6);clear ot;go_simp
   clear v0 f0 f1 f2 f3 f4 f5 f6;obtain ⟨u5, hu5⟩ := AC (((((((u4.setCell ⟨g, k * 7, none⟩ (.bool true)).setCell ⟨g, k * 7 + 1, none⟩ (ji t)).setCell ⟨g, k * 7 + 2, none⟩ (ji 0)).setCell ⟨g, k * 7 + 3, none⟩ (.slice none 0 0)).setCell ⟨g, k * 7 + 4, none⟩ (ji 0)).setCell ⟨g, k * 7 + 5, none⟩ (ji 0)).setCell ⟨g, k * 7 + 6, none⟩ (ji 0));have PZ_ := PZ_.row (W2 := u5) O.t (by decide) (BP hat.out rfl) (fun k_ hk_ => by rw [hu5, AE hk_, AE hk_, AE hk_, AE hk_, AE hk_, AE hk_, AE hk_]) (by rw [hu5]; simp);have O : AL base u5 (x.setT k (⟨⟨true, t, 0, [], 0, 0, 0⟩, none, 0⟩ : AD)) := by rw [hu5]; exact O.setT hat.out hkl (⟨⟨true, t, 0, [], 0, 0, 0⟩, none, 0⟩ : AD) AA.nil (fun _ e => by cases e)
   have kp : ∀ k_, k_ ≠ g → u5.heap[k_]? = u4.heap[k_]? := fun k_ hk_ => by rw [hu5]; exact DH (BG (⟨⟨true, t, 0, [], 0, 0, 0⟩, none, 0⟩ : AD)) u4 (k * 7) k_ hk_
   have A := A.keep (kp _ (by omega));have D := D.keep (kp _ (by omega));have N := N.keep (kp _ (by omega));have Z : Aj u5 (w.heap.size + 1 + 1) := (kp _ (by omega)).trans Z;have B1 : Below base w u5 := by rw [hu5]; exact Dp gz (BG (⟨⟨true, t, 0, [], 0, 0, 0⟩, none, 0⟩ : AD)) (k * 7) B1
   have hs : Af u5 w.heap.size x ∧ Bt u5 (w.heap.size + 1) d := ⟨A, D⟩;rw [← hu5];clear hu5 kp;refine hKz _ _ ⟨hs, ?_⟩;clear hKz Kz;refine Ag ?_;clear hs;have O9 : AL base (BT u5 (w.heap.size + 1 + 1) x) (x.setT k (⟨⟨true, t, 0, [], 0, 0, 0⟩, none, 0⟩ : AD)) := O.keepZ Z (fun g_ hg_ => Ak u5 (w.heap.size + 1 + 1) g_ x hg_);have B9 : Below base w (BT u5 (w.heap.size + 1 + 1) x) := CO (q := w.heap.size + 1 + 1) x B1 (by omega);have P9 := PZ_.keep (n := w.heap.size + 1 + 1) (by omega) (fun g_ hg_ => Ak _ (w.heap.size + 1 + 1) g_ x hg_) (by simp);have ZB := Z.box;clear O V M0 Z;have a0 := A.all;have r0 := Ad ZB;clear A;have e0 := D.c0;clear D;replace N := N.all;go_wp2
   refine bodyPost_ret (v := .tuple #[AJ x, ji 0]) (by simp [AJ, results, results146, go_sem, *]) rfl ⟨x.setT k (⟨⟨true, t, 0, [], 0, 0, 0⟩, none, 0⟩ : AD), 0, by simp [AF.setT], by rw [AF.setT_p, hR.out]; unfold Dw; rw [hmo.out, hk.out, if_neg (by simp [h8, hu]), if_pos (by simp [h8, hu])]; unfold G1; rw [Ch, Ch]; rw [ht.out]; rfl, O9, B9, P9⟩
  have O9 : AL base (BT u1 (w.heap.size + 1 + 1) x) (x) := O.keepZ Z (fun g_ hg_ => Ak u1 (w.heap.size + 1 + 1) g_ x hg_);have B9 : Below base w (BT u1 (w.heap.size + 1 + 1) x) := CO (q := w.heap.size + 1 + 1) x B1 (by omega);have P9 := PZ_.keep (n := w.heap.size + 1 + 1) (by omega) (fun g_ hg_ => Ak _ (w.heap.size + 1 + 1) g_ x hg_) (by simp);have ZB := Z.box;clear O V M0 Z;have a0 := A.all;have r0 := Ad ZB;clear A;have e0 := D.c0;clear D;replace N := N.all;go_wp2
  refine bodyPost_ret (v := .tuple #[AJ x, ji 3]) (by simp [AJ, results, results146, go_sem, *]) rfl ⟨x, 3, rfl, by rw [hR.out]; unfold Dw; rw [hmo.out]; simp [h8, hu], O9, B9, P9⟩
 by_cases h12 : d.k = 12
 ·
  cases hu : m.m.up
  ·
   have O9 : AL base (BT u1 (w.heap.size + 1 + 1) x) (x) := O.keepZ Z (fun g_ hg_ => Ak u1 (w.heap.size + 1 + 1) g_ x hg_);have B9 : Below base w (BT u1 (w.heap.size + 1 + 1) x) := CO (q := w.heap.size + 1 + 1) x B1 (by omega);have P9 := PZ_.keep (n := w.heap.size + 1 + 1) (by omega) (fun g_ hg_ => Ak _ (w.heap.size + 1 + 1) g_ x hg_) (by simp);have ZB := Z.box;clear O V M0 Z;have a0 := A.all;have r0 := Ad ZB;clear A;have e0 := D.c0;clear D;replace N := N.all;go_wp2
   refine bodyPost_ret (v := .tuple #[AJ x, ji 3]) (by simp [AJ, results, results146, go_sem, *]) rfl ⟨x, 3, rfl, by rw [hR.out]; unfold Dw; rw [hmo.out]; simp [h12, hu], O9, B9, P9⟩
  by_cases he : 0 < m.m.ep
  ·
   have e0 := D.c0;have e1 := D.c1;have n0 := N.all;have a0 := A.all;go_wp2_with fail
   go_at_call 162
   clear a0 n0 e0 e1;refine (FX x d.a u1 V).mono ?_;rintro e u2 ⟨rfl, kq⟩;have sw : w.heap.size + 1 + 1 < u1.heap.size := BR Z;have A := A.below kq A.lt;have D := D.below kq D.lt;have N := N.below kq N.lt;have M0 := M0.below kq (by have := B1.size; omega);have O := O.later kq;have PZ_ := PZ_.later kq;have Z : Aj u2 (w.heap.size + 1 + 1) := (kq.block _ sw).trans Z;have V := V.later kq;have B1 : Below base w u2 := B1.trans (kq.mono (by omega));clear kq sw;cases hM : Ct x.p d.a
   ·
    replace hM : Hid _ := hM;go_upto_region 7 with fail
    refine An (fun Y => Af Y w.heap.size x ∧ Bt Y (w.heap.size + 1) d) fun u3 kd => ?_
    have sw : w.heap.size + 1 + 1 < u2.heap.size := BR Z;have A := A.below kd A.lt;have D := D.below kd D.lt;have N := N.below kd N.lt;have M0 := M0.below kd (by have := B1.size; omega);have O := O.later kd;have PZ_ := PZ_.later kd;have Z : Aj u3 (w.heap.size + 1 + 1) := (kd.block _ sw).trans Z;have V := V.later kd;have B1 : Below base w u3 := B1.trans (kd.mono (by omega));clear kd sw;have hs : Af u3 w.heap.size x ∧ Bt u3 (w.heap.size + 1) d := ⟨A, D⟩;refine tw 0 58 (.pointer (some (ja w.heap.size 5))) ?_;refine tw 1 59 (.slice (some (ja g 0)) x.two.length x.cT) ?_ (hy := by intro Y hSw; obtain ⟨⟨X0, X1, X2, X3, X4, X5, X6, X7, X8, X9⟩, _⟩ := hSw; rw [hat.out] at X5; go_simp);refine tw 2 60 (.pointer (some ⟨w.heap.size + 1, 1, none⟩)) ?_;refine tw 3 61 (ji (k : Int)) ?_ (hy := by intro Y hSw; have X1 := hSw.2.c1; rw [hk.out] at X1; go_simp);refine tw 4 62 (.agg (bc x)) ?_ (hy := by intro Y hSw; obtain ⟨⟨X0, X1, X2, X3, X4, X5, X6, X7, X8, X9⟩, _⟩ := hSw; go_simp);refine w1 5 fun Kz hKz => ?_
    go_simp
    go_at_call 163
    refine (IY x u3 V h2.out b0 b1).mono ?_;rintro e u4 ⟨rfl, kq⟩;have sw : w.heap.size + 1 + 1 < u3.heap.size := BR Z;have A := A.below kq A.lt;have D := D.below kq D.lt;have N := N.below kq N.lt;have M0 := M0.below kq (by have := B1.size; omega);have O := O.later kq;have PZ_ := PZ_.later kq;have Z : Aj u4 (w.heap.size + 1 + 1) := (kq.block _ sw).trans Z;have V := V.later kq;have B1 : Below base w u4 := B1.trans (kq.mono (by omega));clear kq sw;have hs : Af u4 w.heap.size x ∧ Bt u4 (w.heap.size + 1) d := ⟨A, D⟩;obtain ⟨t, ht⟩ : ∃ t : Int, t = max (x.two.getD 0 AD.nil).m.li (x.two.getD 1 AD.nil).m.li + 1 := ⟨_, rfl⟩;rw [← ht];replace ht : Hid _ := ht;refine hKz _ _ ⟨hs, ?_⟩;clear hKz Kz;refine tw 6 64 (.pointer (some ⟨g, k * 7, none⟩)) ?_ (hy := by intro Y hSw; go_simp; try omega);refine w1 7 fun Kz hKz => ?_
    have v0 := M0.all;have ot := O.t;rw [hat.out] at ot;have f0 := ot.frozen (k * 7);have f1 := ot.frozen (k * 7 + 1);have f2 := ot.frozen (k * 7 + 2);have f3 := ot.frozen (k * 7 + 3);have f4 := ot.frozen (k * 7 + 4);have f5 := ot.frozen (k * 7 + 5);have f6 := ot.frozen (k * 7 + 6);clear ot;go_simp
    clear v0 f0 f1 f2 f3 f4 f5 f6;obtain ⟨u5, hu5⟩ := AC (((((((u4.setCell ⟨g, k * 7, none⟩ (.bool true)).setCell ⟨g, k * 7 + 1, none⟩ (ji t)).setCell ⟨g, k * 7 + 2, none⟩ (ji 0)).setCell ⟨g, k * 7 + 3, none⟩ (.slice none 0 0)).setCell ⟨g, k * 7 + 4, none⟩ (ji 0)).setCell ⟨g, k * 7 + 5, none⟩ (ji 0)).setCell ⟨g, k * 7 + 6, none⟩ (ji 0));have PZ_ := PZ_.row (W2 := u5) O.t (by decide) (BP hat.out rfl) (fun k_ hk_ => by rw [hu5, AE hk_, AE hk_, AE hk_, AE hk_, AE hk_, AE hk_, AE hk_]) (by rw [hu5]; simp);have O : AL base u5 (x.setT k (⟨⟨true, t, 0, [], 0, 0, 0⟩, none, 0⟩ : AD)) := by rw [hu5]; exact O.setT hat.out hkl (⟨⟨true, t, 0, [], 0, 0, 0⟩, none, 0⟩ : AD) AA.nil (fun _ e => by cases e)
    have kp : ∀ k_, k_ ≠ g → u5.heap[k_]? = u4.heap[k_]? := fun k_ hk_ => by rw [hu5]; exact DH (BG (⟨⟨true, t, 0, [], 0, 0, 0⟩, none, 0⟩ : AD)) u4 (k * 7) k_ hk_
    have A := A.keep (kp _ (by omega));have D := D.keep (kp _ (by omega));have N := N.keep (kp _ (by omega));have Z : Aj u5 (w.heap.size + 1 + 1) := (kp _ (by omega)).trans Z;have B1 : Below base w u5 := by rw [hu5]; exact Dp gz (BG (⟨⟨true, t, 0, [], 0, 0, 0⟩, none, 0⟩ : AD)) (k * 7) B1
    have hs : Af u5 w.heap.size x ∧ Bt u5 (w.heap.size + 1) d := ⟨A, D⟩;rw [← hu5];clear hu5 kp;refine hKz _ _ ⟨hs, ?_⟩;clear hKz Kz;refine Ag ?_;clear hs;have O9 : AL base (BT u5 (w.heap.size + 1 + 1) x) (x.setT k (⟨⟨true, t, 0, [], 0, 0, 0⟩, none, 0⟩ : AD)) := O.keepZ Z (fun g_ hg_ => Ak u5 (w.heap.size + 1 + 1) g_ x hg_);have B9 : Below base w (BT u5 (w.heap.size + 1 + 1) x) := CO (q := w.heap.size + 1 + 1) x B1 (by omega);have P9 := PZ_.keep (n := w.heap.size + 1 + 1) (by omega) (fun g_ hg_ => Ak _ (w.heap.size + 1 + 1) g_ x hg_) (by simp);have ZB := Z.box;clear O V M0 Z;have a0 := A.all;have r0 := Ad ZB;clear A;have e0 := D.c0;clear D;replace N := N.all;go_wp2
    refine bodyPost_ret (v := .tuple #[AJ x, ji 0]) (by simp [AJ, results, results146, go_sem, *]) rfl ⟨x.setT k (⟨⟨true, t, 0, [], 0, 0, 0⟩, none, 0⟩ : AD), 0, by simp [AF.setT], by rw [AF.setT_p, hR.out]; unfold Dw; rw [hmo.out, hk.out, if_neg (by simp [h7, h12, hu, he, hk.out ▸ hM.out]), if_pos (by simp [h7, h12, hu, he, hk.out ▸ hM.out])]; unfold G1; rw [Ch, Ch]; rw [ht.out]; rfl, O9, B9, P9⟩
   have O9 : AL base (BT u2 (w.heap.size + 1 + 1) x) (x) := O.keepZ Z (fun g_ hg_ => Ak u2 (w.heap.size + 1 + 1) g_ x hg_);have B9 : Below base w (BT u2 (w.heap.size + 1 + 1) x) := CO (q := w.heap.size + 1 + 1) x B1 (by omega);have P9 := PZ_.keep (n := w.heap.size + 1 + 1) (by omega) (fun g_ hg_ => Ak _ (w.heap.size + 1 + 1) g_ x hg_) (by simp);have ZB := Z.box;clear O V M0 Z;have a0 := A.all;have r0 := Ad ZB;clear A;have e0 := D.c0;clear D;replace N := N.all;go_wp2
   refine bodyPost_ret (v := .tuple #[AJ x, ji 3]) (by simp [AJ, results, results146, go_sem, *]) rfl ⟨x, 3, rfl, by rw [hR.out]; unfold Dw; rw [hmo.out]; simp [h7, h12, hu, he, hM], O9, B9, P9⟩
  have O9 : AL base (BT u1 (w.heap.size + 1 + 1) x) (x) := O.keepZ Z (fun g_ hg_ => Ak u1 (w.heap.size + 1 + 1) g_ x hg_);have B9 : Below base w (BT u1 (w.heap.size + 1 + 1) x) := CO (q := w.heap.size + 1 + 1) x B1 (by omega);have P9 := PZ_.keep (n := w.heap.size + 1 + 1) (by omega) (fun g_ hg_ => Ak _ (w.heap.size + 1 + 1) g_ x hg_) (by simp);have ZB := Z.box;clear O V M0 Z;have a0 := A.all;have r0 := Ad ZB;clear A;have e0 := D.c0;clear D;replace N := N.all;go_wp2
  refine bodyPost_ret (v := .tuple #[AJ x, ji 3]) (by simp [AJ, results, results146, go_sem, *]) rfl ⟨x, 3, rfl, by rw [hR.out]; unfold Dw; rw [hmo.out]; simp [h12, hu]; exact fun h => absurd h (by omega), O9, B9, P9⟩
 have O9 : AL base (BT u1 (w.heap.size + 1 + 1) x) (x) := O.keepZ Z (fun g_ hg_ => Ak u1 (w.heap.size + 1 + 1) g_ x hg_);have B9 : Below base w (BT u1 (w.heap.size + 1 + 1) x) := CO (q := w.heap.size + 1 + 1) x B1 (by omega);have P9 := PZ_.keep (n := w.heap.size + 1 + 1) (by omega) (fun g_ hg_ => Ak _ (w.heap.size + 1 + 1) g_ x hg_) (by simp);have ZB := Z.box;clear O V M0 Z;have a0 := A.all;have r0 := Ad ZB;clear A;have e0 := D.c0;clear D;replace N := N.all;go_wp2
 refine bodyPost_ret (v := .tuple #[AJ x, ji 3]) (by simp [AJ, results, results146, go_sem, *]) rfl ⟨x, 3, rfl, by rw [hR.out]; unfold Dw; rw [hmo.out]; simp [h7, h8, h12], O9, B9, P9⟩
attribute [local go_sem] ic
theorem LU (x : AF) (d : De) (w : World) (base : Nat) (hO : AL base w x) (hV : Ck w x) (hbw : base ≤ w.heap.size) (h2 : x.two.length = 2) :
  Calls prog 142 #[.agg (bc x), .agg #[ji d.k, ji d.a, ji d.x.k, ji d.x.q, ji d.x.r, ji d.x.c, ji d.x.b, ji d.x.p, ji d.x.h, .bool d.x.up]] w fun e w' => ∃ x2 : AF, ∃ c : Int, e = .returned (.tuple #[.agg (bc x2), ji c]) ∧ (x2.p, c) = Eu x.p d ∧ AL base w' x2 ∧ Below base w w' ∧ PZ w w' := by
 obtain ⟨y, hy⟩ := AC (((w.alloc (Obj.cells (bc x) 63)).alloc (Obj.cells #[ji d.k, ji d.a, ji d.x.k, ji d.x.q, ji d.x.r, ji d.x.c, ji d.x.b, ji d.x.p, ji d.x.h, .bool d.x.up] 210)).alloc (Obj.cells #[ji 0, ji 0, ji 0, ji 0, ji 0, .slice none 0 0, .slice none 0 0, .slice none 0 0, .slice none 0 0, .slice none 0 0] 63));obtain ⟨B0, A, D, Z⟩ := HU x d w y hy;have PZ_ := PZ.of B0;have O := hO.later B0;have V := hV.later B0;have B1 := B0.mono hbw;clear B0;have gl0 : ∀ g, x.aT = some (ja g 0) → g < w.heap.size := fun g e => hV.t.lt BC (by omega) (ja g 0) e (by omega)
 have gz0 : ∀ g, x.aT = some (ja g 0) → base ≤ g := fun g e => (hO.t.lt g (BP e rfl)).1
 have hct := V.ct;obtain ⟨R, hR⟩ := AC (Eu x.p d);rw [← hR];replace hR : Hid _ := hR;replace h2 : Hid _ := h2;clear hV hO;go_enter func142, ntmps142
 go_upto_region 1 with fail
 rw [← hy];clear hy;have ca0 := A.all;go_wp2_with fail
 go_at_call 156
 clear ca0;refine (Il x y V).mono ?_;rintro e u1 ⟨rfl, kq⟩;have sw : w.heap.size + 1 + 1 < y.heap.size := BR Z;have A := A.below kq A.lt;have D := D.below kq D.lt;have O := O.later kq;have PZ_ := PZ_.later kq;have Z : Aj u1 (w.heap.size + 1 + 1) := (kq.block _ sw).trans Z;have V := V.later kq;have B1 : Below base w u1 := B1.trans (kq.mono (by omega));clear kq sw;obtain ⟨s, hs⟩ := AC (CV x.p);rw [← hs];have hsb : s < 0 ∨ s = 0 ∨ s = 1 := by rw [hs]; unfold CV; split; omega; split <;> omega
 replace hs : Hid _ := hs;by_cases hn : s < 0
 ·
  have O9 : AL base (BT u1 (w.heap.size + 1 + 1) x) (x) := O.keepZ Z (fun g_ hg_ => Ak u1 (w.heap.size + 1 + 1) g_ x hg_);have B9 : Below base w (BT u1 (w.heap.size + 1 + 1) x) := CO (q := w.heap.size + 1 + 1) x B1 (by omega);have P9 := PZ_.keep (n := w.heap.size + 1 + 1) (by omega) (fun g_ hg_ => Ak _ (w.heap.size + 1 + 1) g_ x hg_) (by simp);have ZB := Z.box;clear O V Z;have ca0 := A.all;have r0 := Ad ZB;clear A;have e0 := D.all;clear D;go_wp2
  refine bodyPost_ret (v := .tuple #[AJ x, ji 3]) (by simp [AJ, results, results142, go_sem, *]) rfl ⟨x, 3, rfl, by rw [hR.out]; unfold Eu; rw [← hs.out, if_pos (Or.inl hn)], O9, B9, P9⟩
 obtain ⟨k, hk⟩ : ∃ k : Nat, s = (k : Int) := ⟨s.toNat, by omega⟩;have hkl : k < x.two.length := by have := h2.out; omega
 subst hk;have e0 := D.all;go_wp2_with fail
 go_at_call 25
 clear e0;refine (GN d.x u1).mono ?_;rintro e u2 ⟨rfl, kq⟩;have sw : w.heap.size + 1 + 1 < u1.heap.size := BR Z;have A := A.below kq A.lt;have D := D.below kq D.lt;have O := O.later kq;have PZ_ := PZ_.later kq;have Z : Aj u2 (w.heap.size + 1 + 1) := (kq.block _ sw).trans Z;have V := V.later kq;have B1 : Below base w u2 := B1.trans (kq.mono (by omega));clear kq sw;cases hI : CR d.x
 ·
  have O9 : AL base (BT u2 (w.heap.size + 1 + 1) x) (x) := O.keepZ Z (fun g_ hg_ => Ak u2 (w.heap.size + 1 + 1) g_ x hg_);have B9 : Below base w (BT u2 (w.heap.size + 1 + 1) x) := CO (q := w.heap.size + 1 + 1) x B1 (by omega);have P9 := PZ_.keep (n := w.heap.size + 1 + 1) (by omega) (fun g_ hg_ => Ak _ (w.heap.size + 1 + 1) g_ x hg_) (by simp);have ZB := Z.box;clear O V Z;have ca0 := A.all;have r0 := Ad ZB;clear A;have e0 := D.all;clear D;go_wp2
  refine bodyPost_ret (v := .tuple #[AJ x, ji 3]) (by simp [AJ, results, results142, go_sem, *]) rfl ⟨x, 3, rfl, by rw [hR.out]; unfold Eu; rw [← hs.out, if_pos (Or.inr (Or.inl hI))], O9, B9, P9⟩
 by_cases hp : x.po ≤ d.x.q
 ·
  have O9 : AL base (BT u2 (w.heap.size + 1 + 1) x) (x) := O.keepZ Z (fun g_ hg_ => Ak u2 (w.heap.size + 1 + 1) g_ x hg_);have B9 : Below base w (BT u2 (w.heap.size + 1 + 1) x) := CO (q := w.heap.size + 1 + 1) x B1 (by omega);have P9 := PZ_.keep (n := w.heap.size + 1 + 1) (by omega) (fun g_ hg_ => Ak _ (w.heap.size + 1 + 1) g_ x hg_) (by simp);have ZB := Z.box;clear O V Z;have ca0 := A.all;obtain ⟨r0, r1, r2, r3, r4, r5, r6, r7, r8, r9, g0, g1, g2, g3, g4, g5, g6, g7, g8, g9⟩ := Ad ZB;clear A;have e0 := D.all;clear D;go_wp2
  refine bodyPost_ret (v := .tuple #[AJ x, ji 3]) (by simp [AJ, results, results142, go_sem, *]) rfl ⟨x, 3, rfl, by rw [hR.out]; unfold Eu; rw [← hs.out, if_pos (Or.inr (Or.inr (show x.p.po ≤ d.x.q from hp)))], O9, B9, P9⟩
 obtain ⟨g, hat⟩ := O.t.first (by omega);have gl := gl0 g hat;have gz := gz0 g hat;obtain ⟨m, hm⟩ : ∃ m, x.two.getD k AD.nil = m := ⟨_, rfl⟩;have M0 : BL u2 g (k * 7) m := by have h1 := O.t.view.2; rw [hat] at h1; have := CZ (h1.at_ BC AD.nil hkl); rw [hm] at this; simpa using this
 have hmo : AZ x.p (k : Int) = m.m := by rw [Ch]; simp only [Int.toNat_natCast]; rw [hm]
 have hL := O.l k hkl;have hll := V.bl k hkl;rw [hm] at hL hll;have hcn := hL.capn;have sz := B1.size;have zl := BR Z;replace hat : Hid _ := hat;replace hm : Hid _ := hm;replace hmo : Hid _ := hmo;have e0 := D.all;have cA := A.c1;go_upto_region 4 with fail
 clear e0 cA;refine An (fun Y => Bw u2 Y) fun u3 hb0 => ?_
 refine tw 0 29 (.pointer (some (ja w.heap.size 5))) ?_;refine tw 1 30 (.slice (some (ja g 0)) x.two.length x.cT) ?_ (hy := by intro Y hSw; have X := (A.below hSw A.lt).all; rw [hat.out] at X; go_simp);refine tw 2 31 (ji (k : Int)) ?_;refine tw 3 32 (.pointer (some ⟨g, k * 7, none⟩)) ?_ (hy := by intro Y hSw; go_simp; try omega);refine tw 4 33 (.agg (mc m.m m.ad m.cap)) ?_ (hy := by intro Y hSw; have X := (M0.below hSw (by omega)).all; go_simp);refine tw 5 34 (.pointer (some ⟨w.heap.size + 1, 2, none⟩)) ?_;refine tw 6 35 (.agg (ic d.x)) ?_ (hy := by intro Y hSw; have X := (D.below hSw D.lt).all; go_simp);refine wpAnyH_all (rs := [7, 11]) (by kernel_rfl) (by simp) ?_;intro i hi; rcases (by simpa using hi : i = 7 ∨ i = 11) with rfl | rfl
 focus
  refine Ac rfl fun Kz hKz => ?_
  go_simp
  go_at_call 157
  refine (G2 m.m d.x m.ad m.cap u3 (hL.later hb0).view.2 (by omega) hcn).mono ?_;rintro e u5 ⟨a7, c7, rfl, O7, kq⟩;have hb1 := AG hb0 kq;have lo7 := O7.lt;have sq := hb0.size;have O7 := O7.base (base' := u2.heap.size) sq;clear kq;refine hKz _ _ ⟨hb1, ?_⟩;clear hKz Kz hi;refine tw 8 28 (.tuple #[.agg #[.bool (AN m.m d.x).up, ji (AN m.m d.x).li, ji (AN m.m d.x).ep, .slice a7 (AN m.m d.x).lg.length c7, ji (AN m.m d.x).sd, ji (AN m.m d.x).ac, ji (AN m.m d.x).al], .bool (DU m.m d.x)]) ?_;refine tw 9 37 (.agg #[.bool (AN m.m d.x).up, ji (AN m.m d.x).li, ji (AN m.m d.x).ep, .slice a7 (AN m.m d.x).lg.length c7, ji (AN m.m d.x).sd, ji (AN m.m d.x).ac, ji (AN m.m d.x).al]) ?_;refine tw 10 38 (.bool (DU m.m d.x)) ?_;refine w1 11 fun Kz hKz => ?_
  go_simp
  obtain ⟨u6, hu4, kq⟩ := AM u5 (Obj.cells #[.bool false, ji 0, ji 0, .slice none 0 0, ji 0, ji 0, ji 0] 54);have N : AQ u6 u5.heap.size (⟨false, 0, 0, [], 0, 0, 0⟩ : Mi) (.slice none 0 0) := by rw [hu4]; exact AQ.new u5 _ (⟨false, 0, 0, [], 0, 0, 0⟩ : Mi) _
  have hb2 := AG hb1 kq;have O7n := O7;have O7 := O7.later kq;have lo8 := O7n.lt;rw [← hu4];have sn := hb1.size;obtain ⟨qn, hqn⟩ := AC u5.heap.size;rw [← hqn] at N sn ⊢;have ne7 : ∀ g_, (Value.slice a7 (AN m.m d.x).lg.length c7).ownBlock = some g_ → g_ ≠ qn := fun g_ e => by have := (lo8 g_ e).2; omega
  clear O7n lo8;clear hu4 kq hqn;refine hKz _ _ ⟨hb2, ?_⟩;clear hKz Kz;refine w1 12 fun Kz hKz => ?_
  obtain ⟨z0, z1, z2, z3, z4, z5, z6, zf⟩ := id N;have g0 := zf 0;have g1 := zf 1;have g2 := zf 2;have g3 := zf 3;have g4 := zf 4;have g5 := zf 5;have g6 := zf 6;go_simp
  clear z0 z1 z2 z3 z4 z5 z6 zf g0 g1 g2 g3 g4 g5 g6;obtain ⟨v6, hv6⟩ := AC (((((((u6.setCell (ja qn 0) (.bool (AN m.m d.x).up)).setCell (ja qn 1) (ji (AN m.m d.x).li)).setCell (ja qn 2) (ji (AN m.m d.x).ep)).setCell (ja qn 3) (.slice a7 (AN m.m d.x).lg.length c7)).setCell (ja qn 4) (ji (AN m.m d.x).sd)).setCell (ja qn 5) (ji (AN m.m d.x).ac)).setCell (ja qn 6) (ji (AN m.m d.x).al));have N : AQ v6 qn (AN m.m d.x) (.slice a7 (AN m.m d.x).lg.length c7) := by rw [hv6]; exact N.put (AN m.m d.x) _
  have kp : ∀ k_, k_ ≠ qn → v6.heap[k_]? = u6.heap[k_]? := fun k_ hk_ => by rw [hv6]; exact Dd _ _ _ (AN m.m d.x) _ hk_
  have O7 := O7.keep (fun g_ e => kp g_ (ne7 g_ e));have hb6 : Bw u2 v6 := by rw [hv6]; exact EM (AN m.m d.x) _ hb2 sn
 rotate_left;focus
  refine Ac rfl fun Kz hKz => ?_
  go_simp
  obtain ⟨u4, hu4, kq⟩ := AM u3 (Obj.cells #[.bool false, ji 0, ji 0, .slice none 0 0, ji 0, ji 0, ji 0] 54);have N : AQ u4 u3.heap.size (⟨false, 0, 0, [], 0, 0, 0⟩ : Mi) (.slice none 0 0) := by rw [hu4]; exact AQ.new u3 _ (⟨false, 0, 0, [], 0, 0, 0⟩ : Mi) _
  have hb2 := AG hb0 kq;rw [← hu4];have sn := hb0.size;obtain ⟨qn, hqn⟩ := AC u3.heap.size;rw [← hqn] at N sn ⊢;have qv : qn < u4.heap.size := N.lt;clear hu4 kq hqn;refine hKz _ _ ⟨hb2, ?_⟩;clear hKz Kz hi;refine w1 7 fun Kz hKz => ?_
  go_simp
  go_at_call 157
  refine (G2 m.m d.x m.ad m.cap u4 (hL.later hb2).view.2 (by omega) hcn).mono ?_;rintro e u5 ⟨a7, c7, rfl, O7, kq⟩;have hb1 := AG hb2 kq;have lo7 := O7.lt;have sq := hb2.size;have N := N.below kq N.lt;have O7 := O7.base (base' := u2.heap.size) sq;clear kq;refine hKz _ _ ⟨hb1, ?_⟩;clear hKz Kz;have ne7 : ∀ g_, (Value.slice a7 (AN m.m d.x).lg.length c7).ownBlock = some g_ → g_ ≠ qn := fun g_ e => by have := (lo7 g_ e).1; omega
  refine tw 8 28 (.tuple #[.agg #[.bool (AN m.m d.x).up, ji (AN m.m d.x).li, ji (AN m.m d.x).ep, .slice a7 (AN m.m d.x).lg.length c7, ji (AN m.m d.x).sd, ji (AN m.m d.x).ac, ji (AN m.m d.x).al], .bool (DU m.m d.x)]) ?_;refine tw 9 37 (.agg #[.bool (AN m.m d.x).up, ji (AN m.m d.x).li, ji (AN m.m d.x).ep, .slice a7 (AN m.m d.x).lg.length c7, ji (AN m.m d.x).sd, ji (AN m.m d.x).ac, ji (AN m.m d.x).al]) ?_;refine tw 10 38 (.bool (DU m.m d.x)) ?_;refine w1 12 fun Kz hKz => ?_
  obtain ⟨z0, z1, z2, z3, z4, z5, z6, zf⟩ := id N;have g0 := zf 0;have g1 := zf 1;have g2 := zf 2;have g3 := zf 3;have g4 := zf 4;have g5 := zf 5;have g6 := zf 6;go_simp
  clear z0 z1 z2 z3 z4 z5 z6 zf g0 g1 g2 g3 g4 g5 g6;obtain ⟨v6, hv6⟩ := AC (((((((u5.setCell (ja qn 0) (.bool (AN m.m d.x).up)).setCell (ja qn 1) (ji (AN m.m d.x).li)).setCell (ja qn 2) (ji (AN m.m d.x).ep)).setCell (ja qn 3) (.slice a7 (AN m.m d.x).lg.length c7)).setCell (ja qn 4) (ji (AN m.m d.x).sd)).setCell (ja qn 5) (ji (AN m.m d.x).ac)).setCell (ja qn 6) (ji (AN m.m d.x).al));have N : AQ v6 qn (AN m.m d.x) (.slice a7 (AN m.m d.x).lg.length c7) := by rw [hv6]; exact N.put (AN m.m d.x) _
  have kp : ∀ k_, k_ ≠ qn → v6.heap[k_]? = u5.heap[k_]? := fun k_ hk_ => by rw [hv6]; exact Dd _ _ _ (AN m.m d.x) _ hk_
  have O7 := O7.keep (fun g_ e => kp g_ (ne7 g_ e));have hb6 : Bw u2 v6 := by rw [hv6]; exact EM (AN m.m d.x) _ hb1 sn
 rotate_left;all_goals
  rw [← hv6];clear hv6 kp;refine hKz _ _ ⟨hb6, ?_⟩;clear hKz Kz;refine tw 13 8 (.bool (DU m.m d.x)) ?_;refine Ag ?_;have liu := O.i.lt;have sw : w.heap.size + 1 + 1 < u2.heap.size := BR Z;have A := A.below hb6 A.lt;have D := D.below hb6 D.lt;have O := O.later hb6;have PZ_ := PZ_.later hb6;have Z : Aj v6 (w.heap.size + 1 + 1) := (hb6.block _ sw).trans Z;have V := V.later hb6;have B1 : Below base w v6 := B1.trans (hb6.mono (by omega));have M0 := M0.below hb6 (by omega);have N := N.at_;cases hB : DU m.m d.x
  ·
   have O9 : AL base (BT v6 (w.heap.size + 1 + 1) x) (x) := O.keepZ Z (fun g_ hg_ => Ak v6 (w.heap.size + 1 + 1) g_ x hg_);have B9 : Below base w (BT v6 (w.heap.size + 1 + 1) x) := CO (q := w.heap.size + 1 + 1) x B1 (by omega);have P9 := PZ_.keep (n := w.heap.size + 1 + 1) (by omega) (fun g_ hg_ => Ak _ (w.heap.size + 1 + 1) g_ x hg_) (by simp);have ZB := Z.box;clear O V Z;have ca0 := A.all;have r0 := Ad ZB;clear A;obtain ⟨e0, e1, e2, e3, e4, e5, e6, e7, e8, e9⟩ := id D;clear D;go_wp2
   refine bodyPost_ret (v := .tuple #[AJ x, ji 4]) (by simp [AJ, results, results142, go_sem, *]) rfl ⟨x, 4, rfl, by rw [hR.out]; unfold Eu; rw [← hs.out, hmo.out, if_neg (by rintro (h | h | h); (omega); (rw [hI] at h; cases h); (have h' : x.po ≤ d.x.q := h; omega)), if_neg (by rw [hB]; decide)], O9, B9, P9⟩
  ·
   have cA := A.c5;rw [hat.out] at cA;obtain ⟨n0, n1, n2, n3, n4, n5, n6⟩ := id N;obtain ⟨v0, v1, v2, v3, v4, v5, v6'⟩ := id M0;have ot := O.t;rw [hat.out] at ot;have f0 := ot.frozen (k * 7);have f1 := ot.frozen (k * 7 + 1);have f2 := ot.frozen (k * 7 + 2);have f3 := ot.frozen (k * 7 + 3);have f4 := ot.frozen (k * 7 + 4);have f5 := ot.frozen (k * 7 + 5);have f6 := ot.frozen (k * 7 + 6);clear ot;go_upto_region 8 with fail
   clear cA n0 n1 n2 n3 n4 n5 n6 v0 v1 v2 v3 v4 v5 v6' f0 f1 f2 f3 f4 f5 f6;obtain ⟨v7, hv7⟩ := AC (((((((v6.setCell ⟨g, k * 7, none⟩ (.bool (AN m.m d.x).up)).setCell ⟨g, k * 7 + 1, none⟩ (ji (AN m.m d.x).li)).setCell ⟨g, k * 7 + 2, none⟩ (ji (AN m.m d.x).ep)).setCell ⟨g, k * 7 + 3, none⟩ (.slice a7 (AN m.m d.x).lg.length c7)).setCell ⟨g, k * 7 + 4, none⟩ (ji (AN m.m d.x).sd)).setCell ⟨g, k * 7 + 5, none⟩ (ji (AN m.m d.x).ac)).setCell ⟨g, k * 7 + 6, none⟩ (ji (AN m.m d.x).al));have PZ_ := PZ_.row (W2 := v7) O.t (by decide) (BP hat.out rfl) (fun k_ hk_ => by rw [hv7, AE hk_, AE hk_, AE hk_, AE hk_, AE hk_, AE hk_, AE hk_]) (by rw [hv7]; simp);have O : AL base v7 (x.setT k (⟨AN m.m d.x, a7, c7⟩ : AD)) := by rw [hv7]; exact O.setT hat.out hkl (⟨AN m.m d.x, a7, c7⟩ : AD) (O7.base (by omega)) (fun g_ e e2 => by have := (O7.lt g_ e).1; have := (liu g_ e2).2; omega)
   have kp : ∀ k_, k_ ≠ g → v7.heap[k_]? = v6.heap[k_]? := fun k_ hk_ => by rw [hv7]; exact DH (BG (⟨AN m.m d.x, a7, c7⟩ : AD)) v6 (k * 7) k_ hk_
   have A := A.keep (kp _ (by omega));have D := D.keep (kp _ (by omega));have Z : Aj v7 (w.heap.size + 1 + 1) := (kp _ (by omega)).trans Z;have B1 : Below base w v7 := by rw [hv7]; exact Dp gz (BG (⟨AN m.m d.x, a7, c7⟩ : AD)) (k * 7) B1
   rw [← hv7];clear hv7 kp;have O9 : AL base (BT v7 (w.heap.size + 1 + 1) x) (x.setT k (⟨AN m.m d.x, a7, c7⟩ : AD)) := O.keepZ Z (fun g_ hg_ => Ak v7 (w.heap.size + 1 + 1) g_ x hg_);have B9 : Below base w (BT v7 (w.heap.size + 1 + 1) x) := CO (q := w.heap.size + 1 + 1) x B1 (by omega);have P9 := PZ_.keep (n := w.heap.size + 1 + 1) (by omega) (fun g_ hg_ => Ak _ (w.heap.size + 1 + 1) g_ x hg_) (by simp);have ZB := Z.box;clear O V Z;have ca0 := A.all;have r0 := Ad ZB;clear A;have e0 := D.all;clear D;go_wp2
   refine bodyPost_ret (v := .tuple #[AJ x, ji 0]) (by simp [AJ, results, results142, go_sem, *]) rfl ⟨x.setT k (⟨AN m.m d.x, a7, c7⟩ : AD), 0, by simp [AF.setT], by rw [AF.setT_p, hR.out]; unfold Eu; rw [← hs.out, hmo.out, if_neg (by rintro (h | h | h); (omega); (rw [hI] at h; cases h); (have h' : x.po ≤ d.x.q := h; omega)), if_pos hB], O9, B9, P9⟩
structure Dg (w : World) (q : Nat) (d : De) : Prop where
 at_ : Bt w q d
 fr : ∀ i, w.frozen? (ja q i) = false
theorem Dg.keep {w w' : World} {q : Nat} {d : De} (h : Dg w q d) (k : w'.heap[q]? = w.heap[q]?) : Dg w' q d := ⟨h.at_.keep k, fun i => (World.frozen?_of_block (a := (ja q i)) k).trans (h.fr i)⟩
theorem Dg.lt {w : World} {q : Nat} {d : De} (h : Dg w q d) : q < w.heap.size := h.at_.lt
def LG (w : World) (cb : Nat) (ad : Option Addr) (len cap : Nat) (f : Nat → Int) (e : Ending) (w' : World) : Prop := ∃ d : De, e = .returned (.agg #[ji d.k, ji d.a, ji d.x.k, ji d.x.q, ji d.x.r, ji d.x.c, ji d.x.b, ji d.x.p, ji d.x.h, .bool d.x.up]) ∧ At w' cb ad len cap f ∧ w.grownBy w' (some cb)
theorem J0 (x : AF) {cb : Nat} {ad : Option Addr} {len cap : Nat} {f : Nat → Int} (w : World) (hs : At w cb ad len cap f) (hcb : cb < w.heap.size) (hpo : x.po ≤ 4) (hne : x.net.length ≤ 20) (how : 0 ≤ x.rg.ow ∧ x.rg.ow ≤ 1) :
  Calls prog 134 #[.pointer (some (ja cb 0)), .agg (bc x)] w fun e w' => LG w cb ad len cap f e w' := by
 obtain ⟨R, hRe⟩ := AC w.heap.size;have hR : w.heap.size ≤ R := by omega
 have hRc : R ≠ cb := by omega
 have hRd : R + 1 ≠ cb := by omega
 obtain ⟨x0, hx0⟩ := AC ((w.alloc (Obj.cells (bc x) 63)).alloc (Obj.cells #[ji 0, ji 0, ji 0, ji 0, ji 0, ji 0, ji 0, ji 0, ji 0, .bool false] 210));have D : DV w cb ad len cap x0 := by rw [hx0]; exact ((DV.start hs).alloc _).alloc _
 have A : Af x0 R x := by rw [hx0, hRe]; constructor <;> simp [go_sem]
 have B : Dg x0 (R + 1) ⟨0, 0, Ar⟩ := by rw [hx0, hRe]; refine ⟨?_, fun i => ?_⟩; constructor <;> simp [go_sem, Ar]; simp [go_sem]
 go_enter func134, ntmps134
 have a0 := A.all;go_wp2_with fail
 go_at_call 56
 rw [← hx0, ← hRe];clear a0 hx0 hRe;refine (BD (D.src hs) 2 (by decide) (by decide)).mono ?_;rintro e w1 ⟨a, rfl, a0_, a1_, s_, g_⟩;have D := D.step s_ g_;have A := A.keep (g_.block _ A.lt (by simp; omega));have B := B.keep (g_.block _ B.lt (by simp; omega));clear s_ g_;go_wp2_with fail
 go_at_call 56
 refine (BD (D.src hs) 18 (by decide) (by decide)).mono ?_;rintro e w2 ⟨t, rfl, t0_, t1_, s_, g_⟩;have D := D.step s_ g_;have A := A.keep (g_.block _ A.lt (by simp; omega));have B := B.keep (g_.block _ B.lt (by simp; omega));clear s_ g_;by_cases e0 : t = 0
 focus
  subst e0
 rotate_left;focus
  have d0 : (t == 0) = false := by simpa using e0
  replace e0 : Hid (¬ t = 0) := e0;by_cases e1 : t = 1
  focus
   subst e1
  rotate_left;focus
   have d1 : (t == 1) = false := by simpa using e1
   replace e1 : Hid (¬ t = 1) := e1;by_cases e2 : t = 2
   focus
    subst e2
   rotate_left
   ·
    have d2 : (t == 2) = false := by simpa using e2
    replace e2 : Hid (¬ t = 2) := e2;by_cases e3 : t = 3
    focus
     subst e3
    rotate_left;focus
     have d3 : (t == 3) = false := by simpa using e3
     replace e3 : Hid (¬ t = 3) := e3;by_cases e4 : t = 4
     focus
      subst e4
     rotate_left;focus
      have d4 : (t == 4) = false := by simpa using e4
      replace e4 : Hid (¬ t = 4) := e4;by_cases e5 : t = 5
      focus
       subst e5
      rotate_left
      ·
       have d5 : (t == 5) = false := by simpa using e5
       replace e5 : Hid (¬ t = 5) := e5;by_cases e6 : t = 6
       focus
        subst e6
       rotate_left;focus
        have d6 : (t == 6) = false := by simpa using e6
        replace e6 : Hid (¬ t = 6) := e6;by_cases e7 : t = 7
        focus
         subst e7
        rotate_left;focus
         have d7 : (t == 7) = false := by simpa using e7
         replace e7 : Hid (¬ t = 7) := e7;by_cases e8 : t = 8
         focus
          subst e8
         rotate_left;focus
          have d8 : (t == 8) = false := by simpa using e8
          replace e8 : Hid (¬ t = 8) := e8;by_cases e9 : t = 9
          focus
           subst e9
          rotate_left
          ·
           have d9 : (t == 9) = false := by simpa using e9
           replace e9 : Hid (¬ t = 9) := e9;by_cases e10 : t = 10
           focus
            subst e10
           rotate_left;focus
            have d10 : (t == 10) = false := by simpa using e10
            replace e10 : Hid (¬ t = 10) := e10;by_cases e11 : t = 11
            focus
             subst e11
            rotate_left
            ·
             have d11 : (t == 11) = false := by simpa using e11
             replace e11 : Hid (¬ t = 11) := e11;by_cases e12 : t = 12
             ·
              subst e12;have DZ := EQ D (N := R + 1) (by omega) hcb (ji 10) (ji x.rg.ow) (ji 0) (ji 0) (ji 0) (ji 0) (ji 0) (ji 0) (ji 0) (.bool false);clear D A;obtain ⟨⟨q0, q1, q2, q3, q4, q5, q6, q7, q8, q9⟩, qf⟩ := B;obtain ⟨f0, f1, f2, f3, f4, f5, f6, f7, f8, f9⟩ := CX qf;clear qf;go_wp2
              refine bodyPost_ret (v := .agg #[ji 10, ji x.rg.ow, ji 0, ji 0, ji 0, ji 0, ji 0, ji 0, ji 0, .bool false]) (by simp [results, results134, go_sem, *]) rfl ⟨⟨10, x.rg.ow, Ar⟩, rfl, DZ.src hs, DZ.gr⟩
             ·
              have d12 : (t == 12) = false := by simpa using e12
              replace e12 : Hid (¬ t = 12) := e12;by_cases e13 : t = 13
              ·
               subst e13;obtain ⟨w3, hw3⟩ := AC (w2.alloc (Obj.cells #[ji 4, ji 5, ji 11] 3));go_wp2_with fail
               go_at_call 47
               rw [← hw3];have kq : Bw w2 w3 := by rw [hw3]; exact Ax _
               have lA := A.lt;have lB := B.lt;have lc := D.cur.lt;have hg : ∀ i, i < 3 → w3.cell? (ja w2.heap.size i) = some (ji (([4, 5, 11] : List Int).getD i 0)) := fun i hi => by rw [hw3]; rcases (by omega : i = 0 ∨ i = 1 ∨ i = 2) with rfl | rfl | rfl <;> simp [go_sem]
               have D := D.later8 kq;have A := A.keep (kq.block _ lA);have B := B.keep (kq.block _ lB);clear hw3 kq;refine (H3 (D.src hs) w2.heap.size 3 3 (fun i => ([4, 5, 11] : List Int).getD i 0) (by omega) (by decide) (by decide) hg).mono ?_;rintro e w5 ⟨i, _, rfl, s_, g_⟩;obtain ⟨kd, hkd⟩ := AC (([4, 5, 11] : List Int).getD i 0);dsimp only
               rw [← hkd];clear hkd hg;have D := D.step s_ g_;have A := A.keep (g_.block _ A.lt (by simp; omega));have B := B.keep (g_.block _ B.lt (by simp; omega));clear s_ g_;have DZ := EQ D (N := R + 1) (by omega) hcb (ji kd) (ji x.rg.ow) (ji 0) (ji 0) (ji 0) (ji 0) (ji 0) (ji 0) (ji 0) (.bool false);clear D A;obtain ⟨⟨q0, q1, q2, q3, q4, q5, q6, q7, q8, q9⟩, qf⟩ := B;obtain ⟨f0, f1, f2, f3, f4, f5, f6, f7, f8, f9⟩ := CX qf;clear qf;go_wp2
               refine bodyPost_ret (v := .agg #[ji kd, ji x.rg.ow, ji 0, ji 0, ji 0, ji 0, ji 0, ji 0, ji 0, .bool false]) (by simp [results, results134, go_sem, *]) rfl ⟨⟨kd, x.rg.ow, Ar⟩, rfl, DZ.src hs, DZ.gr⟩
              ·
               have d13 : (t == 13) = false := by simpa using e13
               replace e13 : Hid (¬ t = 13) := e13;by_cases e14 : t = 14
               ·
                subst e14;have DZ := EQ D (N := R + 1) (by omega) hcb (ji 7) (ji a) (ji 0) (ji 0) (ji 0) (ji 0) (ji 0) (ji 0) (ji 0) (.bool false);clear D A;obtain ⟨⟨q0, q1, q2, q3, q4, q5, q6, q7, q8, q9⟩, qf⟩ := B;obtain ⟨f0, f1, f2, f3, f4, f5, f6, f7, f8, f9⟩ := CX qf;clear qf;go_wp2
                refine bodyPost_ret (v := .agg #[ji 7, ji a, ji 0, ji 0, ji 0, ji 0, ji 0, ji 0, ji 0, .bool false]) (by simp [results, results134, go_sem, *]) rfl ⟨⟨7, a, Ar⟩, rfl, DZ.src hs, DZ.gr⟩
               ·
                have d14 : (t == 14) = false := by simpa using e14
                replace e14 : Hid (¬ t = 14) := e14;by_cases e15 : t = 15
                ·
                 subst e15;have DZ := EQ D (N := R + 1) (by omega) hcb (ji 8) (ji a) (ji 0) (ji 0) (ji 0) (ji 0) (ji 0) (ji 0) (ji 0) (.bool false);clear D A;obtain ⟨⟨q0, q1, q2, q3, q4, q5, q6, q7, q8, q9⟩, qf⟩ := B;obtain ⟨f0, f1, f2, f3, f4, f5, f6, f7, f8, f9⟩ := CX qf;clear qf;go_wp2
                 refine bodyPost_ret (v := .agg #[ji 8, ji a, ji 0, ji 0, ji 0, ji 0, ji 0, ji 0, ji 0, .bool false]) (by simp [results, results134, go_sem, *]) rfl ⟨⟨8, a, Ar⟩, rfl, DZ.src hs, DZ.gr⟩
                ·
                 have d15 : (t == 15) = false := by simpa using e15
                 replace e15 : Hid (¬ t = 15) := e15;by_cases e16 : t = 16
                 ·
                  subst e16;have hwr : IntKind.i64.wrap (1 - x.rg.ow) = 1 - x.rg.ow := by rw [IntKind.wrap_i64]; omega
                  have DZ := EQ D (N := R + 1) (by omega) hcb (ji 9) (ji (1 - x.rg.ow)) (ji 0) (ji 0) (ji 0) (ji 0) (ji 0) (ji 0) (ji 0) (.bool false);clear D A;obtain ⟨⟨q0, q1, q2, q3, q4, q5, q6, q7, q8, q9⟩, qf⟩ := B;obtain ⟨f0, f1, f2, f3, f4, f5, f6, f7, f8, f9⟩ := CX qf;clear qf;go_wp2
                  refine bodyPost_ret (v := .agg #[ji 9, ji (1 - x.rg.ow), ji 0, ji 0, ji 0, ji 0, ji 0, ji 0, ji 0, .bool false]) (by simp [results, results134, go_sem, *]) rfl ⟨⟨9, (1 - x.rg.ow), Ar⟩, rfl, DZ.src hs, DZ.gr⟩
                 ·
                  have d16 : (t == 16) = false := by simpa using e16
                  replace e16 : Hid (¬ t = 16) := e16;have DZ := EQ D (N := R + 1) (by omega) hcb (ji 12) (ji a) (ji 0) (ji 0) (ji 0) (ji 0) (ji 0) (ji 0) (ji 0) (.bool false);clear D A;obtain ⟨⟨q0, q1, q2, q3, q4, q5, q6, q7, q8, q9⟩, qf⟩ := B;obtain ⟨f0, f1, f2, f3, f4, f5, f6, f7, f8, f9⟩ := CX qf;clear qf;go_wp2
                  refine bodyPost_ret (v := .agg #[ji 12, ji a, ji 0, ji 0, ji 0, ji 0, ji 0, ji 0, ji 0, .bool false]) (by simp [results, results134, go_sem, *]) rfl ⟨⟨12, a, Ar⟩, rfl, DZ.src hs, DZ.gr⟩
           rotate_left;all_goals
            have DZ := EQ D (N := R + 1) (by omega) hcb (ji 6) (ji 0) (ji 0) (ji 0) (ji 0) (ji 0) (ji 0) (ji 0) (ji 0) (.bool false);clear D A;obtain ⟨⟨q0, q1, q2, q3, q4, q5, q6, q7, q8, q9⟩, qf⟩ := B;obtain ⟨f0, f1, f2, f3, f4, f5, f6, f7, f8, f9⟩ := CX qf;clear qf;go_wp2
            refine bodyPost_ret (v := .agg #[ji 6, ji 0, ji 0, ji 0, ji 0, ji 0, ji 0, ji 0, ji 0, .bool false]) (by simp [results, results134, go_sem, *]) rfl ⟨⟨6, 0, Ar⟩, rfl, DZ.src hs, DZ.gr⟩
         rotate_left
        rotate_left 2
       rotate_left 3;all_goals
        have a0 := A.all;go_wp2_with fail
        go_at_call 141
        clear a0;refine (G8 (x.net.length : Int) 1 _).mono ?_;rintro e u9 ⟨rfl, hw_⟩;rw [hw_];clear hw_ u9;obtain ⟨mx, hmx⟩ : ∃ t : Int, t = if 1 < (x.net.length : Int) then (x.net.length : Int) else 1 := ⟨_, rfl⟩
        rw [← hmx];have mx0 : 0 < mx := by rw [hmx]; split <;> omega
        have mx1 : mx ≤ 256 := by rw [hmx]; split <;> omega
        clear hmx;go_wp2_with fail
        go_at_call 56
        refine (BD (D.src hs) mx mx0 mx1).mono ?_;rintro e w5 ⟨pt, rfl, _, _, s_, g_⟩;have D := D.step s_ g_;have A := A.keep (g_.block _ A.lt (by simp; omega));have B := B.keep (g_.block _ B.lt (by simp; omega));clear s_ g_;have DZ := EQ D (N := R + 1) (by omega) hcb (ji 3) (ji pt) (ji 0) (ji 0) (ji 0) (ji 0) (ji 0) (ji 0) (ji 0) (.bool false);clear D A;obtain ⟨⟨q0, q1, q2, q3, q4, q5, q6, q7, q8, q9⟩, qf⟩ := B;obtain ⟨f0, f1, f2, f3, f4, f5, f6, f7, f8, f9⟩ := CX qf;clear qf;go_wp2
        refine bodyPost_ret (v := .agg #[ji 3, ji pt, ji 0, ji 0, ji 0, ji 0, ji 0, ji 0, ji 0, .bool false]) (by simp [results, results134, go_sem, *]) rfl ⟨⟨3, pt, Ar⟩, rfl, DZ.src hs, DZ.gr⟩
     rotate_left
    rotate_left 2;all_goals
     have DZ := EQ D (N := R + 1) (by omega) hcb (ji 2) (ji x.rg.ow) (ji 0) (ji 0) (ji 0) (ji 0) (ji 0) (ji 0) (ji 0) (.bool false);clear D A;obtain ⟨⟨q0, q1, q2, q3, q4, q5, q6, q7, q8, q9⟩, qf⟩ := B;obtain ⟨f0, f1, f2, f3, f4, f5, f6, f7, f8, f9⟩ := CX qf;clear qf;go_wp2
     refine bodyPost_ret (v := .agg #[ji 2, ji x.rg.ow, ji 0, ji 0, ji 0, ji 0, ji 0, ji 0, ji 0, .bool false]) (by simp [results, results134, go_sem, *]) rfl ⟨⟨2, x.rg.ow, Ar⟩, rfl, DZ.src hs, DZ.gr⟩
  rotate_left
 rotate_left 2;all_goals
  go_wp2_with fail
  go_at_call 45
  refine (Gw _ (D.src hs) D.cur.lt).mono ?_;rintro e w3 ⟨v, rfl, s_, g_⟩;have D := D.step s_ g_;have A := A.keep (g_.block _ A.lt (by simp; omega));have B := B.keep (g_.block _ B.lt (by simp; omega));clear s_ g_;obtain ⟨vk, vq, vr, vc, vb, vp, vh, vu⟩ := v;dsimp only
  go_upto_region 8 with fail
  obtain ⟨w4, hw4, kq⟩ := AM w3 (Obj.cells #[ji vk, ji vq, ji vr, ji vc, ji vb, ji vp, ji vh, .bool vu] 27);rw [← hw4];have I : CT w4 w3.heap.size ⟨vk, vq, vr, vc, vb, vp, vh, vu⟩ := by rw [hw4]; exact ⟨Bh.new w3 _ ⟨vk, vq, vr, vc, vb, vp, vh, vu⟩, fun i => by simp [go_sem]⟩
  have lA := A.lt;have lB := B.lt;have lc := D.cur.lt;have lw := D.gr.size;have D := D.later8 kq;have A := A.keep (kq.block _ lA);have B := B.keep (kq.block _ lB);clear hw4 kq;obtain ⟨q7, hq7⟩ := AC w3.heap.size;rw [← hq7] at I lA lB lc lw ⊢;clear hq7;by_cases hk2 : vk = 2
  ·
   have dk : (vk != 2) = false := by simpa using hk2
   replace hk2 : Hid _ := hk2;obtain ⟨⟨i0, i1, i2, i3, i4, i5, i6, i7⟩, if_⟩ := I;clear if_;have DZ := EQ D (N := R + 1) (by omega) hcb (ji 1) (ji 0) (ji (⟨vk, vq, vr, vc, vb, vp, vh, vu⟩ : Ik).k) (ji (⟨vk, vq, vr, vc, vb, vp, vh, vu⟩ : Ik).q) (ji (⟨vk, vq, vr, vc, vb, vp, vh, vu⟩ : Ik).r) (ji (⟨vk, vq, vr, vc, vb, vp, vh, vu⟩ : Ik).c) (ji (⟨vk, vq, vr, vc, vb, vp, vh, vu⟩ : Ik).b) (ji (⟨vk, vq, vr, vc, vb, vp, vh, vu⟩ : Ik).p) (ji (⟨vk, vq, vr, vc, vb, vp, vh, vu⟩ : Ik).h) (.bool (⟨vk, vq, vr, vc, vb, vp, vh, vu⟩ : Ik).up);clear D A;obtain ⟨⟨q0, q1, q2, q3, q4, q5, q6, q7, q8, q9⟩, qf⟩ := B;obtain ⟨f0, f1, f2, f3, f4, f5, f6, f7, f8, f9⟩ := CX qf;clear qf;go_wp2
   refine bodyPost_ret (v := .agg #[ji 1, ji 0, ji (⟨vk, vq, vr, vc, vb, vp, vh, vu⟩ : Ik).k, ji (⟨vk, vq, vr, vc, vb, vp, vh, vu⟩ : Ik).q, ji (⟨vk, vq, vr, vc, vb, vp, vh, vu⟩ : Ik).r, ji (⟨vk, vq, vr, vc, vb, vp, vh, vu⟩ : Ik).c, ji (⟨vk, vq, vr, vc, vb, vp, vh, vu⟩ : Ik).b, ji (⟨vk, vq, vr, vc, vb, vp, vh, vu⟩ : Ik).p, ji (⟨vk, vq, vr, vc, vb, vp, vh, vu⟩ : Ik).h, .bool (⟨vk, vq, vr, vc, vb, vp, vh, vu⟩ : Ik).up]) (by simp [results, results134, go_sem, *]) rfl ⟨⟨1, 0, (⟨vk, vq, vr, vc, vb, vp, vh, vu⟩ : Ik)⟩, rfl, DZ.src hs, DZ.gr⟩
  ·
   have dk : (vk != 2) = true := by simpa using hk2
   replace hk2 : Hid (¬ vk = 2) := hk2;have a0 := A.all;have i0 := I.at_.c0;go_wp2_with fail
   go_at_call 141
   clear a0 i0;refine (G8 x.po 1 w4).mono ?_;rintro e u9 ⟨rfl, hw_⟩;rw [hw_];clear hw_ u9;obtain ⟨mx, hmx⟩ : ∃ t : Int, t = if 1 < x.po then x.po else 1 := ⟨_, rfl⟩
   rw [← hmx];have mx0 : 0 < mx := by rw [hmx]; split <;> omega
   have mx1 : mx ≤ 256 := by rw [hmx]; split <;> omega
   clear hmx;go_wp2_with fail
   go_at_call 56
   refine (BD (D.src hs) mx mx0 mx1).mono ?_;rintro e w5 ⟨pt, rfl, _, _, s_, g_⟩;have D := D.step s_ g_;have A := A.keep (g_.block _ A.lt (by simp; omega));have B := B.keep (g_.block _ B.lt (by simp; omega));have I := I.grown g_ (by omega);clear s_ g_;obtain ⟨⟨i0, i1, i2, i3, i4, i5, i6, i7⟩, if_⟩ := I;have if1 := if_ 1;clear if_;go_upto_region 10 with fail
   obtain ⟨w6, hw6⟩ := AC (w5.setCell (ja q7 1) (ji pt));rw [← hw6];have kp : ∀ g_, g_ ≠ q7 → w6.heap[g_]? = w5.heap[g_]? := fun g_ hg => by rw [hw6]; exact AE hg
   have A := A.keep (kp _ (by omega));have B := B.keep (kp _ (by omega));have D : DV w cb ad len cap w6 := by rw [hw6]; exact D.set (N := q7) (by omega) hcb _
   have i0 : w6.cell? (ja q7 0) = some (ji vk) := by rw [hw6]; exact (AB (by decide)).trans i0
   have i1 : w6.cell? (ja q7 1) = some (ji pt) := by rw [hw6]; exact Al i1
   have i2 : w6.cell? (ja q7 2) = some (ji vr) := by rw [hw6]; exact (AB (by decide)).trans i2
   have i3 : w6.cell? (ja q7 3) = some (ji vc) := by rw [hw6]; exact (AB (by decide)).trans i3
   have i4 : w6.cell? (ja q7 4) = some (ji vb) := by rw [hw6]; exact (AB (by decide)).trans i4
   have i5 : w6.cell? (ja q7 5) = some (ji vp) := by rw [hw6]; exact (AB (by decide)).trans i5
   have i6 : w6.cell? (ja q7 6) = some (ji vh) := by rw [hw6]; exact (AB (by decide)).trans i6
   have i7 : w6.cell? (ja q7 7) = some (.bool vu) := by rw [hw6]; exact (AB (by decide)).trans i7
   clear hw6 kp if1;have DZ := EQ D (N := R + 1) (by omega) hcb (ji 1) (ji 0) (ji (⟨vk, pt, vr, vc, vb, vp, vh, vu⟩ : Ik).k) (ji (⟨vk, pt, vr, vc, vb, vp, vh, vu⟩ : Ik).q) (ji (⟨vk, pt, vr, vc, vb, vp, vh, vu⟩ : Ik).r) (ji (⟨vk, pt, vr, vc, vb, vp, vh, vu⟩ : Ik).c) (ji (⟨vk, pt, vr, vc, vb, vp, vh, vu⟩ : Ik).b) (ji (⟨vk, pt, vr, vc, vb, vp, vh, vu⟩ : Ik).p) (ji (⟨vk, pt, vr, vc, vb, vp, vh, vu⟩ : Ik).h) (.bool (⟨vk, pt, vr, vc, vb, vp, vh, vu⟩ : Ik).up);clear D A;obtain ⟨⟨q0, q1, q2, q3, q4, q5, q6, q7, q8, q9⟩, qf⟩ := B;obtain ⟨f0, f1, f2, f3, f4, f5, f6, f7, f8, f9⟩ := CX qf;clear qf;go_wp2
   refine bodyPost_ret (v := .agg #[ji 1, ji 0, ji (⟨vk, pt, vr, vc, vb, vp, vh, vu⟩ : Ik).k, ji (⟨vk, pt, vr, vc, vb, vp, vh, vu⟩ : Ik).q, ji (⟨vk, pt, vr, vc, vb, vp, vh, vu⟩ : Ik).r, ji (⟨vk, pt, vr, vc, vb, vp, vh, vu⟩ : Ik).c, ji (⟨vk, pt, vr, vc, vb, vp, vh, vu⟩ : Ik).b, ji (⟨vk, pt, vr, vc, vb, vp, vh, vu⟩ : Ik).p, ji (⟨vk, pt, vr, vc, vb, vp, vh, vu⟩ : Ik).h, .bool (⟨vk, pt, vr, vc, vb, vp, vh, vu⟩ : Ik).up]) (by simp [results, results134, go_sem, *]) rfl ⟨⟨1, 0, (⟨vk, pt, vr, vc, vb, vp, vh, vu⟩ : Ik)⟩, rfl, DZ.src hs, DZ.gr⟩
end Go.Proofs.YtjmnaeeknomiaaaGreatDoor
