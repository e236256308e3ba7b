import Derived.Test.YtjmnaeeknomiaaaGreatDoorRM21
import Derived.Test.YtjmnaeeknomiaaaGreatDoorRM7
import Derived.Test.YtjmnaeeknomiaaaGreatDoorRKWBxd19
import Derived.Test.YtjmnaeeknomiaaaGreatDoorRKWBxd20
namespace Go.Proofs.YtjmnaeeknomiaaaGreatDoor
open Go.ChangeShapes Go.WideShapes Go.ChangeAt Go.RowKit
open Go.ChangeMaps (open_string shut_string)
set_option linter.unusedVariables false
set_option maxRecDepth 100000
set_option maxHeartbeats 32000000
set_option linter.unusedSimpArgs false
open Go.Proofs.Tryz
attribute [local go_sem] ji ja bc
theorem H6 {v : Int} (h : CK v = true) : 0 ≤ v ∧ v ≤ 100000 := by unfold CK at h; simpa using h
theorem Gu (x : AF) (d : De) (w : World) (base : Nat) (hO : AL base w x) (hbw : base ≤ w.heap.size) (hb : BA x.p = true) :
  Calls prog 135 #[.agg (bc x), .agg #[ji d.k, ji d.a, ji d.x.k, ji d.x.q, ji d.x.r, ji d.x.c, ji d.x.b, ji d.x.p, ji d.x.h, .bool d.x.up]] w fun e w' => ∃ x2 : AF, ∃ c : Int, e = .returned (.tuple #[.agg (bc x2), ji c]) ∧ (x2.p, c) = DE x.p d ∧ AL base w' x2 ∧ Below base w w' ∧ PZ w w' := by
 obtain ⟨y, hy⟩ := AC (((w.alloc (Obj.cells (bc x) 63)).alloc (Obj.cells #[ji d.k, ji d.a, ji d.x.k, ji d.x.q, ji d.x.r, ji d.x.c, ji d.x.b, ji d.x.p, ji d.x.h, .bool d.x.up] 210)).alloc (Obj.cells #[ji 0, ji 0, ji 0, ji 0, ji 0, .slice none 0 0, .slice none 0 0, .slice none 0 0, .slice none 0 0, .slice none 0 0] 63));obtain ⟨S, D, B0, ND⟩ := GY x d w y hO hbw hy;obtain ⟨hl2, hmi, _, _, _, _⟩ := EL hb;have V := S.O.okV hb;have li0 := H6 (FT.1 (hmi 0 (by omega))).1;have li1 := H6 (FT.1 (hmi 1 (by omega))).1;obtain ⟨R, hR⟩ := AC (DE x.p d);rw [← hR];replace hR : Hid _ := hR;replace hb : Hid _ := hb;replace hl2 : Hid _ := hl2;clear hO hmi;have PZ_ := PZ.of B0;go_enter func135, ntmps135
 go_upto_region 1 with fail
 rw [← hy];clear hy;have c0 := D.c0;go_upto_region 2 with fail
 by_cases h1 : d.k = 1
 focus
  have q1 : (d.k == 1) = true := by simpa using h1
  replace h1 : Hid _ := h1;have a0 := S.A.at_.all;have e0 := D.all;go_wp2_with fail
  go_at_call 142
  clear e0 a0;refine (LU x d y base S.O V S.sz hl2.out).mono ?_;rintro e u1 ⟨x2, c2, rfl, hp, O2, B2, P2⟩;have hX : Hid ((x2.p, c2) = R) := by unfold Hid; rw [hp, hR.out]; unfold DE; rw [if_pos h1.out]
  clear hp;go_upto_region 4 with fail
 rotate_left;focus
  have q1 : (d.k == 1) = false := by simpa using h1
  replace h1 : Hid (¬ d.k = 1) := h1;by_cases h6 : d.k = 6
  focus
   have q6 : (d.k == 6) = true := by simpa using h6
   replace h6 : Hid _ := h6;have a0 := S.A.at_.all;have e0 := D.all;go_wp2_with fail
   go_at_call 143
   clear e0 a0;refine (Ki x y base S.O S.sz hb.out).mono ?_;rintro e u1 ⟨x2, c2, rfl, hp, O2, B2, P2⟩;have hX : Hid ((x2.p, c2) = R) := by unfold Hid; rw [hp, hR.out]; unfold DE; rw [if_neg h1.out, if_pos h6.out]
   clear hp;go_upto_region 7 with fail
  rotate_left;focus
   have q6 : (d.k == 6) = false := by simpa using h6
   replace h6 : Hid (¬ d.k = 6) := h6;by_cases h3 : d.k = 3
   focus
    have q3 : (d.k == 3) = true := by simpa using h3
    replace h3 : Hid _ := h3;have a0 := S.A.at_.all;have e0 := D.all;go_wp2_with fail
    go_at_call 144
    clear e0 a0;refine (Gv x d y base S.O S.sz hb.out).mono ?_;rintro e u1 ⟨x2, c2, rfl, hp, O2, B2, P2⟩;have hX : Hid ((x2.p, c2) = R) := by unfold Hid; rw [hp, hR.out]; unfold DE; rw [if_neg h1.out, if_neg h6.out, if_pos (Or.inl h3.out)]
    clear hp;go_upto_region 12 with fail
   rotate_left;focus
    have q3 : (d.k == 3) = false := by simpa using h3
    replace h3 : Hid (¬ d.k = 3) := h3;by_cases h4 : d.k = 4
    focus
     have q4 : (d.k == 4) = true := by simpa using h4
     replace h4 : Hid _ := h4;have a0 := S.A.at_.all;have e0 := D.all;go_wp2_with fail
     go_at_call 144
     clear e0 a0;refine (Gv x d y base S.O S.sz hb.out).mono ?_;rintro e u1 ⟨x2, c2, rfl, hp, O2, B2, P2⟩;have hX : Hid ((x2.p, c2) = R) := by unfold Hid; rw [hp, hR.out]; unfold DE; rw [if_neg h1.out, if_neg h6.out, if_pos (Or.inr (Or.inl h4.out))]
     clear hp;go_upto_region 12 with fail
    rotate_left;focus
     have q4 : (d.k == 4) = false := by simpa using h4
     replace h4 : Hid (¬ d.k = 4) := h4;by_cases h5 : d.k = 5
     focus
      have q5 : (d.k == 5) = true := by simpa using h5
      replace h5 : Hid _ := h5;have a0 := S.A.at_.all;have e0 := D.all;go_wp2_with fail
      go_at_call 144
      clear e0 a0;refine (Gv x d y base S.O S.sz hb.out).mono ?_;rintro e u1 ⟨x2, c2, rfl, hp, O2, B2, P2⟩;have hX : Hid ((x2.p, c2) = R) := by unfold Hid; rw [hp, hR.out]; unfold DE; rw [if_neg h1.out, if_neg h6.out, if_pos (Or.inr (Or.inr h5.out))]
      clear hp;go_upto_region 12 with fail
     rotate_left;focus
      have q5 : (d.k == 5) = false := by simpa using h5
      replace h5 : Hid (¬ d.k = 5) := h5;go_upto_region 13 with fail
      have c1 := D.c1;go_wp2_with fail
      go_at_call 66
      clear c1;refine (BE d.a 0 1 y).mono ?_;rintro e u9 ⟨rfl, hw_⟩;rw [hw_];clear hw_ u9;cases hI : decide (0 ≤ d.a ∧ d.a ≤ 1)
      ·
       have hX1 : Hid (d.a < 0 ∨ 1 < d.a) := by unfold Hid; have := of_decide_eq_false hI; omega
       obtain ⟨O9, B9⟩ := S.ret;have P9 := S.pz PZ_ (by omega);have ZB := S.Z.box;have a0 := S.A.at_.all;have r0 := Ad ZB;clear S;go_wp2
       refine bodyPost_ret (v := .tuple #[AJ x, ji 2]) (by simp [AJ, results, results135, go_sem, *]) rfl ⟨x, 2, rfl, by rw [hR.out]; unfold DE; rw [if_neg h1.out, if_neg h6.out, if_neg (by rintro (h | h | h); exact h3.out h; exact h4.out h; exact h5.out h), if_pos hX1.out], O9, B9, P9⟩
      focus
       have ha : Hid (0 ≤ d.a ∧ d.a ≤ 1) := by unfold Hid; exact of_decide_eq_true hI
       clear hI;by_cases h2 : d.k = 2
       focus
        have q2 : (d.k == 2) = true := by simpa using h2
        replace h2 : Hid _ := h2;have a0 := S.A.at_.all;have e0 := D.all;go_wp2_with fail
        go_at_call 145
        clear e0 a0;refine (LM x d.a y base S.O S.sz hb.out ha.out).mono ?_;rintro e u1 ⟨x2, c2, rfl, hp, O2, B2, P2⟩;have hX : Hid ((x2.p, c2) = R) := by unfold Hid; rw [hp, hR.out]; unfold DE; rw [if_neg h1.out, if_neg h6.out, if_neg (by rintro (h | h | h); exact h3.out h; exact h4.out h; exact h5.out h), if_neg (by have := ha.out; omega), if_pos h2.out]
        clear hp;go_upto_region 18 with fail
       rotate_left;focus
        have q2 : (d.k == 2) = false := by simpa using h2
        replace h2 : Hid (¬ d.k = 2) := h2;by_cases h7 : d.k = 7
        focus
         have q7 : (d.k == 7) = true := by simpa using h7
         replace h7 : Hid _ := h7;have a0 := S.A.at_.all;have e0 := D.all;go_wp2_with fail
         go_at_call 146
         clear e0 a0;refine (G3 x d y base S.O V S.sz hl2.out ha.out (by omega) (by omega)).mono ?_;rintro e u1 ⟨x2, c2, rfl, hp, O2, B2, P2⟩;have hX : Hid ((x2.p, c2) = R) := by unfold Hid; rw [hp, hR.out]; unfold DE; rw [if_neg h1.out, if_neg h6.out, if_neg (by rintro (h | h | h); exact h3.out h; exact h4.out h; exact h5.out h), if_neg (by have := ha.out; omega), if_neg h2.out, if_pos (Or.inl h7.out)]
         clear hp;go_upto_region 23 with fail
        rotate_left;focus
         have q7 : (d.k == 7) = false := by simpa using h7
         replace h7 : Hid (¬ d.k = 7) := h7;by_cases h8 : d.k = 8
         focus
          have q8 : (d.k == 8) = true := by simpa using h8
          replace h8 : Hid _ := h8;have a0 := S.A.at_.all;have e0 := D.all;go_wp2_with fail
          go_at_call 146
          clear e0 a0;refine (G3 x d y base S.O V S.sz hl2.out ha.out (by omega) (by omega)).mono ?_;rintro e u1 ⟨x2, c2, rfl, hp, O2, B2, P2⟩;have hX : Hid ((x2.p, c2) = R) := by unfold Hid; rw [hp, hR.out]; unfold DE; rw [if_neg h1.out, if_neg h6.out, if_neg (by rintro (h | h | h); exact h3.out h; exact h4.out h; exact h5.out h), if_neg (by have := ha.out; omega), if_neg h2.out, if_pos (Or.inr (Or.inl h8.out))]
          clear hp;go_upto_region 23 with fail
         rotate_left
         ·
          have q8 : (d.k == 8) = false := by simpa using h8
          replace h8 : Hid (¬ d.k = 8) := h8;by_cases h12 : d.k = 12
          focus
           have q12 : (d.k == 12) = true := by simpa using h12
           replace h12 : Hid _ := h12;have a0 := S.A.at_.all;have e0 := D.all;go_wp2_with fail
           go_at_call 146
           clear e0 a0;refine (G3 x d y base S.O V S.sz hl2.out ha.out (by omega) (by omega)).mono ?_;rintro e u1 ⟨x2, c2, rfl, hp, O2, B2, P2⟩;have hX : Hid ((x2.p, c2) = R) := by unfold Hid; rw [hp, hR.out]; unfold DE; rw [if_neg h1.out, if_neg h6.out, if_neg (by rintro (h | h | h); exact h3.out h; exact h4.out h; exact h5.out h), if_neg (by have := ha.out; omega), if_neg h2.out, if_pos (Or.inr (Or.inr h12.out))]
           clear hp;go_upto_region 23 with fail
          rotate_left;focus
           have q12 : (d.k == 12) = false := by simpa using h12
           replace h12 : Hid (¬ d.k = 12) := h12;have a0 := S.A.at_.all;have e0 := D.all;go_wp2_with fail
           go_at_call 147
           clear e0 a0;refine (Lf x d y base S.O S.sz hb.out ha.out).mono ?_;rintro e u1 ⟨x2, c2, rfl, hp, O2, B2, P2⟩;have hX : Hid ((x2.p, c2) = R) := by unfold Hid; rw [hp, hR.out]; unfold DE; rw [if_neg h1.out, if_neg h6.out, if_neg (by rintro (h | h | h); exact h3.out h; exact h4.out h; exact h5.out h), if_neg (by have := ha.out; omega), if_neg h2.out, if_neg (by rintro (h | h | h); exact h7.out h; exact h8.out h; exact h12.out h)]
           clear hp;go_upto_region 25 with fail
          rotate_left;all_goals
           obtain ⟨u2, hu2, kq⟩ := AM u1 (Obj.cells (bc x2) 63);rw [← hu2];have A2 : Af u2 u1.heap.size x2 := by rw [hu2]; exact Af.new u1 _ x2
           clear hu2;have Z := P2.2 _ S.Z;have Z : Aj u2 (w.heap.size + 1 + 1) := Z.keep (kq.block _ Z.lt_);have O := O2.later kq;have B1 := (S.B.trans B2).trans (kq.mono (Nat.le_trans S.sz P2.1));have P1 := (PZ_.trans P2).later kq;have O9 : AL base (BT u2 (w.heap.size + 1 + 1) x2) x2 := O.keepZ Z (fun g_ hg_ => Ak u2 (w.heap.size + 1 + 1) g_ x2 hg_);have B9 : Below base w (BT u2 (w.heap.size + 1 + 1) x2) := CO (q := w.heap.size + 1 + 1) x2 B1 (by omega);have P9 : PZ w (BT u2 (w.heap.size + 1 + 1) x2) := P1.keep (n := w.heap.size + 1 + 1) (by omega) (fun g_ hg_ => Ak u2 (w.heap.size + 1 + 1) g_ x2 hg_) (by simp);have ZB := Z.box;have r0 := Ad ZB;clear S Z O B1 P1 O2 B2 P2;have a0 := A2.all;clear A2;go_wp2
           refine bodyPost_ret (v := .tuple #[AJ x2, ji c2]) (by simp [AJ, results, results135, go_sem, *]) rfl ⟨x2, c2, rfl, hX.out, O9, B9, P9⟩
        rotate_left
       rotate_left 2
      rotate_left 3
     rotate_left 3
    rotate_left 4
   rotate_left 5
  rotate_left 6
 rotate_left 7;all_goals
  obtain ⟨u2, hu2, kq⟩ := AM u1 (Obj.cells (bc x2) 63);rw [← hu2];have A2 : Af u2 u1.heap.size x2 := by rw [hu2]; exact Af.new u1 _ x2
  clear hu2;have Z := P2.2 _ S.Z;have Z : Aj u2 (w.heap.size + 1 + 1) := Z.keep (kq.block _ Z.lt_);have O := O2.later kq;have B1 := (S.B.trans B2).trans (kq.mono (Nat.le_trans S.sz P2.1));have P1 := (PZ_.trans P2).later kq;have O9 : AL base (BT u2 (w.heap.size + 1 + 1) x2) x2 := O.keepZ Z (fun g_ hg_ => Ak u2 (w.heap.size + 1 + 1) g_ x2 hg_);have B9 : Below base w (BT u2 (w.heap.size + 1 + 1) x2) := CO (q := w.heap.size + 1 + 1) x2 B1 (by omega);have P9 : PZ w (BT u2 (w.heap.size + 1 + 1) x2) := P1.keep (n := w.heap.size + 1 + 1) (by omega) (fun g_ hg_ => Ak u2 (w.heap.size + 1 + 1) g_ x2 hg_) (by simp);have ZB := Z.box;have r0 := Ad ZB;clear S Z O B1 P1 O2 B2 P2;have a0 := A2.all;clear A2;go_wp2
  refine bodyPost_ret (v := .tuple #[AJ x2, ji c2]) (by simp [AJ, results, results135, go_sem, *]) rfl ⟨x2, c2, rfl, hX.out, O9, B9, P9⟩
end Go.Proofs.YtjmnaeeknomiaaaGreatDoor
