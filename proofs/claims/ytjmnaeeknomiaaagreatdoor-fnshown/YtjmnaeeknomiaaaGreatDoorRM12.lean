import Derived.Test.YtjmnaeeknomiaaaGreatDoorRM9
namespace Go.Proofs.YtjmnaeeknomiaaaGreatDoor
open Go.ChangeShapes Go.WideShapes Go.ChangeAt Go.RowKit
open Go.ChangeMaps (open_string shut_string)
set_option linter.unusedVariables false
set_option maxRecDepth 100000
set_option maxHeartbeats 32000000
set_option linter.unusedSimpArgs false
open Go.Proofs.Tryz
attribute [local go_sem] ji ja
theorem GN (x : Ik) (w : World) : Calls prog 25 #[.agg #[ji x.k, ji x.q, ji x.r, ji x.c, ji x.b, ji x.p, ji x.h, .bool x.up]] w fun e w' => e = .returned (.bool (CR x)) ∧ Bw w w' := by
 obtain ⟨k, q, r, c, b, p, h, up⟩ := x;dsimp only
 obtain ⟨R, hR⟩ := AC (CR ⟨k, q, r, c, b, p, h, up⟩);rw [← hR];by_cases h1 : k = 1
 ·
  subst h1;have hR1 : Hid (R = (decide (0 ≤ q ∧ q ≤ 3) && (Bc r c b p && (decide (0 ≤ h ∧ h ≤ 8) && !up)))) := hR;clear hR;have B0 := Ax (w := w) (Obj.cells #[ji 1, ji q, ji r, ji c, ji b, ji p, ji h, .bool up] 27);obtain ⟨y, hy⟩ := AC (w.alloc (Obj.cells #[ji 1, ji q, ji r, ji c, ji b, ji p, ji h, .bool up] 27));rw [← hy] at B0;have A0 : Bh y w.heap.size ⟨1, q, r, c, b, p, h, up⟩ := by rw [hy]; exact Bh.new w _ ⟨1, q, r, c, b, p, h, up⟩
  have S0 := A0.lt;go_enter func25, ntmps25
  go_wp2_with fail
  go_at_call 66
  rw [← hy];clear hy;refine (BE q 0 3 y).mono ?_;rintro e y1 ⟨rfl, rfl⟩;obtain ⟨a0, a1, a2, a3, a4, a5, a6, a7⟩ := A0;have A0 : Bh y1 w.heap.size ⟨1, q, r, c, b, p, h, up⟩ := ⟨a0, a1, a2, a3, a4, a5, a6, a7⟩;cases hF : decide (0 ≤ q ∧ q ≤ 3) with
  | false =>
   have hN : Hid (R = false) := by unfold Hid; rw [hR1.out, hF]; rfl
   clear hR1 hF;go_wp2
   go_ret
   exact ⟨by rw [hN.out]; rfl, B0⟩
  | true =>
   have hR2 : Hid (R = (Bc r c b p && (decide (0 ≤ h ∧ h ≤ 8) && !up))) := by unfold Hid; rw [hR1.out, hF]; rfl
   clear hR1 hF;go_wp2_with fail
   go_at_call 67
   refine (G5 r c b p y1).mono ?_;rintro e y2 ⟨rfl, k2⟩;have B2 := AG B0 k2;have A2 := A0.below k2 S0;clear a0 a1 a2 a3 a4 a5 a6 a7 A0 k2;replace A2 := A2.all;cases hF : Bc r c b p with
   | false =>
    have hN : Hid (R = false) := by unfold Hid; rw [hR2.out, hF]; rfl
    clear hR2 hF;go_wp2
    go_ret
    exact ⟨by rw [hN.out]; rfl, B2⟩
   | true =>
    have hR3 : Hid (R = (decide (0 ≤ h ∧ h ≤ 8) && !up)) := by unfold Hid; rw [hR2.out, hF]; rfl
    clear hR2 hF;go_wp2_with fail
    go_at_call 66
    refine (BE h 0 8 y2).mono ?_;rintro e y3 ⟨rfl, rfl⟩;cases hF : decide (0 ≤ h ∧ h ≤ 8) with
    | false =>
     have hN : Hid (R = false) := by unfold Hid; rw [hR3.out, hF]; rfl
     clear hR3 hF;go_wp2
     go_ret
     exact ⟨by rw [hN.out]; rfl, B2⟩
    | true =>
     have hN : Hid (R = !up) := by unfold Hid; rw [hR3.out, hF]; rfl
     clear hR3 hF;go_wp2
     go_ret
     exact ⟨by rw [hN.out]; rfl, B2⟩
 have d1 : (k == 1) = false := by simpa using h1
 by_cases h3 : k = 3
 ·
  subst h3;have hR1 : Hid (R = (decide (0 ≤ q ∧ q ≤ 3) && (decide (r = 0 ∧ c = 0 ∧ b = 0 ∧ p = 0) && (h == 0)))) := hR;clear hR h1 d1;have B0 := Ax (w := w) (Obj.cells #[ji 3, ji q, ji r, ji c, ji b, ji p, ji h, .bool up] 27);obtain ⟨y, hy⟩ := AC (w.alloc (Obj.cells #[ji 3, ji q, ji r, ji c, ji b, ji p, ji h, .bool up] 27));rw [← hy] at B0;have A0 : Bh y w.heap.size ⟨3, q, r, c, b, p, h, up⟩ := by rw [hy]; exact Bh.new w _ ⟨3, q, r, c, b, p, h, up⟩
  have S0 := A0.lt;go_enter func25, ntmps25
  go_wp2_with fail
  go_at_call 66
  rw [← hy];clear hy;refine (BE q 0 3 y).mono ?_;rintro e y1 ⟨rfl, rfl⟩;replace A0 := A0.all;cases hF : decide (0 ≤ q ∧ q ≤ 3) with
  | false =>
   have hN : Hid (R = false) := by unfold Hid; rw [hR1.out, hF]; rfl
   clear hR1 hF;go_wp2
   go_ret
   exact ⟨by rw [hN.out]; rfl, B0⟩
  | true =>
   have hR2 : Hid (R = (decide (r = 0 ∧ c = 0 ∧ b = 0 ∧ p = 0) && (h == 0))) := by unfold Hid; rw [hR1.out, hF]; rfl
   clear hR1 hF;have eV : ∀ w_ : World, (binOp .eql 25 (.agg #[ji r, ji c, ji b, ji p]) (.agg #[ji 0, ji 0, ji 0, ji 0])).run prog w_ = .ok (.bool (decide (r = 0 ∧ c = 0 ∧ b = 0 ∧ p = 0))) w_ := fun w_ => by
    have := GS r c b p 0 0 0 0 w_;go_simp
   cases hF : decide (r = 0 ∧ c = 0 ∧ b = 0 ∧ p = 0) with
   | false =>
    have hN : Hid (R = false) := by unfold Hid; rw [hR2.out, hF]; rfl
    rw [hF] at eV;clear hR2 hF;go_wp2
    go_ret
    exact ⟨by rw [hN.out]; rfl, B0⟩
   | true =>
    have hN : Hid (R = (h == 0)) := by unfold Hid; rw [hR2.out, hF]; rfl
    rw [hF] at eV;clear hR2 hF;go_wp2
    go_ret
    exact ⟨by rw [hN.out]; rfl, B0⟩
 have d3 : (k == 3) = false := by simpa using h3
 by_cases h2 : k = 2
 ·
  subst h2;have hN : Hid (R = decide (q = 0 ∧ r = 0 ∧ c = 0 ∧ b = 0 ∧ p = 0 ∧ h = 0 ∧ up = false)) := hR;clear hR h1 d1 h3 d3;have eI : ∀ w_ : World, (binOp .eql 27 (.agg #[ji 2, ji q, ji r, ji c, ji b, ji p, ji h, .bool up]) (.agg #[ji 2, ji 0, ji 0, ji 0, ji 0, ji 0, ji 0, .bool false])).run prog w_ = .ok (.bool R) w_ := fun w_ => by
   rw [hN.out];go_simp
   all_goals ((repeat' split) <;> first | (simp_all; done) | grind)
  clear hN;have B0 := Ax (w := w) (Obj.cells #[ji 2, ji q, ji r, ji c, ji b, ji p, ji h, .bool up] 27);obtain ⟨y, hy⟩ := AC (w.alloc (Obj.cells #[ji 2, ji q, ji r, ji c, ji b, ji p, ji h, .bool up] 27));rw [← hy] at B0;have A0 : Bh y w.heap.size ⟨2, q, r, c, b, p, h, up⟩ := by rw [hy]; exact Bh.new w _ ⟨2, q, r, c, b, p, h, up⟩
  have S0 := A0.lt;go_enter func25, ntmps25
  go_upto_region 7 with fail
  rw [← hy];clear hy;replace A0 := A0.all;go_wp2
  go_ret
  exact ⟨rfl, B0⟩
 have d2 : (k == 2) = false := by simpa using h2
 have hN : Hid (R = false) := by unfold Hid; rw [hR]; unfold CR; rw [if_neg h1, if_neg h3, if_neg h2]
 clear hR h1 h2 h3;have B0 := Ax (w := w) (Obj.cells #[ji k, ji q, ji r, ji c, ji b, ji p, ji h, .bool up] 27);obtain ⟨y, hy⟩ := AC (w.alloc (Obj.cells #[ji k, ji q, ji r, ji c, ji b, ji p, ji h, .bool up] 27));rw [← hy] at B0;have A0 : Bh y w.heap.size ⟨k, q, r, c, b, p, h, up⟩ := by rw [hy]; exact Bh.new w _ ⟨k, q, r, c, b, p, h, up⟩
 have S0 := A0.lt;go_enter func25, ntmps25
 go_wp2
 go_ret
 rw [← hy];exact ⟨by rw [hN.out]; rfl, B0⟩
end Go.Proofs.YtjmnaeeknomiaaaGreatDoor
namespace Go.Proofs.YtjmnaeeknomiaaaGreatDoor
open Go.ChangeShapes Go.WideShapes Go.ChangeAt Go.RowKit
open Go.ChangeMaps (open_string shut_string)
set_option linter.unusedVariables false
set_option maxRecDepth 100000
set_option maxHeartbeats 32000000
set_option linter.unusedSimpArgs false
open Go.Proofs.Tryz
theorem Ir (ad : Option Addr) (cap : Nat) (L : List Ik) (w : World) (hv : AI AW w ad L) (hl : L.length ≤ 1048577) :
  Calls prog 151 #[.slice ad L.length cap] w fun e w' => e = .returned (.bool (DN L)) ∧ Bw w w' := by
 have hB := hv.lt Av (by omega);obtain ⟨R, hR⟩ := AC (DN L);rw [← hR];replace hR : Hid _ := hR;go_enter func151, ntmps151
 go_wp2
 go_loopw [3] (fun i wr => ∃ k : Nat, k ≤ L.length ∧ i = .int .i64 k ∧ (L.take k).all CR = true ∧ Below w.heap.size w wr) (fun i _ => L.length - (intOf i).toNat)
 case atStart => exact ⟨0, Nat.zero_le _, rfl, rfl, Below.refl _ _⟩
 case round =>
  obtain ⟨k, hk, rfl, T, B⟩ := hrel;replace T : Hid _ := T;by_cases hlt : k < L.length
  ·
   obtain ⟨b, off, rfl, _⟩ := hv (by omega);obtain ⟨x, hh⟩ : ∃ x, L.getD k Ik.nil = x := ⟨_, rfl⟩;have hck : CJ wr b (off + k * 8) x := by
    rw [← hh];exact FU ((hv.below B hB).at_ Av Ik.nil hlt)
   have hT := Hy CR L Ik.nil hlt;rw [T.out, hh, Bool.true_and] at hT;have hNo : CR x = false → L.all CR = false := fun e => IU CR L Ik.nil hlt (by rw [hh]; exact e)
   replace hT : Hid _ := hT;replace hh : Hid _ := hh;replace hck := hck.all;go_wp2_with fail
   go_at_call 25
   clear hck;refine (GN x wr).mono ?_;rintro e u2 ⟨rfl, k2⟩;have B3 := AG B k2;clear k2 B;cases hx : CR x with
   | false =>
    have hN : Hid (R = false) := by unfold Hid; rw [hR.out]; unfold DN; rw [hNo hx]; rfl
    clear hNo hx;go_wp2
    go_ret
    exact ⟨by rw [hN.out]; rfl, B3⟩
   | true =>
    have hT2 : Hid ((L.take (k + 1)).all CR = true) := by unfold Hid; rw [hT.out, hx]
    clear hNo hx;go_wp2
    go_roundw
    case rel => exact ⟨k + 1, by omega, by go_num, hT2.out, B3⟩
    case measure => simp [intOf]; omega
  obtain rfl : k = L.length := by omega
  have hN : Hid (R = decide ((L.length : Int) ≤ 60)) := by
   unfold Hid; rw [hR.out]; unfold DN
   have := T.out;rw [List.take_length] at this;rw [this, Bool.true_and];by_cases h : L.length ≤ 60
   ·
    rw [decide_eq_true h, decide_eq_true (by omega)]
   rw [decide_eq_false h, decide_eq_false (by omega)]
  go_wp2
  go_ret
  exact ⟨by rw [hN.out]; rfl, B⟩
theorem Fc (m : Mi) (ad : Option Addr) (cap : Nat) (w : World) (hv : AI AW w ad m.lg) (hl : m.lg.length ≤ 1048577) :
  Calls prog 149 #[.agg #[.bool m.up, ji m.li, ji m.ep, .slice ad m.lg.length cap, ji m.sd, ji m.ac, ji m.al]] w fun e w' => e = .returned (.bool (BM m)) ∧ Bw w w' := by
 have hB := hv.lt Av (by omega);obtain ⟨R, hR⟩ := AC (BM m);rw [← hR];replace hR : Hid _ := hR;obtain ⟨y, hy, B0⟩ := AM w (Obj.cells (mc m ad cap) 54);have A : Ab y w.heap.size m (.slice ad m.lg.length cap) := by rw [hy]; exact Ab.new w _ _ _
 have S0 := A.lt;have hv1 := hv.below B0 hB;clear hv;go_enter func149, ntmps149
 go_upto_region 1 with fail
 rw [← hy];clear hy;have x0 := A.all;go_wp2_with fail
 go_at_call 66
 clear x0;refine (BE m.li 0 100000 y).mono ?_;rintro e v0 ⟨rfl, hw_⟩;have A := (by rw [hw_]; exact A : Ab v0 w.heap.size m (.slice ad m.lg.length cap));have hv1 := (by rw [hw_]; exact hv1 : AI AW v0 ad m.lg);have Bx := (by rw [hw_]; exact B0 : Bw w v0);clear hw_ B0;have B1 := Bx;clear Bx;rw [show decide (0 ≤ m.li ∧ m.li ≤ 100000) = CK m.li from rfl];cases h_li : CK m.li
 ·
  have hN : Hid (R = false) := by unfold Hid; rw [hR.out]; unfold BM; rw [h_li]; rfl
  clear h_li;go_wp2
  go_ret
  exact ⟨by rw [hN.out]; rfl, B1⟩
 replace h_li : Hid _ := h_li;have x0 := A.all;go_wp2_with fail
 go_at_call 66
 clear x0;refine (BE m.ep 0 100000 v0).mono ?_;rintro e v1 ⟨rfl, hw_⟩;have A := (by rw [hw_]; exact A : Ab v1 w.heap.size m (.slice ad m.lg.length cap));have hv1 := (by rw [hw_]; exact hv1 : AI AW v1 ad m.lg);have Bx := (by rw [hw_]; exact B1 : Bw w v1);clear hw_ B1;have B2 := Bx;clear Bx;rw [show decide (0 ≤ m.ep ∧ m.ep ≤ 100000) = CK m.ep from rfl];cases h_ep : CK m.ep
 ·
  have hN : Hid (R = false) := by unfold Hid; rw [hR.out]; unfold BM; rw [h_li.out, h_ep]; rfl
  clear h_ep;go_wp2
  go_ret
  exact ⟨by rw [hN.out]; rfl, B2⟩
 replace h_ep : Hid _ := h_ep;have x0 := A.all;go_wp2_with fail
 go_at_call 66
 clear x0;refine (BE m.al 0 100000 v1).mono ?_;rintro e v2 ⟨rfl, hw_⟩;have A := (by rw [hw_]; exact A : Ab v2 w.heap.size m (.slice ad m.lg.length cap));have hv1 := (by rw [hw_]; exact hv1 : AI AW v2 ad m.lg);have Bx := (by rw [hw_]; exact B2 : Bw w v2);clear hw_ B2;have B3 := Bx;clear Bx;rw [show decide (0 ≤ m.al ∧ m.al ≤ 100000) = CK m.al from rfl];cases h_al : CK m.al
 ·
  have hN : Hid (R = false) := by unfold Hid; rw [hR.out]; unfold BM; rw [h_li.out, h_ep.out, h_al]; rfl
  clear h_al;go_wp2
  go_ret
  exact ⟨by rw [hN.out]; rfl, B3⟩
 replace h_al : Hid _ := h_al;have x0 := A.all;go_wp2_with fail
 go_at_call 151
 clear x0;refine (Ir ad cap m.lg v2 hv1 hl).mono ?_;rintro e v3 ⟨rfl, kq⟩;have A := A.below kq A.lt;have hv1 := hv1.below kq (hv1.lt Av (by omega));have B4 := AG B3 kq;clear kq B3;cases h_in : DN m.lg
 ·
  have hN : Hid (R = false) := by unfold Hid; rw [hR.out]; unfold BM; rw [h_li.out, h_ep.out, h_al.out, h_in]; rfl
  clear h_in;go_wp2
  go_ret
  exact ⟨by rw [hN.out]; rfl, B4⟩
 replace h_in : Hid _ := h_in;have x0 := A.all;go_wp2_with fail
 go_at_call 66
 clear x0;refine (BE m.sd 0 (m.lg.length : Int) v3).mono ?_;rintro e v4 ⟨rfl, hw_⟩;have A := (by rw [hw_]; exact A : Ab v4 w.heap.size m (.slice ad m.lg.length cap));have hv1 := (by rw [hw_]; exact hv1 : AI AW v4 ad m.lg);have Bx := (by rw [hw_]; exact B4 : Bw w v4);clear hw_ B4;have B5 := Bx;clear Bx;cases h_sd : decide (0 ≤ m.sd ∧ m.sd ≤ (m.lg.length : Int))
 ·
  have hN : Hid (R = false) := by unfold Hid; rw [hR.out]; unfold BM; rw [h_li.out, h_ep.out, h_al.out, h_in.out, h_sd]; rfl
  clear h_sd;go_wp2
  go_ret
  exact ⟨by rw [hN.out]; rfl, B5⟩
 replace h_sd : Hid _ := h_sd;have x0 := A.all;go_wp2_with fail
 go_at_call 66
 clear x0;refine (BE m.ac 0 (m.lg.length : Int) v4).mono ?_;rintro e v5 ⟨rfl, hw_⟩;have A := (by rw [hw_]; exact A : Ab v5 w.heap.size m (.slice ad m.lg.length cap));have hv1 := (by rw [hw_]; exact hv1 : AI AW v5 ad m.lg);have Bx := (by rw [hw_]; exact B5 : Bw w v5);clear hw_ B5;have B6 := Bx;clear Bx;cases h_ac : decide (0 ≤ m.ac ∧ m.ac ≤ (m.lg.length : Int))
 ·
  have hN : Hid (R = false) := by unfold Hid; rw [hR.out]; unfold BM; rw [h_li.out, h_ep.out, h_al.out, h_in.out, h_sd.out, h_ac]; rfl
  clear h_ac;go_wp2
  go_ret
  exact ⟨by rw [hN.out]; rfl, B6⟩
 replace h_ac : Hid _ := h_ac;obtain ⟨x0, x1, x2, x3, x4, x5, x6⟩ := A;cases hU : m.up
 ·
  rw [hU] at x0;by_cases e1 : m.ep = 0
  ·
   have d1 : (m.ep == 0) = true := by simpa using e1
   by_cases e2 : (m.lg.length : Int) = 0
   ·
    have d2 : ((m.lg.length : Int) == 0) = true := by simpa using e2
    have e2' : m.lg.length = 0 := by omega
    have hN : Hid (R = (m.al == 0)) := by unfold Hid; rw [hR.out]; unfold BM; rw [h_li.out, h_ep.out, h_al.out, h_in.out, h_sd.out, h_ac.out, hU, decide_eq_true e1, decide_eq_true e2']; by_cases e3 : m.al = 0 <;> simp [e3]
    clear e1 e2 e2';go_wp2
    go_ret
    exact ⟨by rw [hN.out]; rfl, B6⟩
   have d2 : ((m.lg.length : Int) == 0) = false := by rw [beq_eq_false_iff_ne]; exact e2
   have e2' : ¬ m.lg.length = 0 := by omega
   have hN : Hid (R = false) := by unfold Hid; rw [hR.out]; unfold BM; rw [h_li.out, h_ep.out, h_al.out, h_in.out, h_sd.out, h_ac.out, hU, decide_eq_false e2']; simp
   clear e1 e2 e2';go_wp2
   go_ret
   exact ⟨by rw [hN.out]; rfl, B6⟩
  have d1 : (m.ep == 0) = false := by rw [beq_eq_false_iff_ne]; exact e1
  have hN : Hid (R = false) := by unfold Hid; rw [hR.out]; unfold BM; rw [h_li.out, h_ep.out, h_al.out, h_in.out, h_sd.out, h_ac.out, hU, decide_eq_false e1]; rfl
  clear e1;go_wp2
  go_ret
  exact ⟨by rw [hN.out]; rfl, B6⟩
 rw [hU] at x0;have hN : Hid (R = true) := by unfold Hid; rw [hR.out]; unfold BM; rw [h_li.out, h_ep.out, h_al.out, h_in.out, h_sd.out, h_ac.out, hU]; rfl
 go_wp2
 go_ret
 exact ⟨by rw [hN.out]; rfl, B6⟩
end Go.Proofs.YtjmnaeeknomiaaaGreatDoor
