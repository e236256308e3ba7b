import Derived.Test.YtjmnaeeknomiaaaGreatRM7
import Derived.Test.YtjmnaeeknomiaaaGreatRKWIn2
import Derived.Test.YtjmnaeeknomiaaaGreatRM17
namespace Go.Proofs.YtjmnaeeknomiaaaGreat
open Go.ChangeShapes Go.WideShapes Go.ChangeAt Go.RowKit
open Go.ChangeMaps (open_string shut_string)
set_option linter.unusedVariables false
set_option maxRecDepth 100000
set_option maxHeartbeats 32000000
set_option linter.unusedSimpArgs false
open Go.Proofs.Tryz
theorem Et (q len : Nat) (ad : Option Addr) (cap : Nat) (w : World) (h : w.cell? (ja q 0) = some (.slice ad len cap)) :
  Calls prog 140 #[.pointer (some (ja q 0))] w fun e w' => e = .returned (ji (len : Int)) ∧ w' = w := by
 go_enter func140, ntmps140
 go_wp2
 go_ret
 exact ⟨rfl, rfl⟩
theorem Hy (q len : Nat) (ad : Option Addr) (cap : Nat) (n : Int) (w : World) (h : w.cell? (ja q 0) = some (.slice ad len cap)) :
  Calls prog 142 #[.pointer (some (ja q 0)), ji n] w fun e w' => e = .returned (.bool (decide (0 ≤ n ∧ n ≤ (len : Int)))) ∧ w' = w := by
 obtain ⟨R, hR⟩ := AC (decide (0 ≤ n ∧ n ≤ (len : Int)));rw [← hR];replace hR : Hid _ := hR;by_cases h1 : 0 ≤ n
 ·
  have d1 : decide (0 ≤ n) = true := decide_eq_true h1;have hN : Hid (R = decide (n ≤ (len : Int))) := by unfold Hid; rw [hR.out]; by_cases h2 : n ≤ (len : Int) <;> simp [h1, h2]
  clear hR;go_enter func142, ntmps142
  go_wp2_with fail
  go_at_call 140
  refine (Et q len ad cap w h).mono ?_;rintro e w1 ⟨rfl, rfl⟩;go_wp2
  go_ret
  exact ⟨by rw [hN.out]; rfl, rfl⟩
 have d1 : decide (0 ≤ n) = false := decide_eq_false h1;have hN : Hid (R = false) := by unfold Hid; rw [hR.out]; simp [h1]
 clear hR;go_enter func142, ntmps142
 go_wp2
 go_ret
 exact ⟨by rw [hN.out]; rfl, rfl⟩
theorem F8 {X : Type} (f : X → Bool) (L : List X) (d : X) {k : Nat} (hk : k < L.length) : (L.take (k + 1)).all f = ((L.take k).all f && f (L.getD k d)) := by
 rw [List.take_add_one, List.all_append];have e : L[k]?.toList = [L.getD k d] := by simp [List.getD, hk]
 rw [e]; simp
theorem GX {X : Type} (f : X → Bool) (L : List X) (d : X) {k : Nat} (hk : k < L.length) (h : f (L.getD k d) = false) : L.all f = false := by
 rw [List.all_eq_false];refine ⟨L.getD k d, ?_, by rw [h]; exact Bool.false_ne_true⟩;simp [List.getD, hk]
theorem Ka (q : Nat) (ad : Option Addr) (cap : Nat) (L : List Ik) (w : World) (h : w.cell? (ja q 0) = some (.slice ad L.length cap)) (hv : AH AO w ad L) (hl : L.length ≤ 1048577) :
  Calls prog 141 #[.pointer (some (ja q 0)), .func (Fn.func 97) #[] #[]] w fun e w' => e = .returned (.bool (L.all Ay)) ∧ Bw w w' := by
 have hB := hv.lt AT (by omega);obtain ⟨R, hR⟩ := AC (L.all Ay);rw [← hR];replace hR : Hid _ := hR;go_enter func141, ntmps141
 go_wp2
 go_loopw [12] (fun i wr => ∃ k : Nat, k ≤ L.length ∧ i = .int .i64 k ∧ (L.take k).all Ay = true ∧ Below w.heap.size w wr) (fun i _ => L.length - (intOf i).toNat)
 case atStart => exact ⟨0, Nat.zero_le _, rfl, rfl, Below.refl _ _⟩
 case round =>
  obtain ⟨k, hk, rfl, T, B⟩ := hrel;replace T : Hid _ := T;by_cases hlt : k < L.length
  ·
   obtain ⟨b, off, rfl, _⟩ := hv (by omega);obtain ⟨x, hh⟩ : ∃ x, L.getD k Ik.nil = x := ⟨_, rfl⟩;have hck : Bk wr b (off + k * 8) x := by
    rw [← hh];exact EA ((hv.below B hB).at_ AT Ik.nil hlt)
   have hT := F8 Ay L Ik.nil hlt;rw [T.out, hh, Bool.true_and] at hT;have hNo : Ay x = false → L.all Ay = false := fun e => GX Ay L Ik.nil hlt (by rw [hh]; exact e)
   replace hT : Hid _ := hT;replace hh : Hid _ := hh;replace hck := hck.all;obtain ⟨u, hu, ku⟩ := AI wr (Obj.cells (ic x) 64);have U : BD u wr.heap.size x := by rw [hu]; exact BD.new wr _ x
   have B2 := AE B ku;go_upto_region 4 with fail
   rw [← hu];clear hck hu ku;replace U := U.all;go_wp2_with fail
   go_at_call 97
   clear U;refine (Gb x u).mono ?_;rintro e u2 ⟨rfl, k2⟩;have B3 := AE B2 k2;clear k2 B2 B;cases hx : Ay x with
   | false =>
    have hN : Hid (R = false) := by unfold Hid; rw [hR.out]; exact hNo hx
    clear hNo hx;go_wp2
    go_ret
    exact ⟨by rw [hN.out]; rfl, B3⟩
   | true =>
    have hT2 : Hid ((L.take (k + 1)).all Ay = true) := by unfold Hid; rw [hT.out, hx]
    clear hNo hx;go_wp2
    go_roundw
    case rel => exact ⟨k + 1, by omega, by go_num, hT2.out, B3⟩
    case measure => simp [intOf]; omega
  obtain rfl : k = L.length := by omega
  have hN : Hid (R = true) := by unfold Hid; rw [hR.out]; have := T.out; rwa [List.take_length] at this
  go_wp2
  go_ret
  exact ⟨by rw [hN.out]; rfl, B⟩
theorem Hw (ad : Option Addr) (cap : Nat) (L : List Ik) (w : World) (hv : AH AO w ad L) (hl : L.length ≤ 1048577) :
  Calls prog 58 #[.slice ad L.length cap] w fun e w' => e = .returned (.bool (Cn L)) ∧ Bw w w' := by
 have hB := hv.lt AT (by omega);obtain ⟨R, hR⟩ := AC (Cn L);rw [← hR];replace hR : Hid _ := hR;go_enter func58, ntmps58
 go_wp2
 go_loopw [3] (fun i wr => ∃ k : Nat, k ≤ L.length ∧ i = .int .i64 k ∧ (L.take k).all Ay = true ∧ Below w.heap.size w wr) (fun i _ => L.length - (intOf i).toNat)
 case atStart => exact ⟨0, Nat.zero_le _, rfl, rfl, Below.refl _ _⟩
 case round =>
  obtain ⟨k, hk, rfl, T, B⟩ := hrel;replace T : Hid _ := T;by_cases hlt : k < L.length
  ·
   obtain ⟨b, off, rfl, _⟩ := hv (by omega);obtain ⟨x, hh⟩ : ∃ x, L.getD k Ik.nil = x := ⟨_, rfl⟩;have hck : Bk wr b (off + k * 8) x := by
    rw [← hh];exact EA ((hv.below B hB).at_ AT Ik.nil hlt)
   have hT := F8 Ay L Ik.nil hlt;rw [T.out, hh, Bool.true_and] at hT;have hNo : Ay x = false → L.all Ay = false := fun e => GX Ay L Ik.nil hlt (by rw [hh]; exact e)
   replace hT : Hid _ := hT;replace hh : Hid _ := hh;replace hck := hck.all;go_wp2_with fail
   go_at_call 82
   clear hck;refine (Fi x wr).mono ?_;rintro e u2 ⟨rfl, k2⟩;have B3 := AE B k2;clear k2 B;cases hx : Ay x with
   | false =>
    have hN : Hid (R = false) := by unfold Hid; rw [hR.out]; unfold Cn; rw [hNo hx]; rfl
    clear hNo hx;go_wp2
    go_ret
    exact ⟨by rw [hN.out]; rfl, B3⟩
   | true =>
    have hT2 : Hid ((L.take (k + 1)).all Ay = true) := by unfold Hid; rw [hT.out, hx]
    clear hNo hx;go_wp2
    go_roundw
    case rel => exact ⟨k + 1, by omega, by go_num, hT2.out, B3⟩
    case measure => simp [intOf]; omega
  obtain rfl : k = L.length := by omega
  have hN : Hid (R = decide ((L.length : Int) ≤ 60)) := by
   unfold Hid; rw [hR.out]; unfold Cn
   have := T.out;rw [List.take_length] at this;rw [this, Bool.true_and];by_cases h : L.length ≤ 60
   ·
    rw [decide_eq_true h, decide_eq_true (by omega)]
   rw [decide_eq_false h, decide_eq_false (by omega)]
  go_wp2
  go_ret
  exact ⟨by rw [hN.out]; rfl, B⟩
theorem Eu (m : Mi) (ad : Option Addr) (cap : Nat) (w : World) (hv : AH AO w ad m.lg) (hl : m.lg.length ≤ 1048577) :
  Calls prog 56 #[.agg #[.bool m.up, ji m.li, ji m.ep, .slice ad m.lg.length cap, ji m.sd, ji m.ac, ji m.al]] w fun e w' => e = .returned (.bool (Au m)) ∧ Bw w w' := by
 have hB := hv.lt AT (by omega);obtain ⟨R, hR⟩ := AC (Au m);rw [← hR];replace hR : Hid _ := hR;obtain ⟨y, hy, B0⟩ := AI w (Obj.cells (mc m ad cap) 52);have A : Ac y w.heap.size m (.slice ad m.lg.length cap) := by rw [hy]; exact Ac.new w _ _ _
 have S0 := A.lt;have hv1 := hv.below B0 hB;clear hv;go_enter func56, ntmps56
 go_upto_region 1 with fail
 rw [← hy];clear hy;have x0 := A.all;go_wp2_with fail
 go_at_call 65
 clear x0;refine (BK m.li 0 100000 y).mono ?_;rintro e v0 ⟨rfl, hw_⟩;have A := (by rw [hw_]; exact A : Ac v0 w.heap.size m (.slice ad m.lg.length cap));have hv1 := (by rw [hw_]; exact hv1 : AH AO v0 ad m.lg);have Bx := (by rw [hw_]; exact B0 : Bw w v0);clear hw_ B0;have B1 := Bx;clear Bx;rw [show decide (0 ≤ m.li ∧ m.li ≤ 100000) = BR m.li from rfl];cases h_li : BR m.li
 ·
  have hN : Hid (R = false) := by unfold Hid; rw [hR.out]; unfold Au; rw [h_li]; rfl
  clear h_li;go_wp2
  go_ret
  exact ⟨by rw [hN.out]; rfl, B1⟩
 replace h_li : Hid _ := h_li;have x0 := A.all;go_wp2_with fail
 go_at_call 65
 clear x0;refine (BK m.ep 0 100000 v0).mono ?_;rintro e v1 ⟨rfl, hw_⟩;have A := (by rw [hw_]; exact A : Ac v1 w.heap.size m (.slice ad m.lg.length cap));have hv1 := (by rw [hw_]; exact hv1 : AH AO v1 ad m.lg);have Bx := (by rw [hw_]; exact B1 : Bw w v1);clear hw_ B1;have B2 := Bx;clear Bx;rw [show decide (0 ≤ m.ep ∧ m.ep ≤ 100000) = BR m.ep from rfl];cases h_ep : BR m.ep
 ·
  have hN : Hid (R = false) := by unfold Hid; rw [hR.out]; unfold Au; rw [h_li.out, h_ep]; rfl
  clear h_ep;go_wp2
  go_ret
  exact ⟨by rw [hN.out]; rfl, B2⟩
 replace h_ep : Hid _ := h_ep;have x0 := A.all;go_wp2_with fail
 go_at_call 65
 clear x0;refine (BK m.al 0 100000 v1).mono ?_;rintro e v2 ⟨rfl, hw_⟩;have A := (by rw [hw_]; exact A : Ac v2 w.heap.size m (.slice ad m.lg.length cap));have hv1 := (by rw [hw_]; exact hv1 : AH AO v2 ad m.lg);have Bx := (by rw [hw_]; exact B2 : Bw w v2);clear hw_ B2;have B3 := Bx;clear Bx;rw [show decide (0 ≤ m.al ∧ m.al ≤ 100000) = BR m.al from rfl];cases h_al : BR m.al
 ·
  have hN : Hid (R = false) := by unfold Hid; rw [hR.out]; unfold Au; rw [h_li.out, h_ep.out, h_al]; rfl
  clear h_al;go_wp2
  go_ret
  exact ⟨by rw [hN.out]; rfl, B3⟩
 replace h_al : Hid _ := h_al;have x0 := A.all;go_wp2_with fail
 go_at_call 58
 clear x0;refine (Hw ad cap m.lg v2 hv1 hl).mono ?_;rintro e v3 ⟨rfl, kq⟩;have A := A.below kq A.lt;have hv1 := hv1.below kq (hv1.lt AT (by omega));have B4 := AE B3 kq;clear kq B3;cases h_in : Cn m.lg
 ·
  have hN : Hid (R = false) := by unfold Hid; rw [hR.out]; unfold Au; rw [h_li.out, h_ep.out, h_al.out, h_in]; rfl
  clear h_in;go_wp2
  go_ret
  exact ⟨by rw [hN.out]; rfl, B4⟩
 replace h_in : Hid _ := h_in;have x0 := A.all;go_wp2_with fail
 go_at_call 65
 clear x0;refine (BK m.sd 0 (m.lg.length : Int) v3).mono ?_;rintro e v4 ⟨rfl, hw_⟩;have A := (by rw [hw_]; exact A : Ac v4 w.heap.size m (.slice ad m.lg.length cap));have hv1 := (by rw [hw_]; exact hv1 : AH AO v4 ad m.lg);have Bx := (by rw [hw_]; exact B4 : Bw w v4);clear hw_ B4;have B5 := Bx;clear Bx;cases h_sd : decide (0 ≤ m.sd ∧ m.sd ≤ (m.lg.length : Int))
 ·
  have hN : Hid (R = false) := by unfold Hid; rw [hR.out]; unfold Au; rw [h_li.out, h_ep.out, h_al.out, h_in.out, h_sd]; rfl
  clear h_sd;go_wp2
  go_ret
  exact ⟨by rw [hN.out]; rfl, B5⟩
 replace h_sd : Hid _ := h_sd;have x0 := A.all;go_wp2_with fail
 go_at_call 65
 clear x0;refine (BK m.ac 0 (m.lg.length : Int) v4).mono ?_;rintro e v5 ⟨rfl, hw_⟩;have A := (by rw [hw_]; exact A : Ac v5 w.heap.size m (.slice ad m.lg.length cap));have hv1 := (by rw [hw_]; exact hv1 : AH AO v5 ad m.lg);have Bx := (by rw [hw_]; exact B5 : Bw w v5);clear hw_ B5;have B6 := Bx;clear Bx;cases h_ac : decide (0 ≤ m.ac ∧ m.ac ≤ (m.lg.length : Int))
 ·
  have hN : Hid (R = false) := by unfold Hid; rw [hR.out]; unfold Au; rw [h_li.out, h_ep.out, h_al.out, h_in.out, h_sd.out, h_ac]; rfl
  clear h_ac;go_wp2
  go_ret
  exact ⟨by rw [hN.out]; rfl, B6⟩
 replace h_ac : Hid _ := h_ac;obtain ⟨x0, x1, x2, x3, x4, x5, x6⟩ := A;cases hU : m.up
 ·
  rw [hU] at x0;by_cases e1 : m.ep = 0
  ·
   have d1 : (m.ep == 0) = true := by simpa using e1
   by_cases e2 : (m.lg.length : Int) = 0
   ·
    have d2 : ((m.lg.length : Int) == 0) = true := by simpa using e2
    have e2' : m.lg.length = 0 := by omega
    have hN : Hid (R = (m.al == 0)) := by unfold Hid; rw [hR.out]; unfold Au; rw [h_li.out, h_ep.out, h_al.out, h_in.out, h_sd.out, h_ac.out, hU, decide_eq_true e1, decide_eq_true e2']; by_cases e3 : m.al = 0 <;> simp [e3]
    clear e1 e2 e2';go_wp2
    go_ret
    exact ⟨by rw [hN.out]; rfl, B6⟩
   have d2 : ((m.lg.length : Int) == 0) = false := by rw [beq_eq_false_iff_ne]; exact e2
   have e2' : ¬ m.lg.length = 0 := by omega
   have hN : Hid (R = false) := by unfold Hid; rw [hR.out]; unfold Au; rw [h_li.out, h_ep.out, h_al.out, h_in.out, h_sd.out, h_ac.out, hU, decide_eq_false e2']; simp
   clear e1 e2 e2';go_wp2
   go_ret
   exact ⟨by rw [hN.out]; rfl, B6⟩
  have d1 : (m.ep == 0) = false := by rw [beq_eq_false_iff_ne]; exact e1
  have hN : Hid (R = false) := by unfold Hid; rw [hR.out]; unfold Au; rw [h_li.out, h_ep.out, h_al.out, h_in.out, h_sd.out, h_ac.out, hU, decide_eq_false e1]; rfl
  clear e1;go_wp2
  go_ret
  exact ⟨by rw [hN.out]; rfl, B6⟩
 rw [hU] at x0;have hN : Hid (R = true) := by unfold Hid; rw [hR.out]; unfold Au; rw [h_li.out, h_ep.out, h_al.out, h_in.out, h_sd.out, h_ac.out, hU]; rfl
 go_wp2
 go_ret
 exact ⟨by rw [hN.out]; rfl, B6⟩
attribute [local go_sem] ji ja mc
theorem Gh (a b : Int) (w : World) : Calls prog 173 #[ji a, ji b] w fun e w' => e = .returned (ji (if b < a then a else b)) ∧ w' = w := by
 by_cases h : b < a
 ·
  rw [if_pos h];have d : decide (b < a) = true := decide_eq_true h;go_enter func173, ntmps173
  go_wp2
  go_ret
  exact ⟨rfl, rfl⟩
 rw [if_neg h];have d : decide (b < a) = false := decide_eq_false h;go_enter func173, ntmps173
 go_wp2
 go_ret
 exact ⟨rfl, rfl⟩
theorem Fe (r : Rg) (w : World) : Calls prog 55 #[.agg #[ji r.ep, ji r.ow, ji r.pa]] w fun e w' => e = .returned (.bool (BV r)) ∧ Bw w w' := by
 obtain ⟨R, hR⟩ := AC (BV r);rw [← hR];replace hR : Hid _ := hR;obtain ⟨y, hy, B0⟩ := AI w (Obj.cells #[ji r.ep, ji r.ow, ji r.pa] 27);have A : Al y w.heap.size r := by rw [hy]; exact Al.new w _ r
 go_enter func55, ntmps55
 go_upto_region 1 with fail
 rw [← hy];clear hy;have x0 := A.all;go_wp2_with fail
 go_at_call 65
 refine (BK r.ep 1 100000 y).mono ?_;rintro e v0 ⟨rfl, hw_⟩;have A := (by rw [hw_]; exact A : Al v0 w.heap.size r);have B0 := (by rw [hw_]; exact B0 : Bw w v0);clear hw_;clear x0;cases h1 : decide (1 ≤ r.ep ∧ r.ep ≤ 100000)
 ·
  have hN : Hid (R = false) := by unfold Hid; rw [hR.out]; unfold BV; rw [h1]; rfl
  clear h1;go_wp2
  go_ret
  exact ⟨by rw [hN.out]; rfl, B0⟩
 replace h1 : Hid _ := h1;have x0 := A.all;go_wp2_with fail
 go_at_call 65
 refine (BK r.ow 0 1 v0).mono ?_;rintro e v1 ⟨rfl, hw_⟩;have A := (by rw [hw_]; exact A : Al v1 w.heap.size r);have B0 := (by rw [hw_]; exact B0 : Bw w v1);clear hw_;clear x0;cases h2 : decide (0 ≤ r.ow ∧ r.ow ≤ 1)
 ·
  have hN : Hid (R = false) := by unfold Hid; rw [hR.out]; unfold BV; rw [h1.out, h2]; rfl
  clear h2;go_wp2
  go_ret
  exact ⟨by rw [hN.out]; rfl, B0⟩
 replace h2 : Hid _ := h2;have x0 := A.all;go_wp2_with fail
 go_at_call 65
 refine (BK r.pa 0 100000 v1).mono ?_;rintro e v2 ⟨rfl, hw_⟩;have A := (by rw [hw_]; exact A : Al v2 w.heap.size r);have B0 := (by rw [hw_]; exact B0 : Bw w v2);clear hw_;clear x0;rw [show decide (0 ≤ r.pa ∧ r.pa ≤ 100000) = BR r.pa from rfl];have hN : Hid (R = BR r.pa) := by unfold Hid; rw [hR.out]; unfold BV; rw [h1.out, h2.out]; rfl
 rw [← hN.out];go_wp2
 go_ret
 exact ⟨rfl, B0⟩
theorem HW (r : Rg) (s : Int) (m : Mi) (ad : Option Addr) (cap : Nat) (w : World) (hv : AH AO w ad m.lg) (hl : m.lg.length ≤ 1048577) :
  Calls prog 106 #[.agg #[ji r.ep, ji r.ow, ji r.pa], ji s, .agg #[.bool m.up, ji m.li, ji m.ep, .slice ad m.lg.length cap, ji m.sd, ji m.ac, ji m.al]] w fun e w' => e = .returned (.bool (Cq r s m)) ∧ Bw w w' := by
 have hB := hv.lt AT (by omega);obtain ⟨R, hR⟩ := AC (Cq r s m);rw [← hR];replace hR : Hid _ := hR;obtain ⟨y, hy⟩ := AC ((w.alloc (Obj.cells #[ji r.ep, ji r.ow, ji r.pa] 27)).alloc (Obj.cells (mc m ad cap) 52));have B0 : Bw w y := by rw [hy]; exact ((Below.refl _ _).alloc (Nat.le_refl _) _).alloc (by simp) _
 have A : Al y w.heap.size r := by rw [hy]; constructor <;> simp [go_sem]
 have M : Ac y (w.heap.size + 1) m (.slice ad m.lg.length cap) := by rw [hy]; constructor <;> simp [go_sem]
 have hv1 := hv.below B0 hB;clear hv hB;go_enter func106, ntmps106
 have x0 := A.all;go_wp2_with fail
 go_at_call 55
 rw [← hy];clear x0 hy;refine (Fe r y).mono ?_;rintro e v1 ⟨rfl, k1⟩;have A := A.below k1 A.lt;have M := M.below k1 M.lt;have hv1 := hv1.below k1 (hv1.lt AT (by omega));have B1 := AE B0 k1;clear k1 B0;cases h1 : BV r
 ·
  have hN : Hid (R = false) := by unfold Hid; rw [hR.out]; unfold Cq; rw [h1]; rfl
  clear h1;go_wp2
  go_ret
  exact ⟨by rw [hN.out]; rfl, B1⟩
 replace h1 : Hid _ := h1;have x0 := M.all;go_wp2_with fail
 go_at_call 56
 clear x0;refine (Eu m ad cap v1 hv1 hl).mono ?_;rintro e v2 ⟨rfl, k2⟩;have A := A.below k2 A.lt;have M := M.below k2 M.lt;have B2 := AE B1 k2;clear k2 B1 hv1;cases h2 : Au m
 ·
  have hN : Hid (R = false) := by unfold Hid; rw [hR.out]; unfold Cq; rw [h1.out, h2]; rfl
  clear h2;go_wp2
  go_ret
  exact ⟨by rw [hN.out]; rfl, B2⟩
 replace h2 : Hid _ := h2;obtain ⟨x0, x1, x2, x3, x4, x5, x6⟩ := M;replace A := A.all;cases h3 : m.up
 ·
  rw [h3] at x0;have hN : Hid (R = false) := by unfold Hid; rw [hR.out]; unfold Cq; rw [h1.out, h2.out, h3]; rfl
  go_wp2
  go_ret
  exact ⟨by rw [hN.out]; rfl, B2⟩
 rw [h3] at x0;by_cases h4 : s = r.ow
 ·
  have d4 : (s == r.ow) = true := by simpa using h4
  have hN : Hid (R = (m.ep == r.ep)) := by unfold Hid; rw [hR.out]; unfold Cq; rw [h1.out, h2.out, h3, decide_eq_true h4]; by_cases h5 : m.ep = r.ep <;> simp [h5]
  replace h4 : Hid _ := h4;go_wp2
  go_ret
  exact ⟨by rw [hN.out]; rfl, B2⟩
 have d4 : (s == r.ow) = false := by rw [beq_eq_false_iff_ne]; exact h4
 have hN : Hid (R = false) := by unfold Hid; rw [hR.out]; unfold Cq; rw [h1.out, h2.out, h3, decide_eq_false h4]; rfl
 clear h4;go_wp2
 go_ret
 exact ⟨by rw [hN.out]; rfl, B2⟩
end Go.Proofs.YtjmnaeeknomiaaaGreat
namespace Go.Proofs.YtjmnaeeknomiaaaGreat
open Go.ChangeShapes Go.WideShapes Go.ChangeAt Go.RowKit
open Go.ChangeMaps (open_string shut_string)
set_option linter.unusedVariables false
set_option maxRecDepth 100000
set_option maxHeartbeats 32000000
set_option linter.unusedSimpArgs false
open Go.Proofs.Tryz
theorem FG (id n : Int) (w : World) :
  Calls prog 14 #[ji id, ji n] w fun e w' => ∃ ad' cap', e = .returned (.tuple #[.agg #[ji (BJ id n), .slice ad' (AX id n).length cap'], .bool (Aq id n)]) ∧ AB AL 11 70 w.heap.size w' (.slice ad' (AX id n).length cap') (AX id n) ∧ Bw w w' := by
 obtain ⟨i0, hi, hz0, hz1, hz2⟩ := info_parts GJ;obtain ⟨y, hy⟩ := AC ((w.alloc (Obj.cells #[ji 0, .slice none 0 0] 42)).alloc (Obj.cells #[ji id, .slice none 0 0] 42));have B0 : Bw w y := by rw [hy]; exact ((Below.refl _ _).alloc (Nat.le_refl _) _).alloc (by simp) _
 have R0 : AU y w.heap.size 0 (.slice none 0 0) := by rw [hy]; refine ⟨?_, fun i => ?_⟩; constructor <;> simp [go_sem]; simp [go_sem]
 have N0 : AU y (w.heap.size + 1) id (.slice none 0 0) := by rw [hy]; refine ⟨?_, fun i => ?_⟩; constructor <;> simp [go_sem]; simp [go_sem]
 have S0 := N0.lt;obtain ⟨IV, hI⟩ := AC (BJ id n);obtain ⟨LV, hM⟩ := AC (AX id n);obtain ⟨NV, hN⟩ := AC (Aq id n);rw [← hI, ← hM, ← hN];obtain ⟨m, hm⟩ : ∃ m : Nat, m = (if n < 5 then n else 5).toNat := ⟨_, rfl⟩;have hm5 : m ≤ 5 := by rw [hm]; split <;> omega
 have hmn : Aq id n = Aq id (m : Int) := by
  unfold Aq;congr 1
  apply decide_eq_decide.2
  rw [hm];split <;> omega
 have hmt : Aq id n = true → n.toNat = m := by
  intro h;unfold Aq at h;simp only [Bool.and_eq_true, decide_eq_true_eq] at h;rw [hm, if_pos (by omega)]
 obtain ⟨t, ht⟩ : ∃ t : Int, t = (if n < 5 then n else 5) := ⟨_, rfl⟩;have htm : t ≤ (m : Int) ∧ (0 ≤ t → t = (m : Int)) ∧ (t < 0 → m = 0) := by rw [ht, hm]; split <;> omega
 replace ht : Hid _ := ht;replace hI : Hid _ := hI;replace hM : Hid _ := hM;replace hN : Hid _ := hN;replace hmn : Hid _ := hmn;replace hmt : Hid _ := hmt;replace htm : Hid _ := htm;clear hm;go_enter func14, ntmps14
 go_wp2
 rw [← hy];clear hy;go_loopw [7] (fun i wr => ∃ k : Nat, k ≤ m ∧ i = .int .i64 (k : Int) ∧ (∃ adk capk, AB AL 11 70 y.heap.size wr (.slice adk k capk) (List.replicate k Pt.nil) ∧ AU wr (w.heap.size + 1) id (.slice adk k capk)) ∧ AU wr w.heap.size 0 (.slice none 0 0) ∧ Below w.heap.size w wr ∧ y.heap.size ≤ wr.heap.size) (fun i _ => m - (intOf i).toNat)
 case atStart => exact ⟨0, Nat.zero_le _, rfl, ⟨none, 0, AB.nil, N0⟩, R0, B0, Nat.le_refl _⟩
 case round =>
  obtain ⟨k, hk, rfl, ⟨adk, capk, O, N1⟩, R1, B1, S1⟩ := hrel;obtain ⟨⟨n0, n1⟩, nf⟩ := N1;have N1 : AU wr (w.heap.size + 1) id (.slice adk k capk) := ⟨⟨n0, n1⟩, nf⟩;by_cases hlt : (k : Int) < t
  ·
   have dl : decide ((k : Int) < t) = true := decide_eq_true hlt;have hkm : k < m := by have := htm.out; omega
   replace hlt : Hid _ := hlt;go_wp2_with fail
   go_at_call 43
   refine (Fl n 5 wr).mono ?_;rintro e w2 ⟨rfl, rfl⟩;rw [← ht.out];have V1 := AH.one w2 70 Pt.nil;have B2 := B1.alloc B1.size (Obj.cells #[.bool false, .bool false, ji 0, ji 0, ji 0, ji 0, ji 0, ji 0, ji 0, ji 0, .bool false] 70);have O2 : AB AL 11 70 y.heap.size (w2.alloc (Obj.cells #[.bool false, .bool false, ji 0, ji 0, ji 0, ji 0, ji 0, ji 0, ji 0, ji 0, .bool false] 70)) (.slice adk k capk) (List.replicate k Pt.nil) := O.later (Ae _);have hcn := O.capn;go_wp2_with (first | (at_builtin; refine DT AZ Gv rfl _ _ 40 rfl y.heap.size 70 i0 (.agg #[.bool false, .bool false, ji 0, ji 0, ji 0, ji 0, ji 0, ji 0, ji 0, ji 0, .bool false]) 80 underlying40 hi hz0 hz1 hz2 rfl (by decide) (by decide) (.slice adk k capk) (List.replicate k Pt.nil) rfl O2 (some (ja w2.heap.size 0)) 1 [Pt.nil] rfl (fun e => by cases e) V1 ?z0 ?z1 ?_) | go_in)
   case z0 => simp; omega
   case z1 => simp; omega
   intro vZ wZ hownZ hgrowZ _;have hownZ : AB AL 11 70 y.heap.size wZ vZ (List.replicate (k + 1) Pt.nil) := by rw [List.replicate_succ']; exact hownZ
   have ho : ∀ g, (Value.slice adk k capk).ownBlock = some g → y.heap.size ≤ g := fun g e => (O2.lt g e).1
   have BZ : Bw w wZ := B2.grown hgrowZ B2.size (fun g e => by have := ho g e; omega);have NZ : AU wZ (w.heap.size + 1) id (.slice adk k capk) := (N1.below (Ae _) N1.lt).keep (hgrowZ.block _ (by have := N1.lt; simp; omega) (fun e => by have := ho _ e.symm; omega));have RZ : AU wZ w.heap.size 0 (.slice none 0 0) := (R1.below (Ae _) R1.lt).keep (hgrowZ.block _ (by have := R1.lt; simp; omega) (fun e => by have := ho _ e.symm; omega));have SZ : y.heap.size ≤ wZ.heap.size := by have := hgrowZ.size; simp at this; omega
   obtain ⟨aZ, cZ, hvz⟩ := hownZ.open_;rw [List.length_replicate] at hvz;subst hvz;clear hgrowZ V1 B2 O2 n0 n1 nf N1 R1 O ho hcn;obtain ⟨⟨q0, q1⟩, qf⟩ := NZ;have NZ : AU wZ (w.heap.size + 1) id (.slice adk k capk) := ⟨⟨q0, q1⟩, qf⟩;have NS : AU (wZ.setCell ⟨w.heap.size + 1, 1, none⟩ (.slice aZ (k + 1) cZ)) (w.heap.size + 1) id (.slice aZ (k + 1) cZ) := ⟨⟨(AA (by decide)).trans q0, Aj q1⟩, fun i => by rw [World.frozen?_setCell]; exact qf i⟩;have RS : AU (wZ.setCell ⟨w.heap.size + 1, 1, none⟩ (.slice aZ (k + 1) cZ)) w.heap.size 0 (.slice none 0 0) := RZ.keep (AF (by show w.heap.size ≠ w.heap.size + 1; omega));have OS : AB AL 11 70 y.heap.size (wZ.setCell ⟨w.heap.size + 1, 1, none⟩ (.slice aZ (k + 1) cZ)) (.slice aZ (k + 1) cZ) (List.replicate (k + 1) Pt.nil) := hownZ.keep fun g' e => AF (by have := (hownZ.lt g' e).1; show g' ≠ w.heap.size + 1; omega)
   have BS := BZ.setCell (p := ⟨w.heap.size + 1, 1, none⟩) (by show _ ≤ w.heap.size + 1; omega) (.slice aZ (k + 1) cZ);clear NZ RZ hownZ BZ;go_wp2
   go_roundw
   case rel => exact ⟨k + 1, by omega, by go_num, ⟨aZ, cZ, OS, NS⟩, RS, BS, by simpa using SZ⟩
   case measure => simp [intOf]; omega
  have dl : decide ((k : Int) < t) = false := decide_eq_false hlt;have hkm : Hid (k = m) := by unfold Hid; have := htm.out; omega
  replace hlt : Hid _ := hlt;go_wp2_with fail
  go_at_call 43
  refine (Fl n 5 wr).mono ?_;rintro e w2 ⟨rfl, rfl⟩;rw [← ht.out];have hc := Ex id adk capk (List.replicate k Pt.nil) w2 (by have := O.view.2; exact this) (by rw [List.length_replicate]; omega);rw [List.length_replicate, HQ, hkm.out, ← hmn.out, ← hkm.out] at hc;go_wp2_with fail
  go_at_call 44
  refine hc.mono ?_;rintro e w3 ⟨rfl, k3⟩;have R3 := R1.below k3 R1.lt;have N3 := N1.below k3 N1.lt;have O3 := O.later k3;have B3 := AE B1 k3;clear hc k3 n0 n1 nf R1 N1 O;cases he : Aq id n with
  | false =>
   replace hI : Hid (IV = 0) := by unfold Hid; rw [hI.out]; unfold BJ; rw [he]; rfl
   replace hM : Hid (LV = []) := by unfold Hid; rw [hM.out]; unfold AX; rw [he]; rfl
   replace hN : Hid (NV = false) := by unfold Hid; rw [hN.out, he]
   clear he;have RP := R3.put 0 (.slice none 0 0);obtain ⟨⟨r0, r1⟩, rf⟩ := R3;have BZ := (B3.setCell (p := (ja w.heap.size 0)) (Nat.le_refl w.heap.size) (ji 0)).setCell (p := (ja w.heap.size 1)) (Nat.le_refl w.heap.size) (.slice none 0 0);obtain ⟨⟨p0, p1⟩, _⟩ := RP;go_wp2
   refine bodyPost_ret (v := .tuple #[.agg #[ji 0, .slice none 0 0], .bool false]) (by simp [results, results14, go_sem, *]) rfl ⟨none, 0, by rw [hI.out, hM.out, hN.out]; rfl, by rw [hM.out]; exact AB.nil, BZ⟩
  | true =>
   have hRl : Hid (LV.length = k) := by unfold Hid; rw [hM.out]; unfold AX; rw [he, if_pos rfl, List.length_replicate, hmt.out he, hkm.out]
   replace hI : Hid (IV = id) := by unfold Hid; rw [hI.out]; unfold BJ; rw [he]; rfl
   replace hM : Hid (LV = List.replicate k Pt.nil) := by unfold Hid; rw [hM.out]; unfold AX; rw [he, if_pos rfl, hmt.out he, hkm.out]
   replace hN : Hid (NV = true) := by unfold Hid; rw [hN.out, he]
   clear he hkm;have RP := R3.put id (.slice adk k capk);obtain ⟨⟨r0, r1⟩, rf⟩ := R3;obtain ⟨⟨n0, n1⟩, nf⟩ := N3;have BZ := (B3.setCell (p := (ja w.heap.size 0)) (Nat.le_refl w.heap.size) (ji id)).setCell (p := (ja w.heap.size 1)) (Nat.le_refl w.heap.size) (.slice adk k capk);have OZ : AB AL 11 70 w.heap.size ((w3.setCell (ja w.heap.size 0) (ji id)).setCell (ja w.heap.size 1) (.slice adk k capk)) (.slice adk k capk) (List.replicate k Pt.nil) := (O3.base (by omega)).keep fun g' e => by
    have := (O3.lt g' e).1;rw [AF (by show g' ≠ w.heap.size; omega), AF (by show g' ≠ w.heap.size; omega)]
   obtain ⟨⟨p0, p1⟩, _⟩ := RP;go_wp2
   refine bodyPost_ret (v := .tuple #[.agg #[ji id, .slice adk k capk], .bool true]) (by simp [results, results14, go_sem, *]) rfl ⟨adk, capk, by rw [hI.out, hN.out, hRl.out], by rw [hRl.out, hM.out]; exact OZ, BZ⟩
attribute [local go_sem] ji ja mc
theorem AQ.put {w : World} {q : Nat} {m : Mi} {v : Value} (h : AQ w q m v) (m' : Mi) (v' : Value) : AQ (((((((w.setCell (ja q 0) (.bool m'.up)).setCell (ja q 1) (ji m'.li)).setCell (ja q 2) (ji m'.ep)).setCell (ja q 3) (v')).setCell (ja q 4) (ji m'.sd)).setCell (ja q 5) (ji m'.ac)).setCell (ja q 6) (ji m'.al)) q m' v' := by
 obtain ⟨h0, h1, h2, h3, h4, h5, h6, hf⟩ := h;have h0 : (w.setCell (ja q 0) (.bool m'.up)).cell? (ja q 0) = some (.bool m'.up) := Aj h0;have h1 : (w.setCell (ja q 0) (.bool m'.up)).cell? (ja q 1) = _ := (AA (by decide)).trans h1;have h2 : (w.setCell (ja q 0) (.bool m'.up)).cell? (ja q 2) = _ := (AA (by decide)).trans h2;have h3 : (w.setCell (ja q 0) (.bool m'.up)).cell? (ja q 3) = _ := (AA (by decide)).trans h3;have h4 : (w.setCell (ja q 0) (.bool m'.up)).cell? (ja q 4) = _ := (AA (by decide)).trans h4;have h5 : (w.setCell (ja q 0) (.bool m'.up)).cell? (ja q 5) = _ := (AA (by decide)).trans h5;have h6 : (w.setCell (ja q 0) (.bool m'.up)).cell? (ja q 6) = _ := (AA (by decide)).trans h6;have h0 : ((w.setCell (ja q 0) (.bool m'.up)).setCell (ja q 1) (ji m'.li)).cell? (ja q 0) = _ := (AA (by decide)).trans h0;have h1 : ((w.setCell (ja q 0) (.bool m'.up)).setCell (ja q 1) (ji m'.li)).cell? (ja q 1) = some (ji m'.li) := Aj h1;have h2 : ((w.setCell (ja q 0) (.bool m'.up)).setCell (ja q 1) (ji m'.li)).cell? (ja q 2) = _ := (AA (by decide)).trans h2;have h3 : ((w.setCell (ja q 0) (.bool m'.up)).setCell (ja q 1) (ji m'.li)).cell? (ja q 3) = _ := (AA (by decide)).trans h3;have h4 : ((w.setCell (ja q 0) (.bool m'.up)).setCell (ja q 1) (ji m'.li)).cell? (ja q 4) = _ := (AA (by decide)).trans h4;have h5 : ((w.setCell (ja q 0) (.bool m'.up)).setCell (ja q 1) (ji m'.li)).cell? (ja q 5) = _ := (AA (by decide)).trans h5;have h6 : ((w.setCell (ja q 0) (.bool m'.up)).setCell (ja q 1) (ji m'.li)).cell? (ja q 6) = _ := (AA (by decide)).trans h6;have h0 : (((w.setCell (ja q 0) (.bool m'.up)).setCell (ja q 1) (ji m'.li)).setCell (ja q 2) (ji m'.ep)).cell? (ja q 0) = _ := (AA (by decide)).trans h0;have h1 : (((w.setCell (ja q 0) (.bool m'.up)).setCell (ja q 1) (ji m'.li)).setCell (ja q 2) (ji m'.ep)).cell? (ja q 1) = _ := (AA (by decide)).trans h1;have h2 : (((w.setCell (ja q 0) (.bool m'.up)).setCell (ja q 1) (ji m'.li)).setCell (ja q 2) (ji m'.ep)).cell? (ja q 2) = some (ji m'.ep) := Aj h2;have h3 : (((w.setCell (ja q 0) (.bool m'.up)).setCell (ja q 1) (ji m'.li)).setCell (ja q 2) (ji m'.ep)).cell? (ja q 3) = _ := (AA (by decide)).trans h3;have h4 : (((w.setCell (ja q 0) (.bool m'.up)).setCell (ja q 1) (ji m'.li)).setCell (ja q 2) (ji m'.ep)).cell? (ja q 4) = _ := (AA (by decide)).trans h4;have h5 : (((w.setCell (ja q 0) (.bool m'.up)).setCell (ja q 1) (ji m'.li)).setCell (ja q 2) (ji m'.ep)).cell? (ja q 5) = _ := (AA (by decide)).trans h5;have h6 : (((w.setCell (ja q 0) (.bool m'.up)).setCell (ja q 1) (ji m'.li)).setCell (ja q 2) (ji m'.ep)).cell? (ja q 6) = _ := (AA (by decide)).trans h6;have h0 : ((((w.setCell (ja q 0) (.bool m'.up)).setCell (ja q 1) (ji m'.li)).setCell (ja q 2) (ji m'.ep)).setCell (ja q 3) (v')).cell? (ja q 0) = _ := (AA (by decide)).trans h0;have h1 : ((((w.setCell (ja q 0) (.bool m'.up)).setCell (ja q 1) (ji m'.li)).setCell (ja q 2) (ji m'.ep)).setCell (ja q 3) (v')).cell? (ja q 1) = _ := (AA (by decide)).trans h1;have h2 : ((((w.setCell (ja q 0) (.bool m'.up)).setCell (ja q 1) (ji m'.li)).setCell (ja q 2) (ji m'.ep)).setCell (ja q 3) (v')).cell? (ja q 2) = _ := (AA (by decide)).trans h2;have h3 : ((((w.setCell (ja q 0) (.bool m'.up)).setCell (ja q 1) (ji m'.li)).setCell (ja q 2) (ji m'.ep)).setCell (ja q 3) (v')).cell? (ja q 3) = some (v') := Aj h3;have h4 : ((((w.setCell (ja q 0) (.bool m'.up)).setCell (ja q 1) (ji m'.li)).setCell (ja q 2) (ji m'.ep)).setCell (ja q 3) (v')).cell? (ja q 4) = _ := (AA (by decide)).trans h4;have h5 : ((((w.setCell (ja q 0) (.bool m'.up)).setCell (ja q 1) (ji m'.li)).setCell (ja q 2) (ji m'.ep)).setCell (ja q 3) (v')).cell? (ja q 5) = _ := (AA (by decide)).trans h5;have h6 : ((((w.setCell (ja q 0) (.bool m'.up)).setCell (ja q 1) (ji m'.li)).setCell (ja q 2) (ji m'.ep)).setCell (ja q 3) (v')).cell? (ja q 6) = _ := (AA (by decide)).trans h6;have h0 : (((((w.setCell (ja q 0) (.bool m'.up)).setCell (ja q 1) (ji m'.li)).setCell (ja q 2) (ji m'.ep)).setCell (ja q 3) (v')).setCell (ja q 4) (ji m'.sd)).cell? (ja q 0) = _ := (AA (by decide)).trans h0;have h1 : (((((w.setCell (ja q 0) (.bool m'.up)).setCell (ja q 1) (ji m'.li)).setCell (ja q 2) (ji m'.ep)).setCell (ja q 3) (v')).setCell (ja q 4) (ji m'.sd)).cell? (ja q 1) = _ := (AA (by decide)).trans h1;have h2 : (((((w.setCell (ja q 0) (.bool m'.up)).setCell (ja q 1) (ji m'.li)).setCell (ja q 2) (ji m'.ep)).setCell (ja q 3) (v')).setCell (ja q 4) (ji m'.sd)).cell? (ja q 2) = _ := (AA (by decide)).trans h2;have h3 : (((((w.setCell (ja q 0) (.bool m'.up)).setCell (ja q 1) (ji m'.li)).setCell (ja q 2) (ji m'.ep)).setCell (ja q 3) (v')).setCell (ja q 4) (ji m'.sd)).cell? (ja q 3) = _ := (AA (by decide)).trans h3;have h4 : (((((w.setCell (ja q 0) (.bool m'.up)).setCell (ja q 1) (ji m'.li)).setCell (ja q 2) (ji m'.ep)).setCell (ja q 3) (v')).setCell (ja q 4) (ji m'.sd)).cell? (ja q 4) = some (ji m'.sd) := Aj h4;have h5 : (((((w.setCell (ja q 0) (.bool m'.up)).setCell (ja q 1) (ji m'.li)).setCell (ja q 2) (ji m'.ep)).setCell (ja q 3) (v')).setCell (ja q 4) (ji m'.sd)).cell? (ja q 5) = _ := (AA (by decide)).trans h5;have h6 : (((((w.setCell (ja q 0) (.bool m'.up)).setCell (ja q 1) (ji m'.li)).setCell (ja q 2) (ji m'.ep)).setCell (ja q 3) (v')).setCell (ja q 4) (ji m'.sd)).cell? (ja q 6) = _ := (AA (by decide)).trans h6;have h0 : ((((((w.setCell (ja q 0) (.bool m'.up)).setCell (ja q 1) (ji m'.li)).setCell (ja q 2) (ji m'.ep)).setCell (ja q 3) (v')).setCell (ja q 4) (ji m'.sd)).setCell (ja q 5) (ji m'.ac)).cell? (ja q 0) = _ := (AA (by decide)).trans h0;have h1 : ((((((w.setCell (ja q 0) (.bool m'.up)).setCell (ja q 1) (ji m'.li)).setCell (ja q 2) (ji m'.ep)).setCell (ja q 3) (v')).setCell (ja q 4) (ji m'.sd)).setCell (ja q 5) (ji m'.ac)).cell? (ja q 1) = _ := (AA (by decide)).trans h1;have h2 : ((((((w.setCell (ja q 0) (.bool m'.up)).setCell (ja q 1) (ji m'.li)).setCell (ja q 2) (ji m'.ep)).setCell (ja q 3) (v')).setCell (ja q 4) (ji m'.sd)).setCell (ja q 5) (ji m'.ac)).cell? (ja q 2) = _ := (AA (by decide)).trans h2;have h3 : ((((((w.setCell (ja q 0) (.bool m'.up)).setCell (ja q 1) (ji m'.li)).setCell (ja q 2) (ji m'.ep)).setCell (ja q 3) (v')).setCell (ja q 4) (ji m'.sd)).setCell (ja q 5) (ji m'.ac)).cell? (ja q 3) = _ := (AA (by decide)).trans h3;have h4 : ((((((w.setCell (ja q 0) (.bool m'.up)).setCell (ja q 1) (ji m'.li)).setCell (ja q 2) (ji m'.ep)).setCell (ja q 3) (v')).setCell (ja q 4) (ji m'.sd)).setCell (ja q 5) (ji m'.ac)).cell? (ja q 4) = _ := (AA (by decide)).trans h4;have h5 : ((((((w.setCell (ja q 0) (.bool m'.up)).setCell (ja q 1) (ji m'.li)).setCell (ja q 2) (ji m'.ep)).setCell (ja q 3) (v')).setCell (ja q 4) (ji m'.sd)).setCell (ja q 5) (ji m'.ac)).cell? (ja q 5) = some (ji m'.ac) := Aj h5;have h6 : ((((((w.setCell (ja q 0) (.bool m'.up)).setCell (ja q 1) (ji m'.li)).setCell (ja q 2) (ji m'.ep)).setCell (ja q 3) (v')).setCell (ja q 4) (ji m'.sd)).setCell (ja q 5) (ji m'.ac)).cell? (ja q 6) = _ := (AA (by decide)).trans h6;have h0 : (((((((w.setCell (ja q 0) (.bool m'.up)).setCell (ja q 1) (ji m'.li)).setCell (ja q 2) (ji m'.ep)).setCell (ja q 3) (v')).setCell (ja q 4) (ji m'.sd)).setCell (ja q 5) (ji m'.ac)).setCell (ja q 6) (ji m'.al)).cell? (ja q 0) = _ := (AA (by decide)).trans h0;have h1 : (((((((w.setCell (ja q 0) (.bool m'.up)).setCell (ja q 1) (ji m'.li)).setCell (ja q 2) (ji m'.ep)).setCell (ja q 3) (v')).setCell (ja q 4) (ji m'.sd)).setCell (ja q 5) (ji m'.ac)).setCell (ja q 6) (ji m'.al)).cell? (ja q 1) = _ := (AA (by decide)).trans h1;have h2 : (((((((w.setCell (ja q 0) (.bool m'.up)).setCell (ja q 1) (ji m'.li)).setCell (ja q 2) (ji m'.ep)).setCell (ja q 3) (v')).setCell (ja q 4) (ji m'.sd)).setCell (ja q 5) (ji m'.ac)).setCell (ja q 6) (ji m'.al)).cell? (ja q 2) = _ := (AA (by decide)).trans h2;have h3 : (((((((w.setCell (ja q 0) (.bool m'.up)).setCell (ja q 1) (ji m'.li)).setCell (ja q 2) (ji m'.ep)).setCell (ja q 3) (v')).setCell (ja q 4) (ji m'.sd)).setCell (ja q 5) (ji m'.ac)).setCell (ja q 6) (ji m'.al)).cell? (ja q 3) = _ := (AA (by decide)).trans h3;have h4 : (((((((w.setCell (ja q 0) (.bool m'.up)).setCell (ja q 1) (ji m'.li)).setCell (ja q 2) (ji m'.ep)).setCell (ja q 3) (v')).setCell (ja q 4) (ji m'.sd)).setCell (ja q 5) (ji m'.ac)).setCell (ja q 6) (ji m'.al)).cell? (ja q 4) = _ := (AA (by decide)).trans h4;have h5 : (((((((w.setCell (ja q 0) (.bool m'.up)).setCell (ja q 1) (ji m'.li)).setCell (ja q 2) (ji m'.ep)).setCell (ja q 3) (v')).setCell (ja q 4) (ji m'.sd)).setCell (ja q 5) (ji m'.ac)).setCell (ja q 6) (ji m'.al)).cell? (ja q 5) = _ := (AA (by decide)).trans h5;have h6 : (((((((w.setCell (ja q 0) (.bool m'.up)).setCell (ja q 1) (ji m'.li)).setCell (ja q 2) (ji m'.ep)).setCell (ja q 3) (v')).setCell (ja q 4) (ji m'.sd)).setCell (ja q 5) (ji m'.ac)).setCell (ja q 6) (ji m'.al)).cell? (ja q 6) = some (ji m'.al) := Aj h6;refine ⟨h0, h1, h2, h3, h4, h5, h6, fun i => ?_⟩;rw [World.frozen?_setCell, World.frozen?_setCell, World.frozen?_setCell, World.frozen?_setCell, World.frozen?_setCell, World.frozen?_setCell, World.frozen?_setCell];exact hf i
theorem DO (w : World) (q k : Nat) (m' : Mi) (v' : Value) (h : k ≠ q) : ((((((((w.setCell (ja q 0) (.bool m'.up)).setCell (ja q 1) (ji m'.li)).setCell (ja q 2) (ji m'.ep)).setCell (ja q 3) (v')).setCell (ja q 4) (ji m'.sd)).setCell (ja q 5) (ji m'.ac)).setCell (ja q 6) (ji m'.al))).heap[k]? = w.heap[k]? := by
 rw [AF h, AF h, AF h, AF h, AF h, AF h, AF h]
theorem Dq {a w : World} {q n : Nat} (m' : Mi) (v' : Value) (h : Below n a w) (hq : n ≤ q) : Below n a (((((((w.setCell (ja q 0) (.bool m'.up)).setCell (ja q 1) (ji m'.li)).setCell (ja q 2) (ji m'.ep)).setCell (ja q 3) (v')).setCell (ja q 4) (ji m'.sd)).setCell (ja q 5) (ji m'.ac)).setCell (ja q 6) (ji m'.al)) := (((((((h.setCell (p := (ja q 0)) hq _).setCell (p := (ja q 1)) hq _).setCell (p := (ja q 2)) hq _).setCell (p := (ja q 3)) hq _).setCell (p := (ja q 4)) hq _).setCell (p := (ja q 5)) hq _).setCell (p := (ja q 6)) hq _)
theorem EX (m : Mi) (ad : Option Addr) (cap : Nat) (w : World) (hv : AH AO w ad m.lg) (hl : m.lg.length ≤ 1048577) (hn : ad = none → cap = 0) :
  Calls prog 105 #[.agg #[.bool m.up, ji m.li, ji m.ep, .slice ad m.lg.length cap, ji m.sd, ji m.ac, ji m.al]] w fun e w' => ∃ a c, e = .returned (.agg #[.bool m.up, ji m.li, ji m.ep, .slice a m.lg.length c, ji m.sd, ji m.ac, ji m.al]) ∧ AB AO 8 64 w.heap.size w' (.slice a m.lg.length c) m.lg ∧ Bw w w' := by
 have hB := hv.lt AT (by omega);obtain ⟨y, hy⟩ := AC ((w.alloc (Obj.cells (mc m ad cap) 52)).alloc (Obj.cells #[.bool false, ji 0, ji 0, .slice none 0 0, ji 0, ji 0, ji 0] 52));have B0 : Bw w y := by rw [hy]; exact ((Below.refl _ _).alloc (Nat.le_refl _) _).alloc (by simp) _
 have A0 : AQ y w.heap.size m (.slice ad m.lg.length cap) := by rw [hy]; constructor <;> simp [go_sem]
 have A1 : AQ y (w.heap.size + 1) ⟨false, 0, 0, [], 0, 0, 0⟩ (.slice none 0 0) := by rw [hy]; constructor <;> simp [go_sem]
 have S0 := A1.lt;have hv1 := hv.below B0 hB;have hB1 := hv1.lt AT (by omega);obtain ⟨i1, hj, hy0, hy1, hy2⟩ := info_parts Ed;have kx : Bw y (y.alloc (Obj.cells #[] 64)) := Ae _;have hv2 := hv1.below kx hB1;have oE : AB AO 8 64 y.heap.size (y.alloc (Obj.cells #[] 64)) (.slice (some (ja y.heap.size 0)) 0 0) ([] : List Ik) := AB.empty y;have A0x := A0.below kx A0.lt;have A1x := A1.below kx A1.lt;go_enter func105, ntmps105
 go_upto_region 1 with fail
 rw [← hy];clear hy;obtain ⟨x0, x1, x2, x3, x4, x5, x6, xf⟩ := id A0x;go_wp2_with (first | (at_builtin; refine DT AT ER rfl _ _ 31 rfl y.heap.size 64 i1 (.agg #[ji 0, ji 0, ji 0, ji 0, ji 0, ji 0, ji 0, .bool false]) 64 underlying31 hj hy0 hy1 hy2 rfl (by decide) (by decide) _ ([] : List Ik) rfl oE ad cap m.lg rfl hn hv2 ?z0 ?z1 ?_) | go_in)
 case z0 => simp; omega
 case z1 => simp
 intro vZ w1 hownZ hgrowZ _;have bZ : Bw y w1 := kx.grown hgrowZ (by simp) (fun j e => (oE.lt j e).1);replace hownZ : AB AO 8 64 y.heap.size w1 vZ m.lg := hownZ;obtain ⟨a1, c1, rfl⟩ := hownZ.open_;clear hgrowZ x0 x1 x2 x3 x4 x5 x6 xf A0x A1x hv2 kx oE;have A0 := A0.below bZ A0.lt;have A1 := A1.below bZ A1.lt;have A2 := A0.log (.slice a1 m.lg.length c1);have A3 := A1.keep (w' := w1.setCell (ja w.heap.size 3) (.slice a1 m.lg.length c1)) (AF (by show w.heap.size + 1 ≠ w.heap.size; omega));have lo := hownZ.lt;have O2 : AB AO 8 64 y.heap.size (w1.setCell (ja w.heap.size 3) (.slice a1 m.lg.length c1)) (.slice a1 m.lg.length c1) m.lg := hownZ.keep (fun g e => AF (by have := lo g e; show g ≠ w.heap.size; omega));have B2 : Bw w (w1.setCell (ja w.heap.size 3) (.slice a1 m.lg.length c1)) := (AE B0 bZ).setCell (p := (ja w.heap.size 3)) (Nat.le_refl _) _;clear bZ B0 hownZ hv1 hB1 hv hB;have x3 := A0.c3;have xf := A0.fr 3;clear A0 A1;go_upto_region 2 with fail
 obtain ⟨w2, hw2⟩ := AC (w1.setCell (ja w.heap.size 3) (.slice a1 m.lg.length c1));rw [← hw2] at A2 A3 O2 B2 ⊢;clear hw2 x3 xf;have B4 := Dq (q := w.heap.size + 1) m (.slice a1 m.lg.length c1) B2 (by omega);have O4 := (O2.base (base' := w.heap.size) (by omega)).keep (fun g e => DO w2 (w.heap.size + 1) g m (.slice a1 m.lg.length c1) (by have := (O2.lt g e).1; omega));clear B2 O2 lo;replace A2 := A2.all;obtain ⟨z0, z1, z2, z3, z4, z5, z6, zf⟩ := A3;have g0 := zf 0;have g1 := zf 1;have g2 := zf 2;have g3 := zf 3;have g4 := zf 4;have g5 := zf 5;have g6 := zf 6;clear zf;go_wp2
 refine bodyPost_ret (v := .agg (mc m a1 c1)) (by simp [results, results105, go_sem, *]) rfl ⟨a1, c1, rfl, O4, B4⟩
end Go.Proofs.YtjmnaeeknomiaaaGreat
namespace Go.Proofs.YtjmnaeeknomiaaaGreat
open Go.ChangeShapes Go.WideShapes Go.ChangeAt Go.RowKit
open Go.ChangeMaps (open_string shut_string)
set_option linter.unusedVariables false
set_option maxRecDepth 100000
set_option maxHeartbeats 32000000
set_option linter.unusedSimpArgs false
open Go.Proofs.Tryz
attribute [local go_sem] ji ja ic
structure CP (w : World) (q : Nat) (x : Ik) : Prop where
 at_ : BD w q x
 fr : ∀ i, w.frozen? (ja q i) = false
theorem CP.keep {w w' : World} {q : Nat} {x : Ik} (h : CP w q x) (k : w'.heap[q]? = w.heap[q]?) : CP w' q x := ⟨h.at_.keep k, fun i => (World.frozen?_of_block (a := (ja q i)) k).trans (h.fr i)⟩
theorem CP.grown {w w' : World} {q cb : Nat} {x : Ik} (h : CP w q x) (g : w.grownBy w' (some cb)) (hne : q ≠ cb) : CP w' q x := h.keep (g.block q h.at_.lt (by simpa using hne))
theorem AB.grown {X : Type} {enc : X → List Value} {n : Nat} {T : TypeId} {base cb : Nat} {w w' : World} {v : Value} {L : List X} (h : AB enc n T base w v L) (g : w.grownBy w' (some cb)) (hb : cb < base) : AB enc n T base w' v L :=
 h.keep fun k e => g.block k (h.lt k e).2 (by have := (h.lt k e).1; simp; omega)
theorem DV.later8 {w y y' : World} {cb : Nat} {ad : Option Addr} {len cap : Nat} (h : DV w cb ad len cap y) (k : Bw y y') : DV w cb ad len cap y' :=
 ⟨h.cur.carry (k.block _ h.cur.lt), HJ h.gr ⟨k.os, k.tape, k.output, k.size, fun i hi _ => k.block i hi⟩⟩
def Kg (w : World) (cb : Nat) (ad : Option Addr) (len cap : Nat) (f : Nat → Int) (e : Ending) (w' : World) : Prop := ∃ x : Ik, e = .returned (.agg (ic x)) ∧ BE w' cb ad len cap f ∧ w.grownBy w' (some cb)
theorem GP {cb : Nat} {ad : Option Addr} {len cap : Nat} {f : Nat → Int} (w : World) (hs : BE w cb ad len cap f) (hcb : cb < w.heap.size) : Calls prog 88 #[.pointer (some (ja cb 0))] w fun e w' => Kg w cb ad len cap f e w' := by
 obtain ⟨R, hRe⟩ := AC w.heap.size;have hR : w.heap.size ≤ R := by omega
 have hRc : R ≠ cb := by omega
 obtain ⟨x0, hx0⟩ := AC (w.alloc (Obj.cells #[ji 0, ji 0, ji 0, ji 0, ji 0, ji 0, ji 0, .bool false] 64));have D0 : DV w cb ad len cap x0 := by rw [hx0]; exact (DV.start hs).alloc _
 have Q0 : CP x0 R ⟨0, 0, 0, 0, 0, 0, 0, false⟩ := by rw [hx0, hRe]; exact ⟨BD.new w _ ⟨0, 0, 0, 0, 0, 0, 0, false⟩, fun i => by simp [go_sem]⟩
 go_enter func88, ntmps88
 go_wp2_with fail
 go_at_call 38
 rw [← hx0, ← hRe];clear hx0 hRe;refine (BU (D0.src hs) 4 (by decide) (by decide)).mono ?_;rintro e y1 ⟨q, rfl, q0_, q1_, s1, g1⟩;have D1 := D0.step s1 g1;have Q1 := Q0.grown g1 hRc;clear D0 Q0 s1 g1;go_wp2_with fail
 go_at_call 38
 refine (BU (D1.src hs) 4 (by decide) (by decide)).mono ?_;rintro e y2 ⟨t, rfl, t0_, t1_, s2, g2⟩;have D2 := D1.step s2 g2;have Q2 := Q1.grown g2 hRc;clear D1 Q1 s2 g2;by_cases h0 : t = 0
 ·
  subst h0;have DZ := ((((((((D2.set (N := R) (i := 0) (by omega) hcb (ji 2)).set (N := R) (i := 1) (by omega) hcb (ji 0)).set (N := R) (i := 2) (by omega) hcb (ji 0)).set (N := R) (i := 3) (by omega) hcb (ji 0)).set (N := R) (i := 4) (by omega) hcb (ji 0)).set (N := R) (i := 5) (by omega) hcb (ji 0)).set (N := R) (i := 6) (by omega) hcb (ji 0)).set (N := R) (i := 7) (by omega) hcb (.bool false));obtain ⟨⟨q0, q1, q2, q3, q4, q5, q6, q7⟩, qf⟩ := Q2;go_wp2
  refine bodyPost_ret (v := .agg #[ji 2, ji 0, ji 0, ji 0, ji 0, ji 0, ji 0, .bool false]) (by simp [results, results88, go_sem, *]) rfl ⟨⟨2, 0, 0, 0, 0, 0, 0, false⟩, rfl, DZ.src hs, DZ.gr⟩
 have e0 : (t == 0) = false := by simpa using h0
 by_cases h1 : t = 1
 ·
  subst h1;clear h0 e0;go_wp2_with fail
  go_at_call 87
  refine (F7 (D2.src hs) 3 (by decide) (by decide)).mono ?_;rintro e y3 ⟨bo, rfl, s3, g3⟩;have D3 := D2.step s3 g3;have Q3 := Q2.grown g3 hRc;clear D2 Q2 s3 g3;have DZ := ((((((((D3.set (N := R) (i := 0) (by omega) hcb (ji 3)).set (N := R) (i := 1) (by omega) hcb (ji q)).set (N := R) (i := 2) (by omega) hcb (ji 0)).set (N := R) (i := 3) (by omega) hcb (ji 0)).set (N := R) (i := 4) (by omega) hcb (ji 0)).set (N := R) (i := 5) (by omega) hcb (ji 0)).set (N := R) (i := 6) (by omega) hcb (ji 0)).set (N := R) (i := 7) (by omega) hcb (.bool (!bo)));obtain ⟨⟨q0, q1, q2, q3, q4, q5, q6, q7⟩, qf⟩ := Q3;go_wp2
  refine bodyPost_ret (v := .agg #[ji 3, ji q, ji 0, ji 0, ji 0, ji 0, ji 0, .bool (!bo)]) (by simp [results, results88, go_sem, *]) rfl ⟨⟨3, q, 0, 0, 0, 0, 0, (!bo)⟩, rfl, DZ.src hs, DZ.gr⟩
 have e1 : (t == 1) = false := by simpa using h1
 go_wp2_with fail
 go_at_call 128
 refine (GO y2 (D2.src hs) D2.cur.lt).mono ?_;rintro e y3 ⟨r, c, b, p, rfl, _, s3, g3⟩;have D3 := D2.step s3 g3;have Q3 := Q2.grown g3 hRc;clear D2 Q2 s3 g3;go_wp2_with fail
 go_at_call 38
 refine (BU (D3.src hs) 4 (by decide) (by decide)).mono ?_;rintro e y4 ⟨h, rfl, h0_, h1_, s4, g4⟩;have D4 := D3.step s4 g4;have Q4 := Q3.grown g4 hRc;clear D3 Q3 s4 g4;have DZ := ((((((((D4.set (N := R) (i := 0) (by omega) hcb (ji 1)).set (N := R) (i := 1) (by omega) hcb (ji q)).set (N := R) (i := 2) (by omega) hcb (ji r)).set (N := R) (i := 3) (by omega) hcb (ji c)).set (N := R) (i := 4) (by omega) hcb (ji b)).set (N := R) (i := 5) (by omega) hcb (ji p)).set (N := R) (i := 6) (by omega) hcb (ji h)).set (N := R) (i := 7) (by omega) hcb (.bool false));obtain ⟨⟨q0, q1, q2, q3, q4, q5, q6, q7⟩, qf⟩ := Q4;go_wp2
 refine bodyPost_ret (v := .agg #[ji 1, ji q, ji r, ji c, ji b, ji p, ji h, .bool false]) (by simp [results, results88, go_sem, *]) rfl ⟨⟨1, q, r, c, b, p, h, false⟩, rfl, DZ.src hs, DZ.gr⟩
def B8 (x : Ik) : Prop := (-9 ≤ x.q ∧ x.q ≤ 200) ∧ (-9 ≤ x.r ∧ x.r ≤ 200) ∧ (-9 ≤ x.c ∧ x.c ≤ 200) ∧ (-9 ≤ x.b ∧ x.b ≤ 200) ∧ (-9 ≤ x.p ∧ x.p ≤ 200) ∧ (-9 ≤ x.h ∧ x.h ≤ 200)
def Hs (w : World) (cb : Nat) (ad : Option Addr) (len cap : Nat) (f : Nat → Int) (e : Ending) (w' : World) : Prop := ∃ x : Ik, e = .returned (.agg (ic x)) ∧ BE w' cb ad len cap f ∧ w.grownBy w' (some cb) ∧ B8 x
theorem Jk {cb : Nat} {ad : Option Addr} {len cap : Nat} {f : Nat → Int} (w : World) (hs : BE w cb ad len cap f) (hcb : cb < w.heap.size) : Calls prog 88 #[.pointer (some (ja cb 0))] w fun e w' => Hs w cb ad len cap f e w' := by
 obtain ⟨R, hRe⟩ := AC w.heap.size;have hR : w.heap.size ≤ R := by omega
 have hRc : R ≠ cb := by omega
 obtain ⟨x0, hx0⟩ := AC (w.alloc (Obj.cells #[ji 0, ji 0, ji 0, ji 0, ji 0, ji 0, ji 0, .bool false] 64));have D0 : DV w cb ad len cap x0 := by rw [hx0]; exact (DV.start hs).alloc _
 have Q0 : CP x0 R ⟨0, 0, 0, 0, 0, 0, 0, false⟩ := by rw [hx0, hRe]; exact ⟨BD.new w _ ⟨0, 0, 0, 0, 0, 0, 0, false⟩, fun i => by simp [go_sem]⟩
 go_enter func88, ntmps88
 go_wp2_with fail
 go_at_call 38
 rw [← hx0, ← hRe];clear hx0 hRe;refine (BU (D0.src hs) 4 (by decide) (by decide)).mono ?_;rintro e y1 ⟨q, rfl, q0_, q1_, s1, g1⟩;have D1 := D0.step s1 g1;have Q1 := Q0.grown g1 hRc;clear D0 Q0 s1 g1;go_wp2_with fail
 go_at_call 38
 refine (BU (D1.src hs) 4 (by decide) (by decide)).mono ?_;rintro e y2 ⟨t, rfl, t0_, t1_, s2, g2⟩;have D2 := D1.step s2 g2;have Q2 := Q1.grown g2 hRc;clear D1 Q1 s2 g2;by_cases h0 : t = 0
 ·
  subst h0;have DZ := ((((((((D2.set (N := R) (i := 0) (by omega) hcb (ji 2)).set (N := R) (i := 1) (by omega) hcb (ji 0)).set (N := R) (i := 2) (by omega) hcb (ji 0)).set (N := R) (i := 3) (by omega) hcb (ji 0)).set (N := R) (i := 4) (by omega) hcb (ji 0)).set (N := R) (i := 5) (by omega) hcb (ji 0)).set (N := R) (i := 6) (by omega) hcb (ji 0)).set (N := R) (i := 7) (by omega) hcb (.bool false));obtain ⟨⟨q0, q1, q2, q3, q4, q5, q6, q7⟩, qf⟩ := Q2;go_wp2
  refine bodyPost_ret (v := .agg #[ji 2, ji 0, ji 0, ji 0, ji 0, ji 0, ji 0, .bool false]) (by simp [results, results88, go_sem, *]) rfl ⟨⟨2, 0, 0, 0, 0, 0, 0, false⟩, rfl, DZ.src hs, DZ.gr, by first | (unfold B8; simp; done) | (unfold B8; simp; omega) | (unfold V4 at hV4; unfold B8; simp only; omega)⟩
 have e0 : (t == 0) = false := by simpa using h0
 by_cases h1 : t = 1
 ·
  subst h1;clear h0 e0;go_wp2_with fail
  go_at_call 87
  refine (F7 (D2.src hs) 3 (by decide) (by decide)).mono ?_;rintro e y3 ⟨bo, rfl, s3, g3⟩;have D3 := D2.step s3 g3;have Q3 := Q2.grown g3 hRc;clear D2 Q2 s3 g3;have DZ := ((((((((D3.set (N := R) (i := 0) (by omega) hcb (ji 3)).set (N := R) (i := 1) (by omega) hcb (ji q)).set (N := R) (i := 2) (by omega) hcb (ji 0)).set (N := R) (i := 3) (by omega) hcb (ji 0)).set (N := R) (i := 4) (by omega) hcb (ji 0)).set (N := R) (i := 5) (by omega) hcb (ji 0)).set (N := R) (i := 6) (by omega) hcb (ji 0)).set (N := R) (i := 7) (by omega) hcb (.bool (!bo)));obtain ⟨⟨q0, q1, q2, q3, q4, q5, q6, q7⟩, qf⟩ := Q3;go_wp2
  refine bodyPost_ret (v := .agg #[ji 3, ji q, ji 0, ji 0, ji 0, ji 0, ji 0, .bool (!bo)]) (by simp [results, results88, go_sem, *]) rfl ⟨⟨3, q, 0, 0, 0, 0, 0, (!bo)⟩, rfl, DZ.src hs, DZ.gr, by first | (unfold B8; simp; done) | (unfold B8; simp; omega) | (unfold V4 at hV4; unfold B8; simp only; omega)⟩
 have e1 : (t == 1) = false := by simpa using h1
 go_wp2_with fail
 go_at_call 128
 refine (GO y2 (D2.src hs) D2.cur.lt).mono ?_;rintro e y3 ⟨r, c, b, p, rfl, hV4, s3, g3⟩;have D3 := D2.step s3 g3;have Q3 := Q2.grown g3 hRc;clear D2 Q2 s3 g3;go_wp2_with fail
 go_at_call 38
 refine (BU (D3.src hs) 4 (by decide) (by decide)).mono ?_;rintro e y4 ⟨h, rfl, h0_, h1_, s4, g4⟩;have D4 := D3.step s4 g4;have Q4 := Q3.grown g4 hRc;clear D3 Q3 s4 g4;have DZ := ((((((((D4.set (N := R) (i := 0) (by omega) hcb (ji 1)).set (N := R) (i := 1) (by omega) hcb (ji q)).set (N := R) (i := 2) (by omega) hcb (ji r)).set (N := R) (i := 3) (by omega) hcb (ji c)).set (N := R) (i := 4) (by omega) hcb (ji b)).set (N := R) (i := 5) (by omega) hcb (ji p)).set (N := R) (i := 6) (by omega) hcb (ji h)).set (N := R) (i := 7) (by omega) hcb (.bool false));obtain ⟨⟨q0, q1, q2, q3, q4, q5, q6, q7⟩, qf⟩ := Q4;go_wp2
 refine bodyPost_ret (v := .agg #[ji 1, ji q, ji r, ji c, ji b, ji p, ji h, .bool false]) (by simp [results, results88, go_sem, *]) rfl ⟨⟨1, q, r, c, b, p, h, false⟩, rfl, DZ.src hs, DZ.gr, by first | (unfold B8; simp; done) | (unfold B8; simp; omega) | (unfold V4 at hV4; unfold B8; simp only; omega)⟩
theorem AH.oneJ (w : World) (t : TypeId) (x : Ik) : AH AO (w.alloc (Obj.cells #[ji x.k, ji x.q, ji x.r, ji x.c, ji x.b, ji x.p, ji x.h, .bool x.up] t)) (some (ja w.heap.size 0)) [x] := by
 intro _;refine ⟨w.heap.size, 0, rfl, fun j v hv => ?_⟩;simp only [Aa, AO, List.append_nil] at hv;have hj : j < 8 := (List.getElem?_eq_some_iff.1 hv).1;rcases (by omega : j = 0 ∨ j = 1 ∨ j = 2 ∨ j = 3 ∨ j = 4 ∨ j = 5 ∨ j = 6 ∨ j = 7) with rfl | rfl | rfl | rfl | rfl | rfl | rfl | rfl <;> (cases hv; simp [go_sem])
theorem HC {w y z : World} {cb : Nat} {v : Value} (h : w.grownBy y (some cb)) (g : y.grownBy z v.ownBlock) (ho : ∀ k, v.ownBlock = some k → w.heap.size ≤ k) : w.grownBy z (some cb) :=
 ⟨g.os.trans h.os, g.tape.trans h.tape, g.output.trans h.output, Nat.le_trans h.size g.size, fun j hj hne => (g.block j (Nat.lt_of_lt_of_le hj h.size) (fun e => by have := ho j e.symm; omega)).trans (h.block j hj hne)⟩
end Go.Proofs.YtjmnaeeknomiaaaGreat
