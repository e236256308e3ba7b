import Derived.Test.YtnpiljegdiconaaGreatQM5
namespace Go.Proofs.YtnpiljegdiconaaGreat
open Go.ChangeShapes Go.WideShapes Go.ChangeAt Go.RowKit
open Go.ChangeMaps (open_string shut_string)
set_option linter.unusedVariables false
set_option maxRecDepth 100000
theorem countI (q len : Nat) (ad : Option Addr) (cap : Nat) (w : World) (h : w.cell? ⟨q, 0, none⟩ = some (.slice ad len cap)) :
  Calls Tryz.prog 172 #[.pointer (some ⟨q, 0, none⟩)] w fun e w' => e = .returned (.int .i64 (len : Int)) ∧ w' = w := by
 go_enter Tryz.func172, Tryz.ntmps172
 go_wp2
 go_ret
 exact ⟨rfl, rfl⟩
theorem begI (q len : Nat) (ad : Option Addr) (cap : Nat) (n : Int) (w : World) (h : w.cell? ⟨q, 0, none⟩ = some (.slice ad len cap)) :
  Calls Tryz.prog 174 #[.pointer (some ⟨q, 0, none⟩), .int .i64 n] w fun e w' => e = .returned (.bool (decide (0 ≤ n ∧ n ≤ (len : Int)))) ∧ w' = w := by
 obtain ⟨R, hR⟩ := mk_ (decide (0 ≤ n ∧ n ≤ (len : Int)));rw [← hR];replace hR : Hid _ := hR;by_cases h1 : 0 ≤ n
 ·
  have d1 : decide (0 ≤ n) = true := decide_eq_true h1;have hN : Hid (R = decide (n ≤ (len : Int))) := by unfold Hid; rw [hR.out]; by_cases h2 : n ≤ (len : Int) <;> simp [h1, h2]
  clear hR;go_enter Tryz.func174, Tryz.ntmps174
  go_wp2_with fail
  go_at_call 172
  refine (countI q len ad cap w h).mono ?_;rintro e w1 ⟨rfl, rfl⟩;go_wp2
  go_ret
  exact ⟨by rw [hN.out]; rfl, rfl⟩
 have d1 : decide (0 ≤ n) = false := decide_eq_false h1;have hN : Hid (R = false) := by unfold Hid; rw [hR.out]; simp [h1]
 clear hR;go_enter Tryz.func174, Tryz.ntmps174
 go_wp2
 go_ret
 exact ⟨by rw [hN.out]; rfl, rfl⟩
theorem all_take {X : Type} (f : X → Bool) (L : List X) (d : X) {k : Nat} (hk : k < L.length) : (L.take (k + 1)).all f = ((L.take k).all f && f (L.getD k d)) := by
 rw [List.take_add_one, List.all_append];have e : L[k]?.toList = [L.getD k d] := by simp [List.getD, hk]
 rw [e]; simp
theorem all_no {X : Type} (f : X → Bool) (L : List X) (d : X) {k : Nat} (hk : k < L.length) (h : f (L.getD k d) = false) : L.all f = false := by
 rw [List.all_eq_false];refine ⟨L.getD k d, ?_, by rw [h]; exact Bool.false_ne_true⟩;simp [List.getD, hk]
set_option maxHeartbeats 2000000 in
theorem eachI (q : Nat) (ad : Option Addr) (cap : Nat) (L : List Ik) (w : World) (h : w.cell? ⟨q, 0, none⟩ = some (.slice ad L.length cap)) (hv : FView ikEnc w ad L) (hl : L.length ≤ 1048577) :
  Calls Tryz.prog 173 #[.pointer (some ⟨q, 0, none⟩), .func (Fn.func 147) #[] #[]] w fun e w' => e = .returned (.bool (L.all inOk)) ∧ Below w.heap.size w w' := by
 have hB := hv.lt ikEnc_len (by omega);obtain ⟨R, hR⟩ := mk_ (L.all inOk);rw [← hR];replace hR : Hid _ := hR;go_enter Tryz.func173, Tryz.ntmps173
 go_wp2
 go_loopw [12] (fun i wr => ∃ k : Nat, k ≤ L.length ∧ i = .int .i64 k ∧ (L.take k).all inOk = true ∧ Below w.heap.size w wr) (fun i _ => L.length - (intOf i).toNat)
 case atStart => exact ⟨0, Nat.zero_le _, rfl, rfl, Below.refl _ _⟩
 case round =>
  obtain ⟨k, hk, rfl, T, B⟩ := hrel;replace T : Hid _ := T;by_cases hlt : k < L.length
  ·
   obtain ⟨b, off, rfl, _⟩ := hv (by omega);obtain ⟨x, hh⟩ : ∃ x, L.getD k Ik.nil = x := ⟨_, rfl⟩;have hck : IkAtO wr b (off + k * 8) x := by
    rw [← hh];exact ikAtO_of ((hv.below B hB).at_ ikEnc_len Ik.nil hlt)
   have hT := all_take inOk L Ik.nil hlt;rw [T.out, hh, Bool.true_and] at hT;have hNo : inOk x = false → L.all inOk = false := fun e => all_no inOk L Ik.nil hlt (by rw [hh]; exact e)
   replace hT : Hid _ := hT;replace hh : Hid _ := hh;obtain ⟨c0, c1, c2, c3, c4, c5, c6, c7⟩ := hck;obtain ⟨u, hu⟩ := mk_ (wr.alloc (Obj.cells #[.int .i64 x.k, .int .i64 x.q, .int .i64 x.r, .int .i64 x.c, .int .i64 x.b, .int .i64 x.p, .int .i64 x.h, .bool x.up] 105));have ku : Below wr.heap.size wr u := by rw [hu]; exact below_new _
   have U : InAt u wr.heap.size x := by rw [hu]; exact InAt.new wr _ x
   have B2 := B.trans (ku.mono B.size);go_upto_region 4 with fail
   rw [← hu];clear hu c0 c1 c2 c3 c4 c5 c6 c7 ku;obtain ⟨c0, c1, c2, c3, c4, c5, c6, c7⟩ := U;go_wp2_with fail
   go_at_call 147
   clear c0 c1 c2 c3 c4 c5 c6 c7;refine (inOkI x u).mono ?_;rintro e u2 ⟨rfl, k2⟩;have B3 := B2.trans (k2.mono B2.size);clear k2 B2 B;cases hx : inOk x with
   | false =>
    have hN : Hid (R = false) := by unfold Hid; rw [hR.out]; exact hNo hx
    clear hNo hx;go_wp2
    go_ret
    exact ⟨by rw [hN.out]; rfl, B3⟩
   | true =>
    have hT2 : Hid ((L.take (k + 1)).all inOk = true) := by unfold Hid; rw [hT.out, hx]
    clear hNo hx;go_wp2
    go_roundw
    case rel => exact ⟨k + 1, by omega, by go_num, hT2.out, B3⟩
    case measure => simp [intOf]; omega
  obtain rfl : k = L.length := by omega
  have hN : Hid (R = true) := by unfold Hid; rw [hR.out]; have := T.out; rwa [List.take_length] at this
  go_wp2
  go_ret
  exact ⟨by rw [hN.out]; rfl, B⟩
set_option maxHeartbeats 2000000 in
theorem insS (ad : Option Addr) (cap : Nat) (L : List Ik) (w : World) (hv : FView ikEnc w ad L) (hl : L.length ≤ 1048577) :
  Calls Tryz.prog 90 #[.slice ad L.length cap] w fun e w' => e = .returned (.bool (insB L)) ∧ Below w.heap.size w w' := by
 have hB := hv.lt ikEnc_len (by omega);obtain ⟨R, hR⟩ := mk_ (insB L);rw [← hR];replace hR : Hid _ := hR;go_enter Tryz.func90, Tryz.ntmps90
 go_wp2
 go_loopw [3] (fun i wr => ∃ k : Nat, k ≤ L.length ∧ i = .int .i64 k ∧ (L.take k).all inOk = true ∧ Below w.heap.size w wr) (fun i _ => L.length - (intOf i).toNat)
 case atStart => exact ⟨0, Nat.zero_le _, rfl, rfl, Below.refl _ _⟩
 case round =>
  obtain ⟨k, hk, rfl, T, B⟩ := hrel;replace T : Hid _ := T;by_cases hlt : k < L.length
  ·
   obtain ⟨b, off, rfl, _⟩ := hv (by omega);obtain ⟨x, hh⟩ : ∃ x, L.getD k Ik.nil = x := ⟨_, rfl⟩;have hck : IkAtO wr b (off + k * 8) x := by
    rw [← hh];exact ikAtO_of ((hv.below B hB).at_ ikEnc_len Ik.nil hlt)
   have hT := all_take inOk L Ik.nil hlt;rw [T.out, hh, Bool.true_and] at hT;have hNo : inOk x = false → L.all inOk = false := fun e => all_no inOk L Ik.nil hlt (by rw [hh]; exact e)
   replace hT : Hid _ := hT;replace hh : Hid _ := hh;obtain ⟨c0, c1, c2, c3, c4, c5, c6, c7⟩ := hck;go_wp2_with fail
   go_at_call 134
   clear c0 c1 c2 c3 c4 c5 c6 c7;refine (inOkS x wr).mono ?_;rintro e u2 ⟨rfl, k2⟩;have B3 := B.trans (k2.mono B.size);clear k2 B;cases hx : inOk x with
   | false =>
    have hN : Hid (R = false) := by unfold Hid; rw [hR.out]; unfold insB; rw [hNo hx]; rfl
    clear hNo hx;go_wp2
    go_ret
    exact ⟨by rw [hN.out]; rfl, B3⟩
   | true =>
    have hT2 : Hid ((L.take (k + 1)).all inOk = true) := by unfold Hid; rw [hT.out, hx]
    clear hNo hx;go_wp2
    go_roundw
    case rel => exact ⟨k + 1, by omega, by go_num, hT2.out, B3⟩
    case measure => simp [intOf]; omega
  obtain rfl : k = L.length := by omega
  have hN : Hid (R = decide ((L.length : Int) ≤ 60)) := by
   unfold Hid; rw [hR.out]; unfold insB
   have := T.out;rw [List.take_length] at this;rw [this, Bool.true_and];by_cases h : L.length ≤ 60
   ·
    rw [decide_eq_true h, decide_eq_true (by omega)]
   rw [decide_eq_false h, decide_eq_false (by omega)]
  go_wp2
  go_ret
  exact ⟨by rw [hN.out]; rfl, B⟩
set_option maxHeartbeats 4000000 in
theorem miOkS (m : Mi) (ad : Option Addr) (cap : Nat) (w : World) (hv : FView ikEnc w ad m.lg) (hl : m.lg.length ≤ 1048577) :
  Calls Tryz.prog 64 #[.agg #[.bool m.up, .int .i64 m.li, .int .i64 m.ep, .slice ad m.lg.length cap, .int .i64 m.sd, .int .i64 m.ac, .int .i64 m.al]] w fun e w' => e = .returned (.bool (miOk m)) ∧ Below w.heap.size w w' := by
 have hB := hv.lt ikEnc_len (by omega);obtain ⟨R, hR⟩ := mk_ (miOk m);rw [← hR];replace hR : Hid _ := hR;obtain ⟨y, hy⟩ := mk_ (w.alloc (Obj.cells #[.bool m.up, .int .i64 m.li, .int .i64 m.ep, .slice ad m.lg.length cap, .int .i64 m.sd, .int .i64 m.ac, .int .i64 m.al] 28));have B0 : Below w.heap.size w y := by rw [hy]; exact below_new _
 have A : MiAt y w.heap.size m (.slice ad m.lg.length cap) := by rw [hy]; exact MiAt.new w _ _ _
 have S0 := A.lt;have hv1 := hv.below B0 hB;clear hv;go_enter Tryz.func64, Tryz.ntmps64
 go_upto_region 1 with fail
 rw [← hy];clear hy;obtain ⟨x0, x1, x2, x3, x4, x5, x6⟩ := id A;go_wp2_with fail
 go_at_call 65
 clear x0 x1 x2 x3 x4 x5 x6;refine (inB m.li 0 100000 y).mono ?_;rintro e v0 ⟨rfl, hw_⟩;have A := (by rw [hw_]; exact A : MiAt v0 w.heap.size m (.slice ad m.lg.length cap));have hv1 := (by rw [hw_]; exact hv1 : FView ikEnc v0 ad m.lg);have Bx := (by rw [hw_]; exact B0 : Below w.heap.size w v0);clear hw_ B0;have B1 := Bx;clear Bx;rw [show decide (0 ≤ m.li ∧ m.li ≤ 100000) = numB m.li from rfl];cases h_li : numB m.li
 ·
  have hN : Hid (R = false) := by unfold Hid; rw [hR.out]; unfold miOk; rw [h_li]; rfl
  clear h_li;go_wp2
  go_ret
  exact ⟨by rw [hN.out]; rfl, B1⟩
 replace h_li : Hid _ := h_li;obtain ⟨x0, x1, x2, x3, x4, x5, x6⟩ := id A;go_wp2_with fail
 go_at_call 65
 clear x0 x1 x2 x3 x4 x5 x6;refine (inB m.ep 0 100000 v0).mono ?_;rintro e v1 ⟨rfl, hw_⟩;have A := (by rw [hw_]; exact A : MiAt v1 w.heap.size m (.slice ad m.lg.length cap));have hv1 := (by rw [hw_]; exact hv1 : FView ikEnc v1 ad m.lg);have Bx := (by rw [hw_]; exact B1 : Below w.heap.size w v1);clear hw_ B1;have B2 := Bx;clear Bx;rw [show decide (0 ≤ m.ep ∧ m.ep ≤ 100000) = numB m.ep from rfl];cases h_ep : numB m.ep
 ·
  have hN : Hid (R = false) := by unfold Hid; rw [hR.out]; unfold miOk; rw [h_li.out, h_ep]; rfl
  clear h_ep;go_wp2
  go_ret
  exact ⟨by rw [hN.out]; rfl, B2⟩
 replace h_ep : Hid _ := h_ep;obtain ⟨x0, x1, x2, x3, x4, x5, x6⟩ := id A;go_wp2_with fail
 go_at_call 65
 clear x0 x1 x2 x3 x4 x5 x6;refine (inB m.al 0 100000 v1).mono ?_;rintro e v2 ⟨rfl, hw_⟩;have A := (by rw [hw_]; exact A : MiAt v2 w.heap.size m (.slice ad m.lg.length cap));have hv1 := (by rw [hw_]; exact hv1 : FView ikEnc v2 ad m.lg);have Bx := (by rw [hw_]; exact B2 : Below w.heap.size w v2);clear hw_ B2;have B3 := Bx;clear Bx;rw [show decide (0 ≤ m.al ∧ m.al ≤ 100000) = numB m.al from rfl];cases h_al : numB m.al
 ·
  have hN : Hid (R = false) := by unfold Hid; rw [hR.out]; unfold miOk; rw [h_li.out, h_ep.out, h_al]; rfl
  clear h_al;go_wp2
  go_ret
  exact ⟨by rw [hN.out]; rfl, B3⟩
 replace h_al : Hid _ := h_al;obtain ⟨x0, x1, x2, x3, x4, x5, x6⟩ := id A;go_wp2_with fail
 go_at_call 90
 clear x0 x1 x2 x3 x4 x5 x6;refine (insS ad cap m.lg v2 hv1 hl).mono ?_;rintro e v3 ⟨rfl, kq⟩;have A := A.below kq A.lt;have hv1 := hv1.below kq (hv1.lt ikEnc_len (by omega));have B4 := B3.trans (kq.mono B3.size);clear kq B3;cases h_in : insB m.lg
 ·
  have hN : Hid (R = false) := by unfold Hid; rw [hR.out]; unfold miOk; rw [h_li.out, h_ep.out, h_al.out, h_in]; rfl
  clear h_in;go_wp2
  go_ret
  exact ⟨by rw [hN.out]; rfl, B4⟩
 replace h_in : Hid _ := h_in;obtain ⟨x0, x1, x2, x3, x4, x5, x6⟩ := id A;go_wp2_with fail
 go_at_call 65
 clear x0 x1 x2 x3 x4 x5 x6;refine (inB m.sd 0 (m.lg.length : Int) v3).mono ?_;rintro e v4 ⟨rfl, hw_⟩;have A := (by rw [hw_]; exact A : MiAt v4 w.heap.size m (.slice ad m.lg.length cap));have hv1 := (by rw [hw_]; exact hv1 : FView ikEnc v4 ad m.lg);have Bx := (by rw [hw_]; exact B4 : Below w.heap.size w v4);clear hw_ B4;have B5 := Bx;clear Bx;cases h_sd : decide (0 ≤ m.sd ∧ m.sd ≤ (m.lg.length : Int))
 ·
  have hN : Hid (R = false) := by unfold Hid; rw [hR.out]; unfold miOk; rw [h_li.out, h_ep.out, h_al.out, h_in.out, h_sd]; rfl
  clear h_sd;go_wp2
  go_ret
  exact ⟨by rw [hN.out]; rfl, B5⟩
 replace h_sd : Hid _ := h_sd;obtain ⟨x0, x1, x2, x3, x4, x5, x6⟩ := id A;go_wp2_with fail
 go_at_call 65
 clear x0 x1 x2 x3 x4 x5 x6;refine (inB m.ac 0 (m.lg.length : Int) v4).mono ?_;rintro e v5 ⟨rfl, hw_⟩;have A := (by rw [hw_]; exact A : MiAt v5 w.heap.size m (.slice ad m.lg.length cap));have hv1 := (by rw [hw_]; exact hv1 : FView ikEnc v5 ad m.lg);have Bx := (by rw [hw_]; exact B5 : Below w.heap.size w v5);clear hw_ B5;have B6 := Bx;clear Bx;cases h_ac : decide (0 ≤ m.ac ∧ m.ac ≤ (m.lg.length : Int))
 ·
  have hN : Hid (R = false) := by unfold Hid; rw [hR.out]; unfold miOk; rw [h_li.out, h_ep.out, h_al.out, h_in.out, h_sd.out, h_ac]; rfl
  clear h_ac;go_wp2
  go_ret
  exact ⟨by rw [hN.out]; rfl, B6⟩
 replace h_ac : Hid _ := h_ac;obtain ⟨x0, x1, x2, x3, x4, x5, x6⟩ := A;cases hU : m.up
 ·
  rw [hU] at x0;by_cases e1 : m.ep = 0
  ·
   have d1 : (m.ep == 0) = true := by simpa using e1
   by_cases e2 : (m.lg.length : Int) = 0
   ·
    have d2 : ((m.lg.length : Int) == 0) = true := by simpa using e2
    have e2' : m.lg.length = 0 := by omega
    have hN : Hid (R = (m.al == 0)) := by unfold Hid; rw [hR.out]; unfold miOk; rw [h_li.out, h_ep.out, h_al.out, h_in.out, h_sd.out, h_ac.out, hU, decide_eq_true e1, decide_eq_true e2']; by_cases e3 : m.al = 0 <;> simp [e3]
    clear e1 e2 e2';go_wp2
    go_ret
    exact ⟨by rw [hN.out]; rfl, B6⟩
   have d2 : ((m.lg.length : Int) == 0) = false := by rw [beq_eq_false_iff_ne]; exact e2
   have e2' : ¬ m.lg.length = 0 := by omega
   have hN : Hid (R = false) := by unfold Hid; rw [hR.out]; unfold miOk; rw [h_li.out, h_ep.out, h_al.out, h_in.out, h_sd.out, h_ac.out, hU, decide_eq_false e2']; simp
   clear e1 e2 e2';go_wp2
   go_ret
   exact ⟨by rw [hN.out]; rfl, B6⟩
  have d1 : (m.ep == 0) = false := by rw [beq_eq_false_iff_ne]; exact e1
  have hN : Hid (R = false) := by unfold Hid; rw [hR.out]; unfold miOk; rw [h_li.out, h_ep.out, h_al.out, h_in.out, h_sd.out, h_ac.out, hU, decide_eq_false e1]; rfl
  clear e1;go_wp2
  go_ret
  exact ⟨by rw [hN.out]; rfl, B6⟩
 rw [hU] at x0;have hN : Hid (R = true) := by unfold Hid; rw [hR.out]; unfold miOk; rw [h_li.out, h_ep.out, h_al.out, h_in.out, h_sd.out, h_ac.out, hU]; rfl
 go_wp2
 go_ret
 exact ⟨by rw [hN.out]; rfl, B6⟩
theorem numFitsI (n : Int) (w : World) : Calls Tryz.prog 72 #[.int .i64 n] w fun e w' => e = .returned (.bool (numB n)) ∧ w' = w := by
 obtain ⟨R, hR⟩ := mk_ (numB n);rw [← hR];replace hR : Hid _ := hR;by_cases h1 : 0 ≤ n
 ·
  have d1 : decide (0 ≤ n) = true := decide_eq_true h1;have hN : Hid (R = decide (n ≤ 100000)) := by unfold Hid; rw [hR.out]; unfold numB; by_cases h2 : n ≤ 100000 <;> simp [h1, h2]
  clear hR;go_enter Tryz.func72, Tryz.ntmps72
  go_wp2
  go_ret
  exact ⟨by rw [hN.out]; rfl, rfl⟩
 have d1 : decide (0 ≤ n) = false := decide_eq_false h1;have hN : Hid (R = false) := by unfold Hid; rw [hR.out]; unfold numB; simp [h1]
 clear hR;go_enter Tryz.func72, Tryz.ntmps72
 go_wp2
 go_ret
 exact ⟨by rw [hN.out]; rfl, rfl⟩
set_option maxHeartbeats 1000000 in
theorem cloneK (ad : Option Addr) (cap : Nat) (L : List Ik) (w : World) (hv : FView ikEnc w ad L) (hl : L.length ≤ 1048577) :
  Calls Tryz.prog 150 #[.slice ad L.length cap] w fun e w' => ∃ ad' cap', e = .returned (.slice ad' L.length cap') ∧ FOwn ikEnc 8 105 w.heap.size w' (.slice ad' L.length cap') L ∧ Below w.heap.size w w' := by
 obtain ⟨i1, hj, hy0, hy1, hy2⟩ := info_parts ikInfo;cases ad with
 | none =>
  obtain rfl := hv.none_nil;have hEq : ∀ (y : World) (c : Nat), (binOp .eql 26 (.slice none 0 c) (.slice none 0 0)).run Tryz.prog y = .ok (.bool true) y := fun y c => Go.Lib.run_eql_slice_nil y 26 105 none 0 c 0 0 Tryz.underlying26
  simp only [List.length_nil];go_enter Tryz.func150, Tryz.ntmps150
  go_wp2
  go_ret
  exact ⟨_, _, rfl, FOwn.nil, Below.refl _ _⟩
 | some a =>
  have hB := hv.lt ikEnc_len (by omega);have B0 := below_new (w := w) (Obj.cells #[] 105);have hv1 : FView ikEnc (w.alloc (Obj.cells #[] 105)) (some a) L := hv.below B0 hB;have hEq : ∀ (y : World), (binOp .eql 26 (.slice (some a) L.length cap) (.slice none 0 0)).run Tryz.prog y = .ok (.bool false) y := fun y => Go.Lib.run_eql_slice_nil y 26 105 (some a) L.length cap 0 0 Tryz.underlying26
  go_enter Tryz.func150, Tryz.ntmps150
  go_wp2_with (first | (at_builtin; refine fappL ikEnc_len ikEnc_ones rfl _ _ 26 rfl w.heap.size 105 i1 (.agg #[.int .i64 0, .int .i64 0, .int .i64 0, .int .i64 0, .int .i64 0, .int .i64 0, .int .i64 0, .bool false]) 64 Tryz.underlying26 hj hy0 hy1 hy2 rfl (by decide) (by decide) _ ([] : List Ik) rfl (FOwn.empty w) (some a) cap L rfl (fun e => by cases e) hv1 ?z0 ?z1 ?_) | go_in)
  case z0 => simp; omega
  case z1 => simp
  intro vZ wZ hownZ hgrowZ _;have BZ : Below w.heap.size w wZ := B0.grown hgrowZ (by simp) (fun j e => ((FOwn.empty w : FOwn ikEnc 8 105 _ _ _ _).lt j e).1);replace hownZ : FOwn ikEnc 8 105 w.heap.size wZ vZ L := hownZ;obtain ⟨adZ, capZ, rfl⟩ := hownZ.open_;clear hgrowZ B0 hv1;go_wp2
  go_ret
  exact ⟨_, _, rfl, hownZ, BZ⟩
set_option maxHeartbeats 1000000 in
theorem jourI (ad : Option Addr) (cap : Nat) (L : List Ik) (w : World) (hv : FView ikEnc w ad L) (hl : L.length ≤ 1048577) :
  Calls Tryz.prog 125 #[.slice ad L.length cap] w fun e w' => ∃ a c, e = .returned (.agg #[.slice a L.length c]) ∧ FOwn ikEnc 8 105 w.heap.size w' (.slice a L.length c) L ∧ Below w.heap.size w w' := by
 have hB := hv.lt ikEnc_len (by omega);obtain ⟨y, hy⟩ := mk_ (w.alloc (Obj.cells #[.slice none 0 0] 160));have B0 : Below w.heap.size w y := by rw [hy]; exact below_new _
 have c0 : y.cell? ⟨w.heap.size, 0, none⟩ = some (.slice none 0 0) := by rw [hy]; simp [go_sem]
 have f0 : y.frozen? ⟨w.heap.size, 0, none⟩ = false := by rw [hy]; simp [go_sem]
 have S0 := World.block_lt_of_cell? _ _ c0;go_enter Tryz.func125, Tryz.ntmps125
 go_wp2_with fail
 go_at_call 150
 rw [← hy];clear hy;refine (cloneK ad cap L y (hv.below B0 hB) hl).mono ?_;rintro e w1 ⟨a1, c1, rfl, O1, k1⟩;have B1 := B0.trans (k1.mono B0.size);have c0 := (World.cell?_of_block (a := ⟨w.heap.size, 0, none⟩) (k1.block _ S0)).trans c0;have f0 := (World.frozen?_of_block (a := ⟨w.heap.size, 0, none⟩) (k1.block _ S0)).trans f0;have hne : ∀ g, (Value.slice a1 L.length c1).ownBlock = some g → g ≠ w.heap.size := fun g e => by have := (O1.lt g e).1; omega
 have O2 : FOwn ikEnc 8 105 w.heap.size (w1.setCell ⟨w.heap.size, 0, none⟩ (.slice a1 L.length c1)) (.slice a1 L.length c1) L := (O1.base B0.size).keep fun g e => Below.heap_setCell _ _ _ _ (hne g e)
 have B2 := B1.setCell (p := ⟨w.heap.size, 0, none⟩) (Nat.le_refl _) (.slice a1 L.length c1);clear k1 B0 hv hB O1 B1 hne;go_wp2
 refine bodyPost_ret (v := .agg #[.slice a1 L.length c1]) (by simp [results, Tryz.results125, go_sem, *]) rfl ⟨_, _, rfl, O2, B2⟩
set_option maxHeartbeats 2000000 in
theorem mindOf (m : Mi) (ad : Option Addr) (cap : Nat) (w : World) (hv : FView ikEnc w ad m.lg) (hl : m.lg.length ≤ 1048577) :
  Calls Tryz.prog 56 #[.agg #[.bool m.up, .int .i64 m.li, .int .i64 m.ep, .slice ad m.lg.length cap, .int .i64 m.sd, .int .i64 m.ac, .int .i64 m.al]] w fun e w' => ∃ q a c, e = .returned (.pointer (some ⟨q, 0, none⟩)) ∧ MgBox w' q m (.slice a m.lg.length c) ∧ FOwn ikEnc 8 105 w.heap.size w' (.slice a m.lg.length c) m.lg ∧ (∀ g, (Value.slice a m.lg.length c).ownBlock = some g → g < q) ∧ w.heap.size < q ∧ Below w.heap.size w w' := by
 have hB := hv.lt ikEnc_len (by omega);obtain ⟨y, hy⟩ := mk_ (w.alloc (Obj.cells #[.bool m.up, .int .i64 m.li, .int .i64 m.ep, .slice ad m.lg.length cap, .int .i64 m.sd, .int .i64 m.ac, .int .i64 m.al] 28));have B0 : Below w.heap.size w y := by rw [hy]; exact below_new _
 have A : MiAt y w.heap.size m (.slice ad m.lg.length cap) := by rw [hy]; exact MiAt.new w _ _ _
 have S0 := A.lt;have hv1 := hv.below B0 hB;go_enter Tryz.func56, Tryz.ntmps56
 go_upto_region 1 with fail
 rw [← hy];clear hy;refine wp_region_held (S := fun Y => Below y.heap.size y Y) (by kernel_rfl) ?_;change wpAnyH _ _ _ _ _ _ _ _ (World.drew _);have hb0 : Below y.heap.size y y.drew := (Below.refl _ _).drew;obtain ⟨u0, hy0⟩ := mk_ y.drew;rw [← hy0] at hb0 ⊢;clear hy0;refine tw 0 3 (.pointer (some ⟨w.heap.size, 3, none⟩)) ?_;refine tw 1 4 (.slice ad m.lg.length cap) ?_ (hy := by intro Y hSw; obtain ⟨X0, X1, X2, X3, X4, X5, X6⟩ := A.below hSw (by omega); go_simp);refine tw 3 6 (.pointer (some ⟨w.heap.size, 0, none⟩)) ?_;refine tw 4 7 (.bool m.up) ?_ (hy := by intro Y hSw; obtain ⟨X0, X1, X2, X3, X4, X5, X6⟩ := A.below hSw (by omega); go_simp);refine tw 5 8 (.pointer (some ⟨w.heap.size, 1, none⟩)) ?_;refine tw 6 9 (.int .i64 m.li) ?_ (hy := by intro Y hSw; obtain ⟨X0, X1, X2, X3, X4, X5, X6⟩ := A.below hSw (by omega); go_simp);refine tw 7 10 (.pointer (some ⟨w.heap.size, 2, none⟩)) ?_;refine tw 8 11 (.int .i64 m.ep) ?_ (hy := by intro Y hSw; obtain ⟨X0, X1, X2, X3, X4, X5, X6⟩ := A.below hSw (by omega); go_simp);refine tw 9 12 (.pointer (some ⟨w.heap.size, 4, none⟩)) ?_;refine tw 10 13 (.int .i64 m.sd) ?_ (hy := by intro Y hSw; obtain ⟨X0, X1, X2, X3, X4, X5, X6⟩ := A.below hSw (by omega); go_simp);refine tw 11 14 (.pointer (some ⟨w.heap.size, 5, none⟩)) ?_;refine tw 12 15 (.int .i64 m.ac) ?_ (hy := by intro Y hSw; obtain ⟨X0, X1, X2, X3, X4, X5, X6⟩ := A.below hSw (by omega); go_simp);refine tw 13 16 (.pointer (some ⟨w.heap.size, 6, none⟩)) ?_;refine tw 14 17 (.int .i64 m.al) ?_ (hy := by intro Y hSw; obtain ⟨X0, X1, X2, X3, X4, X5, X6⟩ := A.below hSw (by omega); go_simp);refine tw 15 18 (.agg #[.bool m.up, .int .i64 m.li, .int .i64 m.ep, .int .i64 m.sd, .int .i64 m.ac, .int .i64 m.al]) ?_;refine w1 2 fun Kz hKz => ?_
 go_simp
 go_at_call 125
 refine (jourI ad cap m.lg u0 (hv1.below hb0 (hv1.lt ikEnc_len (by omega))) hl).mono ?_;rintro e u1 ⟨a1, c1, rfl, O1, kq⟩;have hb1 : Below y.heap.size y u1 := hb0.trans (kq.mono hb0.size);clear kq;refine hKz _ _ ⟨hb1, ?_⟩;clear hKz Kz;refine tw 16 19 (.agg #[.slice a1 m.lg.length c1, .bool m.up, .int .i64 m.li, .int .i64 m.ep, .int .i64 m.sd, .int .i64 m.ac, .int .i64 m.al]) ?_;refine w1 17 fun Kz hKz => ?_
 go_simp
 obtain ⟨u2, hu⟩ := mk_ (u1.alloc (Obj.cells #[.slice a1 m.lg.length c1, .bool m.up, .int .i64 m.li, .int .i64 m.ep, .int .i64 m.sd, .int .i64 m.ac, .int .i64 m.al] 165));have kq : Below u1.heap.size u1 u2 := by rw [hu]; exact below_new _
 have M2 : MgBox u2 u1.heap.size m (.slice a1 m.lg.length c1) := by rw [hu]; exact MgBox.new u1 _ _ _
 have hb2 : Below y.heap.size y u2 := hb1.trans (kq.mono hb1.size);have O2 := O1.later kq;have lo := O1.lt;have hb1s := hb1.size;obtain ⟨q, hq⟩ := mk_ u1.heap.size;rw [← hq] at M2 lo hb1s ⊢;rw [← hu];clear hu kq hq;refine hKz _ _ ⟨hb2, ?_⟩;clear hKz Kz;refine tw 18 2 (.pointer (some ⟨q, 0, none⟩)) ?_;refine wpAnyH_done (by kernel_rfl) ?_ _;have hO := O1.lt;go_wp2
 go_ret
 exact ⟨q, a1, c1, rfl, M2, O2.base (Nat.le_trans B0.size hb0.size), fun g e => (lo g e).2, by omega, B0.trans (hb2.mono B0.size)⟩
theorem pe_Mg7 {w : World} {q i j : Nat} {u v : Value} (h : w.cell? ⟨q, j, none⟩ = some u) (hij : i ≠ j := by decide) : (w.setCell ⟨q, i, none⟩ v).cell? ⟨q, j, none⟩ = some u := (pset_else hij).trans h
theorem ps_Mg7 {w : World} {q i : Nat} {u v : Value} (h : w.cell? ⟨q, i, none⟩ = some u) : (w.setCell ⟨q, i, none⟩ v).cell? ⟨q, i, none⟩ = some v := pset_same h
theorem MiBox.put {w : World} {q : Nat} {m : Mi} {v : Value} (h : MiBox w q m v) (m' : Mi) (v' : Value) : MiBox (((((((w.setCell ⟨q, 0, none⟩ (.bool m'.up)).setCell ⟨q, 1, none⟩ (.int .i64 m'.li)).setCell ⟨q, 2, none⟩ (.int .i64 m'.ep)).setCell ⟨q, 3, none⟩ (v')).setCell ⟨q, 4, none⟩ (.int .i64 m'.sd)).setCell ⟨q, 5, none⟩ (.int .i64 m'.ac)).setCell ⟨q, 6, none⟩ (.int .i64 m'.al)) q m' v' := by
 obtain ⟨h0, h1, h2, h3, h4, h5, h6, hf⟩ := h;refine ⟨pe_Mg7 (pe_Mg7 (pe_Mg7 (pe_Mg7 (pe_Mg7 (pe_Mg7 (ps_Mg7 h0)))))), pe_Mg7 (pe_Mg7 (pe_Mg7 (pe_Mg7 (pe_Mg7 (ps_Mg7 (pe_Mg7 h1)))))), pe_Mg7 (pe_Mg7 (pe_Mg7 (pe_Mg7 (ps_Mg7 (pe_Mg7 (pe_Mg7 h2)))))), pe_Mg7 (pe_Mg7 (pe_Mg7 (ps_Mg7 (pe_Mg7 (pe_Mg7 (pe_Mg7 h3)))))), pe_Mg7 (pe_Mg7 (ps_Mg7 (pe_Mg7 (pe_Mg7 (pe_Mg7 (pe_Mg7 h4)))))), pe_Mg7 (ps_Mg7 (pe_Mg7 (pe_Mg7 (pe_Mg7 (pe_Mg7 (pe_Mg7 h5)))))), ps_Mg7 (pe_Mg7 (pe_Mg7 (pe_Mg7 (pe_Mg7 (pe_Mg7 (pe_Mg7 h6)))))), fun i => ?_⟩;rw [World.frozen?_setCell, World.frozen?_setCell, World.frozen?_setCell, World.frozen?_setCell, World.frozen?_setCell, World.frozen?_setCell, World.frozen?_setCell];exact hf i
theorem heap_put7 (w : World) (q k : Nat) (m' : Mi) (v' : Value) (h : k ≠ q) : ((((((((w.setCell ⟨q, 0, none⟩ (.bool m'.up)).setCell ⟨q, 1, none⟩ (.int .i64 m'.li)).setCell ⟨q, 2, none⟩ (.int .i64 m'.ep)).setCell ⟨q, 3, none⟩ (v')).setCell ⟨q, 4, none⟩ (.int .i64 m'.sd)).setCell ⟨q, 5, none⟩ (.int .i64 m'.ac)).setCell ⟨q, 6, none⟩ (.int .i64 m'.al))).heap[k]? = w.heap[k]? := by
 rw [Below.heap_setCell _ _ _ _ h, Below.heap_setCell _ _ _ _ h, Below.heap_setCell _ _ _ _ h, Below.heap_setCell _ _ _ _ h, Below.heap_setCell _ _ _ _ h, Below.heap_setCell _ _ _ _ h, Below.heap_setCell _ _ _ _ h]
theorem below_put7 {a w : World} {q n : Nat} (m' : Mi) (v' : Value) (h : Below n a w) (hq : n ≤ q) : Below n a (((((((w.setCell ⟨q, 0, none⟩ (.bool m'.up)).setCell ⟨q, 1, none⟩ (.int .i64 m'.li)).setCell ⟨q, 2, none⟩ (.int .i64 m'.ep)).setCell ⟨q, 3, none⟩ (v')).setCell ⟨q, 4, none⟩ (.int .i64 m'.sd)).setCell ⟨q, 5, none⟩ (.int .i64 m'.ac)).setCell ⟨q, 6, none⟩ (.int .i64 m'.al)) := (((((((h.setCell (p := ⟨q, 0, none⟩) hq _).setCell (p := ⟨q, 1, none⟩) hq _).setCell (p := ⟨q, 2, none⟩) hq _).setCell (p := ⟨q, 3, none⟩) hq _).setCell (p := ⟨q, 4, none⟩) hq _).setCell (p := ⟨q, 5, none⟩) hq _).setCell (p := ⟨q, 6, none⟩) hq _)
set_option maxHeartbeats 4000000 in
theorem miCop (m : Mi) (ad : Option Addr) (cap : Nat) (w : World) (hv : FView ikEnc w ad m.lg) (hl : m.lg.length ≤ 1048577) (hn : ad = none → cap = 0) :
  Calls Tryz.prog 63 #[.agg #[.bool m.up, .int .i64 m.li, .int .i64 m.ep, .slice ad m.lg.length cap, .int .i64 m.sd, .int .i64 m.ac, .int .i64 m.al]] w fun e w' => ∃ a c, e = .returned (.agg #[.bool m.up, .int .i64 m.li, .int .i64 m.ep, .slice a m.lg.length c, .int .i64 m.sd, .int .i64 m.ac, .int .i64 m.al]) ∧ FOwn ikEnc 8 105 w.heap.size w' (.slice a m.lg.length c) m.lg ∧ Below w.heap.size w w' := by
 have hB := hv.lt ikEnc_len (by omega);obtain ⟨y, hy⟩ := mk_ ((w.alloc (Obj.cells #[.bool m.up, .int .i64 m.li, .int .i64 m.ep, .slice ad m.lg.length cap, .int .i64 m.sd, .int .i64 m.ac, .int .i64 m.al] 28)).alloc (Obj.cells #[.bool false, .int .i64 0, .int .i64 0, .slice none 0 0, .int .i64 0, .int .i64 0, .int .i64 0] 28));have B0 : Below w.heap.size w y := by rw [hy]; exact ((Below.refl _ _).alloc (Nat.le_refl _) _).alloc (by simp) _
 have A0 : MiBox y w.heap.size m (.slice ad m.lg.length cap) := by rw [hy]; constructor <;> simp [go_sem]
 have A1 : MiBox y (w.heap.size + 1) ⟨false, 0, 0, [], 0, 0, 0⟩ (.slice none 0 0) := by rw [hy]; constructor <;> simp [go_sem]
 have S0 := A1.lt;have hv1 := hv.below B0 hB;have hB1 := hv1.lt ikEnc_len (by omega);obtain ⟨i1, hj, hy0, hy1, hy2⟩ := info_parts ikInfo;have kx : Below y.heap.size y (y.alloc (Obj.cells #[] 105)) := below_new _;have hv2 := hv1.below kx hB1;have oE : FOwn ikEnc 8 105 y.heap.size (y.alloc (Obj.cells #[] 105)) (.slice (some ⟨y.heap.size, 0, none⟩) 0 0) ([] : List Ik) := FOwn.empty y;have A0x := A0.below kx A0.lt;have A1x := A1.below kx A1.lt;go_enter Tryz.func63, Tryz.ntmps63
 go_upto_region 1 with fail
 rw [← hy];clear hy;obtain ⟨x0, x1, x2, x3, x4, x5, x6, xf⟩ := id A0x;go_wp2_with (first | (at_builtin; refine fappL ikEnc_len ikEnc_ones rfl _ _ 26 rfl y.heap.size 105 i1 (.agg #[.int .i64 0, .int .i64 0, .int .i64 0, .int .i64 0, .int .i64 0, .int .i64 0, .int .i64 0, .bool false]) 64 Tryz.underlying26 hj hy0 hy1 hy2 rfl (by decide) (by decide) _ ([] : List Ik) rfl oE ad cap m.lg rfl hn hv2 ?z0 ?z1 ?_) | go_in)
 case z0 => simp; omega
 case z1 => simp
 intro vZ w1 hownZ hgrowZ _;have bZ : Below y.heap.size y w1 := kx.grown hgrowZ (by simp) (fun j e => (oE.lt j e).1);replace hownZ : FOwn ikEnc 8 105 y.heap.size w1 vZ m.lg := hownZ;obtain ⟨a1, c1, rfl⟩ := hownZ.open_;clear hgrowZ x0 x1 x2 x3 x4 x5 x6 xf A0x A1x hv2 kx oE;have A0 := A0.below bZ A0.lt;have A1 := A1.below bZ A1.lt;have A2 := A0.log (.slice a1 m.lg.length c1);have A3 := A1.keep (w' := w1.setCell ⟨w.heap.size, 3, none⟩ (.slice a1 m.lg.length c1)) (Below.heap_setCell _ _ _ _ (by show w.heap.size + 1 ≠ w.heap.size; omega));have lo := hownZ.lt;have O2 : FOwn ikEnc 8 105 y.heap.size (w1.setCell ⟨w.heap.size, 3, none⟩ (.slice a1 m.lg.length c1)) (.slice a1 m.lg.length c1) m.lg := hownZ.keep (fun g e => Below.heap_setCell _ _ _ _ (by have := lo g e; show g ≠ w.heap.size; omega));have B2 : Below w.heap.size w (w1.setCell ⟨w.heap.size, 3, none⟩ (.slice a1 m.lg.length c1)) := (B0.trans (bZ.mono B0.size)).setCell (p := ⟨w.heap.size, 3, none⟩) (Nat.le_refl _) _;clear bZ B0 hownZ hv1 hB1 hv hB;have x3 := A0.c3;have xf := A0.fr 3;clear A0 A1;go_upto_region 2 with fail
 obtain ⟨w2, hw2⟩ := mk_ (w1.setCell ⟨w.heap.size, 3, none⟩ (.slice a1 m.lg.length c1));rw [← hw2] at A2 A3 O2 B2 ⊢;clear hw2 x3 xf;have B4 := below_put7 (q := w.heap.size + 1) m (.slice a1 m.lg.length c1) B2 (by omega);have O4 := (O2.base (base' := w.heap.size) (by omega)).keep (fun g e => heap_put7 w2 (w.heap.size + 1) g m (.slice a1 m.lg.length c1) (by have := (O2.lt g e).1; omega));clear B2 O2 lo;obtain ⟨x0, x1, x2, x3, x4, x5, x6, xf⟩ := A2;obtain ⟨z0, z1, z2, z3, z4, z5, z6, zf⟩ := A3;have g0 := zf 0;have g1 := zf 1;have g2 := zf 2;have g3 := zf 3;have g4 := zf 4;have g5 := zf 5;have g6 := zf 6;clear xf zf;go_wp2
 refine bodyPost_ret (v := .agg #[.bool m.up, .int .i64 m.li, .int .i64 m.ep, .slice a1 m.lg.length c1, .int .i64 m.sd, .int .i64 m.ac, .int .i64 m.al]) (by simp [results, Tryz.results63, go_sem, *]) rfl ⟨a1, c1, rfl, O4, B4⟩
end Go.Proofs.YtnpiljegdiconaaGreat
