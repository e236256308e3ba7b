import Derived.Test.YtnpiljegdiconaaQM6
namespace Go.Proofs.Ytnpiljegdiconaa
open Go.ChangeShapes Go.WideShapes Go.ChangeAt Go.RowKit
open Go.ChangeMaps (open_string shut_string)
set_option linter.unusedVariables false
set_option maxRecDepth 100000
theorem countI (q len : Nat) (ad : Option Addr) (cap : Nat) (w : World) (h : w.cell? ⟨q, 0, none⟩ = some (.slice ad len cap)) :
  Calls Try.prog 34 #[.pointer (some ⟨q, 0, none⟩)] w fun e w' => e = .returned (.int .i64 (len : Int)) ∧ w' = w := by
 go_enter Try.func34, Try.ntmps34
 go_wp2
 go_ret
 exact ⟨rfl, rfl⟩
theorem begI (q len : Nat) (ad : Option Addr) (cap : Nat) (n : Int) (w : World) (h : w.cell? ⟨q, 0, none⟩ = some (.slice ad len cap)) :
  Calls Try.prog 37 #[.pointer (some ⟨q, 0, none⟩), .int .i64 n] w fun e w' => e = .returned (.bool (decide (0 ≤ n ∧ n ≤ (len : Int)))) ∧ w' = w := by
 obtain ⟨R, hR⟩ := mk_ (decide (0 ≤ n ∧ n ≤ (len : Int)))
 rw [← hR]
 replace hR : Hid _ := hR
 by_cases h1 : 0 ≤ n
 ·
  have d1 : decide (0 ≤ n) = true := decide_eq_true h1
  have hN : Hid (R = decide (n ≤ (len : Int))) := by unfold Hid; rw [hR.out]; by_cases h2 : n ≤ (len : Int) <;> simp [h1, h2]
  clear hR
  go_enter Try.func37, Try.ntmps37
  go_wp2_with fail
  go_at_call 34
  refine (countI q len ad cap w h).mono ?_
  rintro e w1 ⟨rfl, rfl⟩
  go_wp2
  go_ret
  exact ⟨by rw [hN.out]; rfl, rfl⟩
 ·
  have d1 : decide (0 ≤ n) = false := decide_eq_false h1
  have hN : Hid (R = false) := by unfold Hid; rw [hR.out]; simp [h1]
  clear hR
  go_enter Try.func37, Try.ntmps37
  go_wp2
  go_ret
  exact ⟨by rw [hN.out]; rfl, rfl⟩
theorem all_take {X : Type} (f : X → Bool) (L : List X) (d : X) {k : Nat} (hk : k < L.length) : (L.take (k + 1)).all f = ((L.take k).all f && f (L.getD k d)) := by
 rw [List.take_add_one, List.all_append]
 have e : L[k]?.toList = [L.getD k d] := by simp [List.getD, hk]
 rw [e]; simp
theorem all_no {X : Type} (f : X → Bool) (L : List X) (d : X) {k : Nat} (hk : k < L.length) (h : f (L.getD k d) = false) : L.all f = false := by
 rw [List.all_eq_false]
 refine ⟨L.getD k d, ?_, by rw [h]; exact Bool.false_ne_true⟩
 simp [List.getD, hk]
set_option maxHeartbeats 2000000 in
theorem eachI (q : Nat) (ad : Option Addr) (cap : Nat) (L : List Ik) (w : World) (h : w.cell? ⟨q, 0, none⟩ = some (.slice ad L.length cap)) (hv : FView ikEnc w ad L) (hl : L.length ≤ 1048577) :
  Calls Try.prog 35 #[.pointer (some ⟨q, 0, none⟩), .func (Fn.func 36) #[] #[]] w fun e w' => e = .returned (.bool (L.all inOk)) ∧ Below w.heap.size w w' := by
 have hB := hv.lt ikEnc_len (by omega)
 obtain ⟨R, hR⟩ := mk_ (L.all inOk)
 rw [← hR]
 replace hR : Hid _ := hR
 go_enter Try.func35, Try.ntmps35
 go_wp2
 go_loopw [12] (fun i wr => ∃ k : Nat, k ≤ L.length ∧ i = .int .i64 k ∧ (L.take k).all inOk = true ∧ Below w.heap.size w wr) (fun i _ => L.length - (intOf i).toNat)
 case atStart => exact ⟨0, Nat.zero_le _, rfl, rfl, Below.refl _ _⟩
 case round =>
  obtain ⟨k, hk, rfl, T, B⟩ := hrel
  replace T : Hid _ := T
  by_cases hlt : k < L.length
  ·
   obtain ⟨b, off, rfl, _⟩ := hv (by omega)
   obtain ⟨x, hh⟩ : ∃ x, L.getD k Ik.nil = x := ⟨_, rfl⟩
   have hck : IkAtO wr b (off + k * 8) x := by
    rw [← hh]
    exact ikAtO_of ((hv.below B hB).at_ ikEnc_len Ik.nil hlt)
   have hT := all_take inOk L Ik.nil hlt
   rw [T.out, hh, Bool.true_and] at hT
   have hNo : inOk x = false → L.all inOk = false := fun e => all_no inOk L Ik.nil hlt (by rw [hh]; exact e)
   replace hT : Hid _ := hT
   replace hh : Hid _ := hh
   obtain ⟨c0, c1, c2, c3, c4, c5, c6, c7⟩ := hck
   obtain ⟨u, hu⟩ := mk_ (wr.alloc (Obj.cells #[.int .i64 x.k, .int .i64 x.q, .int .i64 x.r, .int .i64 x.c, .int .i64 x.b, .int .i64 x.p, .int .i64 x.h, .bool x.up] 30))
   have ku : Below wr.heap.size wr u := by rw [hu]; exact below_new _
   have U : InAt u wr.heap.size x := by rw [hu]; exact InAt.new wr _ x
   have B2 := B.trans (ku.mono B.size)
   go_upto_region 4 with fail
   rw [← hu]
   clear hu c0 c1 c2 c3 c4 c5 c6 c7 ku
   obtain ⟨c0, c1, c2, c3, c4, c5, c6, c7⟩ := U
   go_wp2_with fail
   go_at_call 36
   clear c0 c1 c2 c3 c4 c5 c6 c7
   refine (inOkI x u).mono ?_
   rintro e u2 ⟨rfl, k2⟩
   have B3 := B2.trans (k2.mono B2.size)
   clear k2 B2 B
   cases hx : inOk x with
   | false =>
    have hN : Hid (R = false) := by unfold Hid; rw [hR.out]; exact hNo hx
    clear hNo hx
    go_wp2
    go_ret
    exact ⟨by rw [hN.out]; rfl, B3⟩
   | true =>
    have hT2 : Hid ((L.take (k + 1)).all inOk = true) := by unfold Hid; rw [hT.out, hx]
    clear hNo hx
    go_wp2
    go_roundw
    case rel => exact ⟨k + 1, by omega, by go_num, hT2.out, B3⟩
    case measure => simp [intOf]; omega
  ·
   obtain rfl : k = L.length := by omega
   have hN : Hid (R = true) := by unfold Hid; rw [hR.out]; have := T.out; rwa [List.take_length] at this
   go_wp2
   go_ret
   exact ⟨by rw [hN.out]; rfl, B⟩
set_option maxHeartbeats 2000000 in
theorem insS (ad : Option Addr) (cap : Nat) (L : List Ik) (w : World) (hv : FView ikEnc w ad L) (hl : L.length ≤ 1048577) :
  Calls Try.prog 27 #[.slice ad L.length cap] w fun e w' => e = .returned (.bool (insB L)) ∧ Below w.heap.size w w' := by
 have hB := hv.lt ikEnc_len (by omega)
 obtain ⟨R, hR⟩ := mk_ (insB L)
 rw [← hR]
 replace hR : Hid _ := hR
 go_enter Try.func27, Try.ntmps27
 go_wp2
 go_loopw [3] (fun i wr => ∃ k : Nat, k ≤ L.length ∧ i = .int .i64 k ∧ (L.take k).all inOk = true ∧ Below w.heap.size w wr) (fun i _ => L.length - (intOf i).toNat)
 case atStart => exact ⟨0, Nat.zero_le _, rfl, rfl, Below.refl _ _⟩
 case round =>
  obtain ⟨k, hk, rfl, T, B⟩ := hrel
  replace T : Hid _ := T
  by_cases hlt : k < L.length
  ·
   obtain ⟨b, off, rfl, _⟩ := hv (by omega)
   obtain ⟨x, hh⟩ : ∃ x, L.getD k Ik.nil = x := ⟨_, rfl⟩
   have hck : IkAtO wr b (off + k * 8) x := by
    rw [← hh]
    exact ikAtO_of ((hv.below B hB).at_ ikEnc_len Ik.nil hlt)
   have hT := all_take inOk L Ik.nil hlt
   rw [T.out, hh, Bool.true_and] at hT
   have hNo : inOk x = false → L.all inOk = false := fun e => all_no inOk L Ik.nil hlt (by rw [hh]; exact e)
   replace hT : Hid _ := hT
   replace hh : Hid _ := hh
   obtain ⟨c0, c1, c2, c3, c4, c5, c6, c7⟩ := hck
   go_wp2_with fail
   go_at_call 39
   clear c0 c1 c2 c3 c4 c5 c6 c7
   refine (inOkS x wr).mono ?_
   rintro e u2 ⟨rfl, k2⟩
   have B3 := B.trans (k2.mono B.size)
   clear k2 B
   cases hx : inOk x with
   | false =>
    have hN : Hid (R = false) := by unfold Hid; rw [hR.out]; unfold insB; rw [hNo hx]; rfl
    clear hNo hx
    go_wp2
    go_ret
    exact ⟨by rw [hN.out]; rfl, B3⟩
   | true =>
    have hT2 : Hid ((L.take (k + 1)).all inOk = true) := by unfold Hid; rw [hT.out, hx]
    clear hNo hx
    go_wp2
    go_roundw
    case rel => exact ⟨k + 1, by omega, by go_num, hT2.out, B3⟩
    case measure => simp [intOf]; omega
  ·
   obtain rfl : k = L.length := by omega
   have hN : Hid (R = decide ((L.length : Int) ≤ 60)) := by
    unfold Hid; rw [hR.out]; unfold insB
    have := T.out
    rw [List.take_length] at this
    rw [this, Bool.true_and]
    by_cases h : L.length ≤ 60
    ·
     rw [decide_eq_true h, decide_eq_true (by omega)]
    ·
     rw [decide_eq_false h, decide_eq_false (by omega)]
   go_wp2
   go_ret
   exact ⟨by rw [hN.out]; rfl, B⟩
set_option maxHeartbeats 4000000 in
theorem miOkS (m : Mi) (ad : Option Addr) (cap : Nat) (w : World) (hv : FView ikEnc w ad m.lg) (hl : m.lg.length ≤ 1048577) :
  Calls Try.prog 14 #[.agg #[.bool m.up, .int .i64 m.li, .int .i64 m.ep, .slice ad m.lg.length cap, .int .i64 m.sd, .int .i64 m.ac, .int .i64 m.al]] w fun e w' => e = .returned (.bool (miOk m)) ∧ Below w.heap.size w w' := by
 have hB := hv.lt ikEnc_len (by omega)
 obtain ⟨R, hR⟩ := mk_ (miOk m)
 rw [← hR]
 replace hR : Hid _ := hR
 obtain ⟨y, hy⟩ := mk_ (w.alloc (Obj.cells #[.bool m.up, .int .i64 m.li, .int .i64 m.ep, .slice ad m.lg.length cap, .int .i64 m.sd, .int .i64 m.ac, .int .i64 m.al] 26))
 have B0 : Below w.heap.size w y := by rw [hy]; exact below_new _
 have A : MiAt y w.heap.size m (.slice ad m.lg.length cap) := by rw [hy]; exact MiAt.new w _ _ _
 have S0 := A.lt
 have hv1 := hv.below B0 hB
 clear hv
 go_enter Try.func14, Try.ntmps14
 go_upto_region 1 with fail
 rw [← hy]
 clear hy
 have cc := A
 obtain ⟨x0, x1, x2, x3, x4, x5, x6⟩ := cc
 go_wp2_with fail
 go_at_call 26
 clear x0 x1 x2 x3 x4 x5 x6
 refine (inB m.li 0 100000 y).mono ?_
 rintro e v0 ⟨rfl, hw_⟩
 have A := (by rw [hw_]; exact A : MiAt v0 w.heap.size m (.slice ad m.lg.length cap))
 have hv1 := (by rw [hw_]; exact hv1 : FView ikEnc v0 ad m.lg)
 have Bx := (by rw [hw_]; exact B0 : Below w.heap.size w v0)
 clear hw_ B0
 have B1 := Bx
 clear Bx
 rw [show decide (0 ≤ m.li ∧ m.li ≤ 100000) = numB m.li from rfl]
 cases h_li : numB m.li
 ·
  have hN : Hid (R = false) := by unfold Hid; rw [hR.out]; unfold miOk; rw [h_li]; rfl
  clear h_li
  go_wp2
  go_ret
  exact ⟨by rw [hN.out]; rfl, B1⟩
 ·
  replace h_li : Hid _ := h_li
  have cc := A
  obtain ⟨x0, x1, x2, x3, x4, x5, x6⟩ := cc
  go_wp2_with fail
  go_at_call 26
  clear x0 x1 x2 x3 x4 x5 x6
  refine (inB m.ep 0 100000 v0).mono ?_
  rintro e v1 ⟨rfl, hw_⟩
  have A := (by rw [hw_]; exact A : MiAt v1 w.heap.size m (.slice ad m.lg.length cap))
  have hv1 := (by rw [hw_]; exact hv1 : FView ikEnc v1 ad m.lg)
  have Bx := (by rw [hw_]; exact B1 : Below w.heap.size w v1)
  clear hw_ B1
  have B2 := Bx
  clear Bx
  rw [show decide (0 ≤ m.ep ∧ m.ep ≤ 100000) = numB m.ep from rfl]
  cases h_ep : numB m.ep
  ·
   have hN : Hid (R = false) := by unfold Hid; rw [hR.out]; unfold miOk; rw [h_li.out, h_ep]; rfl
   clear h_ep
   go_wp2
   go_ret
   exact ⟨by rw [hN.out]; rfl, B2⟩
  ·
   replace h_ep : Hid _ := h_ep
   have cc := A
   obtain ⟨x0, x1, x2, x3, x4, x5, x6⟩ := cc
   go_wp2_with fail
   go_at_call 26
   clear x0 x1 x2 x3 x4 x5 x6
   refine (inB m.al 0 100000 v1).mono ?_
   rintro e v2 ⟨rfl, hw_⟩
   have A := (by rw [hw_]; exact A : MiAt v2 w.heap.size m (.slice ad m.lg.length cap))
   have hv1 := (by rw [hw_]; exact hv1 : FView ikEnc v2 ad m.lg)
   have Bx := (by rw [hw_]; exact B2 : Below w.heap.size w v2)
   clear hw_ B2
   have B3 := Bx
   clear Bx
   rw [show decide (0 ≤ m.al ∧ m.al ≤ 100000) = numB m.al from rfl]
   cases h_al : numB m.al
   ·
    have hN : Hid (R = false) := by unfold Hid; rw [hR.out]; unfold miOk; rw [h_li.out, h_ep.out, h_al]; rfl
    clear h_al
    go_wp2
    go_ret
    exact ⟨by rw [hN.out]; rfl, B3⟩
   ·
    replace h_al : Hid _ := h_al
    have cc := A
    obtain ⟨x0, x1, x2, x3, x4, x5, x6⟩ := cc
    go_wp2_with fail
    go_at_call 27
    clear x0 x1 x2 x3 x4 x5 x6
    refine (insS ad cap m.lg v2 hv1 hl).mono ?_
    rintro e v3 ⟨rfl, kq⟩
    have A := A.below kq A.lt
    have hv1 := hv1.below kq (hv1.lt ikEnc_len (by omega))
    have B4 := B3.trans (kq.mono B3.size)
    clear kq B3
    cases h_in : insB m.lg
    ·
     have hN : Hid (R = false) := by unfold Hid; rw [hR.out]; unfold miOk; rw [h_li.out, h_ep.out, h_al.out, h_in]; rfl
     clear h_in
     go_wp2
     go_ret
     exact ⟨by rw [hN.out]; rfl, B4⟩
    ·
     replace h_in : Hid _ := h_in
     have cc := A
     obtain ⟨x0, x1, x2, x3, x4, x5, x6⟩ := cc
     go_wp2_with fail
     go_at_call 26
     clear x0 x1 x2 x3 x4 x5 x6
     refine (inB m.sd 0 (m.lg.length : Int) v3).mono ?_
     rintro e v4 ⟨rfl, hw_⟩
     have A := (by rw [hw_]; exact A : MiAt v4 w.heap.size m (.slice ad m.lg.length cap))
     have hv1 := (by rw [hw_]; exact hv1 : FView ikEnc v4 ad m.lg)
     have Bx := (by rw [hw_]; exact B4 : Below w.heap.size w v4)
     clear hw_ B4
     have B5 := Bx
     clear Bx
     cases h_sd : decide (0 ≤ m.sd ∧ m.sd ≤ (m.lg.length : Int))
     ·
      have hN : Hid (R = false) := by unfold Hid; rw [hR.out]; unfold miOk; rw [h_li.out, h_ep.out, h_al.out, h_in.out, h_sd]; rfl
      clear h_sd
      go_wp2
      go_ret
      exact ⟨by rw [hN.out]; rfl, B5⟩
     ·
      replace h_sd : Hid _ := h_sd
      have cc := A
      obtain ⟨x0, x1, x2, x3, x4, x5, x6⟩ := cc
      go_wp2_with fail
      go_at_call 26
      clear x0 x1 x2 x3 x4 x5 x6
      refine (inB m.ac 0 (m.lg.length : Int) v4).mono ?_
      rintro e v5 ⟨rfl, hw_⟩
      have A := (by rw [hw_]; exact A : MiAt v5 w.heap.size m (.slice ad m.lg.length cap))
      have hv1 := (by rw [hw_]; exact hv1 : FView ikEnc v5 ad m.lg)
      have Bx := (by rw [hw_]; exact B5 : Below w.heap.size w v5)
      clear hw_ B5
      have B6 := Bx
      clear Bx
      cases h_ac : decide (0 ≤ m.ac ∧ m.ac ≤ (m.lg.length : Int))
      ·
       have hN : Hid (R = false) := by unfold Hid; rw [hR.out]; unfold miOk; rw [h_li.out, h_ep.out, h_al.out, h_in.out, h_sd.out, h_ac]; rfl
       clear h_ac
       go_wp2
       go_ret
       exact ⟨by rw [hN.out]; rfl, B6⟩
      ·
       replace h_ac : Hid _ := h_ac
       obtain ⟨x0, x1, x2, x3, x4, x5, x6⟩ := A
       cases hU : m.up
       ·
        rw [hU] at x0
        by_cases e1 : m.ep = 0
        ·
         have d1 : (m.ep == 0) = true := by simpa using e1
         by_cases e2 : (m.lg.length : Int) = 0
         ·
          have d2 : ((m.lg.length : Int) == 0) = true := by simpa using e2
          have e2' : m.lg.length = 0 := by omega
          have hN : Hid (R = (m.al == 0)) := by unfold Hid; rw [hR.out]; unfold miOk; rw [h_li.out, h_ep.out, h_al.out, h_in.out, h_sd.out, h_ac.out, hU, decide_eq_true e1, decide_eq_true e2']; by_cases e3 : m.al = 0 <;> simp [e3]
          clear e1 e2 e2'
          go_wp2
          go_ret
          exact ⟨by rw [hN.out]; rfl, B6⟩
         ·
          have d2 : ((m.lg.length : Int) == 0) = false := by rw [beq_eq_false_iff_ne]; exact e2
          have e2' : ¬ m.lg.length = 0 := by omega
          have hN : Hid (R = false) := by unfold Hid; rw [hR.out]; unfold miOk; rw [h_li.out, h_ep.out, h_al.out, h_in.out, h_sd.out, h_ac.out, hU, decide_eq_false e2']; simp
          clear e1 e2 e2'
          go_wp2
          go_ret
          exact ⟨by rw [hN.out]; rfl, B6⟩
        ·
         have d1 : (m.ep == 0) = false := by rw [beq_eq_false_iff_ne]; exact e1
         have hN : Hid (R = false) := by unfold Hid; rw [hR.out]; unfold miOk; rw [h_li.out, h_ep.out, h_al.out, h_in.out, h_sd.out, h_ac.out, hU, decide_eq_false e1]; rfl
         clear e1
         go_wp2
         go_ret
         exact ⟨by rw [hN.out]; rfl, B6⟩
       ·
        rw [hU] at x0
        have hN : Hid (R = true) := by unfold Hid; rw [hR.out]; unfold miOk; rw [h_li.out, h_ep.out, h_al.out, h_in.out, h_sd.out, h_ac.out, hU]; rfl
        go_wp2
        go_ret
        exact ⟨by rw [hN.out]; rfl, B6⟩
theorem maxS (a b : Int) (w : World) : Calls Try.prog 56 #[.int .i64 a, .int .i64 b] w fun e w' => e = .returned (.int .i64 (if b < a then a else b)) ∧ w' = w := by
 by_cases h : b < a
 ·
  rw [if_pos h]
  have d : decide (b < a) = true := decide_eq_true h
  go_enter Try.func56, Try.ntmps56
  go_wp2
  go_ret
  exact ⟨rfl, rfl⟩
 ·
  rw [if_neg h]
  have d : decide (b < a) = false := decide_eq_false h
  go_enter Try.func56, Try.ntmps56
  go_wp2
  go_ret
  exact ⟨rfl, rfl⟩
set_option maxHeartbeats 2000000 in
theorem regOkS (r : Rg) (w : World) : Calls Try.prog 63 #[.agg #[.int .i64 r.ep, .int .i64 r.ow, .int .i64 r.pa]] w fun e w' => e = .returned (.bool (rgOk r)) ∧ Below w.heap.size w w' := by
 obtain ⟨R, hR⟩ := mk_ (rgOk r)
 rw [← hR]
 replace hR : Hid _ := hR
 obtain ⟨y, hy⟩ := mk_ (w.alloc (Obj.cells #[.int .i64 r.ep, .int .i64 r.ow, .int .i64 r.pa] 73))
 have B0 : Below w.heap.size w y := by rw [hy]; exact below_new _
 have A : RgAt y w.heap.size r := by rw [hy]; exact RgAt.new w _ r
 go_enter Try.func63, Try.ntmps63
 go_upto_region 1 with fail
 rw [← hy]
 clear hy
 have cc := A
 obtain ⟨x0, x1, x2⟩ := cc
 go_wp2_with fail
 go_at_call 26
 refine (inB r.ep 1 100000 y).mono ?_
 rintro e v0 ⟨rfl, hw_⟩
 have A := (by rw [hw_]; exact A : RgAt v0 w.heap.size r)
 have B0 := (by rw [hw_]; exact B0 : Below w.heap.size w v0)
 clear hw_
 clear x0 x1 x2
 cases h1 : decide (1 ≤ r.ep ∧ r.ep ≤ 100000)
 ·
  have hN : Hid (R = false) := by unfold Hid; rw [hR.out]; unfold rgOk; rw [h1]; rfl
  clear h1
  go_wp2
  go_ret
  exact ⟨by rw [hN.out]; rfl, B0⟩
 ·
  replace h1 : Hid _ := h1
  have cc := A
  obtain ⟨x0, x1, x2⟩ := cc
  go_wp2_with fail
  go_at_call 26
  refine (inB r.ow 0 1 v0).mono ?_
  rintro e v1 ⟨rfl, hw_⟩
  have A := (by rw [hw_]; exact A : RgAt v1 w.heap.size r)
  have B0 := (by rw [hw_]; exact B0 : Below w.heap.size w v1)
  clear hw_
  clear x0 x1 x2
  cases h2 : decide (0 ≤ r.ow ∧ r.ow ≤ 1)
  ·
   have hN : Hid (R = false) := by unfold Hid; rw [hR.out]; unfold rgOk; rw [h1.out, h2]; rfl
   clear h2
   go_wp2
   go_ret
   exact ⟨by rw [hN.out]; rfl, B0⟩
  ·
   replace h2 : Hid _ := h2
   have cc := A
   obtain ⟨x0, x1, x2⟩ := cc
   go_wp2_with fail
   go_at_call 26
   refine (inB r.pa 0 100000 v1).mono ?_
   rintro e v2 ⟨rfl, hw_⟩
   have A := (by rw [hw_]; exact A : RgAt v2 w.heap.size r)
   have B0 := (by rw [hw_]; exact B0 : Below w.heap.size w v2)
   clear hw_
   clear x0 x1 x2
   rw [show decide (0 ≤ r.pa ∧ r.pa ≤ 100000) = numB r.pa from rfl]
   have hN : Hid (R = numB r.pa) := by unfold Hid; rw [hR.out]; unfold rgOk; rw [h1.out, h2.out]; rfl
   rw [← hN.out]
   go_wp2
   go_ret
   exact ⟨rfl, B0⟩
set_option maxHeartbeats 2000000 in
theorem mindsS (r : Rg) (s : Int) (m : Mi) (ad : Option Addr) (cap : Nat) (w : World) (hv : FView ikEnc w ad m.lg) (hl : m.lg.length ≤ 1048577) :
  Calls Try.prog 78 #[.agg #[.int .i64 r.ep, .int .i64 r.ow, .int .i64 r.pa], .int .i64 s, .agg #[.bool m.up, .int .i64 m.li, .int .i64 m.ep, .slice ad m.lg.length cap, .int .i64 m.sd, .int .i64 m.ac, .int .i64 m.al]] w fun e w' => e = .returned (.bool (mindsB r s m)) ∧ Below w.heap.size w w' := by
 have hB := hv.lt ikEnc_len (by omega)
 obtain ⟨R, hR⟩ := mk_ (mindsB r s m)
 rw [← hR]
 replace hR : Hid _ := hR
 obtain ⟨y, hy⟩ := mk_ ((w.alloc (Obj.cells #[.int .i64 r.ep, .int .i64 r.ow, .int .i64 r.pa] 73)).alloc (Obj.cells #[.bool m.up, .int .i64 m.li, .int .i64 m.ep, .slice ad m.lg.length cap, .int .i64 m.sd, .int .i64 m.ac, .int .i64 m.al] 26))
 have B0 : Below w.heap.size w y := by rw [hy]; exact ((Below.refl _ _).alloc (Nat.le_refl _) _).alloc (by simp) _
 have A : RgAt y w.heap.size r := by rw [hy]; constructor <;> simp [go_sem]
 have M : MiAt y (w.heap.size + 1) m (.slice ad m.lg.length cap) := by rw [hy]; constructor <;> simp [go_sem]
 have hv1 := hv.below B0 hB
 clear hv hB
 go_enter Try.func78, Try.ntmps78
 have cc := A
 obtain ⟨x0, x1, x2⟩ := cc
 go_wp2_with fail
 go_at_call 63
 rw [← hy]
 clear hy x0 x1 x2
 refine (regOkS r y).mono ?_
 rintro e v1 ⟨rfl, k1⟩
 have A := A.below k1 A.lt
 have M := M.below k1 M.lt
 have hv1 := hv1.below k1 (hv1.lt ikEnc_len (by omega))
 have B1 := B0.trans (k1.mono B0.size)
 clear k1 B0
 cases h1 : rgOk r
 ·
  have hN : Hid (R = false) := by unfold Hid; rw [hR.out]; unfold mindsB; rw [h1]; rfl
  clear h1
  go_wp2
  go_ret
  exact ⟨by rw [hN.out]; rfl, B1⟩
 ·
  replace h1 : Hid _ := h1
  have cc := M
  obtain ⟨x0, x1, x2, x3, x4, x5, x6⟩ := cc
  go_wp2_with fail
  go_at_call 14
  clear x0 x1 x2 x3 x4 x5 x6
  refine (miOkS m ad cap v1 hv1 hl).mono ?_
  rintro e v2 ⟨rfl, k2⟩
  have A := A.below k2 A.lt
  have M := M.below k2 M.lt
  have B2 := B1.trans (k2.mono B1.size)
  clear k2 B1 hv1
  cases h2 : miOk m
  ·
   have hN : Hid (R = false) := by unfold Hid; rw [hR.out]; unfold mindsB; rw [h1.out, h2]; rfl
   clear h2
   go_wp2
   go_ret
   exact ⟨by rw [hN.out]; rfl, B2⟩
  ·
   replace h2 : Hid _ := h2
   obtain ⟨x0, x1, x2, x3, x4, x5, x6⟩ := M
   obtain ⟨z0, z1, z2⟩ := A
   cases h3 : m.up
   ·
    rw [h3] at x0
    have hN : Hid (R = false) := by unfold Hid; rw [hR.out]; unfold mindsB; rw [h1.out, h2.out, h3]; rfl
    go_wp2
    go_ret
    exact ⟨by rw [hN.out]; rfl, B2⟩
   ·
    rw [h3] at x0
    by_cases h4 : s = r.ow
    ·
     have d4 : (s == r.ow) = true := by simpa using h4
     have hN : Hid (R = (m.ep == r.ep)) := by unfold Hid; rw [hR.out]; unfold mindsB; rw [h1.out, h2.out, h3, decide_eq_true h4]; by_cases h5 : m.ep = r.ep <;> simp [h5]
     replace h4 : Hid _ := h4
     go_wp2
     go_ret
     exact ⟨by rw [hN.out]; rfl, B2⟩
    ·
     have d4 : (s == r.ow) = false := by rw [beq_eq_false_iff_ne]; exact h4
     have hN : Hid (R = false) := by unfold Hid; rw [hR.out]; unfold mindsB; rw [h1.out, h2.out, h3, decide_eq_false h4]; rfl
     clear h4
     go_wp2
     go_ret
     exact ⟨by rw [hN.out]; rfl, B2⟩
theorem RgBox.put2 {w : World} {q : Nat} {r : Rg} (h : RgBox w q r) (p : Int) : RgBox (w.setCell ⟨q, 2, none⟩ (.int .i64 p)) q ⟨r.ep, r.ow, p⟩ :=
 ⟨⟨(pset_else (by decide)).trans h.at_.c0, (pset_else (by decide)).trans h.at_.c1, pset_same h.at_.c2⟩, fun i => by rw [World.frozen?_setCell]; exact h.fr i⟩
set_option maxHeartbeats 4000000 in
theorem pairsS (r : Rg) (s : Int) (m : Mi) (ad : Option Addr) (cap : Nat) (p : Int) (w : World) (hv : FView ikEnc w ad m.lg) (hl : m.lg.length ≤ 1048577) :
  Calls Try.prog 74 #[.agg #[.int .i64 r.ep, .int .i64 r.ow, .int .i64 r.pa], .int .i64 s, .agg #[.bool m.up, .int .i64 m.li, .int .i64 m.ep, .slice ad m.lg.length cap, .int .i64 m.sd, .int .i64 m.ac, .int .i64 m.al], .int .i64 p] w fun e w' => e = .returned (.tuple #[.agg #[.int .i64 (pairsR r s m p).ep, .int .i64 (pairsR r s m p).ow, .int .i64 (pairsR r s m p).pa], .bool (pairsB r s m p)]) ∧ Below w.heap.size w w' := by
 have hB := hv.lt ikEnc_len (by omega)
 obtain ⟨y, hy⟩ := mk_ (((w.alloc (Obj.cells #[.int .i64 r.ep, .int .i64 r.ow, .int .i64 r.pa] 73)).alloc (Obj.cells #[.bool m.up, .int .i64 m.li, .int .i64 m.ep, .slice ad m.lg.length cap, .int .i64 m.sd, .int .i64 m.ac, .int .i64 m.al] 26)).alloc (Obj.cells #[.int .i64 0, .int .i64 0, .int .i64 0] 73))
 have B0 : Below w.heap.size w y := by rw [hy]; exact (((Below.refl _ _).alloc (Nat.le_refl _) _).alloc (by simp) _).alloc (by simp; omega) _
 have A : RgBox y w.heap.size r := by rw [hy]; refine ⟨?_, fun i => ?_⟩; constructor <;> simp [go_sem]; simp [go_sem]
 have M : MiAt y (w.heap.size + 1) m (.slice ad m.lg.length cap) := by rw [hy]; constructor <;> simp [go_sem]
 have Z : RgBox y (w.heap.size + 1 + 1) ⟨0, 0, 0⟩ := by rw [hy]; refine ⟨?_, fun i => ?_⟩; constructor <;> simp [go_sem]; simp [go_sem]
 have hv1 := hv.below B0 hB
 clear hv hB
 go_enter Try.func74, Try.ntmps74
 have cc := A
 obtain ⟨⟨x0, x1, x2⟩, xf⟩ := cc
 have cc := M
 obtain ⟨n0, n1, n2, n3, n4, n5, n6⟩ := cc
 go_wp2_with fail
 go_at_call 78
 rw [← hy]
 clear hy x0 x1 x2 xf n0 n1 n2 n3 n4 n5 n6
 refine (mindsS r s m ad cap y hv1 hl).mono ?_
 rintro e v1 ⟨rfl, k1⟩
 have A := A.below k1 A.lt
 have M := M.below k1 M.lt
 have Z := Z.below k1 Z.lt
 have B1 := B0.trans (k1.mono B0.size)
 clear k1 B0 hv1
 have Bn := below_put3 (q := w.heap.size + 1 + 1) r B1 (by omega)
 have hA2 := A.put2 p
 have Bq : Below w.heap.size w (v1.setCell ⟨w.heap.size, 2, none⟩ (.int .i64 p)) := B1.setCell (p := ⟨w.heap.size, 2, none⟩) (Nat.le_refl _) _
 have By := below_put3 (q := w.heap.size + 1 + 1) ⟨r.ep, r.ow, p⟩ Bq (by omega)
 obtain ⟨⟨x0, x1, x2⟩, xf⟩ := A
 obtain ⟨n0, n1, n2, n3, n4, n5, n6⟩ := M
 obtain ⟨⟨z0, z1, z2⟩, zf⟩ := Z
 have g0 := zf 0
 have g1 := zf 1
 have g2 := zf 2
 have f2 := xf 2
 clear zf xf
 obtain ⟨⟨q0, q1, q2⟩, qf⟩ := hA2
 clear qf
 dsimp only at q0 q1 q2 By
 cases h1 : mindsB r s m
 ·
  have hP : Hid (pairsB r s m p = false) := by unfold Hid pairsB; rw [h1]; rfl
  have hQ : Hid (pairsR r s m p = r) := pairs_not hP.out
  clear h1
  go_wp2
  refine bodyPost_ret (v := .tuple #[.agg #[.int .i64 r.ep, .int .i64 r.ow, .int .i64 r.pa], .bool false]) (by simp [results, Try.results74, go_sem, *]) rfl ⟨by rw [hP.out, hQ.out], Bn⟩
 ·
  replace h1 : Hid _ := h1
  by_cases h2 : p = 0
  ·
   have dh2 : (p == 0) = true := by simpa using h2
   have eh2 : (p != 0) = false := by simpa using h2
   have hP : Hid (pairsB r s m p = true) := by unfold Hid pairsB; rw [h1.out, decide_eq_true h2]; rfl
   have hQ : Hid (pairsR r s m p = ⟨r.ep, r.ow, p⟩) := by unfold Hid pairsR; rw [if_pos hP.out]
   replace h2 : Hid _ := h2
   go_wp2
   refine bodyPost_ret (v := .tuple #[.agg #[.int .i64 r.ep, .int .i64 r.ow, .int .i64 p], .bool true]) (by simp [results, Try.results74, go_sem, *]) rfl ⟨by rw [hP.out, hQ.out], By⟩
  ·
   have dh2 : (p == 0) = false := by rw [beq_eq_false_iff_ne]; exact h2
   have eh2 : (p != 0) = true := by simpa using h2
   replace h2 : Hid (¬ p = 0) := h2
   by_cases h3 : p = m.al
   ·
    have dh3 : (p == m.al) = true := by simpa using h3
    have eh3 : (p != m.al) = false := by simpa using h3
    replace h3 : Hid _ := h3
    by_cases h4 : m.ac = (m.lg.length : Int)
    ·
     have dh4 : (m.ac == (m.lg.length : Int)) = true := by simpa using h4
     have eh4 : (m.ac != (m.lg.length : Int)) = false := by simpa using h4
     have hP : Hid (pairsB r s m p = true) := by unfold Hid pairsB; rw [h1.out, decide_eq_true h3.out, decide_eq_true h4, Bool.and_true, Bool.or_true]; rfl
     have hQ : Hid (pairsR r s m p = ⟨r.ep, r.ow, p⟩) := by unfold Hid pairsR; rw [if_pos hP.out]
     replace h4 : Hid _ := h4
     go_wp2
     refine bodyPost_ret (v := .tuple #[.agg #[.int .i64 r.ep, .int .i64 r.ow, .int .i64 p], .bool true]) (by simp [results, Try.results74, go_sem, *]) rfl ⟨by rw [hP.out, hQ.out], By⟩
    ·
     have dh4 : (m.ac == (m.lg.length : Int)) = false := by rw [beq_eq_false_iff_ne]; exact h4
     have eh4 : (m.ac != (m.lg.length : Int)) = true := by simpa using h4
     have hP : Hid (pairsB r s m p = false) := by unfold Hid pairsB; rw [h1.out, decide_eq_false h2.out, decide_eq_false h4, Bool.and_false]; rfl
     have hQ : Hid (pairsR r s m p = r) := pairs_not hP.out
     clear h4
     go_wp2
     refine bodyPost_ret (v := .tuple #[.agg #[.int .i64 r.ep, .int .i64 r.ow, .int .i64 r.pa], .bool false]) (by simp [results, Try.results74, go_sem, *]) rfl ⟨by rw [hP.out, hQ.out], Bn⟩
   ·
    have dh3 : (p == m.al) = false := by rw [beq_eq_false_iff_ne]; exact h3
    have eh3 : (p != m.al) = true := by simpa using h3
    have hP : Hid (pairsB r s m p = false) := by unfold Hid pairsB; rw [h1.out, decide_eq_false h2.out, decide_eq_false h3]; rfl
    have hQ : Hid (pairsR r s m p = r) := pairs_not hP.out
    clear h3
    go_wp2
    refine bodyPost_ret (v := .tuple #[.agg #[.int .i64 r.ep, .int .i64 r.ow, .int .i64 r.pa], .bool false]) (by simp [results, Try.results74, go_sem, *]) rfl ⟨by rw [hP.out, hQ.out], Bn⟩
end Go.Proofs.Ytnpiljegdiconaa
