import Derived.Test.YtnpiljegdiconabGreatQM8
namespace Go.Proofs.YtnpiljegdiconabGreat
open Go.ChangeShapes Go.WideShapes Go.ChangeAt Go.RowKit
open Go.ChangeMaps (open_string shut_string)
set_option linter.unusedVariables false
set_option maxRecDepth 100000
theorem countI (q len : Nat) (ad : Option Addr) (cap : Nat) (w : World) (h : w.cell? ⟨q, 0, none⟩ = some (.slice ad len cap)) :
  Calls Tryz.prog 141 #[.pointer (some ⟨q, 0, none⟩)] w fun e w' => e = .returned (.int .i64 (len : Int)) ∧ w' = w := by
 go_enter Tryz.func141, Tryz.ntmps141
 go_wp2
 go_ret
 exact ⟨rfl, rfl⟩
theorem begI (q len : Nat) (ad : Option Addr) (cap : Nat) (n : Int) (w : World) (h : w.cell? ⟨q, 0, none⟩ = some (.slice ad len cap)) :
  Calls Tryz.prog 143 #[.pointer (some ⟨q, 0, none⟩), .int .i64 n] w fun e w' => e = .returned (.bool (decide (0 ≤ n ∧ n ≤ (len : Int)))) ∧ w' = w := by
 obtain ⟨R, hR⟩ := mk_ (decide (0 ≤ n ∧ n ≤ (len : Int)))
 rw [← hR]
 replace hR : Hid _ := hR
 by_cases h1 : 0 ≤ n
 ·
  have d1 : decide (0 ≤ n) = true := decide_eq_true h1
  have hN : Hid (R = decide (n ≤ (len : Int))) := by unfold Hid; rw [hR.out]; by_cases h2 : n ≤ (len : Int) <;> simp [h1, h2]
  clear hR
  go_enter Tryz.func143, Tryz.ntmps143
  go_wp2_with fail
  go_at_call 141
  refine (countI q len ad cap w h).mono ?_
  rintro e w1 ⟨rfl, rfl⟩
  go_wp2
  go_ret
  exact ⟨by rw [hN.out]; rfl, rfl⟩
 ·
  have d1 : decide (0 ≤ n) = false := decide_eq_false h1
  have hN : Hid (R = false) := by unfold Hid; rw [hR.out]; simp [h1]
  clear hR
  go_enter Tryz.func143, Tryz.ntmps143
  go_wp2
  go_ret
  exact ⟨by rw [hN.out]; rfl, rfl⟩
theorem all_take {X : Type} (f : X → Bool) (L : List X) (d : X) {k : Nat} (hk : k < L.length) : (L.take (k + 1)).all f = ((L.take k).all f && f (L.getD k d)) := by
 rw [List.take_add_one, List.all_append]
 have e : L[k]?.toList = [L.getD k d] := by simp [List.getD, hk]
 rw [e]; simp
theorem all_no {X : Type} (f : X → Bool) (L : List X) (d : X) {k : Nat} (hk : k < L.length) (h : f (L.getD k d) = false) : L.all f = false := by
 rw [List.all_eq_false]
 refine ⟨L.getD k d, ?_, by rw [h]; exact Bool.false_ne_true⟩
 simp [List.getD, hk]
set_option maxHeartbeats 2000000 in
theorem eachI (q : Nat) (ad : Option Addr) (cap : Nat) (L : List Ik) (w : World) (h : w.cell? ⟨q, 0, none⟩ = some (.slice ad L.length cap)) (hv : FView ikEnc w ad L) (hl : L.length ≤ 1048577) :
  Calls Tryz.prog 142 #[.pointer (some ⟨q, 0, none⟩), .func (Fn.func 91) #[] #[]] w fun e w' => e = .returned (.bool (L.all inOk)) ∧ Below w.heap.size w w' := by
 have hB := hv.lt ikEnc_len (by omega)
 obtain ⟨R, hR⟩ := mk_ (L.all inOk)
 rw [← hR]
 replace hR : Hid _ := hR
 go_enter Tryz.func142, Tryz.ntmps142
 go_wp2
 go_loopw [12] (fun i wr => ∃ k : Nat, k ≤ L.length ∧ i = .int .i64 k ∧ (L.take k).all inOk = true ∧ Below w.heap.size w wr) (fun i _ => L.length - (intOf i).toNat)
 case atStart => exact ⟨0, Nat.zero_le _, rfl, rfl, Below.refl _ _⟩
 case round =>
  obtain ⟨k, hk, rfl, T, B⟩ := hrel
  replace T : Hid _ := T
  by_cases hlt : k < L.length
  ·
   obtain ⟨b, off, rfl, _⟩ := hv (by omega)
   obtain ⟨x, hh⟩ : ∃ x, L.getD k Ik.nil = x := ⟨_, rfl⟩
   have hck : IkAtO wr b (off + k * 8) x := by
    rw [← hh]
    exact ikAtO_of ((hv.below B hB).at_ ikEnc_len Ik.nil hlt)
   have hT := all_take inOk L Ik.nil hlt
   rw [T.out, hh, Bool.true_and] at hT
   have hNo : inOk x = false → L.all inOk = false := fun e => all_no inOk L Ik.nil hlt (by rw [hh]; exact e)
   replace hT : Hid _ := hT
   replace hh : Hid _ := hh
   obtain ⟨c0, c1, c2, c3, c4, c5, c6, c7⟩ := hck
   obtain ⟨u, hu⟩ := mk_ (wr.alloc (Obj.cells #[.int .i64 x.k, .int .i64 x.q, .int .i64 x.r, .int .i64 x.c, .int .i64 x.b, .int .i64 x.p, .int .i64 x.h, .bool x.up] 80))
   have ku : Below wr.heap.size wr u := by rw [hu]; exact below_new _
   have U : InAt u wr.heap.size x := by rw [hu]; exact InAt.new wr _ x
   have B2 := B.trans (ku.mono B.size)
   go_upto_region 4 with fail
   rw [← hu]
   clear hu c0 c1 c2 c3 c4 c5 c6 c7 ku
   obtain ⟨c0, c1, c2, c3, c4, c5, c6, c7⟩ := U
   go_wp2_with fail
   go_at_call 91
   clear c0 c1 c2 c3 c4 c5 c6 c7
   refine (inOkI x u).mono ?_
   rintro e u2 ⟨rfl, k2⟩
   have B3 := B2.trans (k2.mono B2.size)
   clear k2 B2 B
   cases hx : inOk x with
   | false =>
    have hN : Hid (R = false) := by unfold Hid; rw [hR.out]; exact hNo hx
    clear hNo hx
    go_wp2
    go_ret
    exact ⟨by rw [hN.out]; rfl, B3⟩
   | true =>
    have hT2 : Hid ((L.take (k + 1)).all inOk = true) := by unfold Hid; rw [hT.out, hx]
    clear hNo hx
    go_wp2
    go_roundw
    case rel => exact ⟨k + 1, by omega, by go_num, hT2.out, B3⟩
    case measure => simp [intOf]; omega
  ·
   obtain rfl : k = L.length := by omega
   have hN : Hid (R = true) := by unfold Hid; rw [hR.out]; have := T.out; rwa [List.take_length] at this
   go_wp2
   go_ret
   exact ⟨by rw [hN.out]; rfl, B⟩
set_option maxHeartbeats 2000000 in
theorem insS (ad : Option Addr) (cap : Nat) (L : List Ik) (w : World) (hv : FView ikEnc w ad L) (hl : L.length ≤ 1048577) :
  Calls Tryz.prog 45 #[.slice ad L.length cap] w fun e w' => e = .returned (.bool (insB L)) ∧ Below w.heap.size w w' := by
 have hB := hv.lt ikEnc_len (by omega)
 obtain ⟨R, hR⟩ := mk_ (insB L)
 rw [← hR]
 replace hR : Hid _ := hR
 go_enter Tryz.func45, Tryz.ntmps45
 go_wp2
 go_loopw [3] (fun i wr => ∃ k : Nat, k ≤ L.length ∧ i = .int .i64 k ∧ (L.take k).all inOk = true ∧ Below w.heap.size w wr) (fun i _ => L.length - (intOf i).toNat)
 case atStart => exact ⟨0, Nat.zero_le _, rfl, rfl, Below.refl _ _⟩
 case round =>
  obtain ⟨k, hk, rfl, T, B⟩ := hrel
  replace T : Hid _ := T
  by_cases hlt : k < L.length
  ·
   obtain ⟨b, off, rfl, _⟩ := hv (by omega)
   obtain ⟨x, hh⟩ : ∃ x, L.getD k Ik.nil = x := ⟨_, rfl⟩
   have hck : IkAtO wr b (off + k * 8) x := by
    rw [← hh]
    exact ikAtO_of ((hv.below B hB).at_ ikEnc_len Ik.nil hlt)
   have hT := all_take inOk L Ik.nil hlt
   rw [T.out, hh, Bool.true_and] at hT
   have hNo : inOk x = false → L.all inOk = false := fun e => all_no inOk L Ik.nil hlt (by rw [hh]; exact e)
   replace hT : Hid _ := hT
   replace hh : Hid _ := hh
   obtain ⟨c0, c1, c2, c3, c4, c5, c6, c7⟩ := hck
   go_wp2_with fail
   go_at_call 74
   clear c0 c1 c2 c3 c4 c5 c6 c7
   refine (inOkS x wr).mono ?_
   rintro e u2 ⟨rfl, k2⟩
   have B3 := B.trans (k2.mono B.size)
   clear k2 B
   cases hx : inOk x with
   | false =>
    have hN : Hid (R = false) := by unfold Hid; rw [hR.out]; unfold insB; rw [hNo hx]; rfl
    clear hNo hx
    go_wp2
    go_ret
    exact ⟨by rw [hN.out]; rfl, B3⟩
   | true =>
    have hT2 : Hid ((L.take (k + 1)).all inOk = true) := by unfold Hid; rw [hT.out, hx]
    clear hNo hx
    go_wp2
    go_roundw
    case rel => exact ⟨k + 1, by omega, by go_num, hT2.out, B3⟩
    case measure => simp [intOf]; omega
  ·
   obtain rfl : k = L.length := by omega
   have hN : Hid (R = decide ((L.length : Int) ≤ 60)) := by
    unfold Hid; rw [hR.out]; unfold insB
    have := T.out
    rw [List.take_length] at this
    rw [this, Bool.true_and]
    by_cases h : L.length ≤ 60
    ·
     rw [decide_eq_true h, decide_eq_true (by omega)]
    ·
     rw [decide_eq_false h, decide_eq_false (by omega)]
   go_wp2
   go_ret
   exact ⟨by rw [hN.out]; rfl, B⟩
set_option maxHeartbeats 4000000 in
theorem miOkS (m : Mi) (ad : Option Addr) (cap : Nat) (w : World) (hv : FView ikEnc w ad m.lg) (hl : m.lg.length ≤ 1048577) :
  Calls Tryz.prog 43 #[.agg #[.bool m.up, .int .i64 m.li, .int .i64 m.ep, .slice ad m.lg.length cap, .int .i64 m.sd, .int .i64 m.ac, .int .i64 m.al]] w fun e w' => e = .returned (.bool (miOk m)) ∧ Below w.heap.size w w' := by
 have hB := hv.lt ikEnc_len (by omega)
 obtain ⟨R, hR⟩ := mk_ (miOk m)
 rw [← hR]
 replace hR : Hid _ := hR
 obtain ⟨y, hy⟩ := mk_ (w.alloc (Obj.cells #[.bool m.up, .int .i64 m.li, .int .i64 m.ep, .slice ad m.lg.length cap, .int .i64 m.sd, .int .i64 m.ac, .int .i64 m.al] 49))
 have B0 : Below w.heap.size w y := by rw [hy]; exact below_new _
 have A : MiAt y w.heap.size m (.slice ad m.lg.length cap) := by rw [hy]; exact MiAt.new w _ _ _
 have S0 := A.lt
 have hv1 := hv.below B0 hB
 clear hv
 go_enter Tryz.func43, Tryz.ntmps43
 go_upto_region 1 with fail
 rw [← hy]
 clear hy
 have cc := A
 obtain ⟨x0, x1, x2, x3, x4, x5, x6⟩ := cc
 go_wp2_with fail
 go_at_call 46
 clear x0 x1 x2 x3 x4 x5 x6
 refine (inB m.li 0 100000 y).mono ?_
 rintro e v0 ⟨rfl, hw_⟩
 have A := (by rw [hw_]; exact A : MiAt v0 w.heap.size m (.slice ad m.lg.length cap))
 have hv1 := (by rw [hw_]; exact hv1 : FView ikEnc v0 ad m.lg)
 have Bx := (by rw [hw_]; exact B0 : Below w.heap.size w v0)
 clear hw_ B0
 have B1 := Bx
 clear Bx
 rw [show decide (0 ≤ m.li ∧ m.li ≤ 100000) = numB m.li from rfl]
 cases h_li : numB m.li
 ·
  have hN : Hid (R = false) := by unfold Hid; rw [hR.out]; unfold miOk; rw [h_li]; rfl
  clear h_li
  go_wp2
  go_ret
  exact ⟨by rw [hN.out]; rfl, B1⟩
 ·
  replace h_li : Hid _ := h_li
  have cc := A
  obtain ⟨x0, x1, x2, x3, x4, x5, x6⟩ := cc
  go_wp2_with fail
  go_at_call 46
  clear x0 x1 x2 x3 x4 x5 x6
  refine (inB m.ep 0 100000 v0).mono ?_
  rintro e v1 ⟨rfl, hw_⟩
  have A := (by rw [hw_]; exact A : MiAt v1 w.heap.size m (.slice ad m.lg.length cap))
  have hv1 := (by rw [hw_]; exact hv1 : FView ikEnc v1 ad m.lg)
  have Bx := (by rw [hw_]; exact B1 : Below w.heap.size w v1)
  clear hw_ B1
  have B2 := Bx
  clear Bx
  rw [show decide (0 ≤ m.ep ∧ m.ep ≤ 100000) = numB m.ep from rfl]
  cases h_ep : numB m.ep
  ·
   have hN : Hid (R = false) := by unfold Hid; rw [hR.out]; unfold miOk; rw [h_li.out, h_ep]; rfl
   clear h_ep
   go_wp2
   go_ret
   exact ⟨by rw [hN.out]; rfl, B2⟩
  ·
   replace h_ep : Hid _ := h_ep
   have cc := A
   obtain ⟨x0, x1, x2, x3, x4, x5, x6⟩ := cc
   go_wp2_with fail
   go_at_call 46
   clear x0 x1 x2 x3 x4 x5 x6
   refine (inB m.al 0 100000 v1).mono ?_
   rintro e v2 ⟨rfl, hw_⟩
   have A := (by rw [hw_]; exact A : MiAt v2 w.heap.size m (.slice ad m.lg.length cap))
   have hv1 := (by rw [hw_]; exact hv1 : FView ikEnc v2 ad m.lg)
   have Bx := (by rw [hw_]; exact B2 : Below w.heap.size w v2)
   clear hw_ B2
   have B3 := Bx
   clear Bx
   rw [show decide (0 ≤ m.al ∧ m.al ≤ 100000) = numB m.al from rfl]
   cases h_al : numB m.al
   ·
    have hN : Hid (R = false) := by unfold Hid; rw [hR.out]; unfold miOk; rw [h_li.out, h_ep.out, h_al]; rfl
    clear h_al
    go_wp2
    go_ret
    exact ⟨by rw [hN.out]; rfl, B3⟩
   ·
    replace h_al : Hid _ := h_al
    have cc := A
    obtain ⟨x0, x1, x2, x3, x4, x5, x6⟩ := cc
    go_wp2_with fail
    go_at_call 45
    clear x0 x1 x2 x3 x4 x5 x6
    refine (insS ad cap m.lg v2 hv1 hl).mono ?_
    rintro e v3 ⟨rfl, kq⟩
    have A := A.below kq A.lt
    have hv1 := hv1.below kq (hv1.lt ikEnc_len (by omega))
    have B4 := B3.trans (kq.mono B3.size)
    clear kq B3
    cases h_in : insB m.lg
    ·
     have hN : Hid (R = false) := by unfold Hid; rw [hR.out]; unfold miOk; rw [h_li.out, h_ep.out, h_al.out, h_in]; rfl
     clear h_in
     go_wp2
     go_ret
     exact ⟨by rw [hN.out]; rfl, B4⟩
    ·
     replace h_in : Hid _ := h_in
     have cc := A
     obtain ⟨x0, x1, x2, x3, x4, x5, x6⟩ := cc
     go_wp2_with fail
     go_at_call 46
     clear x0 x1 x2 x3 x4 x5 x6
     refine (inB m.sd 0 (m.lg.length : Int) v3).mono ?_
     rintro e v4 ⟨rfl, hw_⟩
     have A := (by rw [hw_]; exact A : MiAt v4 w.heap.size m (.slice ad m.lg.length cap))
     have hv1 := (by rw [hw_]; exact hv1 : FView ikEnc v4 ad m.lg)
     have Bx := (by rw [hw_]; exact B4 : Below w.heap.size w v4)
     clear hw_ B4
     have B5 := Bx
     clear Bx
     cases h_sd : decide (0 ≤ m.sd ∧ m.sd ≤ (m.lg.length : Int))
     ·
      have hN : Hid (R = false) := by unfold Hid; rw [hR.out]; unfold miOk; rw [h_li.out, h_ep.out, h_al.out, h_in.out, h_sd]; rfl
      clear h_sd
      go_wp2
      go_ret
      exact ⟨by rw [hN.out]; rfl, B5⟩
     ·
      replace h_sd : Hid _ := h_sd
      have cc := A
      obtain ⟨x0, x1, x2, x3, x4, x5, x6⟩ := cc
      go_wp2_with fail
      go_at_call 46
      clear x0 x1 x2 x3 x4 x5 x6
      refine (inB m.ac 0 (m.lg.length : Int) v4).mono ?_
      rintro e v5 ⟨rfl, hw_⟩
      have A := (by rw [hw_]; exact A : MiAt v5 w.heap.size m (.slice ad m.lg.length cap))
      have hv1 := (by rw [hw_]; exact hv1 : FView ikEnc v5 ad m.lg)
      have Bx := (by rw [hw_]; exact B5 : Below w.heap.size w v5)
      clear hw_ B5
      have B6 := Bx
      clear Bx
      cases h_ac : decide (0 ≤ m.ac ∧ m.ac ≤ (m.lg.length : Int))
      ·
       have hN : Hid (R = false) := by unfold Hid; rw [hR.out]; unfold miOk; rw [h_li.out, h_ep.out, h_al.out, h_in.out, h_sd.out, h_ac]; rfl
       clear h_ac
       go_wp2
       go_ret
       exact ⟨by rw [hN.out]; rfl, B6⟩
      ·
       replace h_ac : Hid _ := h_ac
       obtain ⟨x0, x1, x2, x3, x4, x5, x6⟩ := A
       cases hU : m.up
       ·
        rw [hU] at x0
        by_cases e1 : m.ep = 0
        ·
         have d1 : (m.ep == 0) = true := by simpa using e1
         by_cases e2 : (m.lg.length : Int) = 0
         ·
          have d2 : ((m.lg.length : Int) == 0) = true := by simpa using e2
          have e2' : m.lg.length = 0 := by omega
          have hN : Hid (R = (m.al == 0)) := by unfold Hid; rw [hR.out]; unfold miOk; rw [h_li.out, h_ep.out, h_al.out, h_in.out, h_sd.out, h_ac.out, hU, decide_eq_true e1, decide_eq_true e2']; by_cases e3 : m.al = 0 <;> simp [e3]
          clear e1 e2 e2'
          go_wp2
          go_ret
          exact ⟨by rw [hN.out]; rfl, B6⟩
         ·
          have d2 : ((m.lg.length : Int) == 0) = false := by rw [beq_eq_false_iff_ne]; exact e2
          have e2' : ¬ m.lg.length = 0 := by omega
          have hN : Hid (R = false) := by unfold Hid; rw [hR.out]; unfold miOk; rw [h_li.out, h_ep.out, h_al.out, h_in.out, h_sd.out, h_ac.out, hU, decide_eq_false e2']; simp
          clear e1 e2 e2'
          go_wp2
          go_ret
          exact ⟨by rw [hN.out]; rfl, B6⟩
        ·
         have d1 : (m.ep == 0) = false := by rw [beq_eq_false_iff_ne]; exact e1
         have hN : Hid (R = false) := by unfold Hid; rw [hR.out]; unfold miOk; rw [h_li.out, h_ep.out, h_al.out, h_in.out, h_sd.out, h_ac.out, hU, decide_eq_false e1]; rfl
         clear e1
         go_wp2
         go_ret
         exact ⟨by rw [hN.out]; rfl, B6⟩
       ·
        rw [hU] at x0
        have hN : Hid (R = true) := by unfold Hid; rw [hR.out]; unfold miOk; rw [h_li.out, h_ep.out, h_al.out, h_in.out, h_sd.out, h_ac.out, hU]; rfl
        go_wp2
        go_ret
        exact ⟨by rw [hN.out]; rfl, B6⟩
end Go.Proofs.YtnpiljegdiconabGreat
