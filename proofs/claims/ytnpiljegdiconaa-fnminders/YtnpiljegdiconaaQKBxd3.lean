import Derived.Test.YtnpiljegdiconaaQM11
namespace Go.Proofs.Ytnpiljegdiconaa
open Go.ChangeShapes Go.WideShapes Go.ChangeAt Go.RowKit
open Go.ChangeMaps (open_string shut_string)
set_option linter.unusedVariables false
set_option maxRecDepth 100000
structure WiAt (w : World) (q : Nat) (x : Wi) : Prop where
 c0 : w.cell? ⟨q, 0, none⟩ = some (.int .i64 x.fr)
 c1 : w.cell? ⟨q, 1, none⟩ = some (.bool x.ak)
 c2 : w.cell? ⟨q, 2, none⟩ = some (.int .i64 x.li)
 c3 : w.cell? ⟨q, 3, none⟩ = some (.int .i64 x.n)
 c4 : w.cell? ⟨q, 4, none⟩ = some (.int .i64 x.x.k)
 c5 : w.cell? ⟨q, 5, none⟩ = some (.int .i64 x.x.q)
 c6 : w.cell? ⟨q, 6, none⟩ = some (.int .i64 x.x.r)
 c7 : w.cell? ⟨q, 7, none⟩ = some (.int .i64 x.x.c)
 c8 : w.cell? ⟨q, 8, none⟩ = some (.int .i64 x.x.b)
 c9 : w.cell? ⟨q, 9, none⟩ = some (.int .i64 x.x.p)
 c10 : w.cell? ⟨q, 10, none⟩ = some (.int .i64 x.x.h)
 c11 : w.cell? ⟨q, 11, none⟩ = some (.bool x.x.up)
theorem WiAt.new (w : World) (t : TypeId) (x : Wi) : WiAt (w.alloc (Obj.cells #[.int .i64 x.fr, .bool x.ak, .int .i64 x.li, .int .i64 x.n, .int .i64 x.x.k, .int .i64 x.x.q, .int .i64 x.x.r, .int .i64 x.x.c, .int .i64 x.x.b, .int .i64 x.x.p, .int .i64 x.x.h, .bool x.x.up] t)) w.heap.size x := by
 refine ⟨?_, ?_, ?_, ?_, ?_, ?_, ?_, ?_, ?_, ?_, ?_, ?_⟩ <;> simp [go_sem]
theorem neqIn (x : Ik) (w : World) : (binOp .neq 30 (.agg #[.int .i64 x.k, .int .i64 x.q, .int .i64 x.r, .int .i64 x.c, .int .i64 x.b, .int .i64 x.p, .int .i64 x.h, .bool x.up]) (.agg #[.int .i64 0, .int .i64 0, .int .i64 0, .int .i64 0, .int .i64 0, .int .i64 0, .int .i64 0, .bool false])).run Try.prog w = .ok (.bool (!inNil x)) w := by
 have hE : (binOp .eql 30 (.agg #[.int .i64 x.k, .int .i64 x.q, .int .i64 x.r, .int .i64 x.c, .int .i64 x.b, .int .i64 x.p, .int .i64 x.h, .bool x.up]) (.agg #[.int .i64 0, .int .i64 0, .int .i64 0, .int .i64 0, .int .i64 0, .int .i64 0, .int .i64 0, .bool false])).run Try.prog w = .ok (.bool (inNil x)) w := by
  unfold inNil
  go_simp
  all_goals ((repeat' split) <;> first | (simp_all; done) | grind)
 unfold inNil
 go_simp
 all_goals ((repeat' split) <;> first | (simp_all; done) | grind)
set_option maxHeartbeats 4000000 in
theorem netS (x : BxD) (w : World) (hV : BxV w x) :
  Calls Try.prog 64 #[.agg #[.int .i64 x.id, .int .i64 x.po, .int .i64 x.rg.ep, .int .i64 x.rg.ow, .int .i64 x.rg.pa, .slice x.aT x.two.length x.cT, .slice x.aN x.net.length x.cN, .slice x.aG x.ga.length x.cG, .slice x.aL x.ln.length x.cL, .slice x.aS x.sd.length x.cS]] w fun e w' => e = .returned (.bool (x.net.all wiOk && decide (x.net.length ≤ 20))) ∧ Below w.heap.size w w' := by
 obtain ⟨R, hR⟩ := mk_ (x.net.all wiOk && decide (x.net.length ≤ 20))
 rw [← hR]
 replace hR : Hid _ := hR
 obtain ⟨y, hy⟩ := mk_ (w.alloc (Obj.cells #[.int .i64 x.id, .int .i64 x.po, .int .i64 x.rg.ep, .int .i64 x.rg.ow, .int .i64 x.rg.pa, .slice x.aT x.two.length x.cT, .slice x.aN x.net.length x.cN, .slice x.aG x.ga.length x.cG, .slice x.aL x.ln.length x.cL, .slice x.aS x.sd.length x.cS] 79))
 have B0 : Below w.heap.size w y := by rw [hy]; exact below_new _
 have A : BxAt y w.heap.size x := by rw [hy]; exact BxAt.new w _ x
 have V := hV.later B0
 have S0 := A.lt
 have bn := V.bn
 go_enter Try.func64, Try.ntmps64
 go_upto_region 1 with fail
 rw [← hy]
 clear hy hV
 go_wp2
 go_loopw [3] (fun i wr => ∃ k : Nat, k ≤ x.net.length ∧ i = .int .i64 k ∧ (x.net.take k).all wiOk = true ∧ Below y.heap.size y wr) (fun i _ => x.net.length - (intOf i).toNat)
 case atStart => exact ⟨0, Nat.zero_le _, rfl, rfl, Below.refl _ _⟩
 case round =>
  obtain ⟨k, hk, rfl, T, K⟩ := hrel
  replace T : Hid _ := T
  have A2 := A.below K S0
  have V2 := V.later K
  have cc := A2
  obtain ⟨a0, a1, a2, a3, a4, a5, a6, a7, a8, a9⟩ := cc
  by_cases hlt : k < x.net.length
  ·
   obtain ⟨b, off, hat, _⟩ := V2.n (by omega)
   rw [hat] at a6
   obtain ⟨v, hh⟩ : ∃ v, x.net.getD k Wi.nil = v := ⟨_, rfl⟩
   have hck : WiAtO wr b (off + k * 12) v := by
    have ht := V2.n
    rw [hat] at ht
    rw [← hh]
    exact wiAtO_of (ht.at_ wiEnc_len Wi.nil hlt)
   have hT := all_take wiOk x.net Wi.nil hlt
   rw [T.out, hh, Bool.true_and] at hT
   have hNo : wiOk v = false → x.net.all wiOk = false := fun e => all_no wiOk x.net Wi.nil hlt (by rw [hh]; exact e)
   replace hT : Hid _ := hT
   replace hh : Hid _ := hh
   replace hat : Hid _ := hat
   obtain ⟨c0, c1, c2, c3, c4, c5, c6, c7, c8, c9, c10, c11⟩ := hck
   obtain ⟨u, hu⟩ := mk_ (wr.alloc (Obj.cells #[.int .i64 v.fr, .bool v.ak, .int .i64 v.li, .int .i64 v.n, .int .i64 v.x.k, .int .i64 v.x.q, .int .i64 v.x.r, .int .i64 v.x.c, .int .i64 v.x.b, .int .i64 v.x.p, .int .i64 v.x.h, .bool v.x.up] 125))
   have ku : Below wr.heap.size wr u := by rw [hu]; exact below_new _
   have U : WiAt u wr.heap.size v := by rw [hu]; exact WiAt.new wr _ v
   have K0 := K.trans (ku.mono K.size)
   go_upto_region 5 with fail
   rw [← hu]
   clear hu ku c0 c1 c2 c3 c4 c5 c6 c7 c8 c9 c10 c11 K A2 V2 a0 a1 a2 a3 a4 a5 a6 a7 a8 a9
   have cc := U
   obtain ⟨c0, c1, c2, c3, c4, c5, c6, c7, c8, c9, c10, c11⟩ := cc
   go_wp2_with fail
   go_at_call 26
   clear c0 c1 c2 c3 c4 c5 c6 c7 c8 c9 c10 c11
   refine (inB v.fr 0 1 u).mono ?_
   rintro e u1 ⟨rfl, hw_⟩
   have U := (by rw [hw_]; exact U : WiAt u1 wr.heap.size v)
   have K1 := (by rw [hw_]; exact K0 : Below y.heap.size y u1)
   clear hw_ K0
   cases h1 : decide (0 ≤ v.fr ∧ v.fr ≤ 1)
   ·
    have hx : wiOk v = false := by unfold wiOk; rw [h1]; rfl
    have hN : Hid (R = false) := by unfold Hid; rw [hR.out, hNo hx]; rfl
    clear hx hNo h1
    go_wp2
    go_ret
    exact ⟨by rw [hN.out]; rfl, B0.trans (K1.mono B0.size)⟩
   ·
    replace h1 : Hid _ := h1
    have cc := U
    obtain ⟨c0, c1, c2, c3, c4, c5, c6, c7, c8, c9, c10, c11⟩ := cc
    go_wp2_with fail
    go_at_call 26
    clear c0 c1 c2 c3 c4 c5 c6 c7 c8 c9 c10 c11
    refine (inB v.li 0 100000 u1).mono ?_
    rintro e u2 ⟨rfl, hw_⟩
    have U := (by rw [hw_]; exact U : WiAt u2 wr.heap.size v)
    have K2 := (by rw [hw_]; exact K1 : Below y.heap.size y u2)
    clear hw_ K1
    rw [show decide (0 ≤ v.li ∧ v.li ≤ 100000) = numB v.li from rfl]
    cases h2 : numB v.li
    ·
     have hx : wiOk v = false := by unfold wiOk; rw [h1.out, h2]; rfl
     have hN : Hid (R = false) := by unfold Hid; rw [hR.out, hNo hx]; rfl
     clear hx hNo h2
     go_wp2
     go_ret
     exact ⟨by rw [hN.out]; rfl, B0.trans (K2.mono B0.size)⟩
    ·
     replace h2 : Hid _ := h2
     have cc := U
     obtain ⟨c0, c1, c2, c3, c4, c5, c6, c7, c8, c9, c10, c11⟩ := cc
     go_wp2_with fail
     go_at_call 26
     clear c0 c1 c2 c3 c4 c5 c6 c7 c8 c9 c10 c11
     refine (inB v.n 0 100000 u2).mono ?_
     rintro e u3 ⟨rfl, hw_⟩
     have U := (by rw [hw_]; exact U : WiAt u3 wr.heap.size v)
     have K3 := (by rw [hw_]; exact K2 : Below y.heap.size y u3)
     clear hw_ K2
     rw [show decide (0 ≤ v.n ∧ v.n ≤ 100000) = numB v.n from rfl]
     cases h3 : numB v.n
     ·
      have hx : wiOk v = false := by unfold wiOk; rw [h1.out, h2.out, h3]; rfl
      have hN : Hid (R = false) := by unfold Hid; rw [hR.out, hNo hx]; rfl
      clear hx hNo h3
      go_wp2
      go_ret
      exact ⟨by rw [hN.out]; rfl, B0.trans (K3.mono B0.size)⟩
     ·
      replace h3 : Hid _ := h3
      cases h4 : v.ak
      ·
       have cc := U
       obtain ⟨c0, c1, c2, c3, c4, c5, c6, c7, c8, c9, c10, c11⟩ := cc
       rw [h4] at c1
       replace h4 : Hid _ := h4
       go_wp2_with fail
       go_at_call 39
       clear c0 c1 c2 c3 c4 c5 c6 c7 c8 c9 c10 c11
       refine (inOkS v.x u3).mono ?_
       rintro e u4 ⟨rfl, k4⟩
       have K4 := K3.trans (k4.mono K3.size)
       clear k4 K3
       cases h5 : inOk v.x
       ·
        have hx : wiOk v = false := by unfold wiOk; rw [h1.out, h2.out, h3.out, h4.out, if_neg (by decide), h5]; rfl
        have hN : Hid (R = false) := by unfold Hid; rw [hR.out, hNo hx]; rfl
        clear hx hNo h5
        go_wp2
        go_ret
        exact ⟨by rw [hN.out]; rfl, B0.trans (K4.mono B0.size)⟩
       ·
        replace h5 : Hid _ := h5
        have hx : wiOk v = true := by unfold wiOk; rw [h1.out, h2.out, h3.out, h4.out, if_neg (by decide), h5.out]; rfl
        have hT2 : Hid ((x.net.take (k + 1)).all wiOk = true) := by unfold Hid; rw [hT.out, hx]
        clear hx hNo
        go_wp2
        go_roundw
        case rel => exact ⟨k + 1, by omega, by go_num, hT2.out, K4⟩
        case measure => simp [intOf]; omega
      ·
       have eI := neqIn v.x
       have cc := U
       obtain ⟨c0, c1, c2, c3, c4, c5, c6, c7, c8, c9, c10, c11⟩ := cc
       rw [h4] at c1
       replace h4 : Hid _ := h4
       cases h5 : inNil v.x
       ·
        rw [h5] at eI
        have hx : wiOk v = false := by unfold wiOk; rw [h1.out, h2.out, h3.out, h4.out, if_pos rfl, h5]; rfl
        have hN : Hid (R = false) := by unfold Hid; rw [hR.out, hNo hx]; rfl
        clear hx hNo h5
        go_wp2
        go_ret
        exact ⟨by rw [hN.out]; rfl, B0.trans (K3.mono B0.size)⟩
       ·
        rw [h5] at eI
        replace h5 : Hid _ := h5
        have hx : wiOk v = true := by unfold wiOk; rw [h1.out, h2.out, h3.out, h4.out, if_pos rfl, h5.out]; rfl
        have hT2 : Hid ((x.net.take (k + 1)).all wiOk = true) := by unfold Hid; rw [hT.out, hx]
        clear hx hNo
        go_wp2
        go_roundw
        case rel => exact ⟨k + 1, by omega, by go_num, hT2.out, K3⟩
        case measure => simp [intOf]; omega
  ·
   obtain rfl : k = x.net.length := by omega
   have hN : Hid (R = decide ((x.net.length : Int) ≤ 20)) := by
    unfold Hid; rw [hR.out]
    have := T.out
    rw [List.take_length] at this
    rw [this, Bool.true_and]
    by_cases h : x.net.length ≤ 20
    ·
     rw [decide_eq_true h, decide_eq_true (by omega)]
    ·
     rw [decide_eq_false h, decide_eq_false (by omega)]
   go_wp2
   go_ret
   exact ⟨by rw [hN.out]; rfl, B0.trans (K.mono B0.size)⟩
end Go.Proofs.Ytnpiljegdiconaa
