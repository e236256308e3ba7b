import Derived.Test.YtnpiljegdiconaaQKIn1
import Derived.Test.YtnpiljegdiconaaQKPort6s
namespace Go.Proofs.Ytnpiljegdiconaa
open Go.ChangeShapes Go.WideShapes Go.ChangeAt Go.RowKit
open Go.ChangeMaps (open_string shut_string)
set_option linter.unusedVariables false
set_option maxRecDepth 100000
theorem pall_no {L : List Pt} {k : Nat} (h : k < L.length) (hq : pOk (L.getD k Pt.nil) = false) : L.all pOk = false := by
 rw [List.all_eq_false]
 exact ⟨L[k], List.getElem_mem h, by rw [show L.getD k Pt.nil = L[k] by simp [List.getD, h]] at hq; simp [hq]⟩
theorem pall_yes {L : List Pt} (h : ∀ j, j < L.length → pOk (L.getD j Pt.nil) = true) : L.all pOk = true := by
 rw [List.all_eq_true]
 intro x hx
 obtain ⟨i, hi, rfl⟩ := List.getElem_of_mem hx
 have := h i hi
 rwa [show L.getD i Pt.nil = L[i] by simp [List.getD, hi]] at this
set_option maxHeartbeats 1000000 in
theorem bOkS (id : Int) (ad : Option Addr) (cap : Nat) (L : List Pt) (w : World) (hv : FView ptEnc w ad L) (hl : L.length ≤ 1048576) :
  Calls Try.prog 66 #[.agg #[.int .i64 id, .slice ad L.length cap]] w fun e w' => e = .returned (.bool (bOk id L)) ∧ Below w.heap.size w w' := by
 have hB := hv.lt ptEnc_len (by omega)
 obtain ⟨y, hy⟩ : ∃ y, y = w.alloc (Obj.cells #[.int .i64 id, .slice ad L.length cap] 110) := ⟨_, rfl⟩
 have B0 : Below w.heap.size w y := by rw [hy]; exact below_new _
 have A0 : BrAt y w.heap.size id (.slice ad L.length cap) := by rw [hy]; exact BrAt.new w _ _ _
 have S0 := A0.lt
 have hv := hv.below B0 hB
 have hB := hv.lt ptEnc_len (by omega)
 obtain ⟨R, hR⟩ : ∃ R, R = bOk id L := ⟨_, rfl⟩
 rw [← hR]
 replace hR : Hid _ := hR
 go_enter Try.func66, Try.ntmps66
 go_wp2
 rw [← hy]
 clear hy
 go_loopw [3] (fun i wr => ∃ k : Nat, i = .int .i64 (k : Int) ∧ k ≤ L.length ∧ Hid (∀ j, j < k → pOk (L.getD j Pt.nil) = true) ∧ Below y.heap.size y wr) (fun i _ => L.length - (intOf i).toNat)
 case atStart => exact ⟨0, rfl, Nat.zero_le _, fun j hj => absurd hj (by omega), Below.refl _ _⟩
 case round =>
  obtain ⟨k, rfl, hk, hF, hb⟩ := hrel
  obtain ⟨a0, a1⟩ := A0.below hb S0
  by_cases hlt : k < L.length
  ·
   obtain ⟨b, off, rfl, _⟩ := hv (by omega)
   obtain ⟨h, hh⟩ : ∃ h, L.getD k Pt.nil = h := ⟨_, rfl⟩
   have hck : PtAtO wr b (off + k * 11) h := by
    rw [← hh]
    exact ptAtO_of ((hv.below hb hB).at_ ptEnc_len Pt.nil hlt)
   obtain ⟨c0, c1, c2, c3, c4, c5, c6, c7, c8, c9, c10⟩ := hck
   replace hh : Hid _ := hh
   clear hB hv
   go_wp2_with fail
   go_at_call 75
   refine (pOkS h wr).mono ?_
   rintro e w3 ⟨rfl, k3⟩
   have b3 := hb.trans (k3.mono hb.size)
   by_cases hq : pOk h = true
   ·
    rw [hq]
    go_wp2
    go_roundw
    case rel =>
     refine ⟨k + 1, by go_num, by omega, fun j hj => ?_, b3⟩
     by_cases e : j = k
     ·
      rw [e, hh.out]; exact hq
     ·
      exact hF.out j (by omega)
    case measure => simp [intOf]; omega
   ·
    have hq' : pOk h = false := by simpa using hq
    rw [hq']
    have hC : Hid (R = false) := by
     unfold Hid; rw [hR.out, bOk, pall_no hlt (by rw [hh.out]; exact hq')]; simp
    clear hR
    go_wp2
    go_ret
    exact ⟨by rw [hC.out]; rfl, B0.trans (b3.mono B0.size)⟩
  ·
   obtain rfl : k = L.length := by omega
   have hP := pall_yes hF.out
   have B1 := B0.trans (hb.mono B0.size)
   by_cases h1 : 1 ≤ id ∧ id ≤ 9
   ·
    have d1 : decide (1 ≤ id ∧ id ≤ 9) = true := decide_eq_true h1
    have hC : Hid (R = decide (1 ≤ (L.length : Int) ∧ (L.length : Int) ≤ 4)) := by
     unfold Hid; rw [hR.out, bOk, hP, d1, Bool.true_and, Bool.and_true]; exact decide_eq_decide.2 (by omega)
    clear hR hP h1
    go_wp2_with fail
    go_at_call 26
    refine (inB id 1 9 wr).mono ?_
    rintro e w4 ⟨rfl, rfl⟩
    rw [d1]
    go_wp2_with fail
    go_at_call 26
    refine (inB L.length 1 4 w4).mono ?_
    rintro e w5 ⟨rfl, rfl⟩
    rw [← hC.out]
    go_wp2
    go_ret
    exact ⟨rfl, B1⟩
   ·
    have d1 : decide (1 ≤ id ∧ id ≤ 9) = false := decide_eq_false h1
    have hC : Hid (R = false) := by
     unfold Hid; rw [hR.out, bOk, d1]; simp
    clear hR hP h1
    go_wp2_with fail
    go_at_call 26
    refine (inB id 1 9 wr).mono ?_
    rintro e w4 ⟨rfl, rfl⟩
    rw [d1]
    go_wp2
    go_ret
    exact ⟨by rw [hC.out]; rfl, B1⟩
theorem cand_up {id : Int} {x : Pt} (h : pOk x = true) : (x.up && cand id x) = cand id x := by
 cases hh : x.has
 ·
  simp [cand, hh]
 ·
  rw [(pOk_has h hh).1]; rfl
set_option maxHeartbeats 4000000 in
theorem inOkS (x : Ik) (w : World) : Calls Try.prog 39 #[.agg #[.int .i64 x.k, .int .i64 x.q, .int .i64 x.r, .int .i64 x.c, .int .i64 x.b, .int .i64 x.p, .int .i64 x.h, .bool x.up]] w fun e w' => e = .returned (.bool (inOk x)) ∧ Below w.heap.size w w' := by
 obtain ⟨k, q, r, c, b, p, h, up⟩ := x
 dsimp only
 obtain ⟨R, hR⟩ : ∃ R, R = inOk ⟨k, q, r, c, b, p, h, up⟩ := ⟨_, rfl⟩
 rw [← hR]
 by_cases h1 : k = 1
 ·
  subst h1
  have hR1 : Hid (R = (decide (0 ≤ q ∧ q ≤ 3) && (vOk r c b p && (decide (0 ≤ h ∧ h ≤ 8) && !up)))) := hR
  clear hR
  have B0 := below_new (w := w) (Obj.cells #[.int .i64 1, .int .i64 q, .int .i64 r, .int .i64 c, .int .i64 b, .int .i64 p, .int .i64 h, .bool up] 30)
  obtain ⟨y, hy⟩ : ∃ y, y = w.alloc (Obj.cells #[.int .i64 1, .int .i64 q, .int .i64 r, .int .i64 c, .int .i64 b, .int .i64 p, .int .i64 h, .bool up] 30) := ⟨_, rfl⟩
  rw [← hy] at B0
  have A0 : InAt y w.heap.size ⟨1, q, r, c, b, p, h, up⟩ := by rw [hy]; exact InAt.new w _ ⟨1, q, r, c, b, p, h, up⟩
  have S0 := A0.lt
  go_enter Try.func39, Try.ntmps39
  go_wp2_with fail
  go_at_call 26
  rw [← hy]
  clear hy
  refine (inB q 0 3 y).mono ?_
  rintro e y1 ⟨rfl, rfl⟩
  obtain ⟨a0, a1, a2, a3, a4, a5, a6, a7⟩ := A0
  have A0 : InAt y1 w.heap.size ⟨1, q, r, c, b, p, h, up⟩ := ⟨a0, a1, a2, a3, a4, a5, a6, a7⟩
  cases hF : decide (0 ≤ q ∧ q ≤ 3) with
  | false =>
   have hN : Hid (R = false) := by unfold Hid; rw [hR1.out, hF]; rfl
   clear hR1 hF
   go_wp2
   go_ret
   exact ⟨by rw [hN.out]; rfl, B0⟩
  | true =>
   have hR2 : Hid (R = (vOk r c b p && (decide (0 ≤ h ∧ h ≤ 8) && !up))) := by unfold Hid; rw [hR1.out, hF]; rfl
   clear hR1 hF
   go_wp2_with fail
   go_at_call 47
   refine (vOkS r c b p y1).mono ?_
   rintro e y2 ⟨rfl, k2⟩
   have B2 := B0.trans (k2.mono B0.size)
   have A2 := A0.below k2 S0
   clear a0 a1 a2 a3 a4 a5 a6 a7 A0 k2
   obtain ⟨a0, a1, a2, a3, a4, a5, a6, a7⟩ := A2
   cases hF : vOk r c b p with
   | false =>
    have hN : Hid (R = false) := by unfold Hid; rw [hR2.out, hF]; rfl
    clear hR2 hF
    go_wp2
    go_ret
    exact ⟨by rw [hN.out]; rfl, B2⟩
   | true =>
    have hR3 : Hid (R = (decide (0 ≤ h ∧ h ≤ 8) && !up)) := by unfold Hid; rw [hR2.out, hF]; rfl
    clear hR2 hF
    go_wp2_with fail
    go_at_call 26
    refine (inB h 0 8 y2).mono ?_
    rintro e y3 ⟨rfl, rfl⟩
    cases hF : decide (0 ≤ h ∧ h ≤ 8) with
    | false =>
     have hN : Hid (R = false) := by unfold Hid; rw [hR3.out, hF]; rfl
     clear hR3 hF
     go_wp2
     go_ret
     exact ⟨by rw [hN.out]; rfl, B2⟩
    | true =>
     have hN : Hid (R = !up) := by unfold Hid; rw [hR3.out, hF]; rfl
     clear hR3 hF
     go_wp2
     go_ret
     exact ⟨by rw [hN.out]; rfl, B2⟩
 have d1 : (k == 1) = false := by simpa using h1
 by_cases h3 : k = 3
 ·
  subst h3
  have hR1 : Hid (R = (decide (0 ≤ q ∧ q ≤ 3) && (decide (r = 0 ∧ c = 0 ∧ b = 0 ∧ p = 0) && (h == 0)))) := hR
  clear hR h1 d1
  have B0 := below_new (w := w) (Obj.cells #[.int .i64 3, .int .i64 q, .int .i64 r, .int .i64 c, .int .i64 b, .int .i64 p, .int .i64 h, .bool up] 30)
  obtain ⟨y, hy⟩ : ∃ y, y = w.alloc (Obj.cells #[.int .i64 3, .int .i64 q, .int .i64 r, .int .i64 c, .int .i64 b, .int .i64 p, .int .i64 h, .bool up] 30) := ⟨_, rfl⟩
  rw [← hy] at B0
  have A0 : InAt y w.heap.size ⟨3, q, r, c, b, p, h, up⟩ := by rw [hy]; exact InAt.new w _ ⟨3, q, r, c, b, p, h, up⟩
  have S0 := A0.lt
  go_enter Try.func39, Try.ntmps39
  go_wp2_with fail
  go_at_call 26
  rw [← hy]
  clear hy
  refine (inB q 0 3 y).mono ?_
  rintro e y1 ⟨rfl, rfl⟩
  obtain ⟨a0, a1, a2, a3, a4, a5, a6, a7⟩ := A0
  cases hF : decide (0 ≤ q ∧ q ≤ 3) with
  | false =>
   have hN : Hid (R = false) := by unfold Hid; rw [hR1.out, hF]; rfl
   clear hR1 hF
   go_wp2
   go_ret
   exact ⟨by rw [hN.out]; rfl, B0⟩
  | true =>
   have hR2 : Hid (R = (decide (r = 0 ∧ c = 0 ∧ b = 0 ∧ p = 0) && (h == 0))) := by unfold Hid; rw [hR1.out, hF]; rfl
   clear hR1 hF
   have eV : ∀ w_ : World, (binOp .eql 28 (.agg #[.int .i64 r, .int .i64 c, .int .i64 b, .int .i64 p]) (.agg #[.int .i64 0, .int .i64 0, .int .i64 0, .int .i64 0])).run Try.prog w_ = .ok (.bool (decide (r = 0 ∧ c = 0 ∧ b = 0 ∧ p = 0))) w_ := fun w_ => by
    have := eqV r c b p 0 0 0 0 w_
    go_simp
   cases hF : decide (r = 0 ∧ c = 0 ∧ b = 0 ∧ p = 0) with
   | false =>
    have hN : Hid (R = false) := by unfold Hid; rw [hR2.out, hF]; rfl
    rw [hF] at eV
    clear hR2 hF
    go_wp2
    go_ret
    exact ⟨by rw [hN.out]; rfl, B0⟩
   | true =>
    have hN : Hid (R = (h == 0)) := by unfold Hid; rw [hR2.out, hF]; rfl
    rw [hF] at eV
    clear hR2 hF
    go_wp2
    go_ret
    exact ⟨by rw [hN.out]; rfl, B0⟩
 have d3 : (k == 3) = false := by simpa using h3
 by_cases h2 : k = 2
 ·
  subst h2
  have hN : Hid (R = decide (q = 0 ∧ r = 0 ∧ c = 0 ∧ b = 0 ∧ p = 0 ∧ h = 0 ∧ up = false)) := hR
  clear hR h1 d1 h3 d3
  have eI : ∀ w_ : World, (binOp .eql 30 (.agg #[.int .i64 2, .int .i64 q, .int .i64 r, .int .i64 c, .int .i64 b, .int .i64 p, .int .i64 h, .bool up]) (.agg #[.int .i64 2, .int .i64 0, .int .i64 0, .int .i64 0, .int .i64 0, .int .i64 0, .int .i64 0, .bool false])).run Try.prog w_ = .ok (.bool R) w_ := fun w_ => by
   rw [hN.out]
   go_simp
   all_goals ((repeat' split) <;> first | (simp_all; done) | grind)
  clear hN
  have B0 := below_new (w := w) (Obj.cells #[.int .i64 2, .int .i64 q, .int .i64 r, .int .i64 c, .int .i64 b, .int .i64 p, .int .i64 h, .bool up] 30)
  obtain ⟨y, hy⟩ : ∃ y, y = w.alloc (Obj.cells #[.int .i64 2, .int .i64 q, .int .i64 r, .int .i64 c, .int .i64 b, .int .i64 p, .int .i64 h, .bool up] 30) := ⟨_, rfl⟩
  rw [← hy] at B0
  have A0 : InAt y w.heap.size ⟨2, q, r, c, b, p, h, up⟩ := by rw [hy]; exact InAt.new w _ ⟨2, q, r, c, b, p, h, up⟩
  have S0 := A0.lt
  go_enter Try.func39, Try.ntmps39
  go_upto_region 7 with fail
  rw [← hy]
  clear hy
  obtain ⟨a0, a1, a2, a3, a4, a5, a6, a7⟩ := A0
  go_wp2
  go_ret
  exact ⟨rfl, B0⟩
 have d2 : (k == 2) = false := by simpa using h2
 have hN : Hid (R = false) := by unfold Hid; rw [hR]; unfold inOk; rw [if_neg h1, if_neg h3, if_neg h2]
 clear hR h1 h2 h3
 have B0 := below_new (w := w) (Obj.cells #[.int .i64 k, .int .i64 q, .int .i64 r, .int .i64 c, .int .i64 b, .int .i64 p, .int .i64 h, .bool up] 30)
 obtain ⟨y, hy⟩ : ∃ y, y = w.alloc (Obj.cells #[.int .i64 k, .int .i64 q, .int .i64 r, .int .i64 c, .int .i64 b, .int .i64 p, .int .i64 h, .bool up] 30) := ⟨_, rfl⟩
 rw [← hy] at B0
 have A0 : InAt y w.heap.size ⟨k, q, r, c, b, p, h, up⟩ := by rw [hy]; exact InAt.new w _ ⟨k, q, r, c, b, p, h, up⟩
 have S0 := A0.lt
 go_enter Try.func39, Try.ntmps39
 go_wp2
 go_ret
 rw [← hy]
 exact ⟨by rw [hN.out]; rfl, B0⟩
set_option maxHeartbeats 4000000 in
theorem tickedS (x : Pt) (w : World) (hok : pOk x = true) : Calls Try.prog 84 #[.agg #[.bool x.up, .bool x.has, .int .i64 x.r, .int .i64 x.c, .int .i64 x.b, .int .i64 x.p, .int .i64 x.h, .int .i64 x.l, .int .i64 x.ro, .int .i64 x.wa, .bool x.op]] w fun e w' => e = .returned (.agg #[.bool (tickP x).up, .bool (tickP x).has, .int .i64 (tickP x).r, .int .i64 (tickP x).c, .int .i64 (tickP x).b, .int .i64 (tickP x).p, .int .i64 (tickP x).h, .int .i64 (tickP x).l, .int .i64 (tickP x).ro, .int .i64 (tickP x).wa, .bool (tickP x).op]) ∧ Below w.heap.size w w' := by
 obtain ⟨y, hy⟩ : ∃ y, y = (w.alloc (Obj.cells #[.bool x.up, .bool x.has, .int .i64 x.r, .int .i64 x.c, .int .i64 x.b, .int .i64 x.p, .int .i64 x.h, .int .i64 x.l, .int .i64 x.ro, .int .i64 x.wa, .bool x.op] 119)).alloc (Obj.cells #[.bool false, .bool false, .int .i64 0, .int .i64 0, .int .i64 0, .int .i64 0, .int .i64 0, .int .i64 0, .int .i64 0, .int .i64 0, .bool false] 119) := ⟨_, rfl⟩
 have B0 : Below w.heap.size w y := by rw [hy]; exact ((Below.refl _ _).alloc (Nat.le_refl _) _).alloc (by simp) _
 have P0 : PBox y w.heap.size x := by rw [hy]; refine ⟨?_, fun i => ?_⟩; constructor <;> simp [go_sem]; simp [go_sem]
 have R0 : PBox y (w.heap.size + 1) Pt.nil := by rw [hy]; refine ⟨?_, fun i => ?_⟩; constructor <;> simp [go_sem, Pt.nil]; simp [go_sem]
 have S0 := R0.lt
 obtain ⟨t, ht⟩ : ∃ t, tickP x = t := ⟨_, rfl⟩
 rw [ht]
 obtain ⟨z, hz⟩ : ∃ z, fadeR x = z := ⟨_, rfl⟩
 have hti : Hid (t = if (z.ro = 1 ∨ z.ro = 2) ∧ 0 < z.wa then { z with wa := z.wa - 1, op := (z.wa - 1 == 0) } else z) := by unfold Hid; rw [← ht, tick_imp hok, hz]
 have hw4 : z.wa ≤ 4 ∧ 0 ≤ z.wa := by
  have := (pOk_parts.1 hok).2.2.2.1
  have e := (fadeR_keeps x).2.2.1
  rw [hz] at e
  omega
 have htr : Hid (t = { z with wa := tickW z, op := raOp z.ro (tickW z) }) := by unfold Hid; rw [← ht, ← hz]; rfl
 obtain ⟨hw4, hw0⟩ := hw4
 replace hz : Hid _ := hz
 clear ht hok
 go_enter Try.func84, Try.ntmps84
 go_wp2_with fail
 go_at_call 88
 rw [← hy]
 clear hy
 refine (fadeS x y).mono ?_
 rintro e w1 ⟨rfl, k1⟩
 rw [hz.out]
 have B1 := B0.trans (k1.mono B0.size)
 have P1 := P0.below k1 (by omega)
 have R1 := R0.below k1 (by omega)
 have S1 := R1.lt
 clear hz k1 P0 R0 B0 S0
 obtain ⟨y2, hy2⟩ : ∃ y_, y_ = (((((((((((w1.setCell ⟨w.heap.size, 0, none⟩ (.bool z.up)).setCell ⟨w.heap.size, 1, none⟩ (.bool z.has)).setCell ⟨w.heap.size, 2, none⟩ (.int .i64 z.r)).setCell ⟨w.heap.size, 3, none⟩ (.int .i64 z.c)).setCell ⟨w.heap.size, 4, none⟩ (.int .i64 z.b)).setCell ⟨w.heap.size, 5, none⟩ (.int .i64 z.p)).setCell ⟨w.heap.size, 6, none⟩ (.int .i64 z.h)).setCell ⟨w.heap.size, 7, none⟩ (.int .i64 z.l)).setCell ⟨w.heap.size, 8, none⟩ (.int .i64 z.ro)).setCell ⟨w.heap.size, 9, none⟩ (.int .i64 z.wa)).setCell ⟨w.heap.size, 10, none⟩ (.bool z.op)) := ⟨_, rfl⟩
 have P2 : PBox y2 w.heap.size z := by rw [hy2]; exact (((((((((((P1.set0 z.up).set1 z.has).set2 z.r).set3 z.c).set4 z.b).set5 z.p).set6 z.h).set7 z.l).set8 z.ro).set9 z.wa).set10 z.op)
 have R2 : PBox y2 (w.heap.size + 1) Pt.nil := by rw [hy2]; exact (((((((((((R1.other (by omega)).other (by omega)).other (by omega)).other (by omega)).other (by omega)).other (by omega)).other (by omega)).other (by omega)).other (by omega)).other (by omega)).other (by omega))
 have B2 : Below w.heap.size w y2 := by rw [hy2]; exact (((((((((((B1.setCell (p := ⟨w.heap.size, 0, none⟩) (by show _ ≤ w.heap.size; omega) (.bool z.up)).setCell (p := ⟨w.heap.size, 1, none⟩) (by show _ ≤ w.heap.size; omega) (.bool z.has)).setCell (p := ⟨w.heap.size, 2, none⟩) (by show _ ≤ w.heap.size; omega) (.int .i64 z.r)).setCell (p := ⟨w.heap.size, 3, none⟩) (by show _ ≤ w.heap.size; omega) (.int .i64 z.c)).setCell (p := ⟨w.heap.size, 4, none⟩) (by show _ ≤ w.heap.size; omega) (.int .i64 z.b)).setCell (p := ⟨w.heap.size, 5, none⟩) (by show _ ≤ w.heap.size; omega) (.int .i64 z.p)).setCell (p := ⟨w.heap.size, 6, none⟩) (by show _ ≤ w.heap.size; omega) (.int .i64 z.h)).setCell (p := ⟨w.heap.size, 7, none⟩) (by show _ ≤ w.heap.size; omega) (.int .i64 z.l)).setCell (p := ⟨w.heap.size, 8, none⟩) (by show _ ≤ w.heap.size; omega) (.int .i64 z.ro)).setCell (p := ⟨w.heap.size, 9, none⟩) (by show _ ≤ w.heap.size; omega) (.int .i64 z.wa)).setCell (p := ⟨w.heap.size, 10, none⟩) (by show _ ≤ w.heap.size; omega) (.bool z.op))
 have P1' := P1
 obtain ⟨⟨p0, p1, p2, p3, p4, p5, p6, p7, p8, p9, p10⟩, pf⟩ := P1
 go_upto_region 2 with fail
 rw [← hy2]
 clear hy2 p0 p1 p2 p3 p4 p5 p6 p7 p8 p9 p10 pf P1' R1 B1
 obtain ⟨⟨p0, p1, p2, p3, p4, p5, p6, p7, p8, p9, p10⟩, pf⟩ := P2
 have P2 : PBox y2 w.heap.size z := ⟨⟨p0, p1, p2, p3, p4, p5, p6, p7, p8, p9, p10⟩, pf⟩
 by_cases h1 : z.ro = 1
 ·
  have d1 : (z.ro == 1) = true := by simpa using h1
  by_cases h0 : 0 < z.wa
  focus
   have d0 : decide (0 < z.wa) = true := decide_eq_true h0
   have hcc : Hid ((z.ro = 1 ∨ z.ro = 2) ∧ 0 < z.wa) := ⟨.inl h1, h0⟩
   replace h1 : Hid _ := h1
   have P3 := P2.set9 (z.wa - 1)
   have B3 := B2.setCell (p := ⟨w.heap.size, 9, none⟩) (Nat.le_refl w.heap.size) (.int .i64 (z.wa - 1))
   have R3 := R2.other (q' := w.heap.size) (i := 9) (v := .int .i64 (z.wa - 1)) (by omega)
   obtain ⟨y3, hy3⟩ : ∃ y_, y_ = y2.setCell ⟨w.heap.size, 9, none⟩ (.int .i64 (z.wa - 1)) := ⟨_, rfl⟩
   rw [← hy3] at P3 B3 R3
   go_upto_region 4 with fail
   rw [← hy3]
   clear hy3 p0 p1 p2 p3 p4 p5 p6 p7 p8 p9 p10 pf P2 B2 R2
   obtain ⟨v, hv⟩ : ∃ v, v = ({ z with wa := z.wa - 1 } : Pt) := ⟨_, rfl⟩
   have P3 : PBox y3 w.heap.size v := by rw [hv]; exact P3
   replace hv : Hid _ := hv
   obtain ⟨⟨p0, p1, p2, p3, p4, p5, p6, p7, p8, p9, p10⟩, pf⟩ := P3
   go_wp2_with fail
   go_at_call 89
   refine (openS v y3).mono ?_
   rintro e w4 ⟨rfl, k4⟩
   have B4 := B3.trans (k4.mono B3.size)
   have S4 : w.heap.size + 1 < y3.heap.size := R3.lt
   have R4 := R3.below k4 S4
   obtain ⟨o, ho⟩ : ∃ o : Pt, o = { v with op := raOp v.ro v.wa } := ⟨_, rfl⟩
   have ho0 : Value.agg #[.bool o.up, .bool o.has, .int .i64 o.r, .int .i64 o.c, .int .i64 o.b, .int .i64 o.p, .int .i64 o.h, .int .i64 o.l, .int .i64 o.ro, .int .i64 o.wa, .bool o.op] = Value.agg #[.bool v.up, .bool v.has, .int .i64 v.r, .int .i64 v.c, .int .i64 v.b, .int .i64 v.p, .int .i64 v.h, .int .i64 v.l, .int .i64 v.ro, .int .i64 v.wa, .bool (raOp v.ro v.wa)] := by rw [ho]
   rw [← ho0]
   have hT : Hid (t = o) := by unfold Hid; rw [htr.out, ho]; rw [hv.out]; unfold tickW; rw [if_pos hcc.out]
  rotate_left
  focus
   have d0 : decide (0 < z.wa) = false := decide_eq_false h0
   have hcc : Hid (¬ ((z.ro = 1 ∨ z.ro = 2) ∧ 0 < z.wa)) := fun e => h0 e.2
   replace h1 : Hid _ := h1
   replace h0 : Hid _ := h0
   go_upto_region 4 with fail
   go_wp2_with fail
   go_at_call 89
   refine (openS z y2).mono ?_
   rintro e w4 ⟨rfl, k4⟩
   have B4 := B2.trans (k4.mono B2.size)
   have S4 : w.heap.size + 1 < y2.heap.size := R2.lt
   have R4 := R2.below k4 S4
   obtain ⟨o, ho⟩ : ∃ o : Pt, o = { z with op := raOp z.ro z.wa } := ⟨_, rfl⟩
   have ho0 : Value.agg #[.bool o.up, .bool o.has, .int .i64 o.r, .int .i64 o.c, .int .i64 o.b, .int .i64 o.p, .int .i64 o.h, .int .i64 o.l, .int .i64 o.ro, .int .i64 o.wa, .bool o.op] = Value.agg #[.bool z.up, .bool z.has, .int .i64 z.r, .int .i64 z.c, .int .i64 z.b, .int .i64 z.p, .int .i64 z.h, .int .i64 z.l, .int .i64 z.ro, .int .i64 z.wa, .bool (raOp z.ro z.wa)] := by rw [ho]
   rw [← ho0]
   have hT : Hid (t = o) := by unfold Hid; rw [htr.out, ho]; unfold tickW; rw [if_neg hcc.out]
  rotate_left
  all_goals
   clear ho ho0 k4 p0 p1 p2 p3 p4 p5 p6 p7 p8 p9 p10 pf
   have RZ := (((((((((((R4.set0 o.up).set1 o.has).set2 o.r).set3 o.c).set4 o.b).set5 o.p).set6 o.h).set7 o.l).set8 o.ro).set9 o.wa).set10 o.op)
   have BZ := (((((((((((B4.setCell (p := ⟨w.heap.size + 1, 0, none⟩) (by show _ ≤ w.heap.size + 1; omega) (.bool o.up)).setCell (p := ⟨w.heap.size + 1, 1, none⟩) (by show _ ≤ w.heap.size + 1; omega) (.bool o.has)).setCell (p := ⟨w.heap.size + 1, 2, none⟩) (by show _ ≤ w.heap.size + 1; omega) (.int .i64 o.r)).setCell (p := ⟨w.heap.size + 1, 3, none⟩) (by show _ ≤ w.heap.size + 1; omega) (.int .i64 o.c)).setCell (p := ⟨w.heap.size + 1, 4, none⟩) (by show _ ≤ w.heap.size + 1; omega) (.int .i64 o.b)).setCell (p := ⟨w.heap.size + 1, 5, none⟩) (by show _ ≤ w.heap.size + 1; omega) (.int .i64 o.p)).setCell (p := ⟨w.heap.size + 1, 6, none⟩) (by show _ ≤ w.heap.size + 1; omega) (.int .i64 o.h)).setCell (p := ⟨w.heap.size + 1, 7, none⟩) (by show _ ≤ w.heap.size + 1; omega) (.int .i64 o.l)).setCell (p := ⟨w.heap.size + 1, 8, none⟩) (by show _ ≤ w.heap.size + 1; omega) (.int .i64 o.ro)).setCell (p := ⟨w.heap.size + 1, 9, none⟩) (by show _ ≤ w.heap.size + 1; omega) (.int .i64 o.wa)).setCell (p := ⟨w.heap.size + 1, 10, none⟩) (by show _ ≤ w.heap.size + 1; omega) (.bool o.op))
   obtain ⟨⟨z0, z1, z2, z3, z4, z5, z6, z7, z8, z9, z10⟩, _⟩ := RZ
   obtain ⟨⟨r0, r1, r2, r3, r4, r5, r6, r7, r8, r9, r10⟩, rf⟩ := R4
   go_wp2
   refine bodyPost_ret (v := .agg #[.bool o.up, .bool o.has, .int .i64 o.r, .int .i64 o.c, .int .i64 o.b, .int .i64 o.p, .int .i64 o.h, .int .i64 o.l, .int .i64 o.ro, .int .i64 o.wa, .bool o.op]) (by simp [results, Try.results84, go_sem, *]) rfl ⟨by rw [hT.out], BZ⟩
 have d1 : (z.ro == 1) = false := by simpa using h1
 by_cases h2 : z.ro = 2
 ·
  have d2 : (z.ro == 2) = true := by simpa using h2
  by_cases h0 : 0 < z.wa
  focus
   have d0 : decide (0 < z.wa) = true := decide_eq_true h0
   have hcc : Hid ((z.ro = 1 ∨ z.ro = 2) ∧ 0 < z.wa) := ⟨.inr h2, h0⟩
   replace h2 : Hid _ := h2
   replace h1 : Hid _ := h1
   have P3 := P2.set9 (z.wa - 1)
   have B3 := B2.setCell (p := ⟨w.heap.size, 9, none⟩) (Nat.le_refl w.heap.size) (.int .i64 (z.wa - 1))
   have R3 := R2.other (q' := w.heap.size) (i := 9) (v := .int .i64 (z.wa - 1)) (by omega)
   obtain ⟨y3, hy3⟩ : ∃ y_, y_ = y2.setCell ⟨w.heap.size, 9, none⟩ (.int .i64 (z.wa - 1)) := ⟨_, rfl⟩
   rw [← hy3] at P3 B3 R3
   go_upto_region 4 with fail
   rw [← hy3]
   clear hy3 p0 p1 p2 p3 p4 p5 p6 p7 p8 p9 p10 pf P2 B2 R2
   obtain ⟨v, hv⟩ : ∃ v, v = ({ z with wa := z.wa - 1 } : Pt) := ⟨_, rfl⟩
   have P3 : PBox y3 w.heap.size v := by rw [hv]; exact P3
   replace hv : Hid _ := hv
   obtain ⟨⟨p0, p1, p2, p3, p4, p5, p6, p7, p8, p9, p10⟩, pf⟩ := P3
   go_wp2_with fail
   go_at_call 89
   refine (openS v y3).mono ?_
   rintro e w4 ⟨rfl, k4⟩
   have B4 := B3.trans (k4.mono B3.size)
   have S4 : w.heap.size + 1 < y3.heap.size := R3.lt
   have R4 := R3.below k4 S4
   obtain ⟨o, ho⟩ : ∃ o : Pt, o = { v with op := raOp v.ro v.wa } := ⟨_, rfl⟩
   have ho0 : Value.agg #[.bool o.up, .bool o.has, .int .i64 o.r, .int .i64 o.c, .int .i64 o.b, .int .i64 o.p, .int .i64 o.h, .int .i64 o.l, .int .i64 o.ro, .int .i64 o.wa, .bool o.op] = Value.agg #[.bool v.up, .bool v.has, .int .i64 v.r, .int .i64 v.c, .int .i64 v.b, .int .i64 v.p, .int .i64 v.h, .int .i64 v.l, .int .i64 v.ro, .int .i64 v.wa, .bool (raOp v.ro v.wa)] := by rw [ho]
   rw [← ho0]
   have hT : Hid (t = o) := by unfold Hid; rw [htr.out, ho]; rw [hv.out]; unfold tickW; rw [if_pos hcc.out]
  rotate_left
  focus
   have d0 : decide (0 < z.wa) = false := decide_eq_false h0
   have hcc : Hid (¬ ((z.ro = 1 ∨ z.ro = 2) ∧ 0 < z.wa)) := fun e => h0 e.2
   replace h2 : Hid _ := h2
   replace h1 : Hid _ := h1
   replace h0 : Hid _ := h0
   go_upto_region 4 with fail
   go_wp2_with fail
   go_at_call 89
   refine (openS z y2).mono ?_
   rintro e w4 ⟨rfl, k4⟩
   have B4 := B2.trans (k4.mono B2.size)
   have S4 : w.heap.size + 1 < y2.heap.size := R2.lt
   have R4 := R2.below k4 S4
   obtain ⟨o, ho⟩ : ∃ o : Pt, o = { z with op := raOp z.ro z.wa } := ⟨_, rfl⟩
   have ho0 : Value.agg #[.bool o.up, .bool o.has, .int .i64 o.r, .int .i64 o.c, .int .i64 o.b, .int .i64 o.p, .int .i64 o.h, .int .i64 o.l, .int .i64 o.ro, .int .i64 o.wa, .bool o.op] = Value.agg #[.bool z.up, .bool z.has, .int .i64 z.r, .int .i64 z.c, .int .i64 z.b, .int .i64 z.p, .int .i64 z.h, .int .i64 z.l, .int .i64 z.ro, .int .i64 z.wa, .bool (raOp z.ro z.wa)] := by rw [ho]
   rw [← ho0]
   have hT : Hid (t = o) := by unfold Hid; rw [htr.out, ho]; unfold tickW; rw [if_neg hcc.out]
  rotate_left
  all_goals
   clear ho ho0 k4 p0 p1 p2 p3 p4 p5 p6 p7 p8 p9 p10 pf
   have RZ := (((((((((((R4.set0 o.up).set1 o.has).set2 o.r).set3 o.c).set4 o.b).set5 o.p).set6 o.h).set7 o.l).set8 o.ro).set9 o.wa).set10 o.op)
   have BZ := (((((((((((B4.setCell (p := ⟨w.heap.size + 1, 0, none⟩) (by show _ ≤ w.heap.size + 1; omega) (.bool o.up)).setCell (p := ⟨w.heap.size + 1, 1, none⟩) (by show _ ≤ w.heap.size + 1; omega) (.bool o.has)).setCell (p := ⟨w.heap.size + 1, 2, none⟩) (by show _ ≤ w.heap.size + 1; omega) (.int .i64 o.r)).setCell (p := ⟨w.heap.size + 1, 3, none⟩) (by show _ ≤ w.heap.size + 1; omega) (.int .i64 o.c)).setCell (p := ⟨w.heap.size + 1, 4, none⟩) (by show _ ≤ w.heap.size + 1; omega) (.int .i64 o.b)).setCell (p := ⟨w.heap.size + 1, 5, none⟩) (by show _ ≤ w.heap.size + 1; omega) (.int .i64 o.p)).setCell (p := ⟨w.heap.size + 1, 6, none⟩) (by show _ ≤ w.heap.size + 1; omega) (.int .i64 o.h)).setCell (p := ⟨w.heap.size + 1, 7, none⟩) (by show _ ≤ w.heap.size + 1; omega) (.int .i64 o.l)).setCell (p := ⟨w.heap.size + 1, 8, none⟩) (by show _ ≤ w.heap.size + 1; omega) (.int .i64 o.ro)).setCell (p := ⟨w.heap.size + 1, 9, none⟩) (by show _ ≤ w.heap.size + 1; omega) (.int .i64 o.wa)).setCell (p := ⟨w.heap.size + 1, 10, none⟩) (by show _ ≤ w.heap.size + 1; omega) (.bool o.op))
   obtain ⟨⟨z0, z1, z2, z3, z4, z5, z6, z7, z8, z9, z10⟩, _⟩ := RZ
   obtain ⟨⟨r0, r1, r2, r3, r4, r5, r6, r7, r8, r9, r10⟩, rf⟩ := R4
   go_wp2
   refine bodyPost_ret (v := .agg #[.bool o.up, .bool o.has, .int .i64 o.r, .int .i64 o.c, .int .i64 o.b, .int .i64 o.p, .int .i64 o.h, .int .i64 o.l, .int .i64 o.ro, .int .i64 o.wa, .bool o.op]) (by simp [results, Try.results84, go_sem, *]) rfl ⟨by rw [hT.out], BZ⟩
 have d2 : (z.ro == 2) = false := by simpa using h2
 have hcc : Hid (¬ ((z.ro = 1 ∨ z.ro = 2) ∧ 0 < z.wa)) := fun e => by rcases e.1 with q | q; exact h1 q; exact h2 q
 replace h1 : Hid _ := h1
 replace h2 : Hid _ := h2
 go_upto_region 4 with fail
 go_wp2_with fail
 go_at_call 89
 refine (openS z y2).mono ?_
 rintro e w4 ⟨rfl, k4⟩
 have B4 := B2.trans (k4.mono B2.size)
 have S4 : w.heap.size + 1 < y2.heap.size := R2.lt
 have R4 := R2.below k4 S4
 obtain ⟨o, ho⟩ : ∃ o : Pt, o = { z with op := raOp z.ro z.wa } := ⟨_, rfl⟩
 have ho0 : Value.agg #[.bool o.up, .bool o.has, .int .i64 o.r, .int .i64 o.c, .int .i64 o.b, .int .i64 o.p, .int .i64 o.h, .int .i64 o.l, .int .i64 o.ro, .int .i64 o.wa, .bool o.op] = Value.agg #[.bool z.up, .bool z.has, .int .i64 z.r, .int .i64 z.c, .int .i64 z.b, .int .i64 z.p, .int .i64 z.h, .int .i64 z.l, .int .i64 z.ro, .int .i64 z.wa, .bool (raOp z.ro z.wa)] := by rw [ho]
 rw [← ho0]
 have hT : Hid (t = o) := by unfold Hid; rw [htr.out, ho]; unfold tickW; rw [if_neg hcc.out]
 clear ho ho0 k4 p0 p1 p2 p3 p4 p5 p6 p7 p8 p9 p10 pf
 have RZ := (((((((((((R4.set0 o.up).set1 o.has).set2 o.r).set3 o.c).set4 o.b).set5 o.p).set6 o.h).set7 o.l).set8 o.ro).set9 o.wa).set10 o.op)
 have BZ := (((((((((((B4.setCell (p := ⟨w.heap.size + 1, 0, none⟩) (by show _ ≤ w.heap.size + 1; omega) (.bool o.up)).setCell (p := ⟨w.heap.size + 1, 1, none⟩) (by show _ ≤ w.heap.size + 1; omega) (.bool o.has)).setCell (p := ⟨w.heap.size + 1, 2, none⟩) (by show _ ≤ w.heap.size + 1; omega) (.int .i64 o.r)).setCell (p := ⟨w.heap.size + 1, 3, none⟩) (by show _ ≤ w.heap.size + 1; omega) (.int .i64 o.c)).setCell (p := ⟨w.heap.size + 1, 4, none⟩) (by show _ ≤ w.heap.size + 1; omega) (.int .i64 o.b)).setCell (p := ⟨w.heap.size + 1, 5, none⟩) (by show _ ≤ w.heap.size + 1; omega) (.int .i64 o.p)).setCell (p := ⟨w.heap.size + 1, 6, none⟩) (by show _ ≤ w.heap.size + 1; omega) (.int .i64 o.h)).setCell (p := ⟨w.heap.size + 1, 7, none⟩) (by show _ ≤ w.heap.size + 1; omega) (.int .i64 o.l)).setCell (p := ⟨w.heap.size + 1, 8, none⟩) (by show _ ≤ w.heap.size + 1; omega) (.int .i64 o.ro)).setCell (p := ⟨w.heap.size + 1, 9, none⟩) (by show _ ≤ w.heap.size + 1; omega) (.int .i64 o.wa)).setCell (p := ⟨w.heap.size + 1, 10, none⟩) (by show _ ≤ w.heap.size + 1; omega) (.bool o.op))
 obtain ⟨⟨z0, z1, z2, z3, z4, z5, z6, z7, z8, z9, z10⟩, _⟩ := RZ
 obtain ⟨⟨r0, r1, r2, r3, r4, r5, r6, r7, r8, r9, r10⟩, rf⟩ := R4
 go_wp2
 refine bodyPost_ret (v := .agg #[.bool o.up, .bool o.has, .int .i64 o.r, .int .i64 o.c, .int .i64 o.b, .int .i64 o.p, .int .i64 o.h, .int .i64 o.l, .int .i64 o.ro, .int .i64 o.wa, .bool o.op]) (by simp [results, Try.results84, go_sem, *]) rfl ⟨by rw [hT.out], BZ⟩
end Go.Proofs.Ytnpiljegdiconaa
