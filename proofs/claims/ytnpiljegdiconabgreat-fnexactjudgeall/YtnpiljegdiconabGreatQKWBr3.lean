import Derived.Test.YtnpiljegdiconabGreatQM1
namespace Go.Proofs.YtnpiljegdiconabGreat
open Go.ChangeShapes Go.WideShapes Go.ChangeAt Go.RowKit
open Go.ChangeMaps (open_string shut_string)
set_option linter.unusedVariables false
set_option maxRecDepth 100000
theorem pall_no {L : List Pt} {k : Nat} (h : k < L.length) (hq : pOk (L.getD k Pt.nil) = false) : L.all pOk = false := by
 rw [List.all_eq_false]
 exact ⟨L[k], List.getElem_mem h, by rw [show L.getD k Pt.nil = L[k] by simp [List.getD, h]] at hq; simp [hq]⟩
theorem pall_yes {L : List Pt} (h : ∀ j, j < L.length → pOk (L.getD j Pt.nil) = true) : L.all pOk = true := by
 rw [List.all_eq_true]
 intro x hx
 obtain ⟨i, hi, rfl⟩ := List.getElem_of_mem hx
 have := h i hi
 rwa [show L.getD i Pt.nil = L[i] by simp [List.getD, hi]] at this
theorem noPortI (x : Pt) (w : World) : Calls Tryz.prog 113 #[.agg #[.bool x.up, .bool x.has, .int .i64 x.r, .int .i64 x.c, .int .i64 x.b, .int .i64 x.p, .int .i64 x.h, .int .i64 x.l, .int .i64 x.ro, .int .i64 x.wa, .bool x.op]] w fun e w' => e = .returned (.bool (!pOk x)) ∧ Below w.heap.size w w' := by
 obtain ⟨y, hy⟩ := mk_ (w.alloc (Obj.cells #[.bool x.up, .bool x.has, .int .i64 x.r, .int .i64 x.c, .int .i64 x.b, .int .i64 x.p, .int .i64 x.h, .int .i64 x.l, .int .i64 x.ro, .int .i64 x.wa, .bool x.op] 113))
 have B0 : Below w.heap.size w y := by rw [hy]; exact below_new _
 obtain ⟨o, ho⟩ := mk_ (pOk x)
 rw [← ho]
 replace ho : Hid _ := ho
 go_enter Tryz.func113, Tryz.ntmps113
 go_wp2_with fail
 go_at_call 132
 rw [← hy]
 clear hy
 refine (pOkI x y).mono ?_
 rintro e w1 ⟨rfl, k1⟩
 have B1 := B0.trans (k1.mono B0.size)
 rw [← ho.out]
 go_wp2
 go_ret
 exact ⟨rfl, B1⟩
set_option maxHeartbeats 1000000 in
theorem idxP (ad : Option Addr) (cap : Nat) (L : List Pt) (w : World) (hv : FView ptEnc w ad L) (hl : L.length ≤ 1048576) :
  Calls Tryz.prog 131 #[.slice ad L.length cap, .func (Fn.func 113) #[] #[]] w fun e w' => (∃ r : Int, e = .returned (.int .i64 r) ∧ (decide (0 ≤ r) = !L.all pOk) ∧ r ≤ 1048576 ∧ -1 ≤ r) ∧ Below w.heap.size w w' := by
 have hB := hv.lt ptEnc_len (by omega)
 go_enter Tryz.func131, Tryz.ntmps131
 go_wp2
 go_loopw [8] (fun i wr => ∃ k : Nat, i = .int .i64 (k : Int) ∧ k ≤ L.length ∧ Hid (∀ j, j < k → pOk (L.getD j Pt.nil) = true) ∧ Below w.heap.size w wr) (fun i _ => L.length - (intOf i).toNat)
 case atStart => exact ⟨0, rfl, Nat.zero_le _, fun j hj => absurd hj (by omega), Below.refl _ _⟩
 case round =>
  obtain ⟨k, rfl, hk, hF, hb⟩ := hrel
  by_cases hlt : k < L.length
  ·
   obtain ⟨b, off, rfl, _⟩ := hv (by omega)
   obtain ⟨h, hh⟩ : ∃ h, L.getD k Pt.nil = h := ⟨_, rfl⟩
   have hck : PtAtO wr b (off + k * 11) h := by
    rw [← hh]
    exact ptAtO_of ((hv.below hb hB).at_ ptEnc_len Pt.nil hlt)
   obtain ⟨c0, c1, c2, c3, c4, c5, c6, c7, c8, c9, c10⟩ := hck
   replace hh : Hid _ := hh
   clear hB hv
   go_wp2_with fail
   go_at_call 113
   refine (noPortI h wr).mono ?_
   rintro e w3 ⟨rfl, k3⟩
   have b3 := hb.trans (k3.mono hb.size)
   by_cases hq : pOk h = true
   ·
    rw [hq]
    go_wp2
    go_roundw
    case rel =>
     refine ⟨k + 1, by go_num, by omega, fun j hj => ?_, b3⟩
     by_cases e : j = k
     ·
      rw [e, hh.out]; exact hq
     ·
      exact hF.out j (by omega)
    case measure => simp [intOf]; omega
   ·
    have hq' : pOk h = false := by simpa using hq
    rw [hq']
    go_wp2
    go_ret
    refine ⟨⟨k, rfl, ?_, by omega, by omega⟩, b3⟩
    rw [pall_no hlt (by rw [hh.out]; exact hq')]
    simp
  ·
   obtain rfl : k = L.length := by omega
   go_wp2
   go_ret
   refine ⟨⟨-1, rfl, ?_, by omega, by omega⟩, hb⟩
   rw [pall_yes hF.out]
   rfl
theorem contP (ad : Option Addr) (cap : Nat) (L : List Pt) (w : World) (hv : FView ptEnc w ad L) (hl : L.length ≤ 1048576) :
  Calls Tryz.prog 112 #[.slice ad L.length cap, .func (Fn.func 113) #[] #[]] w fun e w' => e = .returned (.bool (!L.all pOk)) ∧ Below w.heap.size w w' := by
 have hI := idxP ad cap L w hv hl
 generalize (!L.all pOk) = B at *
 go_enter Tryz.func112, Tryz.ntmps112
 go_wp2_with fail
 go_at_call 131
 refine hI.mono ?_
 rintro e w1 ⟨⟨r, rfl, hr, r1, r2⟩, k1⟩
 go_wp2
 go_ret
 exact ⟨rfl, k1⟩
set_option maxHeartbeats 1000000 in
theorem bOkI (id : Int) (ad : Option Addr) (cap : Nat) (L : List Pt) (w : World) (hv : FView ptEnc w ad L) (hl : L.length ≤ 1048576) :
  Calls Tryz.prog 90 #[.agg #[.int .i64 id, .slice ad L.length cap]] w fun e w' => e = .returned (.bool (bOk id L)) ∧ Below w.heap.size w w' := by
 have hB := hv.lt ptEnc_len (by omega)
 obtain ⟨R, hR⟩ := mk_ (bOk id L)
 rw [← hR]
 by_cases h1 : 1 ≤ id
 rotate_left
 ·
  have hC : R = false := by rw [hR]; simp only [bOk, decide_eq_false (show ¬ (1 ≤ id ∧ id ≤ 9) by omega)]; simp
  rw [hC]
  clear hC hR
  have d1 : decide (1 ≤ id) = false := decide_eq_false h1
  clear h1
  go_enter Tryz.func90, Tryz.ntmps90
  go_wp2
  go_ret
  exact ⟨rfl, below_new _⟩
 have d1 : decide (1 ≤ id) = true := decide_eq_true h1
 by_cases h2 : id ≤ 9
 rotate_left
 ·
  have hC : R = false := by rw [hR]; simp only [bOk, decide_eq_false (show ¬ (1 ≤ id ∧ id ≤ 9) by omega)]; simp
  rw [hC]
  clear hC hR
  have d2 : decide (id ≤ 9) = false := decide_eq_false h2
  clear h1 h2
  go_enter Tryz.func90, Tryz.ntmps90
  go_wp2
  go_ret
  exact ⟨rfl, below_new _⟩
 have d2 : decide (id ≤ 9) = true := decide_eq_true h2
 by_cases h3 : 1 ≤ L.length
 rotate_left
 ·
  have hC : R = false := by rw [hR]; simp only [bOk, decide_eq_false (show ¬ (1 ≤ L.length ∧ L.length ≤ 4) by omega)]; simp
  rw [hC]
  clear hC hR
  have d3 : decide (1 ≤ (L.length : Int)) = false := decide_eq_false (by omega)
  clear h3
  go_enter Tryz.func90, Tryz.ntmps90
  go_wp2
  go_ret
  exact ⟨rfl, below_new _⟩
 have d3 : decide (1 ≤ (L.length : Int)) = true := decide_eq_true (by omega)
 by_cases h4 : L.length ≤ 4
 rotate_left
 ·
  have hC : R = false := by rw [hR]; simp only [bOk, decide_eq_false (show ¬ (1 ≤ L.length ∧ L.length ≤ 4) by omega)]; simp
  rw [hC]
  clear hC hR
  have d4 : decide ((L.length : Int) ≤ 4) = false := decide_eq_false (by omega)
  clear h4
  go_enter Tryz.func90, Tryz.ntmps90
  go_wp2
  go_ret
  exact ⟨rfl, below_new _⟩
 have d4 : decide ((L.length : Int) ≤ 4) = true := decide_eq_true (by omega)
 have hC : R = L.all pOk := by rw [hR]; simp only [bOk, decide_eq_true (show 1 ≤ id ∧ id ≤ 9 from ⟨h1, h2⟩), decide_eq_true (show 1 ≤ L.length ∧ L.length ≤ 4 from ⟨h3, h4⟩)]; simp
 clear hR
 obtain ⟨y, hy⟩ := mk_ (w.alloc (Obj.cells #[.int .i64 id, .slice ad L.length cap] 69))
 have B0 : Below w.heap.size w y := by rw [hy]; exact below_new _
 go_enter Tryz.func90, Tryz.ntmps90
 go_wp2_with fail
 go_at_call 112
 rw [← hy]
 clear hy
 refine (contP ad cap L y (hv.below B0 hB) hl).mono ?_
 rintro e w1 ⟨rfl, k1⟩
 have B1 := B0.trans (k1.mono B0.size)
 rw [← hC]
 clear hC
 cases R
 ·
  go_wp2
  go_ret
  exact ⟨rfl, B1⟩
 ·
  go_wp2
  go_ret
  exact ⟨rfl, B1⟩
set_option maxHeartbeats 1000000 in
theorem bOkS (id : Int) (ad : Option Addr) (cap : Nat) (L : List Pt) (w : World) (hv : FView ptEnc w ad L) (hl : L.length ≤ 1048576) :
  Calls Tryz.prog 73 #[.agg #[.int .i64 id, .slice ad L.length cap]] w fun e w' => e = .returned (.bool (bOk id L)) ∧ Below w.heap.size w w' := by
 have hB := hv.lt ptEnc_len (by omega)
 obtain ⟨y, hy⟩ := mk_ (w.alloc (Obj.cells #[.int .i64 id, .slice ad L.length cap] 69))
 have B0 : Below w.heap.size w y := by rw [hy]; exact below_new _
 have A0 : BrAt y w.heap.size id (.slice ad L.length cap) := by rw [hy]; exact BrAt.new w _ _ _
 have S0 := A0.lt
 have hv := hv.below B0 hB
 have hB := hv.lt ptEnc_len (by omega)
 obtain ⟨R, hR⟩ := mk_ (bOk id L)
 rw [← hR]
 replace hR : Hid _ := hR
 go_enter Tryz.func73, Tryz.ntmps73
 go_wp2
 rw [← hy]
 clear hy
 go_loopw [3] (fun i wr => ∃ k : Nat, i = .int .i64 (k : Int) ∧ k ≤ L.length ∧ Hid (∀ j, j < k → pOk (L.getD j Pt.nil) = true) ∧ Below y.heap.size y wr) (fun i _ => L.length - (intOf i).toNat)
 case atStart => exact ⟨0, rfl, Nat.zero_le _, fun j hj => absurd hj (by omega), Below.refl _ _⟩
 case round =>
  obtain ⟨k, rfl, hk, hF, hb⟩ := hrel
  obtain ⟨a0, a1⟩ := A0.below hb S0
  by_cases hlt : k < L.length
  ·
   obtain ⟨b, off, rfl, _⟩ := hv (by omega)
   obtain ⟨h, hh⟩ : ∃ h, L.getD k Pt.nil = h := ⟨_, rfl⟩
   have hck : PtAtO wr b (off + k * 11) h := by
    rw [← hh]
    exact ptAtO_of ((hv.below hb hB).at_ ptEnc_len Pt.nil hlt)
   obtain ⟨c0, c1, c2, c3, c4, c5, c6, c7, c8, c9, c10⟩ := hck
   replace hh : Hid _ := hh
   clear hB hv
   go_wp2_with fail
   go_at_call 99
   refine (pOkS h wr).mono ?_
   rintro e w3 ⟨rfl, k3⟩
   have b3 := hb.trans (k3.mono hb.size)
   by_cases hq : pOk h = true
   ·
    rw [hq]
    go_wp2
    go_roundw
    case rel =>
     refine ⟨k + 1, by go_num, by omega, fun j hj => ?_, b3⟩
     by_cases e : j = k
     ·
      rw [e, hh.out]; exact hq
     ·
      exact hF.out j (by omega)
    case measure => simp [intOf]; omega
   ·
    have hq' : pOk h = false := by simpa using hq
    rw [hq']
    have hC : Hid (R = false) := by
     unfold Hid; rw [hR.out, bOk, pall_no hlt (by rw [hh.out]; exact hq')]; simp
    clear hR
    go_wp2
    go_ret
    exact ⟨by rw [hC.out]; rfl, B0.trans (b3.mono B0.size)⟩
  ·
   obtain rfl : k = L.length := by omega
   have hP := pall_yes hF.out
   have B1 := B0.trans (hb.mono B0.size)
   by_cases h1 : 1 ≤ id ∧ id ≤ 9
   ·
    have d1 : decide (1 ≤ id ∧ id ≤ 9) = true := decide_eq_true h1
    have hC : Hid (R = decide (1 ≤ (L.length : Int) ∧ (L.length : Int) ≤ 4)) := by
     unfold Hid; rw [hR.out, bOk, hP, d1, Bool.true_and, Bool.and_true]; exact decide_eq_decide.2 (by omega)
    clear hR hP h1
    go_wp2_with fail
    go_at_call 46
    refine (inB id 1 9 wr).mono ?_
    rintro e w4 ⟨rfl, rfl⟩
    rw [d1]
    go_wp2_with fail
    go_at_call 46
    refine (inB L.length 1 4 w4).mono ?_
    rintro e w5 ⟨rfl, rfl⟩
    rw [← hC.out]
    go_wp2
    go_ret
    exact ⟨rfl, B1⟩
   ·
    have d1 : decide (1 ≤ id ∧ id ≤ 9) = false := decide_eq_false h1
    have hC : Hid (R = false) := by
     unfold Hid; rw [hR.out, bOk, d1]; simp
    clear hR hP h1
    go_wp2_with fail
    go_at_call 46
    refine (inB id 1 9 wr).mono ?_
    rintro e w4 ⟨rfl, rfl⟩
    rw [d1]
    go_wp2
    go_ret
    exact ⟨by rw [hC.out]; rfl, B1⟩
theorem portIsI (id : Int) (ad : Option Addr) (cap : Nat) (L : List Pt) (p : Int) (w : World) (hl : L.length ≤ 1048576) :
  Calls Tryz.prog 92 #[.agg #[.int .i64 id, .slice ad L.length cap], .int .i64 p] w fun e w' => e = .returned (.bool (decide (0 ≤ p ∧ p < (L.length : Int)))) ∧ Below w.heap.size w w' := by
 by_cases h1 : 0 ≤ p
 ·
  have d1 : decide (0 ≤ p) = true := decide_eq_true h1
  have e : decide (0 ≤ p ∧ p < (L.length : Int)) = decide (p < (L.length : Int)) := by simp [h1]
  rw [e]
  clear e h1
  generalize hd : decide (p < (L.length : Int)) = o
  cases o
  ·
   go_enter Tryz.func92, Tryz.ntmps92
   go_wp2
   go_ret
   exact ⟨rfl, below_new _⟩
  ·
   go_enter Tryz.func92, Tryz.ntmps92
   go_wp2
   go_ret
   exact ⟨rfl, below_new _⟩
 ·
  have d1 : decide (0 ≤ p) = false := decide_eq_false h1
  have e : decide (0 ≤ p ∧ p < (L.length : Int)) = false := by simp; omega
  rw [e]
  clear e h1
  go_enter Tryz.func92, Tryz.ntmps92
  go_wp2
  go_ret
  exact ⟨rfl, below_new _⟩
theorem cand_up {id : Int} {x : Pt} (h : pOk x = true) : (x.up && cand id x) = cand id x := by
 cases hh : x.has
 ·
  simp [cand, hh]
 ·
  rw [(pOk_has h hh).1]; rfl
set_option maxHeartbeats 1000000 in
theorem canFI (id : Int) (x : Pt) (w : World) : Calls Tryz.prog 154 #[.int .i64 id, .agg #[.bool x.up, .bool x.has, .int .i64 x.r, .int .i64 x.c, .int .i64 x.b, .int .i64 x.p, .int .i64 x.h, .int .i64 x.l, .int .i64 x.ro, .int .i64 x.wa, .bool x.op]] w fun e w' => e = .returned (.bool (x.up && cand id x)) ∧ Below w.heap.size w w' := by
 obtain ⟨up, has, r, c, b, p, h, l, ro, wa, op⟩ := x
 dsimp only
 cases up
 ·
  rw [show (false && cand id ⟨false, has, r, c, b, p, h, l, ro, wa, op⟩) = false from rfl]
  go_enter Tryz.func154, Tryz.ntmps154
  go_wp2
  go_ret
  exact ⟨rfl, below_new _⟩
 cases has
 ·
  rw [show (true && cand id ⟨true, false, r, c, b, p, h, l, ro, wa, op⟩) = false from rfl]
  go_enter Tryz.func154, Tryz.ntmps154
  go_wp2
  go_ret
  exact ⟨rfl, below_new _⟩
 have e : (true && cand id ⟨true, true, r, c, b, p, h, l, ro, wa, op⟩) = (!(b == id) && (decide (r < id) && (decide (c < 20) && decide (h < 8)))) := by simp [cand]
 rw [e]
 clear e
 by_cases h1 : b = id
 ·
  subst h1
  rw [show (!(b == b) && (decide (r < b) && (decide (c < 20) && decide (h < 8)))) = false by simp]
  go_enter Tryz.func154, Tryz.ntmps154
  go_wp2
  go_ret
  exact ⟨rfl, below_new _⟩
 have d1 : (b == id) = false := by simpa using h1
 have d1' : (b != id) = true := by simpa using h1
 rw [d1]
 clear h1
 by_cases h2 : r < id
 rotate_left
 ·
  have d2 : decide (r < id) = false := decide_eq_false h2
  rw [d2]
  clear h2
  rw [show (!false && (false && (decide (c < 20) && decide (h < 8)))) = false from rfl]
  go_enter Tryz.func154, Tryz.ntmps154
  go_wp2
  go_ret
  exact ⟨rfl, below_new _⟩
 have d2 : decide (r < id) = true := decide_eq_true h2
 rw [d2]
 clear h2
 by_cases h3 : c < 20
 rotate_left
 ·
  have d3 : decide (c < 20) = false := decide_eq_false h3
  rw [d3]
  clear h3
  rw [show (!false && (true && (false && decide (h < 8)))) = false from rfl]
  go_enter Tryz.func154, Tryz.ntmps154
  go_wp2
  go_ret
  exact ⟨rfl, below_new _⟩
 have d3 : decide (c < 20) = true := decide_eq_true h3
 rw [d3]
 clear h3
 by_cases h4 : h < 8
 ·
  have d4 : decide (h < 8) = true := decide_eq_true h4
  rw [d4]
  clear h4
  rw [show (!false && (true && (true && true))) = true from rfl]
  go_enter Tryz.func154, Tryz.ntmps154
  go_wp2
  go_ret
  exact ⟨rfl, below_new _⟩
 ·
  have d4 : decide (h < 8) = false := decide_eq_false h4
  rw [d4]
  clear h4
  rw [show (!false && (true && (true && false))) = false from rfl]
  go_enter Tryz.func154, Tryz.ntmps154
  go_wp2
  go_ret
  exact ⟨rfl, below_new _⟩
end Go.Proofs.YtnpiljegdiconabGreat
