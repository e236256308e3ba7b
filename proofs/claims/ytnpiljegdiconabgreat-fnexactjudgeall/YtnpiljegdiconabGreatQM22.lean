import Derived.Test.YtnpiljegdiconabGreatQM18
import Derived.Test.YtnpiljegdiconabGreatQM14
namespace Go.Proofs.YtnpiljegdiconabGreat
open Go.ChangeShapes Go.WideShapes Go.ChangeAt Go.RowKit
open Go.ChangeMaps (open_string shut_string)
set_option linter.unusedVariables false
set_option maxRecDepth 100000
theorem allK_no {X : Type} {p : X → Bool} {L : List X} (d : X) {k : Nat} (h : k < L.length) (hq : p (L.getD k d) = false) : L.all p = false := by
 rw [Bool.eq_false_iff]
 intro e
 have := List.all_eq_true.1 e (L.getD k d) (by simp [List.getD, h])
 rw [hq] at this
 cases this
theorem allK_yes {X : Type} {p : X → Bool} {L : List X} (d : X) (h : ∀ j, j < L.length → p (L.getD j d) = true) : L.all p = true := by
 rw [List.all_eq_true]
 intro x hx
 obtain ⟨i, hi, rfl⟩ := List.mem_iff_getElem.1 hx
 have := h i hi
 rwa [show L.getD i d = L[i] by simp [List.getD, hi]] at this
set_option maxHeartbeats 1000000 in
theorem idxMi (ad : Option Addr) (cap : Nat) (L : List MiD) (w : World) (hv : FView mdEnc w ad L) (hl : L.length ≤ 1048576) (hn : ∀ i, i < L.length → FView ikEnc w (L.getD i MiD.nil).ad (L.getD i MiD.nil).m.lg) (hm : ∀ i, i < L.length → (L.getD i MiD.nil).m.lg.length ≤ 1048576) :
  Calls Tryz.prog 102 #[.slice ad L.length cap, .func (Fn.func 78) #[] #[]] w fun e w' => (∃ r : Int, e = .returned (.int .i64 r) ∧ (decide (0 ≤ r) = !L.all (fun d => miOk d.m)) ∧ r ≤ 1048576 ∧ -1 ≤ r) ∧ Below w.heap.size w w' := by
 have hB := hv.lt mdEnc_len (by omega)
 go_enter Tryz.func102, Tryz.ntmps102
 go_wp2
 go_loopw [8] (fun i wr => ∃ k : Nat, i = .int .i64 (k : Int) ∧ k ≤ L.length ∧ Hid (∀ j, j < k → (fun d => miOk d.m) (L.getD j MiD.nil) = true) ∧ Below w.heap.size w wr) (fun i _ => L.length - (intOf i).toNat)
 case atStart => exact ⟨0, rfl, Nat.zero_le _, fun j hj => absurd hj (by omega), Below.refl _ _⟩
 case round =>
  obtain ⟨k, rfl, hk, hF, hb⟩ := hrel
  by_cases hlt : k < L.length
  ·
   obtain ⟨b, off, rfl, _⟩ := hv (by omega)
   obtain ⟨h, hh⟩ : ∃ h, L.getD k MiD.nil = h := ⟨_, rfl⟩
   have hck : MdAtO wr b (off + k * 7) h := by
    rw [← hh]
    exact mdAtO_of ((hv.below hb hB).at_ mdEnc_len MiD.nil hlt)
   have hvw : FView ikEnc wr h.ad h.m.lg := by rw [← hh]; exact (hn k hlt).below hb ((hn k hlt).lt ikEnc_len (by omega))
   have hlw : h.m.lg.length ≤ 1048577 := by rw [← hh]; exact Nat.le_trans (hm k hlt) (by omega)
   clear hn hm
   obtain ⟨c0, c1, c2, c3, c4, c5, c6⟩ := hck
   replace hh : Hid _ := hh
   clear hB hv
   go_wp2_with fail
   go_at_call 78
   refine (noMiI h.m h.ad h.cap wr hvw hlw).mono ?_
   rintro e w3 ⟨rfl, k3⟩
   have b3 := hb.trans (k3.mono hb.size)
   by_cases hq : miOk h.m = true
   ·
    rw [hq]
    go_wp2
    go_roundw
    case rel =>
     refine ⟨k + 1, by go_num, by omega, fun j hj => ?_, b3⟩
     by_cases e : j = k
     ·
      rw [e, hh.out]; exact hq
     ·
      exact hF.out j (by omega)
    case measure => simp [intOf]; omega
   ·
    have hq' : miOk h.m = false := by simpa using hq
    rw [hq']
    go_wp2
    go_ret
    refine ⟨⟨k, rfl, ?_, by omega, by omega⟩, b3⟩
    rw [allK_no MiD.nil hlt (by rw [hh.out]; exact hq')]
    simp
  ·
   obtain rfl : k = L.length := by omega
   go_wp2
   go_ret
   refine ⟨⟨-1, rfl, ?_, by omega, by omega⟩, hb⟩
   rw [allK_yes MiD.nil hF.out]
   rfl
theorem contMi (ad : Option Addr) (cap : Nat) (L : List MiD) (w : World) (hv : FView mdEnc w ad L) (hl : L.length ≤ 1048576) (hn : ∀ i, i < L.length → FView ikEnc w (L.getD i MiD.nil).ad (L.getD i MiD.nil).m.lg) (hm : ∀ i, i < L.length → (L.getD i MiD.nil).m.lg.length ≤ 1048576) :
  Calls Tryz.prog 77 #[.slice ad L.length cap, .func (Fn.func 78) #[] #[]] w fun e w' => e = .returned (.bool (!L.all (fun d => miOk d.m))) ∧ Below w.heap.size w w' := by
 have hI := idxMi ad cap L w hv hl hn hm
 generalize (!L.all (fun d => miOk d.m)) = B at *
 go_enter Tryz.func77, Tryz.ntmps77
 go_wp2_with fail
 go_at_call 102
 refine hI.mono ?_
 rintro e w1 ⟨⟨r, rfl, hr, r1, r2⟩, k1⟩
 go_wp2
 go_ret
 exact ⟨rfl, k1⟩
set_option maxHeartbeats 1000000 in
theorem idxWi (ad : Option Addr) (cap : Nat) (L : List Wi) (w : World) (hv : FView wiEnc w ad L) (hl : L.length ≤ 1048576) :
  Calls Tryz.prog 104 #[.slice ad L.length cap, .func (Fn.func 80) #[] #[]] w fun e w' => (∃ r : Int, e = .returned (.int .i64 r) ∧ (decide (0 ≤ r) = !L.all wiOk) ∧ r ≤ 1048576 ∧ -1 ≤ r) ∧ Below w.heap.size w w' := by
 have hB := hv.lt wiEnc_len (by omega)
 go_enter Tryz.func104, Tryz.ntmps104
 go_wp2
 go_loopw [8] (fun i wr => ∃ k : Nat, i = .int .i64 (k : Int) ∧ k ≤ L.length ∧ Hid (∀ j, j < k → wiOk (L.getD j Wi.nil) = true) ∧ Below w.heap.size w wr) (fun i _ => L.length - (intOf i).toNat)
 case atStart => exact ⟨0, rfl, Nat.zero_le _, fun j hj => absurd hj (by omega), Below.refl _ _⟩
 case round =>
  obtain ⟨k, rfl, hk, hF, hb⟩ := hrel
  by_cases hlt : k < L.length
  ·
   obtain ⟨b, off, rfl, _⟩ := hv (by omega)
   obtain ⟨h, hh⟩ : ∃ h, L.getD k Wi.nil = h := ⟨_, rfl⟩
   have hck : WiAtO wr b (off + k * 12) h := by
    rw [← hh]
    exact wiAtO_of ((hv.below hb hB).at_ wiEnc_len Wi.nil hlt)
   obtain ⟨c0, c1, c2, c3, c4, c5, c6, c7, c8, c9, c10, c11⟩ := hck
   replace hh : Hid _ := hh
   clear hB hv
   go_wp2_with fail
   go_at_call 80
   refine (noWiI h wr).mono ?_
   rintro e w3 ⟨rfl, k3⟩
   have b3 := hb.trans (k3.mono hb.size)
   by_cases hq : wiOk h = true
   ·
    rw [hq]
    go_wp2
    go_roundw
    case rel =>
     refine ⟨k + 1, by go_num, by omega, fun j hj => ?_, b3⟩
     by_cases e : j = k
     ·
      rw [e, hh.out]; exact hq
     ·
      exact hF.out j (by omega)
    case measure => simp [intOf]; omega
   ·
    have hq' : wiOk h = false := by simpa using hq
    rw [hq']
    go_wp2
    go_ret
    refine ⟨⟨k, rfl, ?_, by omega, by omega⟩, b3⟩
    rw [allK_no Wi.nil hlt (by rw [hh.out]; exact hq')]
    simp
  ·
   obtain rfl : k = L.length := by omega
   go_wp2
   go_ret
   refine ⟨⟨-1, rfl, ?_, by omega, by omega⟩, hb⟩
   rw [allK_yes Wi.nil hF.out]
   rfl
theorem contWi (ad : Option Addr) (cap : Nat) (L : List Wi) (w : World) (hv : FView wiEnc w ad L) (hl : L.length ≤ 1048576) :
  Calls Tryz.prog 79 #[.slice ad L.length cap, .func (Fn.func 80) #[] #[]] w fun e w' => e = .returned (.bool (!L.all wiOk)) ∧ Below w.heap.size w w' := by
 have hI := idxWi ad cap L w hv hl
 generalize (!L.all wiOk) = B at *
 go_enter Tryz.func79, Tryz.ntmps79
 go_wp2_with fail
 go_at_call 104
 refine hI.mono ?_
 rintro e w1 ⟨⟨r, rfl, hr, r1, r2⟩, k1⟩
 go_wp2
 go_ret
 exact ⟨rfl, k1⟩
set_option maxHeartbeats 1000000 in
theorem idxIn (ad : Option Addr) (cap : Nat) (L : List Ik) (w : World) (hv : FView ikEnc w ad L) (hl : L.length ≤ 1048576) :
  Calls Tryz.prog 106 #[.slice ad L.length cap, .func (Fn.func 82) #[] #[]] w fun e w' => (∃ r : Int, e = .returned (.int .i64 r) ∧ (decide (0 ≤ r) = !L.all inOk) ∧ r ≤ 1048576 ∧ -1 ≤ r) ∧ Below w.heap.size w w' := by
 have hB := hv.lt ikEnc_len (by omega)
 go_enter Tryz.func106, Tryz.ntmps106
 go_wp2
 go_loopw [8] (fun i wr => ∃ k : Nat, i = .int .i64 (k : Int) ∧ k ≤ L.length ∧ Hid (∀ j, j < k → inOk (L.getD j Ik.nil) = true) ∧ Below w.heap.size w wr) (fun i _ => L.length - (intOf i).toNat)
 case atStart => exact ⟨0, rfl, Nat.zero_le _, fun j hj => absurd hj (by omega), Below.refl _ _⟩
 case round =>
  obtain ⟨k, rfl, hk, hF, hb⟩ := hrel
  by_cases hlt : k < L.length
  ·
   obtain ⟨b, off, rfl, _⟩ := hv (by omega)
   obtain ⟨h, hh⟩ : ∃ h, L.getD k Ik.nil = h := ⟨_, rfl⟩
   have hck : IkAtO wr b (off + k * 8) h := by
    rw [← hh]
    exact ikAtO_of ((hv.below hb hB).at_ ikEnc_len Ik.nil hlt)
   obtain ⟨c0, c1, c2, c3, c4, c5, c6, c7⟩ := hck
   replace hh : Hid _ := hh
   clear hB hv
   go_wp2_with fail
   go_at_call 82
   refine (noInI h wr).mono ?_
   rintro e w3 ⟨rfl, k3⟩
   have b3 := hb.trans (k3.mono hb.size)
   by_cases hq : inOk h = true
   ·
    rw [hq]
    go_wp2
    go_roundw
    case rel =>
     refine ⟨k + 1, by go_num, by omega, fun j hj => ?_, b3⟩
     by_cases e : j = k
     ·
      rw [e, hh.out]; exact hq
     ·
      exact hF.out j (by omega)
    case measure => simp [intOf]; omega
   ·
    have hq' : inOk h = false := by simpa using hq
    rw [hq']
    go_wp2
    go_ret
    refine ⟨⟨k, rfl, ?_, by omega, by omega⟩, b3⟩
    rw [allK_no Ik.nil hlt (by rw [hh.out]; exact hq')]
    simp
  ·
   obtain rfl : k = L.length := by omega
   go_wp2
   go_ret
   refine ⟨⟨-1, rfl, ?_, by omega, by omega⟩, hb⟩
   rw [allK_yes Ik.nil hF.out]
   rfl
theorem contIn (ad : Option Addr) (cap : Nat) (L : List Ik) (w : World) (hv : FView ikEnc w ad L) (hl : L.length ≤ 1048576) :
  Calls Tryz.prog 81 #[.slice ad L.length cap, .func (Fn.func 82) #[] #[]] w fun e w' => e = .returned (.bool (!L.all inOk)) ∧ Below w.heap.size w w' := by
 have hI := idxIn ad cap L w hv hl
 generalize (!L.all inOk) = B at *
 go_enter Tryz.func81, Tryz.ntmps81
 go_wp2_with fail
 go_at_call 106
 refine hI.mono ?_
 rintro e w1 ⟨⟨r, rfl, hr, r1, r2⟩, k1⟩
 go_wp2
 go_ret
 exact ⟨rfl, k1⟩
theorem bxOk_seq (x : BxD) : bxOk x.p = (nOk x.id x.po && (rgOk x.rg && (decide (x.two.length = 2) && (x.two.all (fun d => miOk d.m) && (decide (x.net.length ≤ 20) && (x.net.all wiOk && (decide ((x.ga.length : Int) = x.po) && (decide (x.ln.length ≤ 60) && (x.ln.all inOk && (decide (x.sd.length ≤ 40))))))))))) := by
 rw [Bool.eq_iff_iff, bxOk_is]
 simp only [Bool.and_eq_true, decide_eq_true_eq]
 have hl : x.p.two.length = x.two.length := by unfold BxD.p; simp
 have h2 : x.two.length = 2 → (x.two.all (fun d => miOk d.m) = true ↔ miOk (mOf x.p 0) = true ∧ miOk (mOf x.p 1) = true) := by
  intro h
  obtain ⟨a, b, e⟩ : ∃ a b, x.two = [a, b] := by
   match hx : x.two, h with
   | [a, b], _ => exact ⟨a, b, rfl⟩
  rw [mOf_p, mOf_p, e]
  simp
 have hi : insB x.p.ln = true ↔ x.ln.length ≤ 60 ∧ x.ln.all inOk = true := by
  show insB x.ln = true ↔ _
  unfold insB
  simp only [Bool.and_eq_true, decide_eq_true_eq]
  exact And.comm
 rw [hl, hi]
 constructor
 ·
  rintro ⟨a1, a2, a3, a4, a5, a6, a7, a8, ⟨a9, b9⟩, a10⟩
  exact ⟨a1, a2, a3, (h2 a3).2 ⟨a4, a5⟩, a7, a6, a8, a9, b9, a10⟩
 ·
  rintro ⟨a1, a2, a3, a4, a7, a6, a8, a9, b9, a10⟩
  exact ⟨a1, a2, a3, ((h2 a3).1 a4).1, ((h2 a3).1 a4).2, a6, a7, a8, ⟨a9, b9⟩, a10⟩
set_option maxHeartbeats 8000000 in
theorem boxOkI (x : BxD) (w : World) (hV : BxV w x) :
  Calls Tryz.prog 53 #[.agg #[.int .i64 x.id, .int .i64 x.po, .int .i64 x.rg.ep, .int .i64 x.rg.ow, .int .i64 x.rg.pa, .slice x.aT x.two.length x.cT, .slice x.aN x.net.length x.cN, .slice x.aG x.ga.length x.cG, .slice x.aL x.ln.length x.cL, .slice x.aS x.sd.length x.cS]] w fun e w' => e = .returned (.bool (bxOk x.p)) ∧ Below w.heap.size w w' := by
 obtain ⟨R, hR⟩ := mk_ (bxOk x.p)
 rw [← hR]
 replace hR : Hid _ := hR
 obtain ⟨y, hy⟩ := mk_ (w.alloc (Obj.cells #[.int .i64 x.id, .int .i64 x.po, .int .i64 x.rg.ep, .int .i64 x.rg.ow, .int .i64 x.rg.pa, .slice x.aT x.two.length x.cT, .slice x.aN x.net.length x.cN, .slice x.aG x.ga.length x.cG, .slice x.aL x.ln.length x.cL, .slice x.aS x.sd.length x.cS] 39))
 have B0 : Below w.heap.size w y := by rw [hy]; exact below_new _
 have A : BxAt y w.heap.size x := by rw [hy]; exact BxAt.new w _ x
 have V := hV.later B0
 clear hV
 go_enter Tryz.func53, Tryz.ntmps53
 have cc := A
 obtain ⟨a0, a1, a2, a3, a4, a5, a6, a7, a8, a9⟩ := cc
 go_wp2_with fail
 go_at_call 68
 rw [← hy]
 clear a0 a1 a2 a3 a4 a5 a6 a7 a8 a9 hy
 refine (newBI x.id x.po y).mono ?_
 rintro e u0 ⟨ad', cap', rfl, O', k0⟩
 have A := A.below k0 A.lt
 have V := V.later k0
 have B1 := B0.trans (k0.mono B0.size)
 clear k0 O'
 obtain ⟨u1, hu1⟩ := mk_ (u0.alloc (Obj.cells #[.int .i64 (newI x.id x.po), .slice ad' (newL x.id x.po).length cap'] 69))
 have kk : Below u0.heap.size u0 u1 := by rw [hu1]; exact below_new _
 have A := A.below kk A.lt
 have V := V.later kk
 have B2 := B1.trans (kk.mono B1.size)
 clear kk B1
 go_upto_region 2 with fail
 rw [← hu1]
 clear hu1
 cases h1 : nOk x.id x.po
 ·
  have hN : Hid (R = false) := by unfold Hid; rw [hR.out, bxOk_seq, h1]; rfl
  replace h1 : Hid _ := h1
  have cc := A
  obtain ⟨a0, a1, a2, a3, a4, a5, a6, a7, a8, a9⟩ := cc
  go_wp2
  go_ret
  exact ⟨by rw [hN.out]; rfl, B2⟩
 ·
  replace h1 : Hid _ := h1
  have cc := A
  obtain ⟨a0, a1, a2, a3, a4, a5, a6, a7, a8, a9⟩ := cc
  go_wp2_with fail
  go_at_call 76
  clear a0 a1 a2 a3 a4 a5 a6 a7 a8 a9
  refine (regOkI x.rg u1).mono ?_
  rintro e u2 ⟨rfl, kk⟩
  have A := A.below kk A.lt
  have V := V.later kk
  have B2' := B2.trans (kk.mono B2.size)
  clear kk
  cases h2 : rgOk x.rg
  ·
   have hN : Hid (R = false) := by unfold Hid; rw [hR.out, bxOk_seq, h1.out, h2]; rfl
   replace h2 : Hid _ := h2
   have cc := A
   obtain ⟨a0, a1, a2, a3, a4, a5, a6, a7, a8, a9⟩ := cc
   go_wp2
   go_ret
   exact ⟨by rw [hN.out]; rfl, B2'⟩
  ·
   replace h2 : Hid _ := h2
   by_cases e3 : x.two.length = 2
   ·
    have d3 : ((x.two.length : Int) == 2) = true := by rw [beq_iff_eq]; omega
    have h3 : Hid (decide (x.two.length = 2) = true) := decide_eq_true e3
    replace e3 : Hid _ := e3
    have cc := A
    obtain ⟨a0, a1, a2, a3, a4, a5, a6, a7, a8, a9⟩ := cc
    go_wp2_with fail
    go_at_call 77
    clear a0 a1 a2 a3 a4 a5 a6 a7 a8 a9
    refine (contMi x.aT x.cT x.two u2 V.t V.bt V.l V.bl).mono ?_
    rintro e u4 ⟨rfl, kk⟩
    have A := A.below kk A.lt
    have V := V.later kk
    have B2'' := B2'.trans (kk.mono B2'.size)
    clear kk
    cases h4 : x.two.all (fun d => miOk d.m)
    ·
     have hN : Hid (R = false) := by unfold Hid; rw [hR.out, bxOk_seq, h1.out, h2.out, h3.out, h4]; rfl
     replace h4 : Hid _ := h4
     have cc := A
     obtain ⟨a0, a1, a2, a3, a4, a5, a6, a7, a8, a9⟩ := cc
     go_wp2
     go_ret
     exact ⟨by rw [hN.out]; rfl, B2''⟩
    ·
     replace h4 : Hid _ := h4
     by_cases e5 : x.net.length ≤ 20
     ·
      have d5 : decide ((x.net.length : Int) ≤ 20) = true := decide_eq_true (by omega)
      have h5 : Hid (decide (x.net.length ≤ 20) = true) := decide_eq_true e5
      replace e5 : Hid _ := e5
      have cc := A
      obtain ⟨a0, a1, a2, a3, a4, a5, a6, a7, a8, a9⟩ := cc
      go_wp2_with fail
      go_at_call 79
      clear a0 a1 a2 a3 a4 a5 a6 a7 a8 a9
      refine (contWi x.aN x.cN x.net u4 V.n V.bn).mono ?_
      rintro e u6 ⟨rfl, kk⟩
      have A := A.below kk A.lt
      have V := V.later kk
      have B2''' := B2''.trans (kk.mono B2''.size)
      clear kk
      cases h6 : x.net.all wiOk
      ·
       have hN : Hid (R = false) := by unfold Hid; rw [hR.out, bxOk_seq, h1.out, h2.out, h3.out, h4.out, h5.out, h6]; rfl
       replace h6 : Hid _ := h6
       have cc := A
       obtain ⟨a0, a1, a2, a3, a4, a5, a6, a7, a8, a9⟩ := cc
       go_wp2
       go_ret
       exact ⟨by rw [hN.out]; rfl, B2'''⟩
      ·
       replace h6 : Hid _ := h6
       by_cases e7 : (x.ga.length : Int) = x.po
       ·
        have d7 : ((x.ga.length : Int) == x.po) = true := by simpa using e7
        have h7 : Hid (decide ((x.ga.length : Int) = x.po) = true) := decide_eq_true e7
        replace e7 : Hid _ := e7
        by_cases e8 : x.ln.length ≤ 60
        ·
         have d8 : decide ((x.ln.length : Int) ≤ 60) = true := decide_eq_true (by omega)
         have h8 : Hid (decide (x.ln.length ≤ 60) = true) := decide_eq_true e8
         replace e8 : Hid _ := e8
         have cc := A
         obtain ⟨a0, a1, a2, a3, a4, a5, a6, a7, a8, a9⟩ := cc
         go_wp2_with fail
         go_at_call 81
         clear a0 a1 a2 a3 a4 a5 a6 a7 a8 a9
         refine (contIn x.aL x.cL x.ln u6 V.i V.bi).mono ?_
         rintro e u9 ⟨rfl, kk⟩
         have A := A.below kk A.lt
         have V := V.later kk
         have B2'''' := B2'''.trans (kk.mono B2'''.size)
         clear kk
         cases h9 : x.ln.all inOk
         ·
          have hN : Hid (R = false) := by unfold Hid; rw [hR.out, bxOk_seq, h1.out, h2.out, h3.out, h4.out, h5.out, h6.out, h7.out, h8.out, h9]; rfl
          replace h9 : Hid _ := h9
          have cc := A
          obtain ⟨a0, a1, a2, a3, a4, a5, a6, a7, a8, a9⟩ := cc
          go_wp2
          go_ret
          exact ⟨by rw [hN.out]; rfl, B2''''⟩
         ·
          replace h9 : Hid _ := h9
          by_cases e10 : x.sd.length ≤ 40
          ·
           have d10 : decide ((x.sd.length : Int) ≤ 40) = true := decide_eq_true (by omega)
           have h10 : Hid (decide (x.sd.length ≤ 40) = true) := decide_eq_true e10
           replace e10 : Hid _ := e10
           have hN : Hid (R = true) := by unfold Hid; rw [hR.out, bxOk_seq, h1.out, h2.out, h3.out, h4.out, h5.out, h6.out, h7.out, h8.out, h9.out, h10.out]; rfl
           have cc := A
           obtain ⟨a0, a1, a2, a3, a4, a5, a6, a7, a8, a9⟩ := cc
           go_wp2
           go_ret
           exact ⟨by rw [hN.out]; rfl, B2''''⟩
          ·
           have d10 : decide ((x.sd.length : Int) ≤ 40) = false := decide_eq_false (by omega)
           have h10 : decide (x.sd.length ≤ 40) = false := decide_eq_false e10
           replace e10 : Hid _ := e10
           have hN : Hid (R = false) := by unfold Hid; rw [hR.out, bxOk_seq, h1.out, h2.out, h3.out, h4.out, h5.out, h6.out, h7.out, h8.out, h9.out, h10]; rfl
           replace h10 : Hid _ := h10
           have cc := A
           obtain ⟨a0, a1, a2, a3, a4, a5, a6, a7, a8, a9⟩ := cc
           go_wp2
           go_ret
           exact ⟨by rw [hN.out]; rfl, B2''''⟩
        ·
         have d8 : decide ((x.ln.length : Int) ≤ 60) = false := decide_eq_false (by omega)
         have h8 : decide (x.ln.length ≤ 60) = false := decide_eq_false e8
         replace e8 : Hid _ := e8
         have hN : Hid (R = false) := by unfold Hid; rw [hR.out, bxOk_seq, h1.out, h2.out, h3.out, h4.out, h5.out, h6.out, h7.out, h8]; rfl
         replace h8 : Hid _ := h8
         have cc := A
         obtain ⟨a0, a1, a2, a3, a4, a5, a6, a7, a8, a9⟩ := cc
         go_wp2
         go_ret
         exact ⟨by rw [hN.out]; rfl, B2'''⟩
       ·
        have d7 : ((x.ga.length : Int) == x.po) = false := by simpa using e7
        have h7 : decide ((x.ga.length : Int) = x.po) = false := decide_eq_false e7
        replace e7 : Hid _ := e7
        have hN : Hid (R = false) := by unfold Hid; rw [hR.out, bxOk_seq, h1.out, h2.out, h3.out, h4.out, h5.out, h6.out, h7]; rfl
        replace h7 : Hid _ := h7
        have cc := A
        obtain ⟨a0, a1, a2, a3, a4, a5, a6, a7, a8, a9⟩ := cc
        go_wp2
        go_ret
        exact ⟨by rw [hN.out]; rfl, B2'''⟩
     ·
      have d5 : decide ((x.net.length : Int) ≤ 20) = false := decide_eq_false (by omega)
      have h5 : decide (x.net.length ≤ 20) = false := decide_eq_false e5
      replace e5 : Hid _ := e5
      have hN : Hid (R = false) := by unfold Hid; rw [hR.out, bxOk_seq, h1.out, h2.out, h3.out, h4.out, h5]; rfl
      replace h5 : Hid _ := h5
      have cc := A
      obtain ⟨a0, a1, a2, a3, a4, a5, a6, a7, a8, a9⟩ := cc
      go_wp2
      go_ret
      exact ⟨by rw [hN.out]; rfl, B2''⟩
   ·
    have d3 : ((x.two.length : Int) == 2) = false := by rw [beq_eq_false_iff_ne]; omega
    have h3 : decide (x.two.length = 2) = false := decide_eq_false e3
    replace e3 : Hid _ := e3
    have hN : Hid (R = false) := by unfold Hid; rw [hR.out, bxOk_seq, h1.out, h2.out, h3]; rfl
    replace h3 : Hid _ := h3
    have cc := A
    obtain ⟨a0, a1, a2, a3, a4, a5, a6, a7, a8, a9⟩ := cc
    go_wp2
    go_ret
    exact ⟨by rw [hN.out]; rfl, B2'⟩
end Go.Proofs.YtnpiljegdiconabGreat
