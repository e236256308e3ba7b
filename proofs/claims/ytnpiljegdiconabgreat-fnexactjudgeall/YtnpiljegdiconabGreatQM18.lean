import Derived.Test.YtnpiljegdiconabGreatQKWBr5s
import Derived.Test.YtnpiljegdiconabGreatQKWMg5
namespace Go.Proofs.YtnpiljegdiconabGreat
open Go.ChangeShapes Go.WideShapes Go.ChangeAt Go.RowKit
open Go.ChangeMaps (open_string shut_string)
set_option linter.unusedVariables false
set_option maxRecDepth 100000
set_option maxHeartbeats 4000000 in
theorem ownS (id : Int) (ad : Option Addr) (cap : Nat) (L : List Pt) (port : Int) (w : World) (hv : FView ptEnc w ad L) (hl : L.length ≤ 1048576) :
  Calls Tryz.prog 88 #[.agg #[.int .i64 id, .slice ad L.length cap], .int .i64 port] w fun e w' => e = .returned (.agg #[.int .i64 (ownR id L port).1, .int .i64 (ownR id L port).2.1, .int .i64 (ownR id L port).2.2.1, .int .i64 (ownR id L port).2.2.2]) ∧ Below w.heap.size w w' := by
 have hB := hv.lt ptEnc_len (by omega)
 obtain ⟨y, hy⟩ := mk_ ((w.alloc (Obj.cells #[.int .i64 id, .slice ad L.length cap] 69)).alloc (Obj.cells #[.int .i64 0, .int .i64 0, .int .i64 0, .int .i64 0] 78))
 have B0 : Below w.heap.size w y := by rw [hy]; exact ((Below.refl _ _).alloc (Nat.le_refl _) _).alloc (by simp) _
 have A0 : BrAt y w.heap.size id (.slice ad L.length cap) := by rw [hy]; constructor <;> simp [go_sem]
 have V0 : VBox y (w.heap.size + 1) 0 0 0 0 := by rw [hy]; refine ⟨?_, fun i => ?_⟩; (refine ⟨?_, ?_, ?_, ?_⟩ <;> simp [go_sem]); simp [go_sem]
 have S0 : w.heap.size + 1 < y.heap.size := V0.lt
 have hv1 := hv.below B0 hB
 have hB1 := hv1.lt ptEnc_len (by omega)
 obtain ⟨Y, hY⟩ := mk_ (ownR id L port)
 rw [← hY]
 replace hY : Hid _ := hY
 go_enter Tryz.func88, Tryz.ntmps88
 go_wp2_with fail
 go_at_call 73
 rw [← hy]
 clear hy hv hB
 refine (bOkS id ad cap L y hv1 hl).mono ?_
 rintro e w1 ⟨rfl, k1⟩
 have B1 : Below w.heap.size w w1 := B0.trans (k1.mono B0.size)
 have A1 := A0.below k1 (by omega)
 have V1 := V0.below k1 (by omega)
 have S1 : w.heap.size + 1 < w1.heap.size := V1.lt
 have hv2 := hv1.below k1 hB1
 have hB2 := hv2.lt ptEnc_len (by omega)
 clear A0 V0 hv1 hB1 k1 B0 S0
 cases hb : bOk id L with
 | false =>
  have hN : Hid (Y = (0, 0, 0, 0)) := by unfold Hid; rw [hY.out]; unfold ownR; rw [hb]; rfl
  clear hY
  obtain ⟨⟨t0, t1, t2, t3⟩, tf⟩ := V1
  have BZ := B1.setCell (p := ⟨w.heap.size + 1, 0, none⟩) (by show _ ≤ w.heap.size + 1; omega) (.int .i64 0)
  have BZ := BZ.setCell (p := ⟨w.heap.size + 1, 1, none⟩) (by show _ ≤ w.heap.size + 1; omega) (.int .i64 0)
  have BZ := BZ.setCell (p := ⟨w.heap.size + 1, 2, none⟩) (by show _ ≤ w.heap.size + 1; omega) (.int .i64 0)
  have BZ := BZ.setCell (p := ⟨w.heap.size + 1, 3, none⟩) (by show _ ≤ w.heap.size + 1; omega) (.int .i64 0)
  go_wp2
  refine bodyPost_ret (v := .agg #[.int .i64 0, .int .i64 0, .int .i64 0, .int .i64 0]) (by simp [results, Tryz.results88, go_sem, *]) rfl ⟨by rw [hN.out], BZ⟩
 | true =>
  have hlen := (bOk_all hb).2.1
  by_cases hp : 0 ≤ port ∧ port < (L.length : Int)
  rotate_left
  ·
   have hN : Hid (Y = (0, 0, 0, 0)) := by unfold Hid; rw [hY.out]; unfold ownR; rw [hb, decide_eq_false hp]; rfl
   have dp : decide (0 ≤ port ∧ port < (L.length : Int)) = false := decide_eq_false hp
   clear hY
   obtain ⟨a0, a1⟩ := A1
   replace hp : Hid _ := hp
   have es : decide (0 ≤ port ∧ port ≤ (L.length : Int) - 1) = decide (0 ≤ port ∧ port < (L.length : Int)) := decide_eq_decide.2 (by omega)
   go_wp2_with fail
   go_at_call 46
   refine (inB port 0 ((L.length : Int) - 1) w1).mono ?_
   rintro e w2 ⟨rfl, hw2⟩
   have kp : Below w1.heap.size w1 w2 := by rw [hw2]; exact Below.refl _ _
   rw [es]
   clear es hw2
   rw [dp]
   have B2 := B1.trans (kp.mono B1.size)
   have V2 := V1.below kp S1
   clear dp
   obtain ⟨⟨t0, t1, t2, t3⟩, tf⟩ := V2
   have BZ := B2.setCell (p := ⟨w.heap.size + 1, 0, none⟩) (by show _ ≤ w.heap.size + 1; omega) (.int .i64 0)
   have BZ := BZ.setCell (p := ⟨w.heap.size + 1, 1, none⟩) (by show _ ≤ w.heap.size + 1; omega) (.int .i64 0)
   have BZ := BZ.setCell (p := ⟨w.heap.size + 1, 2, none⟩) (by show _ ≤ w.heap.size + 1; omega) (.int .i64 0)
   have BZ := BZ.setCell (p := ⟨w.heap.size + 1, 3, none⟩) (by show _ ≤ w.heap.size + 1; omega) (.int .i64 0)
   go_wp2
   refine bodyPost_ret (v := .agg #[.int .i64 0, .int .i64 0, .int .i64 0, .int .i64 0]) (by simp [results, Tryz.results88, go_sem, *]) rfl ⟨by rw [hN.out], BZ⟩
  have dp : decide (0 ≤ port ∧ port < (L.length : Int)) = true := decide_eq_true hp
  have hN : Hid (Y = match rootO id L with
   | none => (id, 0, id, port)
   | some k => ((L.getD k Pt.nil).r, (L.getD k Pt.nil).c + 1, id, port)) := by unfold Hid; rw [hY.out]; unfold ownR; rw [hb, dp]; rfl
  clear hY
  replace hp : Hid _ := hp
  obtain ⟨a0, a1⟩ := A1
  have es : decide (0 ≤ port ∧ port ≤ (L.length : Int) - 1) = decide (0 ≤ port ∧ port < (L.length : Int)) := decide_eq_decide.2 (by omega)
  go_wp2_with fail
  go_at_call 46
  refine (inB port 0 ((L.length : Int) - 1) w1).mono ?_
  rintro e w2 ⟨rfl, hw2⟩
  have kp : Below w1.heap.size w1 w2 := by rw [hw2]; exact Below.refl _ _
  rw [es]
  clear es hw2
  rw [dp]
  have B2 := B1.trans (kp.mono B1.size)
  have A2 := BrAt.below ⟨a0, a1⟩ kp (by omega)
  have V2 := V1.below kp S1
  have S2 : w.heap.size + 1 < w2.heap.size := V2.lt
  have hv3 := hv2.below kp hB2
  have hB3 := hv3.lt ptEnc_len (by omega)
  clear dp a0 a1 kp V1 hv2 hB2 B1
  obtain ⟨a0, a1⟩ := A2
  go_wp2_with fail
  go_at_call 111
  refine (rootPS id ad cap L w2 hv3 hl).mono ?_
  rintro e w3 ⟨rfl, k3⟩
  have B3 := B2.trans (k3.mono B2.size)
  have A3 := BrAt.below ⟨a0, a1⟩ k3 (by omega)
  have V3 := V2.below k3 S2
  have S3 : w.heap.size + 1 < w3.heap.size := V3.lt
  have hv4 := hv3.below k3 hB3
  clear a0 a1 k3 V2 hv3 hB3 B2
  obtain ⟨a0, a1⟩ := A3
  obtain ⟨⟨t0, t1, t2, t3⟩, tf⟩ := V3
  cases hr : rootO id L with
  | none =>
   have hN2 : Hid (Y = (id, 0, id, port)) := by unfold Hid; rw [hN.out, hr]
   clear hN
   have BZ := B3.setCell (p := ⟨w.heap.size + 1, 0, none⟩) (by show _ ≤ w.heap.size + 1; omega) (.int .i64 id)
   have BZ := BZ.setCell (p := ⟨w.heap.size + 1, 1, none⟩) (by show _ ≤ w.heap.size + 1; omega) (.int .i64 0)
   have BZ := BZ.setCell (p := ⟨w.heap.size + 1, 2, none⟩) (by show _ ≤ w.heap.size + 1; omega) (.int .i64 id)
   have BZ := BZ.setCell (p := ⟨w.heap.size + 1, 3, none⟩) (by show _ ≤ w.heap.size + 1; omega) (.int .i64 port)
   simp only [oI, Option.isSome]
   go_wp2
   refine bodyPost_ret (v := .agg #[.int .i64 id, .int .i64 0, .int .i64 id, .int .i64 port]) (by simp [results, Tryz.results88, go_sem, *]) rfl ⟨by rw [hN2.out], BZ⟩
  | some k =>
   obtain ⟨_, hk, hcd⟩ := rootO_some hr
   obtain ⟨g, hg⟩ : ∃ g, L.getD k Pt.nil = g := ⟨_, rfl⟩
   have hN2 : Hid (Y = (g.r, g.c + 1, id, port)) := by unfold Hid; rw [hN.out, hr, ← hg]
   have hc20 : g.c < 20 := by
    rw [hg] at hcd
    simp only [cand, Bool.and_eq_true, decide_eq_true_eq] at hcd
    exact hcd.2.2.2.1
   have hc0 : 0 ≤ g.c := by
    rw [hg] at hcd
    simp only [cand, Bool.and_eq_true, decide_eq_true_eq] at hcd
    have h1 := (bOk_all hb).2.2 k
    rw [hg] at h1
    have h2 := (pOk_has h1 hcd.1).2.1
    simp only [vOk, decide_eq_true_eq] at h2
    omega
   obtain ⟨bk, off, rfl, _⟩ := hv4 (by omega)
   obtain ⟨c0, c1, c2, c3, c4, c5, c6, c7, c8, c9, c10⟩ : PtAtO w3 bk (off + k * 11) g := by rw [← hg]; exact ptAtO_of (hv4.at_ ptEnc_len Pt.nil hk)
   clear hN hg hcd hr hv4
   obtain ⟨y4, hy4⟩ := mk_ (w3.alloc (Obj.cells #[.int .i64 g.r, .int .i64 g.c, .int .i64 g.b, .int .i64 g.p] 78))
   have kn : Below w3.heap.size w3 y4 := by rw [hy4]; exact below_new _
   have G4 : VecAt y4 w3.heap.size g.r g.c g.b g.p := by rw [hy4]; exact vecAt_box w3 _ _ _ _ _
   have A4 := BrAt.below ⟨a0, a1⟩ kn (by omega)
   have V4 := VBox.below ⟨⟨t0, t1, t2, t3⟩, tf⟩ kn (by omega)
   have B4 := B3.trans (kn.mono B3.size)
   simp only [oI, Option.isSome]
   go_upto_region 7 with fail
   rw [← hy4]
   clear hy4 a0 a1 t0 t1 t2 t3 tf kn c0 c1 c2 c3 c4 c5 c6 c7 c8 c9 c10
   generalize w3.heap.size = Q at S3 G4 ⊢
   obtain ⟨a0, a1⟩ := A4
   obtain ⟨⟨t0, t1, t2, t3⟩, tf⟩ := V4
   obtain ⟨g0, g1, g2, g3⟩ := G4
   have BZ := B4.setCell (p := ⟨w.heap.size + 1, 0, none⟩) (by show _ ≤ w.heap.size + 1; omega) (.int .i64 g.r)
   have BZ := BZ.setCell (p := ⟨w.heap.size + 1, 1, none⟩) (by show _ ≤ w.heap.size + 1; omega) (.int .i64 (g.c + 1))
   have BZ := BZ.setCell (p := ⟨w.heap.size + 1, 2, none⟩) (by show _ ≤ w.heap.size + 1; omega) (.int .i64 id)
   have BZ := BZ.setCell (p := ⟨w.heap.size + 1, 3, none⟩) (by show _ ≤ w.heap.size + 1; omega) (.int .i64 port)
   go_wp2
   refine bodyPost_ret (v := .agg #[.int .i64 g.r, .int .i64 (g.c + 1), .int .i64 id, .int .i64 port]) (by simp [results, Tryz.results88, go_sem, *]) rfl ⟨by rw [hN2.out], BZ⟩
set_option maxHeartbeats 2000000 in
theorem hopsS (id : Int) (ad : Option Addr) (cap : Nat) (L : List Pt) (w : World) (hv : FView ptEnc w ad L) (hl : L.length ≤ 1048576) :
  Calls Tryz.prog 89 #[.agg #[.int .i64 id, .slice ad L.length cap]] w fun e w' => e = .returned (.int .i64 (hopsR id L)) ∧ Below w.heap.size w w' := by
 have hB := hv.lt ptEnc_len (by omega)
 obtain ⟨y, hy⟩ := mk_ (w.alloc (Obj.cells #[.int .i64 id, .slice ad L.length cap] 69))
 have B0 : Below w.heap.size w y := by rw [hy]; exact below_new _
 have A0 : BrAt y w.heap.size id (.slice ad L.length cap) := by rw [hy]; exact BrAt.new w _ _ _
 have S0 := A0.lt
 have hv1 := hv.below B0 hB
 have hB1 := hv1.lt ptEnc_len (by omega)
 obtain ⟨Y, hY⟩ := mk_ (hopsR id L)
 rw [← hY]
 replace hY : Hid _ := hY
 go_enter Tryz.func89, Tryz.ntmps89
 go_wp2_with fail
 go_at_call 111
 rw [← hy]
 clear hy hv hB
 refine (rootPS id ad cap L y hv1 hl).mono ?_
 rintro e w3 ⟨rfl, k3⟩
 have B3 := B0.trans (k3.mono B0.size)
 obtain ⟨a0, a1⟩ := A0.below k3 (by omega)
 have hv4 := hv1.below k3 hB1
 clear k3 hv1 hB1 A0
 cases hr : rootO id L with
 | none =>
  have hN2 : Hid (Y = 0) := by unfold Hid; rw [hY.out]; unfold hopsR; rw [hr]
  simp only [oI, Option.isSome]
  go_wp2
  go_ret
  exact ⟨by rw [hN2.out]; rfl, B3⟩
 | some k =>
  obtain ⟨hb, hk, hcd⟩ := rootO_some hr
  obtain ⟨g, hg⟩ : ∃ g, L.getD k Pt.nil = g := ⟨_, rfl⟩
  have hN2 : Hid (Y = g.h + 1) := by unfold Hid; rw [hY.out]; unfold hopsR; rw [hr, ← hg]
  have hlen := (bOk_all hb).2.1
  have hh8 : 0 ≤ g.h ∧ g.h < 8 := by
   rw [hg] at hcd
   simp only [cand, Bool.and_eq_true, decide_eq_true_eq] at hcd
   have h1 := (bOk_all hb).2.2 k
   rw [hg] at h1
   exact ⟨(pOk_has h1 hcd.1).2.2.1, hcd.2.2.2.2⟩
  obtain ⟨h0, h8⟩ := hh8
  obtain ⟨bk, off, rfl, _⟩ := hv4 (by omega)
  obtain ⟨c0, c1, c2, c3, c4, c5, c6, c7, c8, c9, c10⟩ : PtAtO w3 bk (off + k * 11) g := by rw [← hg]; exact ptAtO_of (hv4.at_ ptEnc_len Pt.nil hk)
  clear hY hg hcd hr hv4 hb
  simp only [oI, Option.isSome]
  go_wp2
  go_ret
  exact ⟨by rw [hN2.out]; rfl, B3⟩
theorem noMiI (m : Mi) (ad : Option Addr) (cap : Nat) (w : World) (hv : FView ikEnc w ad m.lg) (hl : m.lg.length ≤ 1048577) : Calls Tryz.prog 78 #[.agg #[.bool m.up, .int .i64 m.li, .int .i64 m.ep, .slice ad m.lg.length cap, .int .i64 m.sd, .int .i64 m.ac, .int .i64 m.al]] w fun e w' => e = .returned (.bool (!miOk m)) ∧ Below w.heap.size w w' := by
 obtain ⟨y, hy⟩ := mk_ (w.alloc (Obj.cells #[.bool m.up, .int .i64 m.li, .int .i64 m.ep, .slice ad m.lg.length cap, .int .i64 m.sd, .int .i64 m.ac, .int .i64 m.al] 49))
 have B0 : Below w.heap.size w y := by rw [hy]; exact below_new _
 obtain ⟨o, ho⟩ := mk_ (miOk m)
 rw [← ho]
 replace ho : Hid _ := ho
 go_enter Tryz.func78, Tryz.ntmps78
 go_wp2_with fail
 go_at_call 103
 rw [← hy]
 clear hy
 refine (miOkI m ad cap y (hv.below B0 (hv.lt ikEnc_len (by omega))) hl).mono ?_
 rintro e w1 ⟨rfl, k1⟩
 have B1 := B0.trans (k1.mono B0.size)
 rw [← ho.out]
 go_wp2
 go_ret
 exact ⟨rfl, B1⟩
theorem noInI (x : Ik) (w : World) : Calls Tryz.prog 82 #[.agg #[.int .i64 x.k, .int .i64 x.q, .int .i64 x.r, .int .i64 x.c, .int .i64 x.b, .int .i64 x.p, .int .i64 x.h, .bool x.up]] w fun e w' => e = .returned (.bool (!inOk x)) ∧ Below w.heap.size w w' := by
 obtain ⟨y, hy⟩ := mk_ (w.alloc (Obj.cells #[.int .i64 x.k, .int .i64 x.q, .int .i64 x.r, .int .i64 x.c, .int .i64 x.b, .int .i64 x.p, .int .i64 x.h, .bool x.up] 80))
 have B0 : Below w.heap.size w y := by rw [hy]; exact below_new _
 obtain ⟨o, ho⟩ := mk_ (inOk x)
 rw [← ho]
 replace ho : Hid _ := ho
 go_enter Tryz.func82, Tryz.ntmps82
 go_wp2_with fail
 go_at_call 91
 rw [← hy]
 clear hy
 refine (inOkI x y).mono ?_
 rintro e w1 ⟨rfl, k1⟩
 have B1 := B0.trans (k1.mono B0.size)
 rw [← ho.out]
 go_wp2
 go_ret
 exact ⟨rfl, B1⟩
theorem eqInZ (x : Ik) (w : World) : (binOp .eql 80 (.agg #[.int .i64 x.k, .int .i64 x.q, .int .i64 x.r, .int .i64 x.c, .int .i64 x.b, .int .i64 x.p, .int .i64 x.h, .bool x.up]) (.agg #[.int .i64 0, .int .i64 0, .int .i64 0, .int .i64 0, .int .i64 0, .int .i64 0, .int .i64 0, .bool false])).run Tryz.prog w = .ok (.bool (inNil x)) w := by
 unfold inNil
 go_simp
 all_goals ((repeat' split) <;> first | (simp_all; done) | grind)
set_option maxHeartbeats 1000000 in
theorem loadFI (x : Wi) (w : World) : Calls Tryz.prog 105 #[.agg #[.int .i64 x.fr, .bool x.ak, .int .i64 x.li, .int .i64 x.n, .int .i64 x.x.k, .int .i64 x.x.q, .int .i64 x.x.r, .int .i64 x.x.c, .int .i64 x.x.b, .int .i64 x.x.p, .int .i64 x.x.h, .bool x.x.up]] w fun e w' => e = .returned (.bool (if x.ak then inNil x.x else inOk x.x)) ∧ Below w.heap.size w w' := by
 obtain ⟨y, hy⟩ := mk_ (w.alloc (Obj.cells #[.int .i64 x.fr, .bool x.ak, .int .i64 x.li, .int .i64 x.n, .int .i64 x.x.k, .int .i64 x.x.q, .int .i64 x.x.r, .int .i64 x.x.c, .int .i64 x.x.b, .int .i64 x.x.p, .int .i64 x.x.h, .bool x.x.up] 83))
 have B0 : Below w.heap.size w y := by rw [hy]; exact below_new _
 have U : WiAt y w.heap.size x := by rw [hy]; exact WiAt.new w _ x
 have eI := eqInZ x.x
 obtain ⟨R, hR⟩ := mk_ (if x.ak then inNil x.x else inOk x.x)
 rw [← hR]
 replace hR : Hid _ := hR
 obtain ⟨c0, c1, c2, c3, c4, c5, c6, c7, c8, c9, c10, c11⟩ := U
 go_enter Tryz.func105, Tryz.ntmps105
 go_upto_region 1 with fail
 rw [← hy]
 clear hy
 cases h : x.ak
 ·
  have hN : Hid (R = inOk x.x) := by unfold Hid; rw [hR.out, h]; rfl
  rw [h] at c1
  replace h : Hid _ := h
  go_wp2_with fail
  go_at_call 91
  refine (inOkI x.x y).mono ?_
  rintro e u1 ⟨rfl, k1⟩
  go_wp2
  go_ret
  exact ⟨by rw [hN.out]; rfl, B0.trans (k1.mono B0.size)⟩
 ·
  have hN : Hid (R = inNil x.x) := by unfold Hid; rw [hR.out, h]; rfl
  rw [h] at c1
  replace h : Hid _ := h
  go_wp2
  go_ret
  exact ⟨by rw [hN.out]; rfl, B0⟩
set_option maxHeartbeats 2000000 in
theorem noWiI (x : Wi) (w : World) : Calls Tryz.prog 80 #[.agg #[.int .i64 x.fr, .bool x.ak, .int .i64 x.li, .int .i64 x.n, .int .i64 x.x.k, .int .i64 x.x.q, .int .i64 x.x.r, .int .i64 x.x.c, .int .i64 x.x.b, .int .i64 x.x.p, .int .i64 x.x.h, .bool x.x.up]] w fun e w' => e = .returned (.bool (!wiOk x)) ∧ Below w.heap.size w w' := by
 obtain ⟨y, hy⟩ := mk_ (w.alloc (Obj.cells #[.int .i64 x.fr, .bool x.ak, .int .i64 x.li, .int .i64 x.n, .int .i64 x.x.k, .int .i64 x.x.q, .int .i64 x.x.r, .int .i64 x.x.c, .int .i64 x.x.b, .int .i64 x.x.p, .int .i64 x.x.h, .bool x.x.up] 83))
 have B0 : Below w.heap.size w y := by rw [hy]; exact below_new _
 have U : WiAt y w.heap.size x := by rw [hy]; exact WiAt.new w _ x
 obtain ⟨R, hR⟩ := mk_ (!wiOk x)
 rw [← hR]
 replace hR : Hid _ := hR
 obtain ⟨c0, c1, c2, c3, c4, c5, c6, c7, c8, c9, c10, c11⟩ := U
 go_enter Tryz.func80, Tryz.ntmps80
 go_upto_region 1 with fail
 rw [← hy]
 clear hy
 by_cases e1 : x.fr = 0
 ·
  have d1 : (x.fr == 0) = true := by simpa using e1
  have b1 : (x.fr != 0) = false := by simpa using e1
  have hfr : Hid (decide (0 ≤ x.fr ∧ x.fr ≤ 1) = true) := decide_eq_true (by omega)
  replace e1 : Hid _ := e1
  go_wp2_with fail
  go_at_call 101
  refine (numFitsI x.li y).mono ?_
  rintro e w1 ⟨rfl, hw_⟩
  rw [hw_]
  clear hw_
  cases h1 : numB x.li
  ·
   have hN : Hid (R = true) := by unfold Hid; rw [hR.out]; unfold wiOk; rw [hfr.out, h1]; rfl
   clear h1
   go_wp2
   go_ret
   exact ⟨by rw [hN.out]; rfl, B0⟩
  ·
   replace h1 : Hid _ := h1
   go_wp2_with fail
   go_at_call 101
   refine (numFitsI x.n y).mono ?_
   rintro e w1 ⟨rfl, hw_⟩
   rw [hw_]
   clear hw_
   cases h2 : numB x.n
   ·
    have hN : Hid (R = true) := by unfold Hid; rw [hR.out]; unfold wiOk; rw [hfr.out, h1.out, h2]; rfl
    clear h2
    go_wp2
    go_ret
    exact ⟨by rw [hN.out]; rfl, B0⟩
   ·
    replace h2 : Hid _ := h2
    have hN : Hid (R = !(if x.ak then inNil x.x else inOk x.x)) := by unfold Hid; rw [hR.out]; unfold wiOk; rw [hfr.out, h1.out, h2.out]; rfl
    go_wp2_with fail
    go_at_call 105
    refine (loadFI x y).mono ?_
    rintro e u1 ⟨rfl, k1⟩
    obtain ⟨o, ho⟩ := mk_ (if x.ak then inNil x.x else inOk x.x)
    rw [← ho] at hN ⊢
    clear ho
    go_wp2
    go_ret
    exact ⟨by rw [hN.out]; rfl, B0.trans (k1.mono B0.size)⟩
 ·
  have d1 : (x.fr == 0) = false := by simpa using e1
  have b1 : (x.fr != 0) = true := by simpa using e1
  by_cases e2 : x.fr = 1
  ·
   have d2 : (x.fr == 1) = true := by simpa using e2
   have b2 : (x.fr != 1) = false := by simpa using e2
   have hfr : Hid (decide (0 ≤ x.fr ∧ x.fr ≤ 1) = true) := decide_eq_true (by omega)
   replace e1 : Hid _ := e1
   replace e2 : Hid _ := e2
   go_wp2_with fail
   go_at_call 101
   refine (numFitsI x.li y).mono ?_
   rintro e w1 ⟨rfl, hw_⟩
   rw [hw_]
   clear hw_
   cases h1 : numB x.li
   ·
    have hN : Hid (R = true) := by unfold Hid; rw [hR.out]; unfold wiOk; rw [hfr.out, h1]; rfl
    clear h1
    go_wp2
    go_ret
    exact ⟨by rw [hN.out]; rfl, B0⟩
   ·
    replace h1 : Hid _ := h1
    go_wp2_with fail
    go_at_call 101
    refine (numFitsI x.n y).mono ?_
    rintro e w1 ⟨rfl, hw_⟩
    rw [hw_]
    clear hw_
    cases h2 : numB x.n
    ·
     have hN : Hid (R = true) := by unfold Hid; rw [hR.out]; unfold wiOk; rw [hfr.out, h1.out, h2]; rfl
     clear h2
     go_wp2
     go_ret
     exact ⟨by rw [hN.out]; rfl, B0⟩
    ·
     replace h2 : Hid _ := h2
     have hN : Hid (R = !(if x.ak then inNil x.x else inOk x.x)) := by unfold Hid; rw [hR.out]; unfold wiOk; rw [hfr.out, h1.out, h2.out]; rfl
     go_wp2_with fail
     go_at_call 105
     refine (loadFI x y).mono ?_
     rintro e u1 ⟨rfl, k1⟩
     obtain ⟨o, ho⟩ := mk_ (if x.ak then inNil x.x else inOk x.x)
     rw [← ho] at hN ⊢
     clear ho
     go_wp2
     go_ret
     exact ⟨by rw [hN.out]; rfl, B0.trans (k1.mono B0.size)⟩
  ·
   have d2 : (x.fr == 1) = false := by simpa using e2
   have b2 : (x.fr != 1) = true := by simpa using e2
   have hN : Hid (R = true) := by unfold Hid; rw [hR.out]; unfold wiOk; rw [decide_eq_false (show ¬ (0 ≤ x.fr ∧ x.fr ≤ 1) by omega)]; rfl
   replace e1 : Hid _ := e1
   replace e2 : Hid _ := e2
   go_wp2
   go_ret
   exact ⟨by rw [hN.out]; rfl, B0⟩
end Go.Proofs.YtnpiljegdiconabGreat
