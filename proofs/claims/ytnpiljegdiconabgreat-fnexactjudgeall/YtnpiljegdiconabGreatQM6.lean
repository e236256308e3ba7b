import Derived.Test.YtnpiljegdiconabGreatQKWBr5
namespace Go.Proofs.YtnpiljegdiconabGreat
open Go.ChangeShapes Go.WideShapes Go.ChangeAt Go.RowKit
open Go.ChangeMaps (open_string shut_string)
set_option linter.unusedVariables false
set_option maxRecDepth 100000
structure VBox (w : World) (q : Nat) (r c b p : Int) : Prop where
 at_ : VecAt w q r c b p
 fr : ∀ i, w.frozen? ⟨q, i, none⟩ = false
theorem VBox.lt {w : World} {q : Nat} {r c b p : Int} (h : VBox w q r c b p) : q < w.heap.size := World.block_lt_of_cell? w _ h.at_.1
theorem VBox.below {w w' : World} {q n : Nat} {r c b p : Int} (h : VBox w q r c b p) (k : Below n w w') (hq : q < n) : VBox w' q r c b p :=
 ⟨h.at_.below k hq, fun i => (World.frozen?_of_block (a := ⟨q, i, none⟩) (k.block q hq)).trans (h.fr i)⟩
set_option maxHeartbeats 4000000 in
theorem ownI (id : Int) (ad : Option Addr) (cap : Nat) (L : List Pt) (port : Int) (w : World) (hv : FView ptEnc w ad L) (hl : L.length ≤ 1048576) :
  Calls Tryz.prog 119 #[.agg #[.int .i64 id, .slice ad L.length cap], .int .i64 port] w fun e w' => e = .returned (.agg #[.int .i64 (ownR id L port).1, .int .i64 (ownR id L port).2.1, .int .i64 (ownR id L port).2.2.1, .int .i64 (ownR id L port).2.2.2]) ∧ Below w.heap.size w w' := by
 have hB := hv.lt ptEnc_len (by omega)
 obtain ⟨y, hy⟩ := mk_ ((w.alloc (Obj.cells #[.int .i64 id, .slice ad L.length cap] 69)).alloc (Obj.cells #[.int .i64 0, .int .i64 0, .int .i64 0, .int .i64 0] 78))
 have B0 : Below w.heap.size w y := by rw [hy]; exact ((Below.refl _ _).alloc (Nat.le_refl _) _).alloc (by simp) _
 have A0 : BrAt y w.heap.size id (.slice ad L.length cap) := by rw [hy]; constructor <;> simp [go_sem]
 have V0 : VBox y (w.heap.size + 1) 0 0 0 0 := by rw [hy]; refine ⟨?_, fun i => ?_⟩; (refine ⟨?_, ?_, ?_, ?_⟩ <;> simp [go_sem]); simp [go_sem]
 have S0 : w.heap.size + 1 < y.heap.size := V0.lt
 have hv1 := hv.below B0 hB
 have hB1 := hv1.lt ptEnc_len (by omega)
 obtain ⟨Y, hY⟩ := mk_ (ownR id L port)
 rw [← hY]
 replace hY : Hid _ := hY
 go_enter Tryz.func119, Tryz.ntmps119
 go_wp2_with fail
 go_at_call 90
 rw [← hy]
 clear hy hv hB
 refine (bOkI id ad cap L y hv1 hl).mono ?_
 rintro e w1 ⟨rfl, k1⟩
 have B1 : Below w.heap.size w w1 := B0.trans (k1.mono B0.size)
 have A1 := A0.below k1 (by omega)
 have V1 := V0.below k1 (by omega)
 have S1 : w.heap.size + 1 < w1.heap.size := V1.lt
 have hv2 := hv1.below k1 hB1
 have hB2 := hv2.lt ptEnc_len (by omega)
 clear A0 V0 hv1 hB1 k1 B0 S0
 cases hb : bOk id L with
 | false =>
  have hN : Hid (Y = (0, 0, 0, 0)) := by unfold Hid; rw [hY.out]; unfold ownR; rw [hb]; rfl
  clear hY
  obtain ⟨⟨t0, t1, t2, t3⟩, tf⟩ := V1
  have BZ := B1.setCell (p := ⟨w.heap.size + 1, 0, none⟩) (by show _ ≤ w.heap.size + 1; omega) (.int .i64 0)
  have BZ := BZ.setCell (p := ⟨w.heap.size + 1, 1, none⟩) (by show _ ≤ w.heap.size + 1; omega) (.int .i64 0)
  have BZ := BZ.setCell (p := ⟨w.heap.size + 1, 2, none⟩) (by show _ ≤ w.heap.size + 1; omega) (.int .i64 0)
  have BZ := BZ.setCell (p := ⟨w.heap.size + 1, 3, none⟩) (by show _ ≤ w.heap.size + 1; omega) (.int .i64 0)
  go_wp2
  refine bodyPost_ret (v := .agg #[.int .i64 0, .int .i64 0, .int .i64 0, .int .i64 0]) (by simp [results, Tryz.results119, go_sem, *]) rfl ⟨by rw [hN.out], BZ⟩
 | true =>
  have hlen := (bOk_all hb).2.1
  by_cases hp : 0 ≤ port ∧ port < (L.length : Int)
  rotate_left
  ·
   have hN : Hid (Y = (0, 0, 0, 0)) := by unfold Hid; rw [hY.out]; unfold ownR; rw [hb, decide_eq_false hp]; rfl
   have dp : decide (0 ≤ port ∧ port < (L.length : Int)) = false := decide_eq_false hp
   clear hY
   obtain ⟨a0, a1⟩ := A1
   replace hp : Hid _ := hp
   go_wp2_with fail
   go_at_call 92
   refine (portIsI id ad cap L port w1 hl).mono ?_
   rintro e w2 ⟨rfl, kp⟩
   rw [dp]
   have B2 := B1.trans (kp.mono B1.size)
   have V2 := V1.below kp S1
   clear dp
   obtain ⟨⟨t0, t1, t2, t3⟩, tf⟩ := V2
   have BZ := B2.setCell (p := ⟨w.heap.size + 1, 0, none⟩) (by show _ ≤ w.heap.size + 1; omega) (.int .i64 0)
   have BZ := BZ.setCell (p := ⟨w.heap.size + 1, 1, none⟩) (by show _ ≤ w.heap.size + 1; omega) (.int .i64 0)
   have BZ := BZ.setCell (p := ⟨w.heap.size + 1, 2, none⟩) (by show _ ≤ w.heap.size + 1; omega) (.int .i64 0)
   have BZ := BZ.setCell (p := ⟨w.heap.size + 1, 3, none⟩) (by show _ ≤ w.heap.size + 1; omega) (.int .i64 0)
   go_wp2
   refine bodyPost_ret (v := .agg #[.int .i64 0, .int .i64 0, .int .i64 0, .int .i64 0]) (by simp [results, Tryz.results119, go_sem, *]) rfl ⟨by rw [hN.out], BZ⟩
  have dp : decide (0 ≤ port ∧ port < (L.length : Int)) = true := decide_eq_true hp
  have hN : Hid (Y = match rootO id L with
   | none => (id, 0, id, port)
   | some k => ((L.getD k Pt.nil).r, (L.getD k Pt.nil).c + 1, id, port)) := by unfold Hid; rw [hY.out]; unfold ownR; rw [hb, dp]; rfl
  clear hY
  replace hp : Hid _ := hp
  obtain ⟨a0, a1⟩ := A1
  go_wp2_with fail
  go_at_call 92
  refine (portIsI id ad cap L port w1 hl).mono ?_
  rintro e w2 ⟨rfl, kp⟩
  rw [dp]
  have B2 := B1.trans (kp.mono B1.size)
  have A2 := BrAt.below ⟨a0, a1⟩ kp (by omega)
  have V2 := V1.below kp S1
  have S2 : w.heap.size + 1 < w2.heap.size := V2.lt
  have hv3 := hv2.below kp hB2
  have hB3 := hv3.lt ptEnc_len (by omega)
  clear dp a0 a1 kp V1 hv2 hB2 B1
  obtain ⟨a0, a1⟩ := A2
  go_wp2_with fail
  go_at_call 139
  refine (rootPI id ad cap L w2 hv3 hl).mono ?_
  rintro e w3 ⟨rfl, k3⟩
  have B3 := B2.trans (k3.mono B2.size)
  have A3 := BrAt.below ⟨a0, a1⟩ k3 (by omega)
  have V3 := V2.below k3 S2
  have S3 : w.heap.size + 1 < w3.heap.size := V3.lt
  have hv4 := hv3.below k3 hB3
  clear a0 a1 k3 V2 hv3 hB3 B2
  obtain ⟨a0, a1⟩ := A3
  obtain ⟨⟨t0, t1, t2, t3⟩, tf⟩ := V3
  cases hr : rootO id L with
  | none =>
   have hN2 : Hid (Y = (id, 0, id, port)) := by unfold Hid; rw [hN.out, hr]
   clear hN
   have BZ := B3.setCell (p := ⟨w.heap.size + 1, 0, none⟩) (by show _ ≤ w.heap.size + 1; omega) (.int .i64 id)
   have BZ := BZ.setCell (p := ⟨w.heap.size + 1, 1, none⟩) (by show _ ≤ w.heap.size + 1; omega) (.int .i64 0)
   have BZ := BZ.setCell (p := ⟨w.heap.size + 1, 2, none⟩) (by show _ ≤ w.heap.size + 1; omega) (.int .i64 id)
   have BZ := BZ.setCell (p := ⟨w.heap.size + 1, 3, none⟩) (by show _ ≤ w.heap.size + 1; omega) (.int .i64 port)
   simp only [oI, Option.isSome]
   go_wp2
   refine bodyPost_ret (v := .agg #[.int .i64 id, .int .i64 0, .int .i64 id, .int .i64 port]) (by simp [results, Tryz.results119, go_sem, *]) rfl ⟨by rw [hN2.out], BZ⟩
  | some k =>
   obtain ⟨_, hk, hcd⟩ := rootO_some hr
   obtain ⟨g, hg⟩ : ∃ g, L.getD k Pt.nil = g := ⟨_, rfl⟩
   have hN2 : Hid (Y = (g.r, g.c + 1, id, port)) := by unfold Hid; rw [hN.out, hr, ← hg]
   have hc20 : g.c < 20 := by
    rw [hg] at hcd
    simp only [cand, Bool.and_eq_true, decide_eq_true_eq] at hcd
    exact hcd.2.2.2.1
   have hc0 : 0 ≤ g.c := by
    rw [hg] at hcd
    simp only [cand, Bool.and_eq_true, decide_eq_true_eq] at hcd
    have h1 := (bOk_all hb).2.2 k
    rw [hg] at h1
    have h2 := (pOk_has h1 hcd.1).2.1
    simp only [vOk, decide_eq_true_eq] at h2
    omega
   obtain ⟨bk, off, rfl, _⟩ := hv4 (by omega)
   obtain ⟨c0, c1, c2, c3, c4, c5, c6, c7, c8, c9, c10⟩ : PtAtO w3 bk (off + k * 11) g := by rw [← hg]; exact ptAtO_of (hv4.at_ ptEnc_len Pt.nil hk)
   clear hN hg hcd hr hv4
   obtain ⟨y4, hy4⟩ := mk_ (w3.alloc (Obj.cells #[.int .i64 g.r, .int .i64 g.c, .int .i64 g.b, .int .i64 g.p] 78))
   have kn : Below w3.heap.size w3 y4 := by rw [hy4]; exact below_new _
   have G4 : VecAt y4 w3.heap.size g.r g.c g.b g.p := by rw [hy4]; exact vecAt_box w3 _ _ _ _ _
   have A4 := BrAt.below ⟨a0, a1⟩ kn (by omega)
   have V4 := VBox.below ⟨⟨t0, t1, t2, t3⟩, tf⟩ kn (by omega)
   have B4 := B3.trans (kn.mono B3.size)
   simp only [oI, Option.isSome]
   go_upto_region 7 with fail
   rw [← hy4]
   clear hy4 a0 a1 t0 t1 t2 t3 tf kn c0 c1 c2 c3 c4 c5 c6 c7 c8 c9 c10
   generalize w3.heap.size = Q at S3 G4 ⊢
   obtain ⟨a0, a1⟩ := A4
   obtain ⟨⟨t0, t1, t2, t3⟩, tf⟩ := V4
   obtain ⟨g0, g1, g2, g3⟩ := G4
   have BZ := B4.setCell (p := ⟨w.heap.size + 1, 0, none⟩) (by show _ ≤ w.heap.size + 1; omega) (.int .i64 g.r)
   have BZ := BZ.setCell (p := ⟨w.heap.size + 1, 1, none⟩) (by show _ ≤ w.heap.size + 1; omega) (.int .i64 (g.c + 1))
   have BZ := BZ.setCell (p := ⟨w.heap.size + 1, 2, none⟩) (by show _ ≤ w.heap.size + 1; omega) (.int .i64 id)
   have BZ := BZ.setCell (p := ⟨w.heap.size + 1, 3, none⟩) (by show _ ≤ w.heap.size + 1; omega) (.int .i64 port)
   go_wp2
   refine bodyPost_ret (v := .agg #[.int .i64 g.r, .int .i64 (g.c + 1), .int .i64 id, .int .i64 port]) (by simp [results, Tryz.results119, go_sem, *]) rfl ⟨by rw [hN2.out], BZ⟩
set_option maxHeartbeats 2000000 in
theorem hopsI (id : Int) (ad : Option Addr) (cap : Nat) (L : List Pt) (w : World) (hv : FView ptEnc w ad L) (hl : L.length ≤ 1048576) :
  Calls Tryz.prog 120 #[.agg #[.int .i64 id, .slice ad L.length cap]] w fun e w' => e = .returned (.int .i64 (hopsR id L)) ∧ Below w.heap.size w w' := by
 have hB := hv.lt ptEnc_len (by omega)
 obtain ⟨y, hy⟩ := mk_ (w.alloc (Obj.cells #[.int .i64 id, .slice ad L.length cap] 69))
 have B0 : Below w.heap.size w y := by rw [hy]; exact below_new _
 have A0 : BrAt y w.heap.size id (.slice ad L.length cap) := by rw [hy]; exact BrAt.new w _ _ _
 have S0 := A0.lt
 have hv1 := hv.below B0 hB
 have hB1 := hv1.lt ptEnc_len (by omega)
 obtain ⟨Y, hY⟩ := mk_ (hopsR id L)
 rw [← hY]
 replace hY : Hid _ := hY
 go_enter Tryz.func120, Tryz.ntmps120
 go_wp2_with fail
 go_at_call 139
 rw [← hy]
 clear hy hv hB
 refine (rootPI id ad cap L y hv1 hl).mono ?_
 rintro e w3 ⟨rfl, k3⟩
 have B3 := B0.trans (k3.mono B0.size)
 obtain ⟨a0, a1⟩ := A0.below k3 (by omega)
 have hv4 := hv1.below k3 hB1
 clear k3 hv1 hB1 A0
 cases hr : rootO id L with
 | none =>
  have hN2 : Hid (Y = 0) := by unfold Hid; rw [hY.out]; unfold hopsR; rw [hr]
  simp only [oI, Option.isSome]
  go_wp2
  go_ret
  exact ⟨by rw [hN2.out]; rfl, B3⟩
 | some k =>
  obtain ⟨hb, hk, hcd⟩ := rootO_some hr
  obtain ⟨g, hg⟩ : ∃ g, L.getD k Pt.nil = g := ⟨_, rfl⟩
  have hN2 : Hid (Y = g.h + 1) := by unfold Hid; rw [hY.out]; unfold hopsR; rw [hr, ← hg]
  have hlen := (bOk_all hb).2.1
  have hh8 : 0 ≤ g.h ∧ g.h < 8 := by
   rw [hg] at hcd
   simp only [cand, Bool.and_eq_true, decide_eq_true_eq] at hcd
   have h1 := (bOk_all hb).2.2 k
   rw [hg] at h1
   exact ⟨(pOk_has h1 hcd.1).2.2.1, hcd.2.2.2.2⟩
  obtain ⟨h0, h8⟩ := hh8
  obtain ⟨bk, off, rfl, _⟩ := hv4 (by omega)
  obtain ⟨c0, c1, c2, c3, c4, c5, c6, c7, c8, c9, c10⟩ : PtAtO w3 bk (off + k * 11) g := by rw [← hg]; exact ptAtO_of (hv4.at_ ptEnc_len Pt.nil hk)
  clear hY hg hcd hr hv4 hb
  simp only [oI, Option.isSome]
  go_wp2
  go_ret
  exact ⟨by rw [hN2.out]; rfl, B3⟩
structure Ou where
 k : Int
 pt : Int
 r : Int
 c : Int
 b : Int
 p : Int
 h : Int
 on : Bool
def Ou.nil : Ou := ⟨0, 0, 0, 0, 0, 0, 0, false⟩
def ouEnc (x : Ou) : List Value := [.int .i64 x.k, .int .i64 x.pt, .int .i64 x.r, .int .i64 x.c, .int .i64 x.b, .int .i64 x.p, .int .i64 x.h, .bool x.on]
theorem ouEnc_len (x : Ou) : (ouEnc x).length = 8 := rfl
theorem ouEnc_ones (L : List Ou) : ∀ u ∈ fcells ouEnc L, u.oneCell' = true := by
 induction L with
 | nil => intro u h; cases h
 | cons x L ih =>
  intro u h
  simp only [fcells, ouEnc, List.mem_append, List.mem_cons, List.not_mem_nil, or_false] at h
  rcases h with (rfl | rfl | rfl | rfl | rfl | rfl | rfl | rfl) | h
  ·
   rfl
  ·
   rfl
  ·
   rfl
  ·
   rfl
  ·
   rfl
  ·
   rfl
  ·
   rfl
  ·
   rfl
  ·
   exact ih u h
structure OuAtO (w : World) (b o : Nat) (x : Ou) : Prop where
 c0 : w.cell? ⟨b, o, none⟩ = some (.int .i64 x.k)
 c1 : w.cell? ⟨b, o + 1, none⟩ = some (.int .i64 x.pt)
 c2 : w.cell? ⟨b, o + 2, none⟩ = some (.int .i64 x.r)
 c3 : w.cell? ⟨b, o + 3, none⟩ = some (.int .i64 x.c)
 c4 : w.cell? ⟨b, o + 4, none⟩ = some (.int .i64 x.b)
 c5 : w.cell? ⟨b, o + 5, none⟩ = some (.int .i64 x.p)
 c6 : w.cell? ⟨b, o + 6, none⟩ = some (.int .i64 x.h)
 c7 : w.cell? ⟨b, o + 7, none⟩ = some (.bool x.on)
theorem ouAtO_of {w : World} {b o : Nat} {x : Ou} (h : ∀ j v, (ouEnc x)[j]? = some v → w.cell? ⟨b, o + j, none⟩ = some v) : OuAtO w b o x := ⟨h 0 _ rfl, h 1 _ rfl, h 2 _ rfl, h 3 _ rfl, h 4 _ rfl, h 5 _ rfl, h 6 _ rfl, h 7 _ rfl⟩
theorem ouPut (w : World) (g o : Nat) (x : Ou) : putAll w g o (ouEnc x) = ((((((((w.setCell ⟨g, o, none⟩ (.int .i64 x.k)).setCell ⟨g, o + 1, none⟩ (.int .i64 x.pt)).setCell ⟨g, o + 2, none⟩ (.int .i64 x.r)).setCell ⟨g, o + 3, none⟩ (.int .i64 x.c)).setCell ⟨g, o + 4, none⟩ (.int .i64 x.b)).setCell ⟨g, o + 5, none⟩ (.int .i64 x.p)).setCell ⟨g, o + 6, none⟩ (.int .i64 x.h)).setCell ⟨g, o + 7, none⟩ (.bool x.on)) := rfl
theorem ouInfo : (Tryz.prog.info? 92).map (fun i => (i.zero, i.size, i.bytes)) = some (some (.agg #[.int .i64 0, .int .i64 0, .int .i64 0, .int .i64 0, .int .i64 0, .int .i64 0, .int .i64 0, .bool false]), 8, 64) := by kernel_rfl
theorem FView.oneO (w : World) (t : TypeId) (x : Ou) : FView ouEnc (w.alloc (Obj.cells #[.int .i64 x.k, .int .i64 x.pt, .int .i64 x.r, .int .i64 x.c, .int .i64 x.b, .int .i64 x.p, .int .i64 x.h, .bool x.on] t)) (some ⟨w.heap.size, 0, none⟩) [x] := by
 intro _
 refine ⟨w.heap.size, 0, rfl, fun j v hv => ?_⟩
 have hj : j < 8 := by
  have := (List.getElem?_eq_some_iff.1 hv).1
  simpa [fcells, ouEnc] using this
 rcases (by omega : j = 0 ∨ j = 1 ∨ j = 2 ∨ j = 3 ∨ j = 4 ∨ j = 5 ∨ j = 6 ∨ j = 7) with rfl | rfl | rfl | rfl | rfl | rfl | rfl | rfl
 ·
  cases hv; simp [go_sem]
 ·
  cases hv; simp [go_sem]
 ·
  cases hv; simp [go_sem]
 ·
  cases hv; simp [go_sem]
 ·
  cases hv; simp [go_sem]
 ·
  cases hv; simp [go_sem]
 ·
  cases hv; simp [go_sem]
 ·
  cases hv; simp [go_sem]
def gateO (i : Nat) (on : Bool) : Ou := ⟨2, i, 0, 0, 0, 0, 0, on⟩
def gatesTo (L M : List Pt) : Nat → List Ou
 | 0 => []
 | n + 1 => gatesTo L M n ++ if (M.getD n Pt.nil).op = (L.getD n Pt.nil).op then [] else [gateO n (M.getD n Pt.nil).op]
def toldO (id : Int) (M : List Pt) (i : Nat) : Ou := ⟨1, i, (ownR id M i).1, (ownR id M i).2.1, (ownR id M i).2.2.1, (ownR id M i).2.2.2, hopsR id M, false⟩
def toldTo (id : Int) (M : List Pt) : Nat → List Ou
 | 0 => []
 | n + 1 => toldTo id M n ++ if (M.getD n Pt.nil).ro = 2 then [toldO id M n] else []
theorem gates_len (L M : List Pt) (n : Nat) : (gatesTo L M n).length ≤ n := by
 induction n with
 | zero => simp [gatesTo]
 | succ n ih => simp only [gatesTo, List.length_append]; split <;> simp <;> omega
theorem told_len (id : Int) (M : List Pt) (n : Nat) : (toldTo id M n).length ≤ n := by
 induction n with
 | zero => simp [toldTo]
 | succ n ih => simp only [toldTo, List.length_append]; split <;> simp <;> omega
theorem gates_yes {L M : List Pt} {n : Nat} {h g : Pt} (hh : M.getD n Pt.nil = h) (hg : L.getD n Pt.nil = g) (e : h.op = g.op) : gatesTo L M (n + 1) = gatesTo L M n := by
 simp only [gatesTo, hh, hg]; rw [if_pos e, List.append_nil]
theorem gates_no {L M : List Pt} {n : Nat} {h g : Pt} (hh : M.getD n Pt.nil = h) (hg : L.getD n Pt.nil = g) (e : h.op ≠ g.op) : gatesTo L M (n + 1) = gatesTo L M n ++ [gateO n h.op] := by
 simp only [gatesTo, hh, hg]; rw [if_neg e]
theorem told_yes {id : Int} {M : List Pt} {n : Nat} {h : Pt} (hh : M.getD n Pt.nil = h) (e : h.ro = 2) : toldTo id M (n + 1) = toldTo id M n ++ [toldO id M n] := by
 simp only [toldTo, hh]; rw [if_pos e]
theorem told_no {id : Int} {M : List Pt} {n : Nat} {h : Pt} (hh : M.getD n Pt.nil = h) (e : h.ro ≠ 2) : toldTo id M (n + 1) = toldTo id M n := by
 simp only [toldTo, hh]; rw [if_neg e, List.append_nil]
set_option maxHeartbeats 4000000 in
theorem gatesI (id id' : Int) (ad ad' : Option Addr) (cap cap' : Nat) (L M : List Pt) (w : World) (hv : FView ptEnc w ad L) (hv' : FView ptEnc w ad' M) (hLM : L.length = M.length) (hl : M.length ≤ 4) :
  Calls Tryz.prog 96 #[.agg #[.int .i64 id, .slice ad L.length cap], .agg #[.int .i64 id', .slice ad' M.length cap']] w fun e w' => ∃ adk capk, e = .returned (.slice adk (gatesTo L M M.length).length capk) ∧ FOwn ouEnc 8 92 w.heap.size w' (.slice adk (gatesTo L M M.length).length capk) (gatesTo L M M.length) ∧ Below w.heap.size w w' := by
 obtain ⟨i0, hi, hz0, hz1, hz2⟩ := info_parts ouInfo
 have hB := hv.lt ptEnc_len (by omega)
 have hB' := hv'.lt ptEnc_len (by omega)
 replace hLM : Hid _ := hLM
 obtain ⟨y, hy⟩ := mk_ ((w.alloc (Obj.cells #[.int .i64 id, .slice ad L.length cap] 69)).alloc (Obj.cells #[.int .i64 id', .slice ad' M.length cap'] 69))
 have B0 : Below w.heap.size w y := by rw [hy]; exact ((Below.refl _ _).alloc (Nat.le_refl _) _).alloc (by simp) _
 have A0 : BrAt y w.heap.size id (.slice ad L.length cap) := by rw [hy]; constructor <;> simp [go_sem]
 have A1 : BrAt y (w.heap.size + 1) id' (.slice ad' M.length cap') := by rw [hy]; constructor <;> simp [go_sem]
 have S0 := A1.lt
 have hv1 := hv.below B0 hB
 have hv1' := hv'.below B0 hB'
 have hB1 := hv1.lt ptEnc_len (by omega)
 have hB1' := hv1'.lt ptEnc_len (by omega)
 clear hv hv' hB hB'
 go_enter Tryz.func96, Tryz.ntmps96
 go_upto_region 2 with fail
 rw [← hy]
 clear hy
 obtain ⟨a0, a1⟩ := A1
 have A1 : BrAt y (w.heap.size + 1) id' (.slice ad' M.length cap') := ⟨a0, a1⟩
 go_wp2
 clear a0 a1
 go_loopw [5, 11] (fun v i wr => ∃ k : Nat, k ≤ M.length ∧ i = .int .i64 (k : Int) ∧ FOwn ouEnc 8 92 y.heap.size wr v (gatesTo L M k) ∧ Below y.heap.size y wr) (fun _ i _ => M.length - (intOf i).toNat)
 case atStart => exact ⟨0, Nat.zero_le _, rfl, FOwn.nil, Below.refl _ _⟩
 case round =>
  obtain ⟨k, hk, rfl, O, K⟩ := hrel
  obtain ⟨adk, capk, rfl⟩ := O.open_
  have A2 := A0.below K (by omega)
  obtain ⟨b0, b1⟩ := A1.below K S0
  by_cases hlt : k < M.length
  ·
   have hltL : k < L.length := by rw [hLM.out]; exact hlt
   have hv2 := hv1.below K hB1
   have hv2' := hv1'.below K hB1'
   obtain ⟨bk', off', rfl, _⟩ := hv2' (by omega)
   obtain ⟨bk, off, rfl, _⟩ := hv2 (by omega)
   obtain ⟨h, hh⟩ : ∃ h, M.getD k Pt.nil = h := ⟨_, rfl⟩
   obtain ⟨g, hg⟩ : ∃ g, L.getD k Pt.nil = g := ⟨_, rfl⟩
   obtain ⟨c0, c1, c2, c3, c4, c5, c6, c7, c8, c9, c10⟩ : PtAtO wr bk' (off' + k * 11) h := by rw [← hh]; exact ptAtO_of (hv2'.at_ ptEnc_len Pt.nil hlt)
   replace hh : Hid _ := hh
   have gl := gates_len L M k
   obtain ⟨G, hG⟩ : ∃ G, gatesTo L M k = G := ⟨_, rfl⟩
   rw [hG] at O gl ⊢
   replace hG : Hid _ := hG
   obtain ⟨y3, hy3⟩ := mk_ (wr.alloc (Obj.cells #[.bool h.up, .bool h.has, .int .i64 h.r, .int .i64 h.c, .int .i64 h.b, .int .i64 h.p, .int .i64 h.h, .int .i64 h.l, .int .i64 h.ro, .int .i64 h.wa, .bool h.op] 113))
   have P3 : PtAt y3 wr.heap.size h := by rw [hy3]; exact ptAt_box wr _ _
   have kn : Below wr.heap.size wr y3 := by rw [hy3]; exact below_new _
   have A3 := A2.below kn A2.lt
   have O3 := O.later kn
   have K3 := K.trans (kn.mono K.size)
   have hv3 := hv2.below kn (hv2.lt ptEnc_len (by omega))
   have hgc : ∀ Y, Below y3.heap.size y3 Y → PtAtO Y bk (off + k * 11) g := fun Y hY => by rw [← hg]; exact ptAtO_of ((hv3.below hY (hv3.lt ptEnc_len (by omega))).at_ ptEnc_len Pt.nil hltL)
   replace hg : Hid _ := hg
   have S3 := P3.lt
   have S4 := K.size
   go_upto_region 5 with fail
   rw [← hy3]
   clear hy3 b0 b1 c0 c1 c2 c3 c4 c5 c6 c7 c8 c9 c10 kn O hv2 hv2' A2 hv3
   generalize wr.heap.size = Q at P3 S3 S4 ⊢
   by_cases ho : h.op = g.op
   ·
    have dq : (h.op != g.op) = false := by rw [ho]; simp
    have hN : Hid (gatesTo L M (k + 1) = G) := by unfold Hid; rw [gates_yes hh.out hg.out ho, hG.out]
    replace ho : Hid _ := ho
    refine wp_region_held (S := fun Y => Below y3.heap.size y3 Y) (by kernel_rfl) ?_
    change wpAnyH _ _ _ _ _ _ _ _ (World.drew _)
    have hb0 : Below y3.heap.size y3 y3.drew := (Below.refl _ _).drew
    obtain ⟨u0, hy0⟩ := mk_ y3.drew
    rw [← hy0] at hb0 ⊢
    clear hy0
    refine tw 0 16 (.pointer (some ⟨Q, 10, none⟩)) ?_
    refine tw 1 17 (.bool h.op) ?_ (hy := by intro Y hSw; obtain ⟨X0, X1, X2, X3, X4, X5, X6, X7, X8, X9, X10⟩ := P3.below hSw (by omega); go_simp)
    refine tw 2 18 (.pointer (some ⟨w.heap.size, 1, none⟩)) ?_
    refine tw 3 19 (.slice (some ⟨bk, off, none⟩) L.length cap) ?_ (hy := by intro Y hSw; obtain ⟨X0, X1⟩ := A3.below hSw (by omega); go_simp)
    refine tw 4 20 (.int .i64 (k : Int)) ?_
    refine tw 5 21 (.pointer (some ⟨bk, off + k * 11, none⟩)) ?_ (hy := by intro Y hSw; go_simp; try omega)
    refine tw 6 22 (.pointer (some ⟨bk, off + k * 11 + 10, none⟩)) ?_
    refine tw 7 23 (.bool g.op) ?_ (hy := by intro Y hSw; obtain ⟨X0, X1, X2, X3, X4, X5, X6, X7, X8, X9, X10⟩ := hgc Y hSw; go_simp)
    refine tw 8 24 (.bool false) ?_ (hy := by intro Y hSw; go_simp; exact ho.out)
    refine wpAnyH_done (by kernel_rfl) ?_ _
    go_wp2
    go_roundw
    case rel => exact ⟨k + 1, by omega, by go_num, by rw [hN.out]; exact O3.later hb0, K3.trans (hb0.mono K3.size)⟩
    case measure => simp [intOf]; omega
   ·
    have dq : (h.op != g.op) = true := by simpa using ho
    have hN : Hid (gatesTo L M (k + 1) = G ++ [gateO k h.op]) := by unfold Hid; rw [gates_no hh.out hg.out ho, hG.out]
    replace ho : Hid _ := ho
    refine wp_region_held (S := fun Y => Below y3.heap.size y3 Y) (by kernel_rfl) ?_
    change wpAnyH _ _ _ _ _ _ _ _ (World.drew _)
    have hb0 : Below y3.heap.size y3 y3.drew := (Below.refl _ _).drew
    obtain ⟨u0, hy0⟩ := mk_ y3.drew
    rw [← hy0] at hb0 ⊢
    clear hy0
    refine tw 0 16 (.pointer (some ⟨Q, 10, none⟩)) ?_
    refine tw 1 17 (.bool h.op) ?_ (hy := by intro Y hSw; obtain ⟨X0, X1, X2, X3, X4, X5, X6, X7, X8, X9, X10⟩ := P3.below hSw (by omega); go_simp)
    refine tw 2 18 (.pointer (some ⟨w.heap.size, 1, none⟩)) ?_
    refine tw 3 19 (.slice (some ⟨bk, off, none⟩) L.length cap) ?_ (hy := by intro Y hSw; obtain ⟨X0, X1⟩ := A3.below hSw (by omega); go_simp)
    refine tw 4 20 (.int .i64 (k : Int)) ?_
    refine tw 5 21 (.pointer (some ⟨bk, off + k * 11, none⟩)) ?_ (hy := by intro Y hSw; go_simp; try omega)
    refine tw 6 22 (.pointer (some ⟨bk, off + k * 11 + 10, none⟩)) ?_
    refine tw 7 23 (.bool g.op) ?_ (hy := by intro Y hSw; obtain ⟨X0, X1, X2, X3, X4, X5, X6, X7, X8, X9, X10⟩ := hgc Y hSw; go_simp)
    refine tw 8 24 (.bool true) ?_ (hy := by intro Y hSw; go_simp; exact ho.out)
    refine wpAnyH_done (by kernel_rfl) ?_ _
    obtain ⟨c0, c1, c2, c3, c4, c5, c6, c7, c8, c9, c10⟩ := P3.below hb0 (by omega)
    have K4 := K3.trans (hb0.mono K3.size)
    have V1 := FView.oneO u0 92 (gateO k h.op)
    have O2 : FOwn ouEnc 8 92 y.heap.size (u0.alloc (Obj.cells #[.int .i64 (gateO k h.op).k, .int .i64 (gateO k h.op).pt, .int .i64 (gateO k h.op).r, .int .i64 (gateO k h.op).c, .int .i64 (gateO k h.op).b, .int .i64 (gateO k h.op).p, .int .i64 (gateO k h.op).h, .bool (gateO k h.op).on] 92)) (.slice adk G.length capk) G := (O3.later hb0).later (below_new _)
    unfold gateO at V1 O2
    dsimp only at V1 O2
    have S5 := K4.size
    go_wp2_with (first | (at_builtin; refine fappL ouEnc_len ouEnc_ones rfl _ _ 37 rfl y.heap.size 92 i0 (.agg #[.int .i64 0, .int .i64 0, .int .i64 0, .int .i64 0, .int .i64 0, .int .i64 0, .int .i64 0, .bool false]) 64 Tryz.underlying37 hi hz0 hz1 hz2 rfl (by decide) (by decide) (.slice adk G.length capk) G rfl O2 (some ⟨u0.heap.size, 0, none⟩) 1 [(⟨2, (k : Int), 0, 0, 0, 0, 0, h.op⟩ : Ou)] rfl (fun e => by cases e) V1 ?z0 ?z1 ?_) | go_in)
    case z0 => simp; omega
    case z1 => simp; omega
    intro vZ wZ hownZ hgrowZ _
    have ho2 : ∀ g_, (Value.slice adk G.length capk).ownBlock = some g_ → y.heap.size ≤ g_ := fun g_ e => (O2.lt g_ e).1
    have KZ : Below y.heap.size y wZ := (K4.alloc S5 _).grown hgrowZ (by simp; omega) ho2
    clear hgrowZ V1 O2 ho2 O3 c0 c1 c2 c3 c4 c5 c6 c7 c8 c9 c10
    go_wp2
    go_roundw
    case rel => exact ⟨k + 1, by omega, by go_num, by rw [hN.out]; exact hownZ, KZ⟩
    case measure => simp [intOf]; omega
  ·
   obtain rfl : k = M.length := by omega
   have BZ := B0.trans (K.mono B0.size)
   have OZ := O.base B0.size
   clear b0 b1
   go_wp2
   go_ret
   exact ⟨_, _, rfl, OZ, BZ⟩
end Go.Proofs.YtnpiljegdiconabGreat
