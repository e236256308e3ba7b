import Derived.Test.YtnpiljegdiconaaGreatQM24
namespace Go.Proofs.YtnpiljegdiconaaGreat
open Go.ChangeShapes Go.WideShapes Go.ChangeAt Go.RowKit
open Go.ChangeMaps (open_string shut_string)
set_option linter.unusedVariables false
set_option maxRecDepth 100000
theorem RgBox.put2 {w : World} {q : Nat} {r : Rg} (h : RgBox w q r) (p : Int) : RgBox (w.setCell ⟨q, 2, none⟩ (.int .i64 p)) q ⟨r.ep, r.ow, p⟩ :=
 ⟨⟨(pset_else (by decide)).trans h.at_.c0, (pset_else (by decide)).trans h.at_.c1, pset_same h.at_.c2⟩, fun i => by rw [World.frozen?_setCell]; exact h.fr i⟩
set_option maxHeartbeats 4000000 in
theorem pairsS (r : Rg) (s : Int) (m : Mi) (ad : Option Addr) (cap : Nat) (p : Int) (w : World) (hv : FView ikEnc w ad m.lg) (hl : m.lg.length ≤ 1048577) :
  Calls Tryz.prog 14 #[.agg #[.int .i64 r.ep, .int .i64 r.ow, .int .i64 r.pa], .int .i64 s, .agg #[.bool m.up, .int .i64 m.li, .int .i64 m.ep, .slice ad m.lg.length cap, .int .i64 m.sd, .int .i64 m.ac, .int .i64 m.al], .int .i64 p] w fun e w' => e = .returned (.tuple #[.agg #[.int .i64 (pairsR r s m p).ep, .int .i64 (pairsR r s m p).ow, .int .i64 (pairsR r s m p).pa], .bool (pairsB r s m p)]) ∧ Below w.heap.size w w' := by
 have hB := hv.lt ikEnc_len (by omega);obtain ⟨y, hy⟩ := mk_ (((w.alloc (Obj.cells #[.int .i64 r.ep, .int .i64 r.ow, .int .i64 r.pa] 25)).alloc (Obj.cells #[.bool m.up, .int .i64 m.li, .int .i64 m.ep, .slice ad m.lg.length cap, .int .i64 m.sd, .int .i64 m.ac, .int .i64 m.al] 28)).alloc (Obj.cells #[.int .i64 0, .int .i64 0, .int .i64 0] 25));have B0 : Below w.heap.size w y := by rw [hy]; exact (((Below.refl _ _).alloc (Nat.le_refl _) _).alloc (by simp) _).alloc (by simp; omega) _
 have A : RgBox y w.heap.size r := by rw [hy]; refine ⟨?_, fun i => ?_⟩; constructor <;> simp [go_sem]; simp [go_sem]
 have M : MiAt y (w.heap.size + 1) m (.slice ad m.lg.length cap) := by rw [hy]; constructor <;> simp [go_sem]
 have Z : RgBox y (w.heap.size + 1 + 1) ⟨0, 0, 0⟩ := by rw [hy]; refine ⟨?_, fun i => ?_⟩; constructor <;> simp [go_sem]; simp [go_sem]
 have hv1 := hv.below B0 hB;clear hv hB;go_enter Tryz.func14, Tryz.ntmps14
 obtain ⟨⟨x0, x1, x2⟩, xf⟩ := id A;obtain ⟨n0, n1, n2, n3, n4, n5, n6⟩ := id M;go_wp2_with fail
 go_at_call 19
 rw [← hy];clear hy x0 x1 x2 xf n0 n1 n2 n3 n4 n5 n6;refine (mindsS r s m ad cap y hv1 hl).mono ?_;rintro e v1 ⟨rfl, k1⟩;have A := A.below k1 A.lt;have M := M.below k1 M.lt;have Z := Z.below k1 Z.lt;have B1 := B0.trans (k1.mono B0.size);clear k1 B0 hv1;have Bn := below_put3 (q := w.heap.size + 1 + 1) r B1 (by omega);have hA2 := A.put2 p;have Bq : Below w.heap.size w (v1.setCell ⟨w.heap.size, 2, none⟩ (.int .i64 p)) := B1.setCell (p := ⟨w.heap.size, 2, none⟩) (Nat.le_refl _) _;have By := below_put3 (q := w.heap.size + 1 + 1) ⟨r.ep, r.ow, p⟩ Bq (by omega);obtain ⟨⟨x0, x1, x2⟩, xf⟩ := A;obtain ⟨n0, n1, n2, n3, n4, n5, n6⟩ := M;obtain ⟨⟨z0, z1, z2⟩, zf⟩ := Z;have g0 := zf 0;have g1 := zf 1;have g2 := zf 2;have f2 := xf 2;clear zf xf;obtain ⟨⟨q0, q1, q2⟩, qf⟩ := hA2;clear qf;dsimp only at q0 q1 q2 By;cases h1 : mindsB r s m
 ·
  have hP : Hid (pairsB r s m p = false) := by unfold Hid pairsB; rw [h1]; rfl
  have hQ : Hid (pairsR r s m p = r) := pairs_not hP.out;clear h1;go_wp2
  refine bodyPost_ret (v := .tuple #[.agg #[.int .i64 r.ep, .int .i64 r.ow, .int .i64 r.pa], .bool false]) (by simp [results, Tryz.results14, go_sem, *]) rfl ⟨by rw [hP.out, hQ.out], Bn⟩
 replace h1 : Hid _ := h1;by_cases h2 : p = 0
 ·
  have dh2 : (p == 0) = true := by simpa using h2
  have eh2 : (p != 0) = false := by simpa using h2
  have hP : Hid (pairsB r s m p = true) := by unfold Hid pairsB; rw [h1.out, decide_eq_true h2]; rfl
  have hQ : Hid (pairsR r s m p = ⟨r.ep, r.ow, p⟩) := by unfold Hid pairsR; rw [if_pos hP.out]
  replace h2 : Hid _ := h2;go_wp2
  refine bodyPost_ret (v := .tuple #[.agg #[.int .i64 r.ep, .int .i64 r.ow, .int .i64 p], .bool true]) (by simp [results, Tryz.results14, go_sem, *]) rfl ⟨by rw [hP.out, hQ.out], By⟩
 have dh2 : (p == 0) = false := by rw [beq_eq_false_iff_ne]; exact h2
 have eh2 : (p != 0) = true := by simpa using h2
 replace h2 : Hid (¬ p = 0) := h2;by_cases h3 : p = m.al
 ·
  have dh3 : (p == m.al) = true := by simpa using h3
  have eh3 : (p != m.al) = false := by simpa using h3
  replace h3 : Hid _ := h3;by_cases h4 : m.ac = (m.lg.length : Int)
  ·
   have dh4 : (m.ac == (m.lg.length : Int)) = true := by simpa using h4
   have eh4 : (m.ac != (m.lg.length : Int)) = false := by simpa using h4
   have hP : Hid (pairsB r s m p = true) := by unfold Hid pairsB; rw [h1.out, decide_eq_true h3.out, decide_eq_true h4, Bool.and_true, Bool.or_true]; rfl
   have hQ : Hid (pairsR r s m p = ⟨r.ep, r.ow, p⟩) := by unfold Hid pairsR; rw [if_pos hP.out]
   replace h4 : Hid _ := h4;go_wp2
   refine bodyPost_ret (v := .tuple #[.agg #[.int .i64 r.ep, .int .i64 r.ow, .int .i64 p], .bool true]) (by simp [results, Tryz.results14, go_sem, *]) rfl ⟨by rw [hP.out, hQ.out], By⟩
  have dh4 : (m.ac == (m.lg.length : Int)) = false := by rw [beq_eq_false_iff_ne]; exact h4
  have eh4 : (m.ac != (m.lg.length : Int)) = true := by simpa using h4
  have hP : Hid (pairsB r s m p = false) := by unfold Hid pairsB; rw [h1.out, decide_eq_false h2.out, decide_eq_false h4, Bool.and_false]; rfl
  have hQ : Hid (pairsR r s m p = r) := pairs_not hP.out;clear h4;go_wp2
  refine bodyPost_ret (v := .tuple #[.agg #[.int .i64 r.ep, .int .i64 r.ow, .int .i64 r.pa], .bool false]) (by simp [results, Tryz.results14, go_sem, *]) rfl ⟨by rw [hP.out, hQ.out], Bn⟩
 have dh3 : (p == m.al) = false := by rw [beq_eq_false_iff_ne]; exact h3
 have eh3 : (p != m.al) = true := by simpa using h3
 have hP : Hid (pairsB r s m p = false) := by unfold Hid pairsB; rw [h1.out, decide_eq_false h2.out, decide_eq_false h3]; rfl
 have hQ : Hid (pairsR r s m p = r) := pairs_not hP.out;clear h3;go_wp2
 refine bodyPost_ret (v := .tuple #[.agg #[.int .i64 r.ep, .int .i64 r.ow, .int .i64 r.pa], .bool false]) (by simp [results, Tryz.results14, go_sem, *]) rfl ⟨by rw [hP.out, hQ.out], Bn⟩
set_option maxHeartbeats 2000000 in
theorem readyS (m : Mi) (ad : Option Addr) (cap : Nat) (p : Int) (w : World) (hm : m.lg.length ≤ maxLen) :
  Calls Tryz.prog 247 #[.agg #[.bool m.up, .int .i64 m.li, .int .i64 m.ep, .slice ad m.lg.length cap, .int .i64 m.sd, .int .i64 m.ac, .int .i64 m.al], .int .i64 p] w fun e w' => e = .returned (.bool (readyB m p)) ∧ Below w.heap.size w w' := by
 obtain ⟨up, li, ep, L, sd, ac, al⟩ := m;dsimp only
 dsimp only at hm;obtain ⟨R, hR⟩ : ∃ R, R = readyB ⟨up, li, ep, L, sd, ac, al⟩ p := ⟨_, rfl⟩;rw [← hR];replace hR : Hid _ := hR;unfold maxLen at hm;have B0 := below_new (w := w) (Obj.cells #[.bool up, .int .i64 li, .int .i64 ep, .slice ad L.length cap, .int .i64 sd, .int .i64 ac, .int .i64 al] 28);cases up
 ·
  have hN : Hid (R = false) := by unfold Hid; rw [hR.out]; unfold readyB; clear hR B0; first | (simp [*]; done) | (simp [*] at *; done) | (simp_all; done) | omega | grind
  clear hR;go_enter Tryz.func247, Tryz.ntmps247
  go_wp2
  go_ret
  exact ⟨by rw [hN.out]; rfl, B0⟩
 by_cases q1 : 0 < ep
 ·
  have dq1 : decide (0 < ep) = true := decide_eq_true q1;by_cases q2 : sd < (L.length : Int)
  ·
   have dq2 : decide (sd < (L.length : Int)) = true := decide_eq_true q2;by_cases q3 : p = 0
   ·
    have dq3 : (p == 0) = true := by simpa using q3
    replace q3 : Hid _ := q3;have hN : Hid (R = true) := by unfold Hid; rw [hR.out]; unfold readyB; clear hR B0; have eq3 := q3.out; first | (simp [*]; done) | (simp [*] at *; done) | (simp_all; done) | omega | grind
    clear hR;go_enter Tryz.func247, Tryz.ntmps247
    go_wp2
    go_ret
    exact ⟨by rw [hN.out]; rfl, B0⟩
   have dq3 : (p == 0) = false := by simpa using q3
   replace q3 : Hid _ := q3;by_cases q4 : al = p
   ·
    have dq4 : (al == p) = true := by simpa using q4
    replace q4 : Hid _ := q4;by_cases q5 : sd < ac
    ·
     have dq5 : decide (sd < ac) = true := decide_eq_true q5;have hN : Hid (R = true) := by unfold Hid; rw [hR.out]; unfold readyB; clear hR B0; have eq3 := q3.out; have eq4 := q4.out; first | (simp [*]; done) | (simp [*] at *; done) | (simp_all; done) | omega | grind
     clear hR;go_enter Tryz.func247, Tryz.ntmps247
     go_wp2
     go_ret
     exact ⟨by rw [hN.out]; rfl, B0⟩
    have dq5 : decide (sd < ac) = false := decide_eq_false q5;have hN : Hid (R = false) := by unfold Hid; rw [hR.out]; unfold readyB; clear hR B0; have eq3 := q3.out; have eq4 := q4.out; first | (simp [*]; done) | (simp [*] at *; done) | (simp_all; done) | omega | grind
    clear hR;go_enter Tryz.func247, Tryz.ntmps247
    go_wp2
    go_ret
    exact ⟨by rw [hN.out]; rfl, B0⟩
   have dq4 : (al == p) = false := by simpa using q4
   replace q4 : Hid _ := q4;have hN : Hid (R = false) := by unfold Hid; rw [hR.out]; unfold readyB; clear hR B0; have eq3 := q3.out; have eq4 := q4.out; first | (simp [*]; done) | (simp [*] at *; done) | (simp_all; done) | omega | grind
   clear hR;go_enter Tryz.func247, Tryz.ntmps247
   go_wp2
   go_ret
   exact ⟨by rw [hN.out]; rfl, B0⟩
  have dq2 : decide (sd < (L.length : Int)) = false := decide_eq_false q2;have hN : Hid (R = false) := by unfold Hid; rw [hR.out]; unfold readyB; clear hR B0; first | (simp [*]; done) | (simp [*] at *; done) | (simp_all; done) | omega | grind
  clear hR;go_enter Tryz.func247, Tryz.ntmps247
  go_wp2
  go_ret
  exact ⟨by rw [hN.out]; rfl, B0⟩
 have dq1 : decide (0 < ep) = false := decide_eq_false q1;have hN : Hid (R = false) := by unfold Hid; rw [hR.out]; unfold readyB; clear hR B0; first | (simp [*]; done) | (simp [*] at *; done) | (simp_all; done) | omega | grind
 clear hR;go_enter Tryz.func247, Tryz.ntmps247
 go_wp2
 go_ret
 exact ⟨by rw [hN.out]; rfl, B0⟩
set_option maxHeartbeats 4000000 in
theorem sayS (id n : Int) (ad : Option Addr) (cap : Nat) (X : List Ik) (i : Int) (w : World) (hv : FView ikEnc w ad X) (hl : X.length ≤ 1048576) (hcp : X.length ≤ cap) :
  Calls Tryz.prog 248 #[.int .i64 id, .int .i64 n, .slice ad X.length cap, .int .i64 i] w fun e w' => ∃ a c, e = .returned (.slice a (sayR id n X i).length c) ∧ FOwn ouEnc 8 114 w.heap.size w' (.slice a (sayR id n X i).length c) (sayR id n X i) ∧ Below w.heap.size w w' := by
 have hB := hv.lt ikEnc_len (by omega);by_cases h0 : 0 ≤ i ∧ i ≤ (X.length : Int) - 1
 ·
  obtain ⟨k, rfl⟩ : ∃ k : Nat, i = (k : Int) := ⟨i.toNat, by omega⟩;have hk : k < X.length := by omega
  have d0 : decide (0 ≤ (k : Int) ∧ (k : Int) ≤ (X.length : Int) - 1) = true := decide_eq_true h0;obtain ⟨b, off, rfl, _⟩ := hv (by omega);obtain ⟨x, hh⟩ : ∃ x, X.getD k Ik.nil = x := ⟨_, rfl⟩;have hck : IkAtO w b (off + k * 8) x := by
   rw [← hh];exact ikAtO_of (hv.at_ ikEnc_len Ik.nil hk)
  have hcB : b < w.heap.size := hB ⟨b, off, none⟩ rfl (by omega);have hvT := hv.take k;have hkl : (X.take k).length = k := by rw [List.length_take]; omega
  have hS : sayR id n X (k : Int) = reactO (newI id n) (ofR id n (X.take k)) x := by unfold sayR; rw [sayL_at _ _ X Ik.nil hk, hh]; rfl
  have hMl := ofR_len id n (X.take k);obtain ⟨I, hI⟩ : ∃ v, newI id n = v := ⟨_, rfl⟩;obtain ⟨M, hM⟩ : ∃ v, ofR id n (X.take k) = v := ⟨_, rfl⟩;obtain ⟨D, hD⟩ : ∃ v, sayR id n X (k : Int) = v := ⟨_, rfl⟩;rw [hI, hM, hD] at hS;rw [hM] at hMl;rw [hD];obtain ⟨N, hN⟩ : ∃ v, reactL I M x = v := ⟨_, rfl⟩;replace hS := hS.symm;clear hh hD;replace hS : Hid _ := hS;replace hI : Hid _ := hI;replace hM : Hid _ := hM;replace hN : Hid _ := hN;replace hkl : Hid _ := hkl;go_enter Tryz.func248, Tryz.ntmps248
  go_wp2_with fail
  go_at_call 65
  refine (inB (k : Int) 0 ((X.length : Int) - 1) w).mono ?_;rintro e w_ ⟨rfl, hw_⟩;rw [d0, hw_];clear d0 h0 hw_;go_upto_region 3 with fail
  refine wp_region_held (S := fun Y => Below w.heap.size w Y) (by kernel_rfl) ?_;change wpAnyH _ _ _ _ _ _ _ _ (World.drew _);have hb0 : Below w.heap.size w w.drew := (Below.refl _ _).drew;obtain ⟨u0, hy0⟩ := mk_ w.drew;rw [← hy0] at hb0 ⊢;clear hy0;refine tw 0 19 (.int .i64 id) ?_;refine tw 1 20 (.int .i64 n) ?_;refine tw 2 21 (.slice (some ⟨b, off, none⟩) X.length cap) ?_;refine tw 3 22 (.int .i64 (k : Int)) ?_;refine tw 4 23 (.slice (some ⟨b, off, none⟩) k cap) ?_ (hy := by intro w hSw; go_simp; intro h_; omega);refine tw 6 25 (.slice (some ⟨b, off, none⟩) X.length cap) ?_;refine tw 7 26 (.int .i64 (k : Int)) ?_;refine tw 8 27 (.pointer (some ⟨b, off + k * 8, none⟩)) ?_;refine tw 9 28 (.agg #[.int .i64 x.k, .int .i64 x.q, .int .i64 x.r, .int .i64 x.c, .int .i64 x.b, .int .i64 x.p, .int .i64 x.h, .bool x.up]) ?_ (hy := by intro Y hSw; obtain ⟨X0, X1, X2, X3, X4, X5, X6, X7⟩ := hck.below hSw hcB; go_simp);refine wpAnyH_all (rs := [5, 14]) (by kernel_rfl) (by simp) ?_;intro i hi; rcases (by simpa using hi : i = 5 ∨ i = 14) with rfl | rfl
  ·
   refine wpOp_step rfl (fun K hK => ?_);rw [if_pos (by kernel_rfl)];go_simp
   go_at_call 103
   refine (show Calls _ _ _ _ _ by have h_ := bofS id n (some ⟨b, off, none⟩) cap (X.take k) u0 (hvT.below hb0 (fun a e _ => by cases e; exact hcB)) (by rw [hkl.out]; omega); rw [hkl.out] at h_; exact h_).mono ?_;rintro e u1 ⟨a1, c1, rfl, O1, kq⟩;rw [hM.out] at O1 ⊢;rw [hI.out];have hb1 : Below w.heap.size w u1 := hb0.trans (kq.mono hb0.size);clear kq;refine hK _ _ ⟨hb1, ?_⟩;clear hK K hi;refine wpAnyH_all (rs := [10, 14]) (by kernel_rfl) (by simp) ?_;intro i hi; rcases (by simpa using hi : i = 10 ∨ i = 14) with rfl | rfl
   focus
    refine wpOp_step rfl (fun K hK => ?_);rw [if_pos (by kernel_rfl)];go_simp
    go_at_call 77
    refine (reactS I a1 c1 M x u1 O1.view.2 (by omega) O1.capn).mono ?_;have bb : w.heap.size ≤ u1.heap.size := hb1.size;rintro e u2 ⟨a2, c2, o2, d2, rfl, O2, Q2, _, kq⟩;rw [hN.out] at O2 ⊢;rw [hS.out] at Q2 ⊢;have O1 := O1.later kq;have hb2 : Below w.heap.size w u2 := hb1.trans (kq.mono hb1.size);clear kq;refine hK _ _ ⟨hb2, ?_⟩;clear hK K hi;refine tw 11 18 (.tuple #[.agg #[.int .i64 I, .slice a2 N.length c2], .slice o2 D.length d2]) ?_;refine tw 12 30 (.agg #[.int .i64 I, .slice a2 N.length c2]) ?_;refine tw 13 31 (.slice o2 D.length d2) ?_;refine wpAnyH_all (rs := [14]) (by kernel_rfl) (by simp) ?_;intro i hi; obtain rfl : i = 14 := by simpa using hi
    refine wpOp_step rfl (fun K hK => ?_);rw [if_pos (by kernel_rfl)];go_simp
    obtain ⟨u3, hy⟩ := mk_ (u2.alloc (Obj.cells #[.int .i64 0, .slice none 0 0] 56));have kq : Below u2.heap.size u2 u3 := by rw [hy]; exact below_new _
    have jO1 : ∀ g_, (Value.slice a1 M.length c1).ownBlock = some g_ → g_ ≠ u2.heap.size := fun g_ e => by have h1 := (O1.lt g_ e).2; omega
    have jO2 : ∀ g_, (Value.slice a2 N.length c2).ownBlock = some g_ → g_ ≠ u2.heap.size := fun g_ e => by have h1 := (O2.lt g_ e).2; omega
    have jQ2 : ∀ g_, (Value.slice o2 D.length d2).ownBlock = some g_ → g_ ≠ u2.heap.size := fun g_ e => by have h1 := (Q2.lt g_ e).2; omega
    have O1 := O1.later kq;have O2 := O2.later kq;have Q2 := Q2.later kq;have FP : BBox u3 u2.heap.size 0 (.slice none 0 0) := by rw [hy]; exact BBox.new u2 _ _ _
    have pa : w.heap.size ≤ u2.heap.size := hb2.size;have hb3 : Below w.heap.size w u3 := hb2.trans (kq.mono hb2.size);rw [← hy];clear hy kq;refine hK _ _ ⟨hb3, ?_⟩;clear hK K hi;refine wpAnyH_all (rs := [15]) (by kernel_rfl) (by simp) ?_;intro i hi; obtain rfl : i = 15 := by simpa using hi
    refine wpOp_step rfl (fun K hK => ?_);rw [if_pos (by kernel_rfl)];have FQ := FP;obtain ⟨⟨t0, t1⟩, tf⟩ := FP;go_simp
    clear t0 t1 tf;obtain ⟨uf, huf⟩ := mk_ ((u3.setCell ⟨u2.heap.size, 0, none⟩ (.int .i64 I)).setCell ⟨u2.heap.size, 1, none⟩ (.slice a2 N.length c2));have FE : BBox uf (u2.heap.size) I (.slice a2 N.length c2) := by rw [huf]; exact FQ.put _ _
    have hbf : Below w.heap.size w uf := by rw [huf]; exact (hb3.setCell (p := ⟨u2.heap.size, 0, none⟩) pa _).setCell (p := ⟨u2.heap.size, 1, none⟩) pa _
    have O1 := O1.keep (w' := uf) (fun g_ e => by rw [huf, Below.heap_setCell _ _ _ _ (by show g_ ≠ u2.heap.size; exact jO1 g_ e), Below.heap_setCell _ _ _ _ (by show g_ ≠ u2.heap.size; exact jO1 g_ e)]);have O2 := O2.keep (w' := uf) (fun g_ e => by rw [huf, Below.heap_setCell _ _ _ _ (by show g_ ≠ u2.heap.size; exact jO2 g_ e), Below.heap_setCell _ _ _ _ (by show g_ ≠ u2.heap.size; exact jO2 g_ e)]);have Q2 := Q2.keep (w' := uf) (fun g_ e => by rw [huf, Below.heap_setCell _ _ _ _ (by show g_ ≠ u2.heap.size; exact jQ2 g_ e), Below.heap_setCell _ _ _ _ (by show g_ ≠ u2.heap.size; exact jQ2 g_ e)])
   rotate_left;focus
    refine wpOp_step rfl (fun K hK => ?_);rw [if_pos (by kernel_rfl)];go_simp
    obtain ⟨u2, hy⟩ := mk_ (u1.alloc (Obj.cells #[.int .i64 0, .slice none 0 0] 56));have kq : Below u1.heap.size u1 u2 := by rw [hy]; exact below_new _
    have jO1 : ∀ g_, (Value.slice a1 M.length c1).ownBlock = some g_ → g_ ≠ u1.heap.size := fun g_ e => by have h1 := (O1.lt g_ e).2; omega
    have O1 := O1.later kq;have FP : BBox u2 u1.heap.size 0 (.slice none 0 0) := by rw [hy]; exact BBox.new u1 _ _ _
    have pa : w.heap.size ≤ u1.heap.size := hb1.size;have hb2 : Below w.heap.size w u2 := hb1.trans (kq.mono hb1.size);rw [← hy];clear hy kq;refine hK _ _ ⟨hb2, ?_⟩;clear hK K hi;refine wpAnyH_all (rs := [10]) (by kernel_rfl) (by simp) ?_;intro i hi; obtain rfl : i = 10 := by simpa using hi
    refine wpOp_step rfl (fun K hK => ?_);rw [if_pos (by kernel_rfl)];go_simp
    go_at_call 77
    refine (reactS I a1 c1 M x u2 O1.view.2 (by omega) O1.capn).mono ?_;have bb : w.heap.size ≤ u2.heap.size := hb2.size;rintro e u3 ⟨a2, c2, o2, d2, rfl, O2, Q2, _, kq⟩;rw [hN.out] at O2 ⊢;rw [hS.out] at Q2 ⊢;have jO2 : ∀ g_, (Value.slice a2 N.length c2).ownBlock = some g_ → g_ ≠ u1.heap.size := fun g_ e => by have h1 := (O2.lt g_ e).1; have h2 := FP.lt; omega
    have jQ2 : ∀ g_, (Value.slice o2 D.length d2).ownBlock = some g_ → g_ ≠ u1.heap.size := fun g_ e => by have h1 := (Q2.lt g_ e).1; have h2 := FP.lt; omega
    have O1 := O1.later kq;have FP := FP.below kq FP.lt;have hb3 : Below w.heap.size w u3 := hb2.trans (kq.mono hb2.size);clear kq;refine hK _ _ ⟨hb3, ?_⟩;clear hK K hi;refine tw 11 18 (.tuple #[.agg #[.int .i64 I, .slice a2 N.length c2], .slice o2 D.length d2]) ?_;refine tw 12 30 (.agg #[.int .i64 I, .slice a2 N.length c2]) ?_;refine tw 13 31 (.slice o2 D.length d2) ?_;refine wpAnyH_all (rs := [15]) (by kernel_rfl) (by simp) ?_;intro i hi; obtain rfl : i = 15 := by simpa using hi
    refine wpOp_step rfl (fun K hK => ?_);rw [if_pos (by kernel_rfl)];have FQ := FP;obtain ⟨⟨t0, t1⟩, tf⟩ := FP;go_simp
    clear t0 t1 tf;obtain ⟨uf, huf⟩ := mk_ ((u3.setCell ⟨u1.heap.size, 0, none⟩ (.int .i64 I)).setCell ⟨u1.heap.size, 1, none⟩ (.slice a2 N.length c2));have FE : BBox uf (u1.heap.size) I (.slice a2 N.length c2) := by rw [huf]; exact FQ.put _ _
    have hbf : Below w.heap.size w uf := by rw [huf]; exact (hb3.setCell (p := ⟨u1.heap.size, 0, none⟩) pa _).setCell (p := ⟨u1.heap.size, 1, none⟩) pa _
    have O1 := O1.keep (w' := uf) (fun g_ e => by rw [huf, Below.heap_setCell _ _ _ _ (by show g_ ≠ u1.heap.size; exact jO1 g_ e), Below.heap_setCell _ _ _ _ (by show g_ ≠ u1.heap.size; exact jO1 g_ e)]);have O2 := O2.keep (w' := uf) (fun g_ e => by rw [huf, Below.heap_setCell _ _ _ _ (by show g_ ≠ u1.heap.size; exact jO2 g_ e), Below.heap_setCell _ _ _ _ (by show g_ ≠ u1.heap.size; exact jO2 g_ e)]);have Q2 := Q2.keep (w' := uf) (fun g_ e => by rw [huf, Below.heap_setCell _ _ _ _ (by show g_ ≠ u1.heap.size; exact jQ2 g_ e), Below.heap_setCell _ _ _ _ (by show g_ ≠ u1.heap.size; exact jQ2 g_ e)])
   rotate_left;all_goals
    rw [← huf];clear huf FQ;refine hK _ _ ⟨hbf, ?_⟩;clear hK K hi;refine tw 16 10 (.slice o2 D.length d2) ?_;refine wpAnyH_done (by kernel_rfl) ?_ _;have QZ := Q2.base bb;go_wp2
    go_ret
    exact ⟨o2, d2, rfl, QZ, hbf⟩
  refine wpOp_step rfl (fun K hK => ?_);rw [if_pos (by kernel_rfl)];go_simp
  obtain ⟨u1, hy⟩ := mk_ (u0.alloc (Obj.cells #[.int .i64 0, .slice none 0 0] 56));have kq : Below u0.heap.size u0 u1 := by rw [hy]; exact below_new _
  have FP : BBox u1 u0.heap.size 0 (.slice none 0 0) := by rw [hy]; exact BBox.new u0 _ _ _
  have pa : w.heap.size ≤ u0.heap.size := hb0.size;have hb1 : Below w.heap.size w u1 := hb0.trans (kq.mono hb0.size);rw [← hy];clear hy kq;refine hK _ _ ⟨hb1, ?_⟩;clear hK K hi;refine wpAnyH_all (rs := [5]) (by kernel_rfl) (by simp) ?_;intro i hi; obtain rfl : i = 5 := by simpa using hi
  refine wpOp_step rfl (fun K hK => ?_);rw [if_pos (by kernel_rfl)];go_simp
  go_at_call 103
  refine (show Calls _ _ _ _ _ by have h_ := bofS id n (some ⟨b, off, none⟩) cap (X.take k) u1 (hvT.below hb1 (fun a e _ => by cases e; exact hcB)) (by rw [hkl.out]; omega); rw [hkl.out] at h_; exact h_).mono ?_;rintro e u2 ⟨a1, c1, rfl, O1, kq⟩;rw [hM.out] at O1 ⊢;rw [hI.out];have jO1 : ∀ g_, (Value.slice a1 M.length c1).ownBlock = some g_ → g_ ≠ u0.heap.size := fun g_ e => by have h1 := (O1.lt g_ e).1; have h2 := FP.lt; omega
  have FP := FP.below kq FP.lt;have hb2 : Below w.heap.size w u2 := hb1.trans (kq.mono hb1.size);clear kq;refine hK _ _ ⟨hb2, ?_⟩;clear hK K hi;refine wpAnyH_all (rs := [10]) (by kernel_rfl) (by simp) ?_;intro i hi; obtain rfl : i = 10 := by simpa using hi
  refine wpOp_step rfl (fun K hK => ?_);rw [if_pos (by kernel_rfl)];go_simp
  go_at_call 77
  refine (reactS I a1 c1 M x u2 O1.view.2 (by omega) O1.capn).mono ?_;have bb : w.heap.size ≤ u2.heap.size := hb2.size;rintro e u3 ⟨a2, c2, o2, d2, rfl, O2, Q2, _, kq⟩;rw [hN.out] at O2 ⊢;rw [hS.out] at Q2 ⊢;have jO2 : ∀ g_, (Value.slice a2 N.length c2).ownBlock = some g_ → g_ ≠ u0.heap.size := fun g_ e => by have h1 := (O2.lt g_ e).1; have h2 := FP.lt; omega
  have jQ2 : ∀ g_, (Value.slice o2 D.length d2).ownBlock = some g_ → g_ ≠ u0.heap.size := fun g_ e => by have h1 := (Q2.lt g_ e).1; have h2 := FP.lt; omega
  have O1 := O1.later kq;have FP := FP.below kq FP.lt;have hb3 : Below w.heap.size w u3 := hb2.trans (kq.mono hb2.size);clear kq;refine hK _ _ ⟨hb3, ?_⟩;clear hK K hi;refine tw 11 18 (.tuple #[.agg #[.int .i64 I, .slice a2 N.length c2], .slice o2 D.length d2]) ?_;refine tw 12 30 (.agg #[.int .i64 I, .slice a2 N.length c2]) ?_;refine tw 13 31 (.slice o2 D.length d2) ?_;refine wpAnyH_all (rs := [15]) (by kernel_rfl) (by simp) ?_;intro i hi; obtain rfl : i = 15 := by simpa using hi
  refine wpOp_step rfl (fun K hK => ?_);rw [if_pos (by kernel_rfl)];have FQ := FP;obtain ⟨⟨t0, t1⟩, tf⟩ := FP;go_simp
  clear t0 t1 tf;obtain ⟨uf, huf⟩ := mk_ ((u3.setCell ⟨u0.heap.size, 0, none⟩ (.int .i64 I)).setCell ⟨u0.heap.size, 1, none⟩ (.slice a2 N.length c2));have FE : BBox uf (u0.heap.size) I (.slice a2 N.length c2) := by rw [huf]; exact FQ.put _ _
  have hbf : Below w.heap.size w uf := by rw [huf]; exact (hb3.setCell (p := ⟨u0.heap.size, 0, none⟩) pa _).setCell (p := ⟨u0.heap.size, 1, none⟩) pa _
  have O1 := O1.keep (w' := uf) (fun g_ e => by rw [huf, Below.heap_setCell _ _ _ _ (by show g_ ≠ u0.heap.size; exact jO1 g_ e), Below.heap_setCell _ _ _ _ (by show g_ ≠ u0.heap.size; exact jO1 g_ e)]);have O2 := O2.keep (w' := uf) (fun g_ e => by rw [huf, Below.heap_setCell _ _ _ _ (by show g_ ≠ u0.heap.size; exact jO2 g_ e), Below.heap_setCell _ _ _ _ (by show g_ ≠ u0.heap.size; exact jO2 g_ e)]);have Q2 := Q2.keep (w' := uf) (fun g_ e => by rw [huf, Below.heap_setCell _ _ _ _ (by show g_ ≠ u0.heap.size; exact jQ2 g_ e), Below.heap_setCell _ _ _ _ (by show g_ ≠ u0.heap.size; exact jQ2 g_ e)]);rw [← huf];clear huf FQ;refine hK _ _ ⟨hbf, ?_⟩;clear hK K hi;refine tw 16 10 (.slice o2 D.length d2) ?_;refine wpAnyH_done (by kernel_rfl) ?_ _;have QZ := Q2.base bb;go_wp2
  go_ret
  exact ⟨o2, d2, rfl, QZ, hbf⟩
 have d0 : decide (0 ≤ i ∧ i ≤ (X.length : Int) - 1) = false := decide_eq_false h0;have hD : sayR id n X i = [] := by unfold sayR sayL; rw [if_neg (by omega)]
 rw [hD];clear hD;have O0 : FOwn ouEnc 8 114 w.heap.size (w.alloc (Obj.cells #[] 114)) (.slice (some ⟨w.heap.size, 0, none⟩) 0 0) ([] : List Ou) := FOwn.empty w;have B0 := below_new (w := w) (Obj.cells #[] 114);go_enter Tryz.func248, Tryz.ntmps248
 go_wp2_with fail
 go_at_call 65
 refine (inB i 0 ((X.length : Int) - 1) w).mono ?_;rintro e w_ ⟨rfl, hw_⟩;rw [d0, hw_];clear d0 h0 hw_;go_wp2
 go_ret
 exact ⟨_, _, rfl, O0, B0⟩
set_option maxHeartbeats 4000000 in
theorem pairsI (r : Rg) (s : Int) (m : Mi) (ad : Option Addr) (cap : Nat) (p : Int) (w : World) (hv : FView ikEnc w ad m.lg) (hl : m.lg.length ≤ 1048577) :
  Calls Tryz.prog 13 #[.agg #[.int .i64 r.ep, .int .i64 r.ow, .int .i64 r.pa], .int .i64 s, .agg #[.bool m.up, .int .i64 m.li, .int .i64 m.ep, .slice ad m.lg.length cap, .int .i64 m.sd, .int .i64 m.ac, .int .i64 m.al], .int .i64 p] w fun e w' => e = .returned (.tuple #[.agg #[.int .i64 (pairsR r s m p).ep, .int .i64 (pairsR r s m p).ow, .int .i64 (pairsR r s m p).pa], .bool (pairsB r s m p)]) ∧ Below w.heap.size w w' := by
 have hB := hv.lt ikEnc_len (by omega);obtain ⟨y, hy⟩ := mk_ (((w.alloc (Obj.cells #[.int .i64 r.ep, .int .i64 r.ow, .int .i64 r.pa] 25)).alloc (Obj.cells #[.bool m.up, .int .i64 m.li, .int .i64 m.ep, .slice ad m.lg.length cap, .int .i64 m.sd, .int .i64 m.ac, .int .i64 m.al] 28)).alloc (Obj.cells #[.int .i64 0, .int .i64 0, .int .i64 0] 25));have B0 : Below w.heap.size w y := by rw [hy]; exact (((Below.refl _ _).alloc (Nat.le_refl _) _).alloc (by simp) _).alloc (by simp; omega) _
 have A : RgBox y w.heap.size r := by rw [hy]; refine ⟨?_, fun i => ?_⟩; constructor <;> simp [go_sem]; simp [go_sem]
 have M : MiAt y (w.heap.size + 1) m (.slice ad m.lg.length cap) := by rw [hy]; constructor <;> simp [go_sem]
 have Z : RgBox y (w.heap.size + 1 + 1) ⟨0, 0, 0⟩ := by rw [hy]; refine ⟨?_, fun i => ?_⟩; constructor <;> simp [go_sem]; simp [go_sem]
 have hv1 := hv.below B0 hB;clear hv hB;go_enter Tryz.func13, Tryz.ntmps13
 obtain ⟨⟨x0, x1, x2⟩, xf⟩ := id A;obtain ⟨n0, n1, n2, n3, n4, n5, n6⟩ := id M;go_wp2_with fail
 go_at_call 18
 rw [← hy];clear hy x0 x1 x2 xf n0 n1 n2 n3 n4 n5 n6;refine (mindsI r s m ad cap y hv1 hl).mono ?_;rintro e v1 ⟨rfl, k1⟩;have A := A.below k1 A.lt;have M := M.below k1 M.lt;have Z := Z.below k1 Z.lt;have B1 := B0.trans (k1.mono B0.size);have s1 := k1.size;clear k1 B0 hv1;cases h1 : mindsB r s m
 ·
  have hP : Hid (pairsB r s m p = false) := by unfold Hid; rw [pairsB_is]; rw [h1]; rfl
  have hQ : Hid (pairsR r s m p = r) := pairs_not hP.out;have Bn := below_put3 (q := w.heap.size + 1 + 1) r B1 (by omega);obtain ⟨⟨x0, x1, x2⟩, xf⟩ := A;obtain ⟨⟨z0, z1, z2⟩, zf⟩ := Z;have g0 := zf 0;have g1 := zf 1;have g2 := zf 2;clear xf zf;go_wp2
  refine bodyPost_ret (v := .tuple #[.agg #[.int .i64 r.ep, .int .i64 r.ow, .int .i64 r.pa], .bool false]) (by simp [results, Tryz.results13, go_sem, *]) rfl ⟨by rw [hP.out, hQ.out], Bn⟩
 replace h1 : Hid _ := h1;obtain ⟨n0, n1, n2, n3, n4, n5, n6⟩ := id M;go_wp2_with fail
 go_at_call 67
 clear n0 n1 n2 n3 n4 n5 n6;refine (mayPairI m p ad cap v1).mono ?_;rintro e v2 ⟨rfl, k2⟩;have A := A.below k2 A.lt;have M := M.below k2 M.lt;have Z := Z.below k2 Z.lt;have B2 := B1.trans (k2.mono B1.size);have s2 := k2.size;clear k2 B1;cases h2 : mayB m p
 ·
  have hP : Hid (pairsB r s m p = false) := by unfold Hid; rw [pairsB_is]; rw [h1.out, h2]; rfl
  have hQ : Hid (pairsR r s m p = r) := pairs_not hP.out;have Bn := below_put3 (q := w.heap.size + 1 + 1) r B2 (by omega);obtain ⟨⟨x0, x1, x2⟩, xf⟩ := A;obtain ⟨⟨z0, z1, z2⟩, zf⟩ := Z;have g0 := zf 0;have g1 := zf 1;have g2 := zf 2;clear xf zf;go_wp2
  refine bodyPost_ret (v := .tuple #[.agg #[.int .i64 r.ep, .int .i64 r.ow, .int .i64 r.pa], .bool false]) (by simp [results, Tryz.results13, go_sem, *]) rfl ⟨by rw [hP.out, hQ.out], Bn⟩
 have B2s : w.heap.size ≤ v2.heap.size := B2.size;have hP : Hid (pairsB r s m p = true) := by unfold Hid; rw [pairsB_is, h1.out, h2]; rfl
 have hQ : Hid (pairsR r s m p = ⟨r.ep, r.ow, p⟩) := by unfold Hid pairsR; rw [if_pos hP.out]
 clear h2;have zl := Z.lt;obtain ⟨⟨x0, x1, x2⟩, xf⟩ := id A;go_wp2_with fail
 go_at_call 55
 clear x0 x1 x2 xf;refine (regOfI r v2).mono ?_;rintro e v3 ⟨qg, rfl, G, lg, k3⟩;have Z := Z.below k3 Z.lt;have B3 := B2.trans (k3.mono B2.size);have s3 := k3.size;clear k3 B2;go_wp2_with fail
 go_at_call 68
 refine (pairWI r p qg v3 G).mono ?_;rintro e v4 ⟨rfl, G4, t4⟩;have k4 : Below v2.heap.size v3 v4 := t4.below s3 (by omega) (fun g e => by cases e);have Z := Z.below k4 (by omega);have B4 := B3.trans (k4.mono B2s);have s4 := k4.size;clear k4 t4 B3;go_wp2_with fail
 go_at_call 61
 refine (gToldI ⟨r.ep, r.ow, p⟩ qg v4 G4).mono ?_;rintro e v5 ⟨rfl, G5, t5⟩;have k5 : Below v2.heap.size v4 v5 := t5.below (by omega) (by omega) (fun g e => by cases e);have Z := Z.below k5 (by omega);have B5 := B4.trans (k5.mono B2s);clear k5 t5 B4 G5;have Bn := below_put3 (q := w.heap.size + 1 + 1) ⟨r.ep, r.ow, p⟩ B5 (by omega);obtain ⟨⟨z0, z1, z2⟩, zf⟩ := Z;have g0 := zf 0;have g1 := zf 1;have g2 := zf 2;clear zf;dsimp only at Bn;go_wp2
 refine bodyPost_ret (v := .tuple #[.agg #[.int .i64 r.ep, .int .i64 r.ow, .int .i64 p], .bool true]) (by simp [results, Tryz.results13, go_sem, *]) rfl ⟨by rw [hP.out, hQ.out], Bn⟩
end Go.Proofs.YtnpiljegdiconaaGreat
