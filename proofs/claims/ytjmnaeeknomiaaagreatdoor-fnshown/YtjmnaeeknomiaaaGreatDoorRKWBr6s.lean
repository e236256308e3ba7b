import Derived.Test.YtjmnaeeknomiaaaGreatDoorRKWBr5s
import Derived.Test.YtjmnaeeknomiaaaGreatDoorRM10
namespace Go.Proofs.YtjmnaeeknomiaaaGreatDoor
open Go.ChangeShapes Go.WideShapes Go.ChangeAt Go.RowKit
open Go.ChangeMaps (open_string shut_string)
set_option linter.unusedVariables false
set_option maxRecDepth 100000
set_option maxHeartbeats 32000000
set_option linter.unusedSimpArgs false
open Go.Proofs.Tryz
attribute [local go_sem] ji ja
theorem G7 (id : Int) (ad : Option Addr) (cap : Nat) (L : List Pt) (port : Int) (w : World) (hv : AI AK w ad L) (hl : L.length ≤ 1048576) :
  Calls prog 94 #[.agg #[ji id, .slice ad L.length cap], ji port] w fun e w' => e = .returned (.agg #[ji (Cc id L port).1, ji (Cc id L port).2.1, ji (Cc id L port).2.2.1, ji (Cc id L port).2.2.2]) ∧ Bw w w' := by
 have hB := hv.lt AV (by omega);obtain ⟨y, hy⟩ := AC ((w.alloc (Obj.cells #[ji id, .slice ad L.length cap] 51)).alloc (Obj.cells #[ji 0, ji 0, ji 0, ji 0] 25));have B0 : Bw w y := by rw [hy]; exact ((Below.refl _ _).alloc (Nat.le_refl _) _).alloc (by simp) _
 have A0 : Ap y w.heap.size id (.slice ad L.length cap) := by rw [hy]; constructor <;> simp [go_sem]
 have V0 : FK y (w.heap.size + 1) 0 0 0 0 := by rw [hy]; refine ⟨?_, fun i => ?_⟩; (refine ⟨?_, ?_, ?_, ?_⟩ <;> simp [go_sem]); simp [go_sem]
 have S0 : w.heap.size + 1 < y.heap.size := V0.lt;have hv1 := hv.below B0 hB;have hB1 := hv1.lt AV (by omega);obtain ⟨Y, hY⟩ := AC (Cc id L port);rw [← hY];replace hY : Hid _ := hY;go_enter func94, ntmps94
 go_wp2_with fail
 go_at_call 91
 rw [← hy];clear hy hv hB;refine (Fh id ad cap L y hv1 hl).mono ?_;rintro e w1 ⟨rfl, k1⟩;have B1 := AG B0 k1;have A1 := A0.below k1 (by omega);have V1 := V0.below k1 (by omega);have S1 : w.heap.size + 1 < w1.heap.size := V1.lt;have hv2 := hv1.below k1 hB1;have hB2 := hv2.lt AV (by omega);clear A0 V0 hv1 hB1 k1 B0 S0;cases hb : Az id L with
 | false =>
  have hN : Hid (Y = (0, 0, 0, 0)) := by unfold Hid; rw [hY.out]; unfold Cc; rw [hb]; rfl
  clear hY;obtain ⟨⟨t0, t1, t2, t3⟩, tf⟩ := V1;have BZ := B1.setCell (p := ⟨w.heap.size + 1, 0, none⟩) (by show _ ≤ w.heap.size + 1; omega) (ji 0);have BZ := BZ.setCell (p := ⟨w.heap.size + 1, 1, none⟩) (by show _ ≤ w.heap.size + 1; omega) (ji 0);have BZ := BZ.setCell (p := ⟨w.heap.size + 1, 2, none⟩) (by show _ ≤ w.heap.size + 1; omega) (ji 0);have BZ := BZ.setCell (p := ⟨w.heap.size + 1, 3, none⟩) (by show _ ≤ w.heap.size + 1; omega) (ji 0);go_wp2
  refine bodyPost_ret (v := .agg #[ji 0, ji 0, ji 0, ji 0]) (by simp [results, results94, go_sem, *]) rfl ⟨by rw [hN.out], BZ⟩
 | true =>
  have hlen := (DJ hb).2.1;by_cases hp : 0 ≤ port ∧ port < (L.length : Int)
  rotate_left
  ·
   have hN : Hid (Y = (0, 0, 0, 0)) := by unfold Hid; rw [hY.out]; unfold Cc; rw [hb, decide_eq_false hp]; rfl
   have dp : decide (0 ≤ port ∧ port < (L.length : Int)) = false := decide_eq_false hp;clear hY;obtain ⟨a0, a1⟩ := A1;replace hp : Hid _ := hp;have es : decide (0 ≤ port ∧ port ≤ (L.length : Int) - 1) = decide (0 ≤ port ∧ port < (L.length : Int)) := decide_eq_decide.2 (by omega);go_wp2_with fail
   go_at_call 66
   refine (BE port 0 ((L.length : Int) - 1) w1).mono ?_;rintro e w2 ⟨rfl, hw2⟩;have kp : Bw w1 w2 := by rw [hw2]; exact Below.refl _ _
   rw [es];clear es hw2;rw [dp];have B2 := AG B1 kp;have V2 := V1.below kp S1;clear dp;obtain ⟨⟨t0, t1, t2, t3⟩, tf⟩ := V2;have BZ := B2.setCell (p := ⟨w.heap.size + 1, 0, none⟩) (by show _ ≤ w.heap.size + 1; omega) (ji 0);have BZ := BZ.setCell (p := ⟨w.heap.size + 1, 1, none⟩) (by show _ ≤ w.heap.size + 1; omega) (ji 0);have BZ := BZ.setCell (p := ⟨w.heap.size + 1, 2, none⟩) (by show _ ≤ w.heap.size + 1; omega) (ji 0);have BZ := BZ.setCell (p := ⟨w.heap.size + 1, 3, none⟩) (by show _ ≤ w.heap.size + 1; omega) (ji 0);go_wp2
   refine bodyPost_ret (v := .agg #[ji 0, ji 0, ji 0, ji 0]) (by simp [results, results94, go_sem, *]) rfl ⟨by rw [hN.out], BZ⟩
  have dp : decide (0 ≤ port ∧ port < (L.length : Int)) = true := decide_eq_true hp;have hN : Hid (Y = match Cv id L with
   | none => (id, 0, id, port)
   | some k => ((L.getD k Pt.nil).r, (L.getD k Pt.nil).c + 1, id, port)) := by unfold Hid; rw [hY.out]; unfold Cc; rw [hb, dp]; rfl
  clear hY;replace hp : Hid _ := hp;obtain ⟨a0, a1⟩ := A1;have es : decide (0 ≤ port ∧ port ≤ (L.length : Int) - 1) = decide (0 ≤ port ∧ port < (L.length : Int)) := decide_eq_decide.2 (by omega);go_wp2_with fail
  go_at_call 66
  refine (BE port 0 ((L.length : Int) - 1) w1).mono ?_;rintro e w2 ⟨rfl, hw2⟩;have kp : Bw w1 w2 := by rw [hw2]; exact Below.refl _ _
  rw [es];clear es hw2;rw [dp];have B2 := AG B1 kp;have A2 := Ap.below ⟨a0, a1⟩ kp (by omega);have V2 := V1.below kp S1;have S2 : w.heap.size + 1 < w2.heap.size := V2.lt;have hv3 := hv2.below kp hB2;have hB3 := hv3.lt AV (by omega);clear dp a0 a1 kp V1 hv2 hB2 B1;obtain ⟨a0, a1⟩ := A2;go_wp2_with fail
  go_at_call 116
  refine (Gq id ad cap L w2 hv3 hl).mono ?_;rintro e w3 ⟨rfl, k3⟩;have B3 := AG B2 k3;have A3 := Ap.below ⟨a0, a1⟩ k3 (by omega);have V3 := V2.below k3 S2;have S3 : w.heap.size + 1 < w3.heap.size := V3.lt;have hv4 := hv3.below k3 hB3;clear a0 a1 k3 V2 hv3 hB3 B2;obtain ⟨a0, a1⟩ := A3;obtain ⟨⟨t0, t1, t2, t3⟩, tf⟩ := V3;cases hr : Cv id L with
  | none =>
   have hN2 : Hid (Y = (id, 0, id, port)) := by unfold Hid; rw [hN.out, hr]
   clear hN;have BZ := B3.setCell (p := ⟨w.heap.size + 1, 0, none⟩) (by show _ ≤ w.heap.size + 1; omega) (ji id);have BZ := BZ.setCell (p := ⟨w.heap.size + 1, 1, none⟩) (by show _ ≤ w.heap.size + 1; omega) (ji 0);have BZ := BZ.setCell (p := ⟨w.heap.size + 1, 2, none⟩) (by show _ ≤ w.heap.size + 1; omega) (ji id);have BZ := BZ.setCell (p := ⟨w.heap.size + 1, 3, none⟩) (by show _ ≤ w.heap.size + 1; omega) (ji port);simp only [oI, Option.isSome];go_wp2
   refine bodyPost_ret (v := .agg #[ji id, ji 0, ji id, ji port]) (by simp [results, results94, go_sem, *]) rfl ⟨by rw [hN2.out], BZ⟩
  | some k =>
   obtain ⟨_, hk, hcd⟩ := GZ hr;obtain ⟨g, hg⟩ : ∃ g, L.getD k Pt.nil = g := ⟨_, rfl⟩;have hN2 : Hid (Y = (g.r, g.c + 1, id, port)) := by unfold Hid; rw [hN.out, hr, ← hg]
   have hc20 : g.c < 20 := by
    rw [hg] at hcd;simp only [Br, Bool.and_eq_true, decide_eq_true_eq] at hcd;exact hcd.2.2.2.1
   have hc0 : 0 ≤ g.c := by
    rw [hg] at hcd;simp only [Br, Bool.and_eq_true, decide_eq_true_eq] at hcd;have h1 := (DJ hb).2.2 k;rw [hg] at h1;have h2 := (FW h1 hcd.1).2.1;simp only [Bc, decide_eq_true_eq] at h2;omega
   obtain ⟨bk, off, rfl, _⟩ := hv4 (by omega);obtain ⟨c0, c1, c2, c3, c4, c5, c6, c7, c8, c9, c10⟩ : CA w3 bk (off + k * 11) g := by rw [← hg]; exact CP (hv4.at_ AV Pt.nil hk)
   clear hN hg hcd hr hv4;obtain ⟨y4, hy4, kn⟩ := AM w3 (Obj.cells #[ji g.r, ji g.c, ji g.b, ji g.p] 25);have G4 : DC y4 w3.heap.size g.r g.c g.b g.p := by rw [hy4]; exact Gd w3 _ _ _ _ _
   have A4 := Ap.below ⟨a0, a1⟩ kn (by omega);have V4 := FK.below ⟨⟨t0, t1, t2, t3⟩, tf⟩ kn (by omega);have B4 := AG B3 kn;simp only [oI, Option.isSome];go_upto_region 7 with fail
   rw [← hy4];clear hy4 a0 a1 t0 t1 t2 t3 tf kn c0 c1 c2 c3 c4 c5 c6 c7 c8 c9 c10;generalize w3.heap.size = Q at S3 G4 ⊢
   obtain ⟨a0, a1⟩ := A4;obtain ⟨⟨t0, t1, t2, t3⟩, tf⟩ := V4;replace G4 := G4.all;have BZ := B4.setCell (p := ⟨w.heap.size + 1, 0, none⟩) (by show _ ≤ w.heap.size + 1; omega) (ji g.r);have BZ := BZ.setCell (p := ⟨w.heap.size + 1, 1, none⟩) (by show _ ≤ w.heap.size + 1; omega) (ji (g.c + 1));have BZ := BZ.setCell (p := ⟨w.heap.size + 1, 2, none⟩) (by show _ ≤ w.heap.size + 1; omega) (ji id);have BZ := BZ.setCell (p := ⟨w.heap.size + 1, 3, none⟩) (by show _ ≤ w.heap.size + 1; omega) (ji port);go_wp2
   refine bodyPost_ret (v := .agg #[ji g.r, ji (g.c + 1), ji id, ji port]) (by simp [results, results94, go_sem, *]) rfl ⟨by rw [hN2.out], BZ⟩
theorem LW (id : Int) (ad : Option Addr) (cap : Nat) (L : List Pt) (w : World) (hv : AI AK w ad L) (hl : L.length ≤ 1048576) :
  Calls prog 95 #[.agg #[ji id, .slice ad L.length cap]] w fun e w' => e = .returned (ji (Fe id L)) ∧ Bw w w' := by
 have hB := hv.lt AV (by omega);obtain ⟨y, hy, B0⟩ := AM w (Obj.cells #[ji id, .slice ad L.length cap] 51);have A0 : Ap y w.heap.size id (.slice ad L.length cap) := by rw [hy]; exact Ap.new w _ _ _
 have S0 := A0.lt;have hv1 := hv.below B0 hB;have hB1 := hv1.lt AV (by omega);obtain ⟨Y, hY⟩ := AC (Fe id L);rw [← hY];replace hY : Hid _ := hY;go_enter func95, ntmps95
 go_wp2_with fail
 go_at_call 116
 rw [← hy];clear hy hv hB;refine (Gq id ad cap L y hv1 hl).mono ?_;rintro e w3 ⟨rfl, k3⟩;have B3 := AG B0 k3;obtain ⟨a0, a1⟩ := A0.below k3 (by omega);have hv4 := hv1.below k3 hB1;clear k3 hv1 hB1 A0;cases hr : Cv id L with
 | none =>
  have hN2 : Hid (Y = 0) := by unfold Hid; rw [hY.out]; unfold Fe; rw [hr]
  simp only [oI, Option.isSome];go_wp2
  go_ret
  exact ⟨by rw [hN2.out]; rfl, B3⟩
 | some k =>
  obtain ⟨hb, hk, hcd⟩ := GZ hr;obtain ⟨g, hg⟩ : ∃ g, L.getD k Pt.nil = g := ⟨_, rfl⟩;have hN2 : Hid (Y = g.h + 1) := by unfold Hid; rw [hY.out]; unfold Fe; rw [hr, ← hg]
  have hlen := (DJ hb).2.1;have hh8 : 0 ≤ g.h ∧ g.h < 8 := by
   rw [hg] at hcd;simp only [Br, Bool.and_eq_true, decide_eq_true_eq] at hcd;have h1 := (DJ hb).2.2 k;rw [hg] at h1;exact ⟨(FW h1 hcd.1).2.2.1, hcd.2.2.2.2⟩
  obtain ⟨h0, h8⟩ := hh8;obtain ⟨bk, off, rfl, _⟩ := hv4 (by omega);obtain ⟨c0, c1, c2, c3, c4, c5, c6, c7, c8, c9, c10⟩ : CA w3 bk (off + k * 11) g := by rw [← hg]; exact CP (hv4.at_ AV Pt.nil hk)
  clear hY hg hcd hr hv4 hb;simp only [oI, Option.isSome];go_wp2
  go_ret
  exact ⟨by rw [hN2.out]; rfl, B3⟩
end Go.Proofs.YtjmnaeeknomiaaaGreatDoor
