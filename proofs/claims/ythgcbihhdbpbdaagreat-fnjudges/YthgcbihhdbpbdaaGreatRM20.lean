import Derived.Test.YthgcbihhdbpbdaaGreatRKWBr5s
import Derived.Test.YthgcbihhdbpbdaaGreatRKWBr7
import Derived.Test.YthgcbihhdbpbdaaGreatRM9
namespace Go.Proofs.YthgcbihhdbpbdaaGreat
open Go.ChangeShapes Go.WideShapes Go.ChangeAt Go.RowKit
open Go.ChangeMaps (open_string shut_string)
set_option linter.unusedVariables false
set_option maxRecDepth 100000
set_option maxHeartbeats 32000000
set_option linter.unusedSimpArgs false
open Go.Proofs.Tryz
attribute [local go_sem] ji ja
theorem G3 (id : Int) (ad : Option Addr) (cap : Nat) (L : List Pt) (port : Int) (w : World) (hv : AH AJ w ad L) (hl : L.length ≤ 1048576) :
  Calls prog 85 #[.agg #[ji id, .slice ad L.length cap], ji port] w fun e w' => e = .returned (.agg #[ji (Bm id L port).1, ji (Bm id L port).2.1, ji (Bm id L port).2.2.1, ji (Bm id L port).2.2.2]) ∧ Bw w w' := by
 have hB := hv.lt AK (by omega);obtain ⟨y, hy⟩ := AB ((w.alloc (Obj.cells #[ji id, .slice ad L.length cap] 42)).alloc (Obj.cells #[ji 0, ji 0, ji 0, ji 0] 62));have B0 : Bw w y := by rw [hy]; exact ((Below.refl _ _).alloc (Nat.le_refl _) _).alloc (by simp) _
 have A0 : Ab y w.heap.size id (.slice ad L.length cap) := by rw [hy]; constructor <;> simp [go_sem]
 have V0 : EY y (w.heap.size + 1) 0 0 0 0 := by rw [hy]; refine ⟨?_, fun i => ?_⟩; (refine ⟨?_, ?_, ?_, ?_⟩ <;> simp [go_sem]); simp [go_sem]
 have S0 : w.heap.size + 1 < y.heap.size := V0.lt;have hv1 := hv.below B0 hB;have hB1 := hv1.lt AK (by omega);obtain ⟨Y, hY⟩ := AB (Bm id L port);rw [← hY];replace hY : Hid _ := hY;go_enter func85, ntmps85
 go_wp2_with fail
 go_at_call 44
 rw [← hy];clear hy hv hB;refine (FC id ad cap L y hv1 hl).mono ?_;rintro e w1 ⟨rfl, k1⟩;have B1 := AA B0 k1;have A1 := A0.below k1 (by omega);have V1 := V0.below k1 (by omega);have S1 : w.heap.size + 1 < w1.heap.size := V1.lt;have hv2 := hv1.below k1 hB1;have hB2 := hv2.lt AK (by omega);clear A0 V0 hv1 hB1 k1 B0 S0;cases hb : Bp id L with
 | false =>
  have hN : Hid (Y = (0, 0, 0, 0)) := by unfold Hid; rw [hY.out]; unfold Bm; rw [hb]; rfl
  clear hY;obtain ⟨⟨t0, t1, t2, t3⟩, tf⟩ := V1;have BZ := B1.setCell (p := ⟨w.heap.size + 1, 0, none⟩) (by show _ ≤ w.heap.size + 1; omega) (ji 0);have BZ := BZ.setCell (p := ⟨w.heap.size + 1, 1, none⟩) (by show _ ≤ w.heap.size + 1; omega) (ji 0);have BZ := BZ.setCell (p := ⟨w.heap.size + 1, 2, none⟩) (by show _ ≤ w.heap.size + 1; omega) (ji 0);have BZ := BZ.setCell (p := ⟨w.heap.size + 1, 3, none⟩) (by show _ ≤ w.heap.size + 1; omega) (ji 0);go_wp2
  refine bodyPost_ret (v := .agg #[ji 0, ji 0, ji 0, ji 0]) (by simp [results, results85, go_sem, *]) rfl ⟨by rw [hN.out], BZ⟩
 | true =>
  have hlen := (CQ hb).2.1;by_cases hp : 0 ≤ port ∧ port < (L.length : Int)
  rotate_left
  ·
   have hN : Hid (Y = (0, 0, 0, 0)) := by unfold Hid; rw [hY.out]; unfold Bm; rw [hb, decide_eq_false hp]; rfl
   have dp : decide (0 ≤ port ∧ port < (L.length : Int)) = false := decide_eq_false hp;clear hY;obtain ⟨a0, a1⟩ := A1;replace hp : Hid _ := hp;have es : decide (0 ≤ port ∧ port ≤ (L.length : Int) - 1) = decide (0 ≤ port ∧ port < (L.length : Int)) := decide_eq_decide.2 (by omega);go_wp2_with fail
   go_at_call 65
   refine (BM port 0 ((L.length : Int) - 1) w1).mono ?_;rintro e w2 ⟨rfl, hw2⟩;have kp : Bw w1 w2 := by rw [hw2]; exact Below.refl _ _
   rw [es];clear es hw2;rw [dp];have B2 := AA B1 kp;have V2 := V1.below kp S1;clear dp;obtain ⟨⟨t0, t1, t2, t3⟩, tf⟩ := V2;have BZ := B2.setCell (p := ⟨w.heap.size + 1, 0, none⟩) (by show _ ≤ w.heap.size + 1; omega) (ji 0);have BZ := BZ.setCell (p := ⟨w.heap.size + 1, 1, none⟩) (by show _ ≤ w.heap.size + 1; omega) (ji 0);have BZ := BZ.setCell (p := ⟨w.heap.size + 1, 2, none⟩) (by show _ ≤ w.heap.size + 1; omega) (ji 0);have BZ := BZ.setCell (p := ⟨w.heap.size + 1, 3, none⟩) (by show _ ≤ w.heap.size + 1; omega) (ji 0);go_wp2
   refine bodyPost_ret (v := .agg #[ji 0, ji 0, ji 0, ji 0]) (by simp [results, results85, go_sem, *]) rfl ⟨by rw [hN.out], BZ⟩
  have dp : decide (0 ≤ port ∧ port < (L.length : Int)) = true := decide_eq_true hp;have hN : Hid (Y = match CE id L with
   | none => (id, 0, id, port)
   | some k => ((L.getD k Pt.nil).r, (L.getD k Pt.nil).c + 1, id, port)) := by unfold Hid; rw [hY.out]; unfold Bm; rw [hb, dp]; rfl
  clear hY;replace hp : Hid _ := hp;obtain ⟨a0, a1⟩ := A1;have es : decide (0 ≤ port ∧ port ≤ (L.length : Int) - 1) = decide (0 ≤ port ∧ port < (L.length : Int)) := decide_eq_decide.2 (by omega);go_wp2_with fail
  go_at_call 65
  refine (BM port 0 ((L.length : Int) - 1) w1).mono ?_;rintro e w2 ⟨rfl, hw2⟩;have kp : Bw w1 w2 := by rw [hw2]; exact Below.refl _ _
  rw [es];clear es hw2;rw [dp];have B2 := AA B1 kp;have A2 := Ab.below ⟨a0, a1⟩ kp (by omega);have V2 := V1.below kp S1;have S2 : w.heap.size + 1 < w2.heap.size := V2.lt;have hv3 := hv2.below kp hB2;have hB3 := hv3.lt AK (by omega);clear dp a0 a1 kp V1 hv2 hB2 B1;obtain ⟨a0, a1⟩ := A2;go_wp2_with fail
  go_at_call 127
  refine (Gg id ad cap L w2 hv3 hl).mono ?_;rintro e w3 ⟨rfl, k3⟩;have B3 := AA B2 k3;have A3 := Ab.below ⟨a0, a1⟩ k3 (by omega);have V3 := V2.below k3 S2;have S3 : w.heap.size + 1 < w3.heap.size := V3.lt;have hv4 := hv3.below k3 hB3;clear a0 a1 k3 V2 hv3 hB3 B2;obtain ⟨a0, a1⟩ := A3;obtain ⟨⟨t0, t1, t2, t3⟩, tf⟩ := V3;cases hr : CE id L with
  | none =>
   have hN2 : Hid (Y = (id, 0, id, port)) := by unfold Hid; rw [hN.out, hr]
   clear hN;have BZ := B3.setCell (p := ⟨w.heap.size + 1, 0, none⟩) (by show _ ≤ w.heap.size + 1; omega) (ji id);have BZ := BZ.setCell (p := ⟨w.heap.size + 1, 1, none⟩) (by show _ ≤ w.heap.size + 1; omega) (ji 0);have BZ := BZ.setCell (p := ⟨w.heap.size + 1, 2, none⟩) (by show _ ≤ w.heap.size + 1; omega) (ji id);have BZ := BZ.setCell (p := ⟨w.heap.size + 1, 3, none⟩) (by show _ ≤ w.heap.size + 1; omega) (ji port);simp only [oI, Option.isSome];go_wp2
   refine bodyPost_ret (v := .agg #[ji id, ji 0, ji id, ji port]) (by simp [results, results85, go_sem, *]) rfl ⟨by rw [hN2.out], BZ⟩
  | some k =>
   obtain ⟨_, hk, hcd⟩ := FF hr;obtain ⟨g, hg⟩ : ∃ g, L.getD k Pt.nil = g := ⟨_, rfl⟩;have hN2 : Hid (Y = (g.r, g.c + 1, id, port)) := by unfold Hid; rw [hN.out, hr, ← hg]
   have hc20 : g.c < 20 := by
    rw [hg] at hcd;simp only [BO, Bool.and_eq_true, decide_eq_true_eq] at hcd;exact hcd.2.2.2.1
   have hc0 : 0 ≤ g.c := by
    rw [hg] at hcd;simp only [BO, Bool.and_eq_true, decide_eq_true_eq] at hcd;have h1 := (CQ hb).2.2 k;rw [hg] at h1;have h2 := (Eg h1 hcd.1).2.1;simp only [Af, decide_eq_true_eq] at h2;omega
   obtain ⟨bk, off, rfl, _⟩ := hv4 (by omega);obtain ⟨c0, c1, c2, c3, c4, c5, c6, c7, c8, c9, c10⟩ : BL w3 bk (off + k * 11) g := by rw [← hg]; exact BV (hv4.at_ AK Pt.nil hk)
   clear hN hg hcd hr hv4;obtain ⟨y4, hy4, kn⟩ := AI w3 (Obj.cells #[ji g.r, ji g.c, ji g.b, ji g.p] 62);have G4 : Ds y4 w3.heap.size g.r g.c g.b g.p := by rw [hy4]; exact GP w3 _ _ _ _ _
   have A4 := Ab.below ⟨a0, a1⟩ kn (by omega);have V4 := EY.below ⟨⟨t0, t1, t2, t3⟩, tf⟩ kn (by omega);have B4 := AA B3 kn;simp only [oI, Option.isSome];go_upto_region 7 with fail
   rw [← hy4];clear hy4 a0 a1 t0 t1 t2 t3 tf kn c0 c1 c2 c3 c4 c5 c6 c7 c8 c9 c10;generalize w3.heap.size = Q at S3 G4 ⊢
   obtain ⟨a0, a1⟩ := A4;obtain ⟨⟨t0, t1, t2, t3⟩, tf⟩ := V4;replace G4 := G4.all;have BZ := B4.setCell (p := ⟨w.heap.size + 1, 0, none⟩) (by show _ ≤ w.heap.size + 1; omega) (ji g.r);have BZ := BZ.setCell (p := ⟨w.heap.size + 1, 1, none⟩) (by show _ ≤ w.heap.size + 1; omega) (ji (g.c + 1));have BZ := BZ.setCell (p := ⟨w.heap.size + 1, 2, none⟩) (by show _ ≤ w.heap.size + 1; omega) (ji id);have BZ := BZ.setCell (p := ⟨w.heap.size + 1, 3, none⟩) (by show _ ≤ w.heap.size + 1; omega) (ji port);go_wp2
   refine bodyPost_ret (v := .agg #[ji g.r, ji (g.c + 1), ji id, ji port]) (by simp [results, results85, go_sem, *]) rfl ⟨by rw [hN2.out], BZ⟩
theorem LJ (id : Int) (ad : Option Addr) (cap : Nat) (L : List Pt) (w : World) (hv : AH AJ w ad L) (hl : L.length ≤ 1048576) :
  Calls prog 86 #[.agg #[ji id, .slice ad L.length cap]] w fun e w' => e = .returned (ji (EF id L)) ∧ Bw w w' := by
 have hB := hv.lt AK (by omega);obtain ⟨y, hy, B0⟩ := AI w (Obj.cells #[ji id, .slice ad L.length cap] 42);have A0 : Ab y w.heap.size id (.slice ad L.length cap) := by rw [hy]; exact Ab.new w _ _ _
 have S0 := A0.lt;have hv1 := hv.below B0 hB;have hB1 := hv1.lt AK (by omega);obtain ⟨Y, hY⟩ := AB (EF id L);rw [← hY];replace hY : Hid _ := hY;go_enter func86, ntmps86
 go_wp2_with fail
 go_at_call 127
 rw [← hy];clear hy hv hB;refine (Gg id ad cap L y hv1 hl).mono ?_;rintro e w3 ⟨rfl, k3⟩;have B3 := AA B0 k3;obtain ⟨a0, a1⟩ := A0.below k3 (by omega);have hv4 := hv1.below k3 hB1;clear k3 hv1 hB1 A0;cases hr : CE id L with
 | none =>
  have hN2 : Hid (Y = 0) := by unfold Hid; rw [hY.out]; unfold EF; rw [hr]
  simp only [oI, Option.isSome];go_wp2
  go_ret
  exact ⟨by rw [hN2.out]; rfl, B3⟩
 | some k =>
  obtain ⟨hb, hk, hcd⟩ := FF hr;obtain ⟨g, hg⟩ : ∃ g, L.getD k Pt.nil = g := ⟨_, rfl⟩;have hN2 : Hid (Y = g.h + 1) := by unfold Hid; rw [hY.out]; unfold EF; rw [hr, ← hg]
  have hlen := (CQ hb).2.1;have hh8 : 0 ≤ g.h ∧ g.h < 8 := by
   rw [hg] at hcd;simp only [BO, Bool.and_eq_true, decide_eq_true_eq] at hcd;have h1 := (CQ hb).2.2 k;rw [hg] at h1;exact ⟨(Eg h1 hcd.1).2.2.1, hcd.2.2.2.2⟩
  obtain ⟨h0, h8⟩ := hh8;obtain ⟨bk, off, rfl, _⟩ := hv4 (by omega);obtain ⟨c0, c1, c2, c3, c4, c5, c6, c7, c8, c9, c10⟩ : BL w3 bk (off + k * 11) g := by rw [← hg]; exact BV (hv4.at_ AK Pt.nil hk)
  clear hY hg hcd hr hv4 hb;simp only [oI, Option.isSome];go_wp2
  go_ret
  exact ⟨by rw [hN2.out]; rfl, B3⟩
end Go.Proofs.YthgcbihhdbpbdaaGreat
namespace Go.Proofs.YthgcbihhdbpbdaaGreat
open Go.ChangeShapes Go.WideShapes Go.ChangeAt Go.RowKit
open Go.ChangeMaps (open_string shut_string)
set_option linter.unusedVariables false
set_option maxRecDepth 100000
set_option maxHeartbeats 32000000
set_option linter.unusedSimpArgs false
open Go.Proofs.Tryz
theorem Iq {X : Type} {mk : Nat → X} {L : List X} {k : Nat} (d : X) (h : k < L.length) (e : mk k = L.getD k d) : BQ mk L (k + 1) = BQ mk L k := by
 unfold BQ;rw [List.range_succ, List.map_append, List.drop_eq_getElem_cons h];simp [e, List.getD, h]
theorem JE {x : Pt} (h : Ai x = true) (hu : x.up = false) : x.has = false := by
 cases hh : x.has
 ·
  rfl
 rw [(Eg h hh).1] at hu; cases hu
theorem JC {id : Int} {L : List Pt} {k : Nat} {h : Pt} (hr : CE id L = some k) (hh : L.getD k Pt.nil = h) : h.has = true := by
 have := (FF hr).2.2;rw [hh] at this;simp only [BO, Bool.and_eq_true] at this;exact this.1
theorem Fu (id : Int) (ad : Option Addr) (cap : Nat) (L : List Pt) (w : World) (hv : AH AJ w ad L) (hl : L.length ≤ 1048576) (hn : ad = none → cap = 0) :
  Calls prog 126 #[.agg #[ji id, .slice ad L.length cap]] w fun e w' => ∃ ad' cap', e = .returned (.agg #[ji id, .slice ad' (Ar id L).length cap']) ∧ AD AJ 11 70 w.heap.size w' (.slice ad' (Ar id L).length cap') (Ar id L) ∧ Bw w w' := by
 have hB := hv.lt AK (by omega);obtain ⟨y, hy⟩ := AB ((w.alloc (Obj.cells #[ji id, .slice ad L.length cap] 42)).alloc (Obj.cells #[ji 0, .slice none 0 0] 42));have B0 : Bw w y := by rw [hy]; exact ((Below.refl _ _).alloc (Nat.le_refl _) _).alloc (by simp) _
 have A0 : Ab y w.heap.size id (.slice ad L.length cap) := by rw [hy]; constructor <;> simp [go_sem]
 have R0 : AP y (w.heap.size + 1) 0 (.slice none 0 0) := by rw [hy]; refine ⟨?_, fun i => ?_⟩; constructor <;> simp [go_sem]; simp [go_sem]
 have S0 := R0.lt;have hv1 := hv.below B0 hB;have hB1 := hv1.lt AK (by omega);obtain ⟨D, hD⟩ := AB (Ar id L);rw [← hD];replace hD : Hid _ := hD;go_enter func126, ntmps126
 go_wp2_with fail
 go_at_call 83
 rw [← hy];clear hy hv hB;refine (FB id ad cap L y hv1 hl hn).mono ?_;rintro e w1 ⟨adN, capN, rfl, oN, k1⟩;have B1 := AA B0 k1;have A1 := A0.below k1 (by omega);have R1 := R0.below k1 (by omega);have S1 : w.heap.size + 1 < w1.heap.size := R1.lt;have hv2 := hv1.below k1 hB1;have hB2 := hv2.lt AK (by omega);have bt : ∀ a, ad = some a → 0 < L.length → a.block < y.heap.size := hB1;clear A0 R0 hv1 hB1;obtain ⟨y2, hy2, kn⟩ := AI w1 (Obj.cells #[ji id, .slice adN L.length capN] 42);have N2 : AP y2 w1.heap.size id (.slice adN L.length capN) := by rw [hy2]; exact AP.new w1 _ _ _
 have A2 := A1.below kn (by omega);have R2 := R1.below kn (by omega);have B2 := AA B1 kn;have K2 := AA k1 kn;have hv3 := hv2.below kn hB2;have hB3 := hv3.lt AK (by omega);have o2 := oN.later kn;have S2 := N2.lt;have og : ∀ g, (Value.slice adN L.length capN).ownBlock = some g → y.heap.size ≤ g ∧ g < w1.heap.size := fun g e => oN.lt g e
 clear oN k1 hv2 hB2 B1;go_upto_region 2 with fail
 rw [← hy2];clear hy2 A1 kn;generalize w1.heap.size = N at S1 N2 S2 og ⊢
 obtain ⟨a0, a1⟩ := A2;have A2 : Ab y2 w.heap.size id (.slice ad L.length cap) := ⟨a0, a1⟩;go_wp2_with fail
 go_at_call 44
 clear a0 a1;refine (FC id ad cap L y2 hv3 hl).mono ?_;rintro e w3 ⟨rfl, k3⟩;have B3 := AA B2 k3;have K3 := AA K2 k3;have A3 := A2.below k3 (by omega);have R3 := R2.below k3 (by omega);have N3 := N2.below k3 S2;have hv4 := hv3.below k3 hB3;have o3 := o2.later k3;have S3 := N3.lt;clear k3 A2 R2 N2 hv3 hB3 o2 B2 K2;cases hb : Bp id L with
 | false =>
  have hN : Hid (D = L) := by unfold Hid; rw [hD.out]; unfold Ar; rw [hb]; rfl
  clear hD;have RP := R3.put id (.slice adN L.length capN);obtain ⟨⟨r0, r1⟩, rf⟩ := R3;obtain ⟨⟨n0, n1⟩, nf⟩ := N3;have BZ : Bw w ((w3.setCell ⟨w.heap.size + 1, 0, none⟩ (ji id)).setCell ⟨w.heap.size + 1, 1, none⟩ (.slice adN L.length capN)) := (B3.setCell (by show _ ≤ w.heap.size + 1; omega) _).setCell (by show _ ≤ w.heap.size + 1; omega) _;have OZ : AD AJ 11 70 w.heap.size ((w3.setCell ⟨w.heap.size + 1, 0, none⟩ (ji id)).setCell ⟨w.heap.size + 1, 1, none⟩ (.slice adN L.length capN)) (.slice adN L.length capN) L := (o3.base (by omega)).keep fun g e => by
   have := og g e;rw [AE (by show g ≠ w.heap.size + 1; omega), AE (by show g ≠ w.heap.size + 1; omega)]
  obtain ⟨⟨p0, p1⟩, _⟩ := RP;clear og bt;go_wp2
  refine bodyPost_ret (v := .agg #[ji id, .slice adN L.length capN]) (by simp [results, results126, go_sem, *]) rfl ⟨adN, capN, by rw [hN.out], by rw [hN.out]; exact OZ, BZ⟩
 | true =>
  have hlen := (CQ hb).2.1;obtain ⟨g, rfl, hg1, hg2⟩ := o3.row (by omega);have hg3 : g < N := (og g rfl).2;have hD2 : Hid (D = (List.range L.length).map fun i => Dx (L.getD i Pt.nil) (Cm id L i)) := by unfold Hid; rw [hD.out]; unfold Ar; rw [hb]; rfl
  replace hb : Hid _ := hb;obtain ⟨f, hf⟩ : ∃ f : Nat → Pt, f = fun i => Dx (L.getD i Pt.nil) (Cm id L i) := ⟨_, rfl⟩
  rw [← hf] at hD2;replace hD2 : Hid _ := hD2;have hfk : ∀ i, Dx (L.getD i Pt.nil) (Cm id L i) = f i := fun i => by rw [hf]
  clear hf hD og;replace hfk : Hid _ := hfk;have M0 : AD AJ 11 70 y.heap.size w3 (.slice (some (ja g 0)) L.length capN) (BQ f L 0) := by rw [Fg]; exact o3
  clear o3;obtain ⟨a0, a1⟩ := A3;have A3 : Ab w3 w.heap.size id (.slice ad L.length cap) := ⟨a0, a1⟩;go_wp2_with fail
  go_at_call 127
  refine (Gg id ad cap L w3 hv4 hl).mono ?_;rintro e w4 ⟨rfl, k4⟩;have A3 := A3.below k4 (by omega);have N3 := N3.below k4 S3;have M0 := M0.later k4;have K3 := AA K3 k4;have R3 := R3.below k4 (by omega);have hv4 := hv4.below k4 (hv4.lt AK (by omega));have S3 := N3.lt;clear a0 a1 k4 B3;obtain ⟨q, hq⟩ := AB (oI (CE id L));rw [← hq];replace hq : Hid _ := hq;obtain ⟨iss, hiss⟩ := AB ((CE id L).isSome);rw [← hiss];clear hiss;have AY : Ab y w.heap.size id (.slice ad L.length cap) := A3.keep (K3.block _ (by omega)).symm;have RY : AP y (w.heap.size + 1) 0 (.slice none 0 0) := R3.keep (K3.block _ S0).symm;have hvy : AH AJ y ad L := hv4.carry fun a e p => (K3.block _ (bt a e p)).symm
  go_wp2
  clear A3 R3 hv4;go_loopw [6] (fun i wr => ∃ k : Nat, k ≤ L.length ∧ i = .int .i64 (k : Int) ∧ AD AJ 11 70 y.heap.size wr (.slice (some ⟨g, 0, none⟩) L.length capN) (BQ f L k) ∧ AP wr N id (.slice (some ⟨g, 0, none⟩) L.length capN) ∧ Below y.heap.size y wr) (fun i _ => L.length - (intOf i).toNat)
  case atStart => exact ⟨0, Nat.zero_le _, rfl, M0, N3, K3⟩
  case round =>
   obtain ⟨k, hk, rfl, M, N4, K4⟩ := hrel;have A4 := AY.below K4 (by omega);have R4 := RY.below K4 S0;have B4 := AA B0 K4;have S4 := N4.lt;obtain ⟨a0, a1⟩ := A4;by_cases hlt : k < L.length
   ·
    have hv5 := hvy.below K4 bt;obtain ⟨bk, off, rfl, _⟩ := hv5 (by omega);obtain ⟨h, hh⟩ : ∃ h, L.getD k Pt.nil = h := ⟨_, rfl⟩;obtain ⟨c0, c1, c2, c3, c4, c5, c6, c7, c8, c9, c10⟩ : BL wr bk (off + k * 11) h := by rw [← hh]; exact BV (hv5.at_ AK Pt.nil hlt)
    have hok : Hid (Ai h = true) := by unfold Hid; rw [← hh]; exact (CQ hb.out).2.2 k
    obtain ⟨z, hz⟩ := AB (f k);have hz2 : Hid (Dx h (Cm id L k) = z) := by unfold Hid; rw [hz, ← hh]; exact hfk.out k
    replace hz : Hid _ := hz;replace hh : Hid _ := hh;obtain ⟨y5, hy5, kn⟩ := AI wr (Obj.cells (pc h) 70);have P5 : Bo y5 wr.heap.size h := by rw [hy5]; exact Df wr _ _
    have A5 := Ab.below ⟨a0, a1⟩ kn (by omega);have N5 := N4.below kn S4;have M5 := M.later kn;have hv6 := hv5.below kn (hv5.lt AK (by omega));have hB6 := hv6.lt AK (by omega);have K5 := AA K4 kn;have S5 := P5.lt;have hgw : g < wr.heap.size := (M.lt g rfl).2;go_upto_region 10 with fail
    rw [← hy5];clear hy5 a0 a1 c0 c1 c2 c3 c4 c5 c6 c7 c8 c9 c10 kn M N4 hv5;generalize wr.heap.size = Q at P5 S4 S5 hgw ⊢
    have hdk : ∀ b : Bool, decide (CE id L = some k) = b → ((k : Int) == q) = b := by
     intro b hb';rw [hq.out, ← hb'];cases ho : CE id L with
     | none =>
      rw [decide_eq_false (by simp)];simp only [oI, beq_eq_false_iff_ne, ne_eq]; omega
     | some j =>
      by_cases e : j = k
      ·
       subst e;simp [oI]
      rw [decide_eq_false (by simpa using e)];simp only [oI, beq_eq_false_iff_ne, ne_eq]; omega
    replace hdk : Hid _ := hdk;obtain ⟨e0, e1, e2, e3, e4, e5, e6, e7, e8, e9, e10⟩ := P5;have P5 : Bo y5 Q h := ⟨e0, e1, e2, e3, e4, e5, e6, e7, e8, e9, e10⟩;cases hu : h.up with
    | false =>
     have hhas : h.has = false := JE hok.out hu;have dk : ((k : Int) == q) = false := hdk.out false (decide_eq_false (fun e => by have := JC e hh.out; rw [hhas] at this; cases this));rw [hu] at e0;have MN : AD AJ 11 70 y.heap.size y5 (.slice (some (ja g 0)) L.length capN) (BQ f L (k + 1)) := by
      rw [Iq Pt.nil hlt (by rw [← hz.out, ← hz2.out, hh.out]; unfold Dx; rw [hu]; rfl)];exact M5
     replace MN : Hid _ := MN;go_upto_region 12 with fail
     refine AR (fun Y => Bw y5 Y) fun u0 hb0 => ?_
     refine tw 0 35 (.pointer (some (ja Q 1))) ?_;refine tw 1 36 (.bool false) ?_ (hy := by intro Y hSw; have X := (P5.below hSw (by omega)).all; go_simp);refine tw 2 37 (.bool false) ?_;refine ts 3 38 ?_;refine ts 4 39 ?_;refine ts 5 40 ?_;refine ts 6 41 ?_;refine ts 7 42 ?_;refine ts 8 43 ?_;refine tw 9 44 (.bool false) ?_;refine AM ?_;obtain ⟨x0, x1, x2, x3, x4, x5, x6, x7, x8, x9, x10⟩ := P5.below hb0 (by omega);rw [hu] at x0;go_wp2
     go_roundw
     case rel => exact ⟨k + 1, by omega, by go_num, AD.below MN.out hb0 (fun g' e => by obtain rfl : g = g' := (by simpa [Value.ownBlock] using e); omega), N5.below hb0 (by omega), AA K5 hb0⟩
     case measure => simp [intOf]; omega
    | true =>
     rw [hu] at e0;replace hu : Hid _ := hu;by_cases hr : CE id L = some k
     ·
      have dk : ((k : Int) == q) = true := hdk.out true (decide_eq_true hr);have hro : Hid (Cm id L k = 1) := by unfold Hid Cm; rw [if_pos hr]
      have hz3 : Hid (CA h 1 = z) := by unfold Hid; rw [FL, ← hz2.out, hro.out]
      go_upto_region 15 with fail
      clear e0 e1 e2 e3 e4 e5 e6 e7 e8 e9 e10;refine AR (fun Y => AL g y5.heap.size y5 Y) fun u0 hb0 => ?_
      have hS0 : AL g y5.heap.size y5 u0 := AL.of hb0;refine tw 0 47 (.pointer (some (ja N 1))) ?_;refine tw 1 48 (.slice (some (ja g 0)) L.length capN) ?_ (hy := by intro Y hSw; obtain ⟨X0, X1⟩ := N5.at_.bar hSw (by omega) (by omega); go_simp);refine tw 2 49 (ji (k : Int)) ?_;refine tw 3 50 (.agg (pc h)) ?_ (hy := by intro Y hSw; have X := (P5.bar hSw (by omega) (by omega)).all; go_simp);refine tw 4 51 (ji 1) ?_;refine wpAnyH_all (rs := [5]) (by kernel_rfl) (by simp) ?_;intro i hi; obtain rfl : i = 5 := by simpa using hi
      refine wpOp_step rfl (fun K hK => ?_);rw [if_pos (by kernel_rfl)];go_simp
      go_at_call 153
      refine (Fx h 1 u0).mono ?_;rintro e u1 ⟨rfl, kq⟩;have hb1 := AA hb0 kq;clear kq;rw [hz3.out];have hS1 : AL g y5.heap.size y5 u1 := AL.of hb1;refine hK _ _ ⟨AL.of hb1, ?_⟩;clear hK K hi;refine tw 6 53 (.pointer (some ⟨g, k * 11, none⟩)) ?_ (hy := by intro Y hSw; go_simp; try omega);refine wpAnyH_all (rs := [7]) (by kernel_rfl) (by simp) ?_;intro i hi; obtain rfl : i = 7 := by simpa using hi
      refine wpOp_step rfl (fun K hK => ?_);rw [if_pos (by kernel_rfl)];have MU : AD AJ 11 70 y.heap.size u1 (.slice (some (ja g 0)) L.length capN) (BQ f L k) := M5.below hb1 (fun g' e => by obtain rfl : g = g' := (by simpa [Value.ownBlock] using e); omega);have hml : (BQ f L k).length = L.length := Ey hk;rw [← hml] at MU;obtain ⟨t0, t1, t2, t3, t4, t5, t6, t7, t8, t9, t10⟩ : BL u1 g (k * 11) ((BQ f L k).getD k Pt.nil) := BV (MU.cell AK Pt.nil (by rw [hml]; exact hlt));have ff := MU.frozen;have f0 := ff (k * 11);have f1 := ff (k * 11 + 1);have f2 := ff (k * 11 + 2);have f3 := ff (k * 11 + 3);have f4 := ff (k * 11 + 4);have f5 := ff (k * 11 + 5);have f6 := ff (k * 11 + 6);have f7 := ff (k * 11 + 7);have f8 := ff (k * 11 + 8);have f9 := ff (k * 11 + 9);have f10 := ff (k * 11 + 10);have MS := MU.set AK (by omega) (i := k) (by rw [hml]; exact hlt) z;rw [hz.out, Ex hlt, CB, hml, ← hz.out] at MS;have SB := AL.putAll (o := k * 11) (AJ z) (AL.of (g := g) hb1);rw [CB] at SB;have BB := DC (B := y.heap.size) hg1 (AJ z) (k * 11) (AA K5 hb1);rw [CB] at BB;clear hml ff MU;obtain ⟨uf, huf⟩ := AB (((((((((((u1.setCell ⟨g, k * 11, none⟩ (.bool z.up)).setCell ⟨g, k * 11 + 1, none⟩ (.bool z.has)).setCell ⟨g, k * 11 + 2, none⟩ (ji z.r)).setCell ⟨g, k * 11 + 3, none⟩ (ji z.c)).setCell ⟨g, k * 11 + 4, none⟩ (ji z.b)).setCell ⟨g, k * 11 + 5, none⟩ (ji z.p)).setCell ⟨g, k * 11 + 6, none⟩ (ji z.h)).setCell ⟨g, k * 11 + 7, none⟩ (ji z.l)).setCell ⟨g, k * 11 + 8, none⟩ (ji z.ro)).setCell ⟨g, k * 11 + 9, none⟩ (ji z.wa)).setCell ⟨g, k * 11 + 10, none⟩ (.bool z.op));rw [← huf] at MS SB BB;go_simp
      rw [← huf];have NF := N5.at_.bar SB (by omega) (by omega);have NFF : AP uf N id (.slice (some (ja g 0)) L.length capN) := N5.keep (SB.block N (by omega) (by omega));clear huf t0 f0 t1 f1 t2 f2 t3 f3 t4 f4 t5 f5 t6 f6 t7 f7 t8 f8 t9 f9 t10 f10 NF;refine hK _ _ ⟨SB, ?_⟩;clear hK K hi;refine AM ?_;go_wp2
      go_roundw
      case rel => exact ⟨k + 1, by omega, by go_num, MS, NFF, BB⟩
      case measure => simp [intOf]; omega
     have dk : ((k : Int) == q) = false := hdk.out false (decide_eq_false hr);have hρ2 : Hid (Cm id L k = if h.has && CD h.r h.c h.b h.p (Bm id L k).1 (Bm id L k).2.1 (Bm id L k).2.2.1 (Bm id L k).2.2.2 then 3 else 2) := by unfold Hid; unfold Cm; rw [if_neg hr, hh.out]
     replace hr : Hid _ := hr;go_upto_region 12 with fail
     clear e0 e1 e2 e3 e4 e5 e6 e7 e8 e9 e10;cases hhas : h.has with
     | false =>
      have hro : Hid (Cm id L k = 2) := by unfold Hid; rw [hρ2.out, hhas]; rfl
      have hz3 : Hid (CA h 2 = z) := by unfold Hid; rw [FL, ← hz2.out, hro.out]
      refine AR (fun Y => Bw y5 Y) fun u0 hb0 => ?_
      refine tw 0 35 (.pointer (some (ja Q 1))) ?_;refine tw 1 36 (.bool false) ?_ (hy := by intro Y hSw; have X := (P5.below hSw (by omega)).all; go_simp);refine tw 2 37 (.bool false) ?_;refine ts 3 38 ?_;refine ts 4 39 ?_;refine ts 5 40 ?_;refine ts 6 41 ?_;refine ts 7 42 ?_;refine ts 8 43 ?_;refine tw 9 44 (.bool false) ?_;refine AM ?_;obtain ⟨y6, hy6⟩ := AB u0;rw [← hy6] at hb0 ⊢;clear hy6;have P5 := P5.below hb0 (by omega);have A5 := A5.below hb0 (by omega);have N5 := N5.below hb0 (by omega);have K5 := AA K5 hb0;have M5 := M5.below hb0 (fun g' e => by obtain rfl : g = g' := (by simpa [Value.ownBlock] using e); omega);have S5 := P5.lt;have S6 := N5.lt;obtain ⟨x0, x1, x2, x3, x4, x5, x6, x7, x8, x9, x10⟩ := P5;have P5 : Bo y6 Q h := ⟨x0, x1, x2, x3, x4, x5, x6, x7, x8, x9, x10⟩;rw [hu.out] at x0;replace hhas : Hid _ := hhas;go_upto_region 15 with fail
      clear x0 x1 x2 x3 x4 x5 x6 x7 x8 x9 x10 hb0;refine AR (fun Y => AL g y6.heap.size y6 Y) fun u0 hb0 => ?_
      have hS0 : AL g y6.heap.size y6 u0 := AL.of hb0;refine tw 0 47 (.pointer (some (ja N 1))) ?_;refine tw 1 48 (.slice (some (ja g 0)) L.length capN) ?_ (hy := by intro Y hSw; obtain ⟨X0, X1⟩ := N5.at_.bar hSw (by omega) (by omega); go_simp);refine tw 2 49 (ji (k : Int)) ?_;refine tw 3 50 (.agg (pc h)) ?_ (hy := by intro Y hSw; have X := (P5.bar hSw (by omega) (by omega)).all; go_simp);refine tw 4 51 (ji 2) ?_;refine wpAnyH_all (rs := [5]) (by kernel_rfl) (by simp) ?_;intro i hi; obtain rfl : i = 5 := by simpa using hi
      refine wpOp_step rfl (fun K hK => ?_);rw [if_pos (by kernel_rfl)];go_simp
      go_at_call 153
      refine (Fx h 2 u0).mono ?_;rintro e u1 ⟨rfl, kq⟩;have hb1 := AA hb0 kq;clear kq;rw [hz3.out];have hS1 : AL g y6.heap.size y6 u1 := AL.of hb1;refine hK _ _ ⟨AL.of hb1, ?_⟩;clear hK K hi;refine tw 6 53 (.pointer (some ⟨g, k * 11, none⟩)) ?_ (hy := by intro Y hSw; go_simp; try omega);refine wpAnyH_all (rs := [7]) (by kernel_rfl) (by simp) ?_;intro i hi; obtain rfl : i = 7 := by simpa using hi
      refine wpOp_step rfl (fun K hK => ?_);rw [if_pos (by kernel_rfl)];have MU : AD AJ 11 70 y.heap.size u1 (.slice (some (ja g 0)) L.length capN) (BQ f L k) := M5.below hb1 (fun g' e => by obtain rfl : g = g' := (by simpa [Value.ownBlock] using e); omega);have hml : (BQ f L k).length = L.length := Ey hk;rw [← hml] at MU;obtain ⟨t0, t1, t2, t3, t4, t5, t6, t7, t8, t9, t10⟩ : BL u1 g (k * 11) ((BQ f L k).getD k Pt.nil) := BV (MU.cell AK Pt.nil (by rw [hml]; exact hlt));have ff := MU.frozen;have f0 := ff (k * 11);have f1 := ff (k * 11 + 1);have f2 := ff (k * 11 + 2);have f3 := ff (k * 11 + 3);have f4 := ff (k * 11 + 4);have f5 := ff (k * 11 + 5);have f6 := ff (k * 11 + 6);have f7 := ff (k * 11 + 7);have f8 := ff (k * 11 + 8);have f9 := ff (k * 11 + 9);have f10 := ff (k * 11 + 10);have MS := MU.set AK (by omega) (i := k) (by rw [hml]; exact hlt) z;rw [hz.out, Ex hlt, CB, hml, ← hz.out] at MS;have SB := AL.putAll (o := k * 11) (AJ z) (AL.of (g := g) hb1);rw [CB] at SB;have BB := DC (B := y.heap.size) hg1 (AJ z) (k * 11) (AA K5 hb1);rw [CB] at BB;clear hml ff MU;obtain ⟨uf, huf⟩ := AB (((((((((((u1.setCell ⟨g, k * 11, none⟩ (.bool z.up)).setCell ⟨g, k * 11 + 1, none⟩ (.bool z.has)).setCell ⟨g, k * 11 + 2, none⟩ (ji z.r)).setCell ⟨g, k * 11 + 3, none⟩ (ji z.c)).setCell ⟨g, k * 11 + 4, none⟩ (ji z.b)).setCell ⟨g, k * 11 + 5, none⟩ (ji z.p)).setCell ⟨g, k * 11 + 6, none⟩ (ji z.h)).setCell ⟨g, k * 11 + 7, none⟩ (ji z.l)).setCell ⟨g, k * 11 + 8, none⟩ (ji z.ro)).setCell ⟨g, k * 11 + 9, none⟩ (ji z.wa)).setCell ⟨g, k * 11 + 10, none⟩ (.bool z.op));rw [← huf] at MS SB BB;go_simp
      rw [← huf];have NF := N5.at_.bar SB (by omega) (by omega);have NFF : AP uf N id (.slice (some (ja g 0)) L.length capN) := N5.keep (SB.block N (by omega) (by omega));clear huf t0 f0 t1 f1 t2 f2 t3 f3 t4 f4 t5 f5 t6 f6 t7 f7 t8 f8 t9 f9 t10 f10 NF;refine hK _ _ ⟨SB, ?_⟩;clear hK K hi;refine AM ?_;go_wp2
      go_roundw
      case rel => exact ⟨k + 1, by omega, by go_num, MS, NFF, BB⟩
      case measure => simp [intOf]; omega
     | true =>
      obtain ⟨⟨v1, v2, v3, v4⟩, hov⟩ : ∃ v, Bm id L k = v := ⟨_, rfl⟩;have hρ3 : Hid (Cm id L k = if CD h.r h.c h.b h.p v1 v2 v3 v4 then 3 else 2) := by unfold Hid; rw [hρ2.out, hhas, hov]; rfl
      replace hov : Hid _ := hov;obtain ⟨t, ht⟩ : ∃ t, CD h.r h.c h.b h.p v1 v2 v3 v4 = t := ⟨_, rfl⟩;replace ht : Hid _ := ht;cases t
      focus
       have hro : Hid (Cm id L k = 2) := by unfold Hid; rw [hρ3.out, ht.out]; rfl
       have hz3 : Hid (CA h 2 = z) := by unfold Hid; rw [FL, ← hz2.out, hro.out]
       refine AR (fun Y => Bw y5 Y) fun u0 hb0 => ?_
       refine tw 0 35 (.pointer (some (ja Q 1))) ?_;refine tw 1 36 (.bool true) ?_ (hy := by intro Y hSw; have X := (P5.below hSw (by omega)).all; go_simp);refine tw 2 37 (.bool true) ?_;refine tw 3 38 (.pointer (some (ja Q 2))) ?_;refine tw 4 39 (.agg #[ji h.r, ji h.c, ji h.b, ji h.p]) ?_ (hy := by intro Y hSw; have X := (P5.below hSw (by omega)).all; go_simp);refine tw 5 40 (.agg #[ji id, .slice (some (ja bk off)) L.length cap]) ?_ (hy := by intro Y hSw; obtain ⟨X0, X1⟩ := A5.below hSw (by omega); go_simp);refine tw 6 41 (ji (k : Int)) ?_;refine wpAnyH_all (rs := [7]) (by kernel_rfl) (by simp) ?_;intro i hi; obtain rfl : i = 7 := by simpa using hi
       refine wpOp_step rfl (fun K hK => ?_);rw [if_pos (by kernel_rfl)];go_simp
       go_at_call 85
       refine (G3 id (some (ja bk off)) cap L (k : Int) u0 (hv6.below hb0 hB6) hl).mono ?_;rintro e u1 ⟨rfl, kq⟩;have hb1 := AA hb0 kq;clear kq;rw [hov.out];refine hK _ _ ⟨hb1, ?_⟩;clear hK K hi;refine wpAnyH_all (rs := [8]) (by kernel_rfl) (by simp) ?_;intro i hi; obtain rfl : i = 8 := by simpa using hi
       refine wpOp_step rfl (fun K hK => ?_);rw [if_pos (by kernel_rfl)];go_simp
       go_at_call 150
       refine (FT h.r h.c h.b h.p v1 v2 v3 v4 u1).mono ?_;rintro e u2 ⟨rfl, kq⟩;have hb2 := AA hb1 kq;clear kq;rw [ht.out];refine hK _ _ ⟨hb2, ?_⟩;clear hK K hi;refine tw 9 44 (.bool false) ?_;refine AM ?_;obtain ⟨y6, hy6⟩ := AB u2;rw [← hy6] at hb2 ⊢;clear hy6;have P5 := P5.below hb2 (by omega);have A5 := A5.below hb2 (by omega);have N5 := N5.below hb2 (by omega);have K5 := AA K5 hb2;have M5 := M5.below hb2 (fun g' e => by obtain rfl : g = g' := (by simpa [Value.ownBlock] using e); omega);have S5 := P5.lt;have S6 := N5.lt;obtain ⟨x0, x1, x2, x3, x4, x5, x6, x7, x8, x9, x10⟩ := P5;have P5 : Bo y6 Q h := ⟨x0, x1, x2, x3, x4, x5, x6, x7, x8, x9, x10⟩;rw [hu.out] at x0;replace hhas : Hid _ := hhas;go_upto_region 15 with fail
       clear x0 x1 x2 x3 x4 x5 x6 x7 x8 x9 x10 hb2;refine AR (fun Y => AL g y6.heap.size y6 Y) fun u0 hb0 => ?_
       have hS0 : AL g y6.heap.size y6 u0 := AL.of hb0;refine tw 0 47 (.pointer (some (ja N 1))) ?_;refine tw 1 48 (.slice (some (ja g 0)) L.length capN) ?_ (hy := by intro Y hSw; obtain ⟨X0, X1⟩ := N5.at_.bar hSw (by omega) (by omega); go_simp);refine tw 2 49 (ji (k : Int)) ?_;refine tw 3 50 (.agg (pc h)) ?_ (hy := by intro Y hSw; have X := (P5.bar hSw (by omega) (by omega)).all; go_simp);refine tw 4 51 (ji 2) ?_;refine wpAnyH_all (rs := [5]) (by kernel_rfl) (by simp) ?_;intro i hi; obtain rfl : i = 5 := by simpa using hi
       refine wpOp_step rfl (fun K hK => ?_);rw [if_pos (by kernel_rfl)];go_simp
       go_at_call 153
       refine (Fx h 2 u0).mono ?_
      rotate_left;focus
       have hro : Hid (Cm id L k = 3) := by unfold Hid; rw [hρ3.out, ht.out]; rfl
       have hz3 : Hid (CA h 3 = z) := by unfold Hid; rw [FL, ← hz2.out, hro.out]
       refine AR (fun Y => Bw y5 Y) fun u0 hb0 => ?_
       refine tw 0 35 (.pointer (some (ja Q 1))) ?_;refine tw 1 36 (.bool true) ?_ (hy := by intro Y hSw; have X := (P5.below hSw (by omega)).all; go_simp);refine tw 2 37 (.bool true) ?_;refine tw 3 38 (.pointer (some (ja Q 2))) ?_;refine tw 4 39 (.agg #[ji h.r, ji h.c, ji h.b, ji h.p]) ?_ (hy := by intro Y hSw; have X := (P5.below hSw (by omega)).all; go_simp);refine tw 5 40 (.agg #[ji id, .slice (some (ja bk off)) L.length cap]) ?_ (hy := by intro Y hSw; obtain ⟨X0, X1⟩ := A5.below hSw (by omega); go_simp);refine tw 6 41 (ji (k : Int)) ?_;refine wpAnyH_all (rs := [7]) (by kernel_rfl) (by simp) ?_;intro i hi; obtain rfl : i = 7 := by simpa using hi
       refine wpOp_step rfl (fun K hK => ?_);rw [if_pos (by kernel_rfl)];go_simp
       go_at_call 85
       refine (G3 id (some (ja bk off)) cap L (k : Int) u0 (hv6.below hb0 hB6) hl).mono ?_;rintro e u1 ⟨rfl, kq⟩;have hb1 := AA hb0 kq;clear kq;rw [hov.out];refine hK _ _ ⟨hb1, ?_⟩;clear hK K hi;refine wpAnyH_all (rs := [8]) (by kernel_rfl) (by simp) ?_;intro i hi; obtain rfl : i = 8 := by simpa using hi
       refine wpOp_step rfl (fun K hK => ?_);rw [if_pos (by kernel_rfl)];go_simp
       go_at_call 150
       refine (FT h.r h.c h.b h.p v1 v2 v3 v4 u1).mono ?_;rintro e u2 ⟨rfl, kq⟩;have hb2 := AA hb1 kq;clear kq;rw [ht.out];refine hK _ _ ⟨hb2, ?_⟩;clear hK K hi;refine tw 9 44 (.bool true) ?_;refine AM ?_;obtain ⟨y6, hy6⟩ := AB u2;rw [← hy6] at hb2 ⊢;clear hy6;have P5 := P5.below hb2 (by omega);have A5 := A5.below hb2 (by omega);have N5 := N5.below hb2 (by omega);have K5 := AA K5 hb2;have M5 := M5.below hb2 (fun g' e => by obtain rfl : g = g' := (by simpa [Value.ownBlock] using e); omega);have S5 := P5.lt;have S6 := N5.lt;obtain ⟨x0, x1, x2, x3, x4, x5, x6, x7, x8, x9, x10⟩ := P5;have P5 : Bo y6 Q h := ⟨x0, x1, x2, x3, x4, x5, x6, x7, x8, x9, x10⟩;rw [hu.out] at x0;replace hhas : Hid _ := hhas;go_upto_region 15 with fail
       clear x0 x1 x2 x3 x4 x5 x6 x7 x8 x9 x10 hb2;refine AR (fun Y => AL g y6.heap.size y6 Y) fun u0 hb0 => ?_
       have hS0 : AL g y6.heap.size y6 u0 := AL.of hb0;refine tw 0 47 (.pointer (some (ja N 1))) ?_;refine tw 1 48 (.slice (some (ja g 0)) L.length capN) ?_ (hy := by intro Y hSw; obtain ⟨X0, X1⟩ := N5.at_.bar hSw (by omega) (by omega); go_simp);refine tw 2 49 (ji (k : Int)) ?_;refine tw 3 50 (.agg (pc h)) ?_ (hy := by intro Y hSw; have X := (P5.bar hSw (by omega) (by omega)).all; go_simp);refine tw 4 51 (ji 3) ?_;refine wpAnyH_all (rs := [5]) (by kernel_rfl) (by simp) ?_;intro i hi; obtain rfl : i = 5 := by simpa using hi
       refine wpOp_step rfl (fun K hK => ?_);rw [if_pos (by kernel_rfl)];go_simp
       go_at_call 153
       refine (Fx h 3 u0).mono ?_
      rotate_left;all_goals
       rintro e u1 ⟨rfl, kq⟩;have hb1 := AA hb0 kq;clear kq;rw [hz3.out];have hS1 : AL g y6.heap.size y6 u1 := AL.of hb1;refine hK _ _ ⟨AL.of hb1, ?_⟩;clear hK K hi;refine tw 6 53 (.pointer (some ⟨g, k * 11, none⟩)) ?_ (hy := by intro Y hSw; go_simp; try omega);refine wpAnyH_all (rs := [7]) (by kernel_rfl) (by simp) ?_;intro i hi; obtain rfl : i = 7 := by simpa using hi
       refine wpOp_step rfl (fun K hK => ?_);rw [if_pos (by kernel_rfl)];have MU : AD AJ 11 70 y.heap.size u1 (.slice (some (ja g 0)) L.length capN) (BQ f L k) := M5.below hb1 (fun g' e => by obtain rfl : g = g' := (by simpa [Value.ownBlock] using e); omega);have hml : (BQ f L k).length = L.length := Ey hk;rw [← hml] at MU;obtain ⟨t0, t1, t2, t3, t4, t5, t6, t7, t8, t9, t10⟩ : BL u1 g (k * 11) ((BQ f L k).getD k Pt.nil) := BV (MU.cell AK Pt.nil (by rw [hml]; exact hlt));have ff := MU.frozen;have f0 := ff (k * 11);have f1 := ff (k * 11 + 1);have f2 := ff (k * 11 + 2);have f3 := ff (k * 11 + 3);have f4 := ff (k * 11 + 4);have f5 := ff (k * 11 + 5);have f6 := ff (k * 11 + 6);have f7 := ff (k * 11 + 7);have f8 := ff (k * 11 + 8);have f9 := ff (k * 11 + 9);have f10 := ff (k * 11 + 10);have MS := MU.set AK (by omega) (i := k) (by rw [hml]; exact hlt) z;rw [hz.out, Ex hlt, CB, hml, ← hz.out] at MS;have SB := AL.putAll (o := k * 11) (AJ z) (AL.of (g := g) hb1);rw [CB] at SB;have BB := DC (B := y.heap.size) hg1 (AJ z) (k * 11) (AA K5 hb1);rw [CB] at BB;clear hml ff MU;obtain ⟨uf, huf⟩ := AB (((((((((((u1.setCell ⟨g, k * 11, none⟩ (.bool z.up)).setCell ⟨g, k * 11 + 1, none⟩ (.bool z.has)).setCell ⟨g, k * 11 + 2, none⟩ (ji z.r)).setCell ⟨g, k * 11 + 3, none⟩ (ji z.c)).setCell ⟨g, k * 11 + 4, none⟩ (ji z.b)).setCell ⟨g, k * 11 + 5, none⟩ (ji z.p)).setCell ⟨g, k * 11 + 6, none⟩ (ji z.h)).setCell ⟨g, k * 11 + 7, none⟩ (ji z.l)).setCell ⟨g, k * 11 + 8, none⟩ (ji z.ro)).setCell ⟨g, k * 11 + 9, none⟩ (ji z.wa)).setCell ⟨g, k * 11 + 10, none⟩ (.bool z.op));rw [← huf] at MS SB BB;go_simp
       rw [← huf];have NF := N5.at_.bar SB (by omega) (by omega);have NFF : AP uf N id (.slice (some (ja g 0)) L.length capN) := N5.keep (SB.block N (by omega) (by omega));clear huf t0 f0 t1 f1 t2 f2 t3 f3 t4 f4 t5 f5 t6 f6 t7 f7 t8 f8 t9 f9 t10 f10 NF;refine hK _ _ ⟨SB, ?_⟩;clear hK K hi;refine AM ?_;go_wp2
       go_roundw
       case rel => exact ⟨k + 1, by omega, by go_num, MS, NFF, BB⟩
       case measure => simp [intOf]; omega
   obtain rfl : k = L.length := by omega
   rw [Fh] at M;have RP := R4.put id (.slice (some (ja g 0)) L.length capN);obtain ⟨⟨r0, r1⟩, rf⟩ := R4;obtain ⟨⟨n0, n1⟩, nf⟩ := N4;have BZ : Bw w ((wr.setCell ⟨w.heap.size + 1, 0, none⟩ (ji id)).setCell ⟨w.heap.size + 1, 1, none⟩ (.slice (some (ja g 0)) L.length capN)) := (B4.setCell (by show _ ≤ w.heap.size + 1; omega) _).setCell (by show _ ≤ w.heap.size + 1; omega) _;have OZ : AD AJ 11 70 w.heap.size ((wr.setCell ⟨w.heap.size + 1, 0, none⟩ (ji id)).setCell ⟨w.heap.size + 1, 1, none⟩ (.slice (some (ja g 0)) L.length capN)) (.slice (some (ja g 0)) L.length capN) ((List.range L.length).map f) := (M.base (by omega)).keep fun g' e => by
    obtain rfl : g = g' := by simpa [Value.ownBlock] using e
    rw [AE (by show g ≠ w.heap.size + 1; omega), AE (by show g ≠ w.heap.size + 1; omega)]
   have hDl : D.length = L.length := by rw [hD2.out]; simp
   replace hDl : Hid _ := hDl;obtain ⟨⟨p0, p1⟩, _⟩ := RP;go_wp2
   refine bodyPost_ret (v := .agg #[ji id, .slice (some (ja g 0)) L.length capN]) (by simp [results, results126, go_sem, *]) rfl ⟨_, _, by rw [hDl.out], by rw [hDl.out, hD2.out]; exact OZ, BZ⟩
end Go.Proofs.YthgcbihhdbpbdaaGreat
