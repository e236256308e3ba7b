import Derived.Test.YtjmnaeeknomiaaaGreatDoorRM11
import Derived.Test.YtjmnaeeknomiaaaGreatDoorRKWBr6s
import Derived.Test.YtjmnaeeknomiaaaGreatDoorRKWPort6s
namespace Go.Proofs.YtjmnaeeknomiaaaGreatDoor
open Go.ChangeShapes Go.WideShapes Go.ChangeAt Go.RowKit
open Go.ChangeMaps (open_string shut_string)
set_option linter.unusedVariables false
set_option maxRecDepth 100000
set_option maxHeartbeats 32000000
set_option linter.unusedSimpArgs false
open Go.Proofs.Tryz
theorem JB {X : Type} {mk : Nat → X} {L : List X} {k : Nat} (d : X) (h : k < L.length) (e : mk k = L.getD k d) : Bk mk L (k + 1) = Bk mk L k := by
 unfold Bk;rw [List.range_succ, List.map_append, List.drop_eq_getElem_cons h];simp [e, List.getD, h]
theorem Jn {x : Pt} (h : Ae x = true) (hu : x.up = false) : x.has = false := by
 cases hh : x.has
 ·
  rfl
 rw [(FW h hh).1] at hu; cases hu
theorem Jj {id : Int} {L : List Pt} {k : Nat} {h : Pt} (hr : Cv id L = some k) (hh : L.getD k Pt.nil = h) : h.has = true := by
 have := (GZ hr).2.2;rw [hh] at this;simp only [Br, Bool.and_eq_true] at this;exact this.1
theorem GG (id : Int) (ad : Option Addr) (cap : Nat) (L : List Pt) (w : World) (hv : AI AK w ad L) (hl : L.length ≤ 1048576) (hn : ad = none → cap = 0) :
  Calls prog 115 #[.agg #[ji id, .slice ad L.length cap]] w fun e w' => ∃ ad' cap', e = .returned (.agg #[ji id, .slice ad' (BQ id L).length cap']) ∧ AA AK 11 47 w.heap.size w' (.slice ad' (BQ id L).length cap') (BQ id L) ∧ Bw w w' := by
 have hB := hv.lt AV (by omega);obtain ⟨y, hy⟩ := AC ((w.alloc (Obj.cells #[ji id, .slice ad L.length cap] 51)).alloc (Obj.cells #[ji 0, .slice none 0 0] 51));have B0 : Bw w y := by rw [hy]; exact ((Below.refl _ _).alloc (Nat.le_refl _) _).alloc (by simp) _
 have A0 : Ap y w.heap.size id (.slice ad L.length cap) := by rw [hy]; constructor <;> simp [go_sem]
 have R0 : AR y (w.heap.size + 1) 0 (.slice none 0 0) := by rw [hy]; refine ⟨?_, fun i => ?_⟩; constructor <;> simp [go_sem]; simp [go_sem]
 have S0 := R0.lt;have hv1 := hv.below B0 hB;have hB1 := hv1.lt AV (by omega);obtain ⟨D, hD⟩ := AC (BQ id L);rw [← hD];replace hD : Hid _ := hD;go_enter func115, ntmps115
 go_wp2_with fail
 go_at_call 92
 rw [← hy];clear hy hv hB;refine (Fg id ad cap L y hv1 hl hn).mono ?_;rintro e w1 ⟨adN, capN, rfl, oN, k1⟩;have B1 := AG B0 k1;have A1 := A0.below k1 (by omega);have R1 := R0.below k1 (by omega);have S1 : w.heap.size + 1 < w1.heap.size := R1.lt;have hv2 := hv1.below k1 hB1;have hB2 := hv2.lt AV (by omega);have bt : ∀ a, ad = some a → 0 < L.length → a.block < y.heap.size := hB1;clear A0 R0 hv1 hB1;obtain ⟨y2, hy2, kn⟩ := AM w1 (Obj.cells #[ji id, .slice adN L.length capN] 51);have N2 : AR y2 w1.heap.size id (.slice adN L.length capN) := by rw [hy2]; exact AR.new w1 _ _ _
 have A2 := A1.below kn (by omega);have R2 := R1.below kn (by omega);have B2 := AG B1 kn;have K2 := AG k1 kn;have hv3 := hv2.below kn hB2;have hB3 := hv3.lt AV (by omega);have o2 := oN.later kn;have S2 := N2.lt;have og : ∀ g, (Value.slice adN L.length capN).ownBlock = some g → y.heap.size ≤ g ∧ g < w1.heap.size := fun g e => oN.lt g e
 clear oN k1 hv2 hB2 B1;go_upto_region 2 with fail
 rw [← hy2];clear hy2 A1 kn;generalize w1.heap.size = N at S1 N2 S2 og ⊢
 obtain ⟨a0, a1⟩ := A2;have A2 : Ap y2 w.heap.size id (.slice ad L.length cap) := ⟨a0, a1⟩;go_wp2_with fail
 go_at_call 91
 clear a0 a1;refine (Fh id ad cap L y2 hv3 hl).mono ?_;rintro e w3 ⟨rfl, k3⟩;have B3 := AG B2 k3;have K3 := AG K2 k3;have A3 := A2.below k3 (by omega);have R3 := R2.below k3 (by omega);have N3 := N2.below k3 S2;have hv4 := hv3.below k3 hB3;have o3 := o2.later k3;have S3 := N3.lt;clear k3 A2 R2 N2 hv3 hB3 o2 B2 K2;cases hb : Az id L with
 | false =>
  have hN : Hid (D = L) := by unfold Hid; rw [hD.out]; unfold BQ; rw [hb]; rfl
  clear hD;have RP := R3.put id (.slice adN L.length capN);obtain ⟨⟨r0, r1⟩, rf⟩ := R3;obtain ⟨⟨n0, n1⟩, nf⟩ := N3;have BZ : Bw w ((w3.setCell ⟨w.heap.size + 1, 0, none⟩ (ji id)).setCell ⟨w.heap.size + 1, 1, none⟩ (.slice adN L.length capN)) := (B3.setCell (by show _ ≤ w.heap.size + 1; omega) _).setCell (by show _ ≤ w.heap.size + 1; omega) _;have OZ : AA AK 11 47 w.heap.size ((w3.setCell ⟨w.heap.size + 1, 0, none⟩ (ji id)).setCell ⟨w.heap.size + 1, 1, none⟩ (.slice adN L.length capN)) (.slice adN L.length capN) L := (o3.base (by omega)).keep fun g e => by
   have := og g e;rw [AE (by show g ≠ w.heap.size + 1; omega), AE (by show g ≠ w.heap.size + 1; omega)]
  obtain ⟨⟨p0, p1⟩, _⟩ := RP;clear og bt;go_wp2
  refine bodyPost_ret (v := .agg #[ji id, .slice adN L.length capN]) (by simp [results, results115, go_sem, *]) rfl ⟨adN, capN, by rw [hN.out], by rw [hN.out]; exact OZ, BZ⟩
 | true =>
  have hlen := (DJ hb).2.1;obtain ⟨g, rfl, hg1, hg2⟩ := o3.row (by omega);have hg3 : g < N := (og g rfl).2;have hD2 : Hid (D = (List.range L.length).map fun i => EO (L.getD i Pt.nil) (Do id L i)) := by unfold Hid; rw [hD.out]; unfold BQ; rw [hb]; rfl
  replace hb : Hid _ := hb;obtain ⟨f, hf⟩ : ∃ f : Nat → Pt, f = fun i => EO (L.getD i Pt.nil) (Do id L i) := ⟨_, rfl⟩
  rw [← hf] at hD2;replace hD2 : Hid _ := hD2;have hfk : ∀ i, EO (L.getD i Pt.nil) (Do id L i) = f i := fun i => by rw [hf]
  clear hf hD og;replace hfk : Hid _ := hfk;have M0 : AA AK 11 47 y.heap.size w3 (.slice (some (ja g 0)) L.length capN) (Bk f L 0) := by rw [HM]; exact o3
  clear o3;obtain ⟨a0, a1⟩ := A3;have A3 : Ap w3 w.heap.size id (.slice ad L.length cap) := ⟨a0, a1⟩;go_wp2_with fail
  go_at_call 116
  refine (Gq id ad cap L w3 hv4 hl).mono ?_;rintro e w4 ⟨rfl, k4⟩;have A3 := A3.below k4 (by omega);have N3 := N3.below k4 S3;have M0 := M0.later k4;have K3 := AG K3 k4;have R3 := R3.below k4 (by omega);have hv4 := hv4.below k4 (hv4.lt AV (by omega));have S3 := N3.lt;clear a0 a1 k4 B3;obtain ⟨q, hq⟩ := AC (oI (Cv id L));rw [← hq];replace hq : Hid _ := hq;obtain ⟨iss, hiss⟩ := AC ((Cv id L).isSome);rw [← hiss];clear hiss;have AY : Ap y w.heap.size id (.slice ad L.length cap) := A3.keep (K3.block _ (by omega)).symm;have RY : AR y (w.heap.size + 1) 0 (.slice none 0 0) := R3.keep (K3.block _ S0).symm;have hvy : AI AK y ad L := hv4.carry fun a e p => (K3.block _ (bt a e p)).symm
  go_wp2
  clear A3 R3 hv4;go_loopw [6] (fun i wr => ∃ k : Nat, k ≤ L.length ∧ i = .int .i64 (k : Int) ∧ AA AK 11 47 y.heap.size wr (.slice (some ⟨g, 0, none⟩) L.length capN) (Bk f L k) ∧ AR wr N id (.slice (some ⟨g, 0, none⟩) L.length capN) ∧ Below y.heap.size y wr) (fun i _ => L.length - (intOf i).toNat)
  case atStart => exact ⟨0, Nat.zero_le _, rfl, M0, N3, K3⟩
  case round =>
   obtain ⟨k, hk, rfl, M, N4, K4⟩ := hrel;have A4 := AY.below K4 (by omega);have R4 := RY.below K4 S0;have B4 := AG B0 K4;have S4 := N4.lt;obtain ⟨a0, a1⟩ := A4;by_cases hlt : k < L.length
   ·
    have hv5 := hvy.below K4 bt;obtain ⟨bk, off, rfl, _⟩ := hv5 (by omega);obtain ⟨h, hh⟩ : ∃ h, L.getD k Pt.nil = h := ⟨_, rfl⟩;obtain ⟨c0, c1, c2, c3, c4, c5, c6, c7, c8, c9, c10⟩ : CA wr bk (off + k * 11) h := by rw [← hh]; exact CP (hv5.at_ AV Pt.nil hlt)
    have hok : Hid (Ae h = true) := by unfold Hid; rw [← hh]; exact (DJ hb.out).2.2 k
    obtain ⟨z, hz⟩ := AC (f k);have hz2 : Hid (EO h (Do id L k) = z) := by unfold Hid; rw [hz, ← hh]; exact hfk.out k
    replace hz : Hid _ := hz;replace hh : Hid _ := hh;obtain ⟨y5, hy5, kn⟩ := AM wr (Obj.cells (pc h) 47);have P5 : Bg y5 wr.heap.size h := by rw [hy5]; exact EN wr _ _
    have A5 := Ap.below ⟨a0, a1⟩ kn (by omega);have N5 := N4.below kn S4;have M5 := M.later kn;have hv6 := hv5.below kn (hv5.lt AV (by omega));have hB6 := hv6.lt AV (by omega);have K5 := AG K4 kn;have S5 := P5.lt;have hgw : g < wr.heap.size := (M.lt g rfl).2;go_upto_region 10 with fail
    rw [← hy5];clear hy5 a0 a1 c0 c1 c2 c3 c4 c5 c6 c7 c8 c9 c10 kn M N4 hv5;generalize wr.heap.size = Q at P5 S4 S5 hgw ⊢
    have hdk : ∀ b : Bool, decide (Cv id L = some k) = b → ((k : Int) == q) = b := by
     intro b hb';rw [hq.out, ← hb'];cases ho : Cv id L with
     | none =>
      rw [decide_eq_false (by simp)];simp only [oI, beq_eq_false_iff_ne, ne_eq]; omega
     | some j =>
      by_cases e : j = k
      ·
       subst e;simp [oI]
      rw [decide_eq_false (by simpa using e)];simp only [oI, beq_eq_false_iff_ne, ne_eq]; omega
    replace hdk : Hid _ := hdk;obtain ⟨e0, e1, e2, e3, e4, e5, e6, e7, e8, e9, e10⟩ := P5;have P5 : Bg y5 Q h := ⟨e0, e1, e2, e3, e4, e5, e6, e7, e8, e9, e10⟩;cases hu : h.up with
    | false =>
     have hhas : h.has = false := Jn hok.out hu;have dk : ((k : Int) == q) = false := hdk.out false (decide_eq_false (fun e => by have := Jj e hh.out; rw [hhas] at this; cases this));rw [hu] at e0;have MN : AA AK 11 47 y.heap.size y5 (.slice (some (ja g 0)) L.length capN) (Bk f L (k + 1)) := by
      rw [JB Pt.nil hlt (by rw [← hz.out, ← hz2.out, hh.out]; unfold EO; rw [hu]; rfl)];exact M5
     replace MN : Hid _ := MN;go_upto_region 12 with fail
     refine An (fun Y => Bw y5 Y) fun u0 hb0 => ?_
     refine tw 0 35 (.pointer (some (ja Q 1))) ?_;refine tw 1 36 (.bool false) ?_ (hy := by intro Y hSw; have X := (P5.below hSw (by omega)).all; go_simp);refine tw 2 37 (.bool false) ?_;refine ts 3 38 ?_;refine ts 4 39 ?_;refine ts 5 40 ?_;refine ts 6 41 ?_;refine ts 7 42 ?_;refine ts 8 43 ?_;refine tw 9 44 (.bool false) ?_;refine Ag ?_;obtain ⟨x0, x1, x2, x3, x4, x5, x6, x7, x8, x9, x10⟩ := P5.below hb0 (by omega);rw [hu] at x0;go_wp2
     go_roundw
     case rel => exact ⟨k + 1, by omega, by go_num, AA.below MN.out hb0 (fun g' e => by obtain rfl : g = g' := (by simpa [Value.ownBlock] using e); omega), N5.below hb0 (by omega), AG K5 hb0⟩
     case measure => simp [intOf]; omega
    | true =>
     rw [hu] at e0;replace hu : Hid _ := hu;by_cases hr : Cv id L = some k
     ·
      have dk : ((k : Int) == q) = true := hdk.out true (decide_eq_true hr);have hro : Hid (Do id L k = 1) := by unfold Hid Do; rw [if_pos hr]
      have hz3 : Hid (Bo h 1 = z) := by unfold Hid; rw [GB, ← hz2.out, hro.out]
      go_upto_region 15 with fail
      clear e0 e1 e2 e3 e4 e5 e6 e7 e8 e9 e10;refine An (fun Y => AU g y5.heap.size y5 Y) fun u0 hb0 => ?_
      have hS0 : AU g y5.heap.size y5 u0 := AU.of hb0;refine tw 0 47 (.pointer (some (ja N 1))) ?_;refine tw 1 48 (.slice (some (ja g 0)) L.length capN) ?_ (hy := by intro Y hSw; obtain ⟨X0, X1⟩ := N5.at_.bar hSw (by omega) (by omega); go_simp);refine tw 2 49 (ji (k : Int)) ?_;refine tw 3 50 (.agg (pc h)) ?_ (hy := by intro Y hSw; have X := (P5.bar hSw (by omega) (by omega)).all; go_simp);refine tw 4 51 (ji 1) ?_;refine wpAnyH_all (rs := [5]) (by kernel_rfl) (by simp) ?_;intro i hi; obtain rfl : i = 5 := by simpa using hi
      refine wpOp_step rfl (fun K hK => ?_);rw [if_pos (by kernel_rfl)];go_simp
      go_at_call 125
      refine (FH h 1 u0).mono ?_;rintro e u1 ⟨rfl, kq⟩;have hb1 := AG hb0 kq;clear kq;rw [hz3.out];have hS1 : AU g y5.heap.size y5 u1 := AU.of hb1;refine hK _ _ ⟨AU.of hb1, ?_⟩;clear hK K hi;refine tw 6 53 (.pointer (some ⟨g, k * 11, none⟩)) ?_ (hy := by intro Y hSw; go_simp; try omega);refine wpAnyH_all (rs := [7]) (by kernel_rfl) (by simp) ?_;intro i hi; obtain rfl : i = 7 := by simpa using hi
      refine wpOp_step rfl (fun K hK => ?_);rw [if_pos (by kernel_rfl)];have MU : AA AK 11 47 y.heap.size u1 (.slice (some (ja g 0)) L.length capN) (Bk f L k) := M5.below hb1 (fun g' e => by obtain rfl : g = g' := (by simpa [Value.ownBlock] using e); omega);have hml : (Bk f L k).length = L.length := F5 hk;rw [← hml] at MU;obtain ⟨t0, t1, t2, t3, t4, t5, t6, t7, t8, t9, t10⟩ : CA u1 g (k * 11) ((Bk f L k).getD k Pt.nil) := CP (MU.cell AV Pt.nil (by rw [hml]; exact hlt));have ff := MU.frozen;have f0 := ff (k * 11);have f1 := ff (k * 11 + 1);have f2 := ff (k * 11 + 2);have f3 := ff (k * 11 + 3);have f4 := ff (k * 11 + 4);have f5 := ff (k * 11 + 5);have f6 := ff (k * 11 + 6);have f7 := ff (k * 11 + 7);have f8 := ff (k * 11 + 8);have f9 := ff (k * 11 + 9);have f10 := ff (k * 11 + 10);have MS := MU.set AV (by omega) (i := k) (by rw [hml]; exact hlt) z;rw [hz.out, F1 hlt, Ca, hml, ← hz.out] at MS;have SB := AU.putAll (o := k * 11) (AK z) (AU.of (g := g) hb1);rw [Ca] at SB;have BB := Dp (B := y.heap.size) hg1 (AK z) (k * 11) (AG K5 hb1);rw [Ca] at BB;clear hml ff MU;obtain ⟨uf, huf⟩ := AC (((((((((((u1.setCell ⟨g, k * 11, none⟩ (.bool z.up)).setCell ⟨g, k * 11 + 1, none⟩ (.bool z.has)).setCell ⟨g, k * 11 + 2, none⟩ (ji z.r)).setCell ⟨g, k * 11 + 3, none⟩ (ji z.c)).setCell ⟨g, k * 11 + 4, none⟩ (ji z.b)).setCell ⟨g, k * 11 + 5, none⟩ (ji z.p)).setCell ⟨g, k * 11 + 6, none⟩ (ji z.h)).setCell ⟨g, k * 11 + 7, none⟩ (ji z.l)).setCell ⟨g, k * 11 + 8, none⟩ (ji z.ro)).setCell ⟨g, k * 11 + 9, none⟩ (ji z.wa)).setCell ⟨g, k * 11 + 10, none⟩ (.bool z.op));rw [← huf] at MS SB BB;go_simp
      rw [← huf];have NF := N5.at_.bar SB (by omega) (by omega);have NFF : AR uf N id (.slice (some (ja g 0)) L.length capN) := N5.keep (SB.block N (by omega) (by omega));clear huf t0 f0 t1 f1 t2 f2 t3 f3 t4 f4 t5 f5 t6 f6 t7 f7 t8 f8 t9 f9 t10 f10 NF;refine hK _ _ ⟨SB, ?_⟩;clear hK K hi;refine Ag ?_;go_wp2
      go_roundw
      case rel => exact ⟨k + 1, by omega, by go_num, MS, NFF, BB⟩
      case measure => simp [intOf]; omega
     have dk : ((k : Int) == q) = false := hdk.out false (decide_eq_false hr);have hρ2 : Hid (Do id L k = if h.has && DF h.r h.c h.b h.p (Cc id L k).1 (Cc id L k).2.1 (Cc id L k).2.2.1 (Cc id L k).2.2.2 then 3 else 2) := by unfold Hid; unfold Do; rw [if_neg hr, hh.out]
     replace hr : Hid _ := hr;go_upto_region 12 with fail
     clear e0 e1 e2 e3 e4 e5 e6 e7 e8 e9 e10;cases hhas : h.has with
     | false =>
      have hro : Hid (Do id L k = 2) := by unfold Hid; rw [hρ2.out, hhas]; rfl
      have hz3 : Hid (Bo h 2 = z) := by unfold Hid; rw [GB, ← hz2.out, hro.out]
      refine An (fun Y => Bw y5 Y) fun u0 hb0 => ?_
      refine tw 0 35 (.pointer (some (ja Q 1))) ?_;refine tw 1 36 (.bool false) ?_ (hy := by intro Y hSw; have X := (P5.below hSw (by omega)).all; go_simp);refine tw 2 37 (.bool false) ?_;refine ts 3 38 ?_;refine ts 4 39 ?_;refine ts 5 40 ?_;refine ts 6 41 ?_;refine ts 7 42 ?_;refine ts 8 43 ?_;refine tw 9 44 (.bool false) ?_;refine Ag ?_;obtain ⟨y6, hy6⟩ := AC u0;rw [← hy6] at hb0 ⊢;clear hy6;have P5 := P5.below hb0 (by omega);have A5 := A5.below hb0 (by omega);have N5 := N5.below hb0 (by omega);have K5 := AG K5 hb0;have M5 := M5.below hb0 (fun g' e => by obtain rfl : g = g' := (by simpa [Value.ownBlock] using e); omega);have S5 := P5.lt;have S6 := N5.lt;obtain ⟨x0, x1, x2, x3, x4, x5, x6, x7, x8, x9, x10⟩ := P5;have P5 : Bg y6 Q h := ⟨x0, x1, x2, x3, x4, x5, x6, x7, x8, x9, x10⟩;rw [hu.out] at x0;replace hhas : Hid _ := hhas;go_upto_region 15 with fail
      clear x0 x1 x2 x3 x4 x5 x6 x7 x8 x9 x10 hb0;refine An (fun Y => AU g y6.heap.size y6 Y) fun u0 hb0 => ?_
      have hS0 : AU g y6.heap.size y6 u0 := AU.of hb0;refine tw 0 47 (.pointer (some (ja N 1))) ?_;refine tw 1 48 (.slice (some (ja g 0)) L.length capN) ?_ (hy := by intro Y hSw; obtain ⟨X0, X1⟩ := N5.at_.bar hSw (by omega) (by omega); go_simp);refine tw 2 49 (ji (k : Int)) ?_;refine tw 3 50 (.agg (pc h)) ?_ (hy := by intro Y hSw; have X := (P5.bar hSw (by omega) (by omega)).all; go_simp);refine tw 4 51 (ji 2) ?_;refine wpAnyH_all (rs := [5]) (by kernel_rfl) (by simp) ?_;intro i hi; obtain rfl : i = 5 := by simpa using hi
      refine wpOp_step rfl (fun K hK => ?_);rw [if_pos (by kernel_rfl)];go_simp
      go_at_call 125
      refine (FH h 2 u0).mono ?_;rintro e u1 ⟨rfl, kq⟩;have hb1 := AG hb0 kq;clear kq;rw [hz3.out];have hS1 : AU g y6.heap.size y6 u1 := AU.of hb1;refine hK _ _ ⟨AU.of hb1, ?_⟩;clear hK K hi;refine tw 6 53 (.pointer (some ⟨g, k * 11, none⟩)) ?_ (hy := by intro Y hSw; go_simp; try omega);refine wpAnyH_all (rs := [7]) (by kernel_rfl) (by simp) ?_;intro i hi; obtain rfl : i = 7 := by simpa using hi
      refine wpOp_step rfl (fun K hK => ?_);rw [if_pos (by kernel_rfl)];have MU : AA AK 11 47 y.heap.size u1 (.slice (some (ja g 0)) L.length capN) (Bk f L k) := M5.below hb1 (fun g' e => by obtain rfl : g = g' := (by simpa [Value.ownBlock] using e); omega);have hml : (Bk f L k).length = L.length := F5 hk;rw [← hml] at MU;obtain ⟨t0, t1, t2, t3, t4, t5, t6, t7, t8, t9, t10⟩ : CA u1 g (k * 11) ((Bk f L k).getD k Pt.nil) := CP (MU.cell AV Pt.nil (by rw [hml]; exact hlt));have ff := MU.frozen;have f0 := ff (k * 11);have f1 := ff (k * 11 + 1);have f2 := ff (k * 11 + 2);have f3 := ff (k * 11 + 3);have f4 := ff (k * 11 + 4);have f5 := ff (k * 11 + 5);have f6 := ff (k * 11 + 6);have f7 := ff (k * 11 + 7);have f8 := ff (k * 11 + 8);have f9 := ff (k * 11 + 9);have f10 := ff (k * 11 + 10);have MS := MU.set AV (by omega) (i := k) (by rw [hml]; exact hlt) z;rw [hz.out, F1 hlt, Ca, hml, ← hz.out] at MS;have SB := AU.putAll (o := k * 11) (AK z) (AU.of (g := g) hb1);rw [Ca] at SB;have BB := Dp (B := y.heap.size) hg1 (AK z) (k * 11) (AG K5 hb1);rw [Ca] at BB;clear hml ff MU;obtain ⟨uf, huf⟩ := AC (((((((((((u1.setCell ⟨g, k * 11, none⟩ (.bool z.up)).setCell ⟨g, k * 11 + 1, none⟩ (.bool z.has)).setCell ⟨g, k * 11 + 2, none⟩ (ji z.r)).setCell ⟨g, k * 11 + 3, none⟩ (ji z.c)).setCell ⟨g, k * 11 + 4, none⟩ (ji z.b)).setCell ⟨g, k * 11 + 5, none⟩ (ji z.p)).setCell ⟨g, k * 11 + 6, none⟩ (ji z.h)).setCell ⟨g, k * 11 + 7, none⟩ (ji z.l)).setCell ⟨g, k * 11 + 8, none⟩ (ji z.ro)).setCell ⟨g, k * 11 + 9, none⟩ (ji z.wa)).setCell ⟨g, k * 11 + 10, none⟩ (.bool z.op));rw [← huf] at MS SB BB;go_simp
      rw [← huf];have NF := N5.at_.bar SB (by omega) (by omega);have NFF : AR uf N id (.slice (some (ja g 0)) L.length capN) := N5.keep (SB.block N (by omega) (by omega));clear huf t0 f0 t1 f1 t2 f2 t3 f3 t4 f4 t5 f5 t6 f6 t7 f7 t8 f8 t9 f9 t10 f10 NF;refine hK _ _ ⟨SB, ?_⟩;clear hK K hi;refine Ag ?_;go_wp2
      go_roundw
      case rel => exact ⟨k + 1, by omega, by go_num, MS, NFF, BB⟩
      case measure => simp [intOf]; omega
     | true =>
      obtain ⟨⟨v1, v2, v3, v4⟩, hov⟩ : ∃ v, Cc id L k = v := ⟨_, rfl⟩;have hρ3 : Hid (Do id L k = if DF h.r h.c h.b h.p v1 v2 v3 v4 then 3 else 2) := by unfold Hid; rw [hρ2.out, hhas, hov]; rfl
      replace hov : Hid _ := hov;obtain ⟨t, ht⟩ : ∃ t, DF h.r h.c h.b h.p v1 v2 v3 v4 = t := ⟨_, rfl⟩;replace ht : Hid _ := ht;cases t
      focus
       have hro : Hid (Do id L k = 2) := by unfold Hid; rw [hρ3.out, ht.out]; rfl
       have hz3 : Hid (Bo h 2 = z) := by unfold Hid; rw [GB, ← hz2.out, hro.out]
       refine An (fun Y => Bw y5 Y) fun u0 hb0 => ?_
       refine tw 0 35 (.pointer (some (ja Q 1))) ?_;refine tw 1 36 (.bool true) ?_ (hy := by intro Y hSw; have X := (P5.below hSw (by omega)).all; go_simp);refine tw 2 37 (.bool true) ?_;refine tw 3 38 (.pointer (some (ja Q 2))) ?_;refine tw 4 39 (.agg #[ji h.r, ji h.c, ji h.b, ji h.p]) ?_ (hy := by intro Y hSw; have X := (P5.below hSw (by omega)).all; go_simp);refine tw 5 40 (.agg #[ji id, .slice (some (ja bk off)) L.length cap]) ?_ (hy := by intro Y hSw; obtain ⟨X0, X1⟩ := A5.below hSw (by omega); go_simp);refine tw 6 41 (ji (k : Int)) ?_;refine wpAnyH_all (rs := [7]) (by kernel_rfl) (by simp) ?_;intro i hi; obtain rfl : i = 7 := by simpa using hi
       refine wpOp_step rfl (fun K hK => ?_);rw [if_pos (by kernel_rfl)];go_simp
       go_at_call 94
       refine (G7 id (some (ja bk off)) cap L (k : Int) u0 (hv6.below hb0 hB6) hl).mono ?_;rintro e u1 ⟨rfl, kq⟩;have hb1 := AG hb0 kq;clear kq;rw [hov.out];refine hK _ _ ⟨hb1, ?_⟩;clear hK K hi;refine wpAnyH_all (rs := [8]) (by kernel_rfl) (by simp) ?_;intro i hi; obtain rfl : i = 8 := by simpa using hi
       refine wpOp_step rfl (fun K hK => ?_);rw [if_pos (by kernel_rfl)];go_simp
       go_at_call 128
       refine (Fr h.r h.c h.b h.p v1 v2 v3 v4 u1).mono ?_;rintro e u2 ⟨rfl, kq⟩;have hb2 := AG hb1 kq;clear kq;rw [ht.out];refine hK _ _ ⟨hb2, ?_⟩;clear hK K hi;refine tw 9 44 (.bool false) ?_;refine Ag ?_;obtain ⟨y6, hy6⟩ := AC u2;rw [← hy6] at hb2 ⊢;clear hy6;have P5 := P5.below hb2 (by omega);have A5 := A5.below hb2 (by omega);have N5 := N5.below hb2 (by omega);have K5 := AG K5 hb2;have M5 := M5.below hb2 (fun g' e => by obtain rfl : g = g' := (by simpa [Value.ownBlock] using e); omega);have S5 := P5.lt;have S6 := N5.lt;obtain ⟨x0, x1, x2, x3, x4, x5, x6, x7, x8, x9, x10⟩ := P5;have P5 : Bg y6 Q h := ⟨x0, x1, x2, x3, x4, x5, x6, x7, x8, x9, x10⟩;rw [hu.out] at x0;replace hhas : Hid _ := hhas;go_upto_region 15 with fail
       clear x0 x1 x2 x3 x4 x5 x6 x7 x8 x9 x10 hb2;refine An (fun Y => AU g y6.heap.size y6 Y) fun u0 hb0 => ?_
       have hS0 : AU g y6.heap.size y6 u0 := AU.of hb0;refine tw 0 47 (.pointer (some (ja N 1))) ?_;refine tw 1 48 (.slice (some (ja g 0)) L.length capN) ?_ (hy := by intro Y hSw; obtain ⟨X0, X1⟩ := N5.at_.bar hSw (by omega) (by omega); go_simp);refine tw 2 49 (ji (k : Int)) ?_;refine tw 3 50 (.agg (pc h)) ?_ (hy := by intro Y hSw; have X := (P5.bar hSw (by omega) (by omega)).all; go_simp);refine tw 4 51 (ji 2) ?_;refine wpAnyH_all (rs := [5]) (by kernel_rfl) (by simp) ?_;intro i hi; obtain rfl : i = 5 := by simpa using hi
       refine wpOp_step rfl (fun K hK => ?_);rw [if_pos (by kernel_rfl)];go_simp
       go_at_call 125
       refine (FH h 2 u0).mono ?_
      rotate_left;focus
       have hro : Hid (Do id L k = 3) := by unfold Hid; rw [hρ3.out, ht.out]; rfl
       have hz3 : Hid (Bo h 3 = z) := by unfold Hid; rw [GB, ← hz2.out, hro.out]
       refine An (fun Y => Bw y5 Y) fun u0 hb0 => ?_
       refine tw 0 35 (.pointer (some (ja Q 1))) ?_;refine tw 1 36 (.bool true) ?_ (hy := by intro Y hSw; have X := (P5.below hSw (by omega)).all; go_simp);refine tw 2 37 (.bool true) ?_;refine tw 3 38 (.pointer (some (ja Q 2))) ?_;refine tw 4 39 (.agg #[ji h.r, ji h.c, ji h.b, ji h.p]) ?_ (hy := by intro Y hSw; have X := (P5.below hSw (by omega)).all; go_simp);refine tw 5 40 (.agg #[ji id, .slice (some (ja bk off)) L.length cap]) ?_ (hy := by intro Y hSw; obtain ⟨X0, X1⟩ := A5.below hSw (by omega); go_simp);refine tw 6 41 (ji (k : Int)) ?_;refine wpAnyH_all (rs := [7]) (by kernel_rfl) (by simp) ?_;intro i hi; obtain rfl : i = 7 := by simpa using hi
       refine wpOp_step rfl (fun K hK => ?_);rw [if_pos (by kernel_rfl)];go_simp
       go_at_call 94
       refine (G7 id (some (ja bk off)) cap L (k : Int) u0 (hv6.below hb0 hB6) hl).mono ?_;rintro e u1 ⟨rfl, kq⟩;have hb1 := AG hb0 kq;clear kq;rw [hov.out];refine hK _ _ ⟨hb1, ?_⟩;clear hK K hi;refine wpAnyH_all (rs := [8]) (by kernel_rfl) (by simp) ?_;intro i hi; obtain rfl : i = 8 := by simpa using hi
       refine wpOp_step rfl (fun K hK => ?_);rw [if_pos (by kernel_rfl)];go_simp
       go_at_call 128
       refine (Fr h.r h.c h.b h.p v1 v2 v3 v4 u1).mono ?_;rintro e u2 ⟨rfl, kq⟩;have hb2 := AG hb1 kq;clear kq;rw [ht.out];refine hK _ _ ⟨hb2, ?_⟩;clear hK K hi;refine tw 9 44 (.bool true) ?_;refine Ag ?_;obtain ⟨y6, hy6⟩ := AC u2;rw [← hy6] at hb2 ⊢;clear hy6;have P5 := P5.below hb2 (by omega);have A5 := A5.below hb2 (by omega);have N5 := N5.below hb2 (by omega);have K5 := AG K5 hb2;have M5 := M5.below hb2 (fun g' e => by obtain rfl : g = g' := (by simpa [Value.ownBlock] using e); omega);have S5 := P5.lt;have S6 := N5.lt;obtain ⟨x0, x1, x2, x3, x4, x5, x6, x7, x8, x9, x10⟩ := P5;have P5 : Bg y6 Q h := ⟨x0, x1, x2, x3, x4, x5, x6, x7, x8, x9, x10⟩;rw [hu.out] at x0;replace hhas : Hid _ := hhas;go_upto_region 15 with fail
       clear x0 x1 x2 x3 x4 x5 x6 x7 x8 x9 x10 hb2;refine An (fun Y => AU g y6.heap.size y6 Y) fun u0 hb0 => ?_
       have hS0 : AU g y6.heap.size y6 u0 := AU.of hb0;refine tw 0 47 (.pointer (some (ja N 1))) ?_;refine tw 1 48 (.slice (some (ja g 0)) L.length capN) ?_ (hy := by intro Y hSw; obtain ⟨X0, X1⟩ := N5.at_.bar hSw (by omega) (by omega); go_simp);refine tw 2 49 (ji (k : Int)) ?_;refine tw 3 50 (.agg (pc h)) ?_ (hy := by intro Y hSw; have X := (P5.bar hSw (by omega) (by omega)).all; go_simp);refine tw 4 51 (ji 3) ?_;refine wpAnyH_all (rs := [5]) (by kernel_rfl) (by simp) ?_;intro i hi; obtain rfl : i = 5 := by simpa using hi
       refine wpOp_step rfl (fun K hK => ?_);rw [if_pos (by kernel_rfl)];go_simp
       go_at_call 125
       refine (FH h 3 u0).mono ?_
      rotate_left;all_goals
       rintro e u1 ⟨rfl, kq⟩;have hb1 := AG hb0 kq;clear kq;rw [hz3.out];have hS1 : AU g y6.heap.size y6 u1 := AU.of hb1;refine hK _ _ ⟨AU.of hb1, ?_⟩;clear hK K hi;refine tw 6 53 (.pointer (some ⟨g, k * 11, none⟩)) ?_ (hy := by intro Y hSw; go_simp; try omega);refine wpAnyH_all (rs := [7]) (by kernel_rfl) (by simp) ?_;intro i hi; obtain rfl : i = 7 := by simpa using hi
       refine wpOp_step rfl (fun K hK => ?_);rw [if_pos (by kernel_rfl)];have MU : AA AK 11 47 y.heap.size u1 (.slice (some (ja g 0)) L.length capN) (Bk f L k) := M5.below hb1 (fun g' e => by obtain rfl : g = g' := (by simpa [Value.ownBlock] using e); omega);have hml : (Bk f L k).length = L.length := F5 hk;rw [← hml] at MU;obtain ⟨t0, t1, t2, t3, t4, t5, t6, t7, t8, t9, t10⟩ : CA u1 g (k * 11) ((Bk f L k).getD k Pt.nil) := CP (MU.cell AV Pt.nil (by rw [hml]; exact hlt));have ff := MU.frozen;have f0 := ff (k * 11);have f1 := ff (k * 11 + 1);have f2 := ff (k * 11 + 2);have f3 := ff (k * 11 + 3);have f4 := ff (k * 11 + 4);have f5 := ff (k * 11 + 5);have f6 := ff (k * 11 + 6);have f7 := ff (k * 11 + 7);have f8 := ff (k * 11 + 8);have f9 := ff (k * 11 + 9);have f10 := ff (k * 11 + 10);have MS := MU.set AV (by omega) (i := k) (by rw [hml]; exact hlt) z;rw [hz.out, F1 hlt, Ca, hml, ← hz.out] at MS;have SB := AU.putAll (o := k * 11) (AK z) (AU.of (g := g) hb1);rw [Ca] at SB;have BB := Dp (B := y.heap.size) hg1 (AK z) (k * 11) (AG K5 hb1);rw [Ca] at BB;clear hml ff MU;obtain ⟨uf, huf⟩ := AC (((((((((((u1.setCell ⟨g, k * 11, none⟩ (.bool z.up)).setCell ⟨g, k * 11 + 1, none⟩ (.bool z.has)).setCell ⟨g, k * 11 + 2, none⟩ (ji z.r)).setCell ⟨g, k * 11 + 3, none⟩ (ji z.c)).setCell ⟨g, k * 11 + 4, none⟩ (ji z.b)).setCell ⟨g, k * 11 + 5, none⟩ (ji z.p)).setCell ⟨g, k * 11 + 6, none⟩ (ji z.h)).setCell ⟨g, k * 11 + 7, none⟩ (ji z.l)).setCell ⟨g, k * 11 + 8, none⟩ (ji z.ro)).setCell ⟨g, k * 11 + 9, none⟩ (ji z.wa)).setCell ⟨g, k * 11 + 10, none⟩ (.bool z.op));rw [← huf] at MS SB BB;go_simp
       rw [← huf];have NF := N5.at_.bar SB (by omega) (by omega);have NFF : AR uf N id (.slice (some (ja g 0)) L.length capN) := N5.keep (SB.block N (by omega) (by omega));clear huf t0 f0 t1 f1 t2 f2 t3 f3 t4 f4 t5 f5 t6 f6 t7 f7 t8 f8 t9 f9 t10 f10 NF;refine hK _ _ ⟨SB, ?_⟩;clear hK K hi;refine Ag ?_;go_wp2
       go_roundw
       case rel => exact ⟨k + 1, by omega, by go_num, MS, NFF, BB⟩
       case measure => simp [intOf]; omega
   obtain rfl : k = L.length := by omega
   rw [HY] at M;have RP := R4.put id (.slice (some (ja g 0)) L.length capN);obtain ⟨⟨r0, r1⟩, rf⟩ := R4;obtain ⟨⟨n0, n1⟩, nf⟩ := N4;have BZ : Bw w ((wr.setCell ⟨w.heap.size + 1, 0, none⟩ (ji id)).setCell ⟨w.heap.size + 1, 1, none⟩ (.slice (some (ja g 0)) L.length capN)) := (B4.setCell (by show _ ≤ w.heap.size + 1; omega) _).setCell (by show _ ≤ w.heap.size + 1; omega) _;have OZ : AA AK 11 47 w.heap.size ((wr.setCell ⟨w.heap.size + 1, 0, none⟩ (ji id)).setCell ⟨w.heap.size + 1, 1, none⟩ (.slice (some (ja g 0)) L.length capN)) (.slice (some (ja g 0)) L.length capN) ((List.range L.length).map f) := (M.base (by omega)).keep fun g' e => by
    obtain rfl : g = g' := by simpa [Value.ownBlock] using e
    rw [AE (by show g ≠ w.heap.size + 1; omega), AE (by show g ≠ w.heap.size + 1; omega)]
   have hDl : D.length = L.length := by rw [hD2.out]; simp
   replace hDl : Hid _ := hDl;obtain ⟨⟨p0, p1⟩, _⟩ := RP;go_wp2
   refine bodyPost_ret (v := .agg #[ji id, .slice (some (ja g 0)) L.length capN]) (by simp [results, results115, go_sem, *]) rfl ⟨_, _, by rw [hDl.out], by rw [hDl.out, hD2.out]; exact OZ, BZ⟩
end Go.Proofs.YtjmnaeeknomiaaaGreatDoor
