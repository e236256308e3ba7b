import Derived.Test.YthgcbihhdbpbdaaGreatRKWRe2
namespace Go.Proofs.YthgcbihhdbpbdaaGreat
open Go.ChangeShapes Go.WideShapes Go.ChangeAt Go.RowKit
open Go.ChangeMaps (open_string shut_string)
set_option linter.unusedVariables false
set_option maxRecDepth 100000
set_option maxHeartbeats 32000000
set_option linter.unusedSimpArgs false
open Go.Proofs.Tryz
theorem J0 (id : Int) (ad : Option Addr) (cap : Nat) (L : List Pt)  (w : World) (hv : AH AJ w ad L) (hl : L.length ≤ 4) (hn : ad = none → cap = 0) (hb : Bp id L = true) :
  Calls prog 136 #[.agg #[ji id, .slice ad L.length cap], .iface 188 (.agg #[])] w fun e w' => ∃ ad' cap', e = .returned (.agg #[ji id, .slice ad' (Ar id (L.map BG)).length cap']) ∧ AD AJ 11 70 w.heap.size w' (.slice ad' (Ar id (L.map BG)).length cap') (Ar id (L.map BG)) ∧ Bw w w' := by
 have hB := hv.lt AK (by omega);obtain ⟨y, hy⟩ := AB ((w.alloc (Obj.cells #[ji id, .slice ad L.length cap] 42)).alloc (Obj.cells #[ji 0, .slice none 0 0] 42));have B0 : Bw w y := by rw [hy]; exact ((Below.refl _ _).alloc (Nat.le_refl _) _).alloc (by simp) _
 have A0 : Ab y w.heap.size id (.slice ad L.length cap) := by rw [hy]; constructor <;> simp [go_sem]
 have R0 : AP y (w.heap.size + 1) 0 (.slice none 0 0) := by rw [hy]; refine ⟨?_, fun i => ?_⟩; constructor <;> simp [go_sem]; simp [go_sem]
 have S0 := R0.lt;have hv1 := hv.below B0 hB;have hB1 := hv1.lt AK (by omega);obtain ⟨D, hD⟩ := AB (Ar id (L.map BG));rw [← hD];replace hD : Hid _ := hD;go_enter func136, ntmps136
 go_wp2_with fail
 go_at_call 135
 rw [← hy];clear hy hv hB;refine (Es id ad cap L y hv1 (by omega) hn).mono ?_;rintro e w1 ⟨adN, capN, rfl, oN, k1⟩;have B1 := AA B0 k1;have A1 := A0.below k1 (by omega);have R1 := R0.below k1 (by omega);have S1 : w.heap.size + 1 < w1.heap.size := R1.lt;have hv2 := hv1.below k1 hB1;have hB2 := hv2.lt AK (by omega);have bt : ∀ a, ad = some a → 0 < L.length → a.block < y.heap.size := hB1;clear A0 R0 hv1 hB1;obtain ⟨y2, hy2, kn⟩ := AI w1 (Obj.cells #[ji id, .slice adN L.length capN] 42);have N2 : AP y2 w1.heap.size id (.slice adN L.length capN) := by rw [hy2]; exact AP.new w1 _ _ _
 have A2 := A1.below kn (by omega);have R2 := R1.below kn (by omega);have B2 := AA B1 kn;have K2 := AA k1 kn;have hv3 := hv2.below kn hB2;have o2 := oN.later kn;have S2 := N2.lt;have og : ∀ g, (Value.slice adN L.length capN).ownBlock = some g → y.heap.size ≤ g ∧ g < w1.heap.size := fun g e => oN.lt g e
 clear oN k1 hv2 hB2 B1;go_upto_region 3 with fail
 rw [← hy2];clear hy2 A1 kn R1;generalize w1.heap.size = N at S1 N2 S2 og ⊢
 have hlen := (CQ hb).2.1;replace hb : Hid _ := hb;obtain ⟨g, rfl, hg1, hg2⟩ := o2.row (by omega);have hg3 : g < N := (og g rfl).2;clear og;have AY : Ab y w.heap.size id (.slice ad L.length cap) := A2.keep (K2.block _ (by omega)).symm;have RY : AP y (w.heap.size + 1) 0 (.slice none 0 0) := R2.keep (K2.block _ S0).symm;have hvy : AH AJ y ad L := hv3.carry fun a e p => (K2.block _ (bt a e p)).symm
 have hta : ∀ w_ : World, (Instr.typeAssert (.iface 188 (.agg #[])) 155 187 true).run prog w_ = .ok (.tuple #[.agg #[ji 0, ji 0, ji 0, ji 0, ji 0, ji 0], .bool false]) w_ := fun _ => by kernel_rfl
 have htb : ∀ w_ : World, (Instr.typeAssert (.iface 188 (.agg #[])) 155 188 true).run prog w_ = .ok (.tuple #[.agg #[], .bool true]) w_ := fun _ => by kernel_rfl
 obtain ⟨f, hf⟩ : ∃ f : Nat → Pt, f = fun i => BG (L.getD i Pt.nil) := ⟨_, rfl⟩
 have hfk : ∀ i, BG (L.getD i Pt.nil) = f i := fun i => by rw [hf]
 have hfm : Hid ((List.range L.length).map f = L.map BG) := by
  unfold Hid;rw [hf];apply List.ext_getElem (by simp)
  intro i h1 h2;simp [List.getD, (by simpa using h1 : i < L.length)]
 clear hf;replace hfk : Hid _ := hfk;obtain ⟨y4, hy4, kn⟩ := AI y2 (Obj.cells #[] 188);have N3 := N2.below kn S2;have o3 := o2.later kn;have K3 := AA K2 kn;have A4 := A2.below kn A2.lt;have M0 : AD AJ 11 70 y.heap.size y4 (.slice (some (ja g 0)) L.length capN) (BQ f L 0) := by rw [Fg]; exact o3
 go_upto_region 8 with fail
 rw [← hy4];clear hy4 kn hta htb A2 N2 o2 R2 hv3 B2 o3;obtain ⟨a0, a1⟩ := A4;go_wp2
 clear a0 a1;go_loopw [39] (fun i wr => ∃ k : Nat, k ≤ L.length ∧ i = .int .i64 (k : Int) ∧ AD AJ 11 70 y.heap.size wr (.slice (some ⟨g, 0, none⟩) L.length capN) (BQ f L k) ∧ AP wr N id (.slice (some ⟨g, 0, none⟩) L.length capN) ∧ Below y.heap.size y wr) (fun i _ => L.length - (intOf i).toNat)
 case atStart => exact ⟨0, Nat.zero_le _, rfl, M0, N3, K3⟩
 case round =>
  obtain ⟨k, hk, rfl, M, N4, K4⟩ := hrel;have A4 := AY.below K4 (by omega);have R4 := RY.below K4 S0;have B4 := AA B0 K4;have S4 := N4.lt;obtain ⟨a0, a1⟩ := A4;by_cases hlt : k < L.length
  ·
   have hv5 := hvy.below K4 bt;obtain ⟨bk, off, rfl, _⟩ := hv5 (by omega);obtain ⟨h, hh⟩ : ∃ h, L.getD k Pt.nil = h := ⟨_, rfl⟩;obtain ⟨c0, c1, c2, c3, c4, c5, c6, c7, c8, c9, c10⟩ : BL wr bk (off + k * 11) h := by rw [← hh]; exact BV (hv5.at_ AK Pt.nil hlt)
   have hok : Hid (Ai h = true) := by unfold Hid; rw [← hh]; exact (CQ hb.out).2.2 k
   obtain ⟨z, hz⟩ := AB (f k);have hz2 : Hid (BG h = z) := by unfold Hid; rw [hz, ← hh]; exact hfk.out k
   replace hz : Hid _ := hz;replace hh : Hid _ := hh;obtain ⟨y5, hy5, kn⟩ := AI wr (Obj.cells (pc h) 70);have P5 : Bo y5 wr.heap.size h := by rw [hy5]; exact Df wr _ _
   have A5 := Ab.below ⟨a0, a1⟩ kn (by omega);have N5 := N4.below kn S4;have M5 := M.later kn;have hv6 := hv5.below kn (hv5.lt AK (by omega));have hB6 := hv6.lt AK (by omega);have K5 := AA K4 kn;have S5 := P5.lt;have hgw : g < wr.heap.size := (M.lt g rfl).2;go_upto_region 11 with fail
   rw [← hy5];clear hy5 a0 a1 c0 c1 c2 c3 c4 c5 c6 c7 c8 c9 c10 kn M N4 hv5;generalize wr.heap.size = Q at P5 S4 S5 hgw ⊢
   refine AR (fun Y => AL g y5.heap.size y5 Y) fun u0 hb0 => ?_
   have hS0 : AL g y5.heap.size y5 u0 := AL.of hb0;refine tw 0 44 (.pointer (some (ja N 1))) ?_;refine tw 1 45 (.slice (some (ja g 0)) L.length capN) ?_ (hy := by intro Y hSw; obtain ⟨X0, X1⟩ := N5.at_.bar hSw (by omega) (by omega); go_simp);refine tw 2 46 (ji (k : Int)) ?_;refine tw 3 47 (.agg (pc h)) ?_ (hy := by intro Y hSw; have X := (P5.bar hSw (by omega) (by omega)).all; go_simp);refine wpAnyH_all (rs := [4]) (by kernel_rfl) (by simp) ?_;intro i hi; obtain rfl : i = 4 := by simpa using hi
   refine wpOp_step rfl (fun K hK => ?_);rw [if_pos (by kernel_rfl)];go_simp
   go_at_call 158
   refine (JW h u0 hok.out).mono ?_;rintro e u1 ⟨rfl, kq⟩;have hb1 := AA hb0 kq;clear kq;rw [hz2.out];have hS1 : AL g y5.heap.size y5 u1 := AL.of hb1;refine hK _ _ ⟨AL.of hb1, ?_⟩;clear hK K hi;refine tw 5 49 (.pointer (some ⟨g, k * 11, none⟩)) ?_ (hy := by intro Y hSw; go_simp; try omega);refine wpAnyH_all (rs := [6]) (by kernel_rfl) (by simp) ?_;intro i hi; obtain rfl : i = 6 := by simpa using hi
   refine wpOp_step rfl (fun K hK => ?_);rw [if_pos (by kernel_rfl)];have MU : AD AJ 11 70 y.heap.size u1 (.slice (some (ja g 0)) L.length capN) (BQ f L k) := M5.below hb1 (fun g' e => by obtain rfl : g = g' := (by simpa [Value.ownBlock] using e); omega);have hml : (BQ f L k).length = L.length := Ey hk;rw [← hml] at MU;obtain ⟨t0, t1, t2, t3, t4, t5, t6, t7, t8, t9, t10⟩ : BL u1 g (k * 11) ((BQ f L k).getD k Pt.nil) := BV (MU.cell AK Pt.nil (by rw [hml]; exact hlt));have ff := MU.frozen;have f0 := ff (k * 11);have f1 := ff (k * 11 + 1);have f2 := ff (k * 11 + 2);have f3 := ff (k * 11 + 3);have f4 := ff (k * 11 + 4);have f5 := ff (k * 11 + 5);have f6 := ff (k * 11 + 6);have f7 := ff (k * 11 + 7);have f8 := ff (k * 11 + 8);have f9 := ff (k * 11 + 9);have f10 := ff (k * 11 + 10);have MS := MU.set AK (by omega) (i := k) (by rw [hml]; exact hlt) z;rw [hz.out, Ex hlt, CB, hml, ← hz.out] at MS;have SB := AL.putAll (o := k * 11) (AJ z) (AL.of (g := g) hb1);rw [CB] at SB;have BB := DC (B := y.heap.size) hg1 (AJ z) (k * 11) (AA K5 hb1);rw [CB] at BB;clear hml ff MU;obtain ⟨uf, huf⟩ := AB (((((((((((u1.setCell ⟨g, k * 11, none⟩ (.bool z.up)).setCell ⟨g, k * 11 + 1, none⟩ (.bool z.has)).setCell ⟨g, k * 11 + 2, none⟩ (ji z.r)).setCell ⟨g, k * 11 + 3, none⟩ (ji z.c)).setCell ⟨g, k * 11 + 4, none⟩ (ji z.b)).setCell ⟨g, k * 11 + 5, none⟩ (ji z.p)).setCell ⟨g, k * 11 + 6, none⟩ (ji z.h)).setCell ⟨g, k * 11 + 7, none⟩ (ji z.l)).setCell ⟨g, k * 11 + 8, none⟩ (ji z.ro)).setCell ⟨g, k * 11 + 9, none⟩ (ji z.wa)).setCell ⟨g, k * 11 + 10, none⟩ (.bool z.op));rw [← huf] at MS SB BB;go_simp
   rw [← huf];have NF := N5.at_.bar SB (by omega) (by omega);have NFF : AP uf N id (.slice (some (ja g 0)) L.length capN) := N5.keep (SB.block N (by omega) (by omega));clear huf t0 f0 t1 f1 t2 f2 t3 f3 t4 f4 t5 f5 t6 f6 t7 f7 t8 f8 t9 f9 t10 f10 NF;refine hK _ _ ⟨SB, ?_⟩;clear hK K hi;refine AM ?_;go_wp2
   go_roundw
   case rel => exact ⟨k + 1, by omega, by go_num, MS, NFF, BB⟩
   case measure => simp [intOf]; omega
  obtain rfl : k = L.length := by omega
  rw [Fh, hfm.out] at M;obtain ⟨Mv, hMv⟩ := AB (L.map BG);rw [← hMv] at M;have hMl : Mv.length = L.length := by rw [hMv]; simp
  have hDM : Hid (D = Ar id Mv) := by unfold Hid; rw [hD.out, hMv]
  replace hMl : Hid _ := hMl;clear hMv;have RU := RY.below K4 S0;have BU := AA B0 K4;have hdc := Gb id (some (ja g 0)) capN Mv wr (by have := M; unfold AD at this; exact (show AD AJ 11 70 y.heap.size wr (.slice (some (ja g 0)) L.length capN) Mv from this).view.2) (by rw [hMl.out]; omega) (fun e => by cases e);rw [hMl.out] at hdc;obtain ⟨⟨n0, n1⟩, nf⟩ := N4;go_wp2_with fail
  go_at_call 160
  clear n0 n1 nf;refine hdc.mono ?_;rintro e w9 ⟨aD, cD, rfl, oD, k9⟩;clear hdc;rw [← hDM.out] at oD ⊢;have R9 := RU.below k9 RU.lt;have B9 := AA BU k9;have S9 : w.heap.size + 1 < wr.heap.size := RU.lt;have RP := R9.put id (.slice aD D.length cD);obtain ⟨⟨r0, r1⟩, rf⟩ := R9;have BZ := (B9.setCell (p := ⟨w.heap.size + 1, 0, none⟩) (by show _ ≤ w.heap.size + 1; omega) (ji id)).setCell (p := ⟨w.heap.size + 1, 1, none⟩) (by show _ ≤ w.heap.size + 1; omega) (.slice aD D.length cD);have OZ : AD AJ 11 70 w.heap.size ((w9.setCell ⟨w.heap.size + 1, 0, none⟩ (ji id)).setCell ⟨w.heap.size + 1, 1, none⟩ (.slice aD D.length cD)) (.slice aD D.length cD) D := (oD.base (by omega)).keep fun g' e => by
   have := (oD.lt g' e).1;rw [AE (by show g' ≠ w.heap.size + 1; omega), AE (by show g' ≠ w.heap.size + 1; omega)]
  obtain ⟨⟨p0, p1⟩, _⟩ := RP;go_wp2
  refine bodyPost_ret (v := .agg #[ji id, .slice aD D.length cD]) (by simp [results, results136, go_sem, *]) rfl ⟨_, _, rfl, OZ, BZ⟩
end Go.Proofs.YthgcbihhdbpbdaaGreat
