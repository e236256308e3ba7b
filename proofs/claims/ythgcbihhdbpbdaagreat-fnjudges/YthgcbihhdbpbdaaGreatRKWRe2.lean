import Derived.Test.YthgcbihhdbpbdaaGreatRKWBr8
import Derived.Test.YthgcbihhdbpbdaaGreatRM5
import Derived.Test.YthgcbihhdbpbdaaGreatRM7
namespace Go.Proofs.YthgcbihhdbpbdaaGreat
open Go.ChangeShapes Go.WideShapes Go.ChangeAt Go.RowKit
open Go.ChangeMaps (open_string shut_string)
set_option linter.unusedVariables false
set_option maxRecDepth 100000
set_option maxHeartbeats 32000000
set_option linter.unusedSimpArgs false
open Go.Proofs.Tryz
attribute [local go_sem] ji ja pc
def Cl (id : Int) (L : List Pt) (x : Ik) : List Pt :=
 if x.k = 1 then Ar id (L.set x.q.toNat (BD (L.getD x.q.toNat Pt.nil) x.r x.c x.b x.p x.h))
 else if x.k = 2 then Ar id (L.map BG)
 else if (L.getD x.q.toNat Pt.nil).up = x.up then L else Ar id (L.set x.q.toNat (Bu x.up))
theorem GN (id : Int) (L : List Pt) (x : Ik) : (Cl id L x).length = L.length := by
 unfold Cl;split
 ·
  rw [GG, List.length_set]
 split
 ·
  rw [GG, List.length_map]
 split
 ·
  rfl
 rw [GG, List.length_set]
theorem J3 (id : Int) (ad : Option Addr) (cap : Nat) (L : List Pt) (k : Nat) (r c b p h : Int) (w : World) (hv : AH AJ w ad L) (hl : L.length ≤ 4) (hn : ad = none → cap = 0) (hqL : k < L.length) :
  Calls prog 136 #[.agg #[ji id, .slice ad L.length cap], .iface 187 (.agg #[ji (k : Int), ji r, ji c, ji b, ji p, ji h])] w fun e w' => ∃ ad' cap', e = .returned (.agg #[ji id, .slice ad' (Ar id (L.set k (BD (L.getD k Pt.nil) r c b p h))).length cap']) ∧ AD AJ 11 70 w.heap.size w' (.slice ad' (Ar id (L.set k (BD (L.getD k Pt.nil) r c b p h))).length cap') (Ar id (L.set k (BD (L.getD k Pt.nil) r c b p h))) ∧ Bw w w' := by
 have hB := hv.lt AK (by omega);obtain ⟨y, hy⟩ := AB ((w.alloc (Obj.cells #[ji id, .slice ad L.length cap] 42)).alloc (Obj.cells #[ji 0, .slice none 0 0] 42));have B0 : Bw w y := by rw [hy]; exact ((Below.refl _ _).alloc (Nat.le_refl _) _).alloc (by simp) _
 have A0 : Ab y w.heap.size id (.slice ad L.length cap) := by rw [hy]; constructor <;> simp [go_sem]
 have R0 : AP y (w.heap.size + 1) 0 (.slice none 0 0) := by rw [hy]; refine ⟨?_, fun i => ?_⟩; constructor <;> simp [go_sem]; simp [go_sem]
 have S0 := R0.lt;have hv1 := hv.below B0 hB;have hB1 := hv1.lt AK (by omega);obtain ⟨D, hD⟩ := AB (Ar id (L.set k (BD (L.getD k Pt.nil) r c b p h)));rw [← hD];replace hD : Hid _ := hD;go_enter func136, ntmps136
 go_wp2_with fail
 go_at_call 135
 rw [← hy];clear hy hv hB;refine (Es id ad cap L y hv1 (by omega) hn).mono ?_;rintro e w1 ⟨adN, capN, rfl, oN, k1⟩;have B1 := AA B0 k1;have A1 := A0.below k1 (by omega);have R1 := R0.below k1 (by omega);have S1 : w.heap.size + 1 < w1.heap.size := R1.lt;have hv2 := hv1.below k1 hB1;have hB2 := hv2.lt AK (by omega);have bt : ∀ a, ad = some a → 0 < L.length → a.block < y.heap.size := hB1;clear A0 R0 hv1 hB1;obtain ⟨y2, hy2, kn⟩ := AI w1 (Obj.cells #[ji id, .slice adN L.length capN] 42);have N2 : AP y2 w1.heap.size id (.slice adN L.length capN) := by rw [hy2]; exact AP.new w1 _ _ _
 have A2 := A1.below kn (by omega);have R2 := R1.below kn (by omega);have B2 := AA B1 kn;have K2 := AA k1 kn;have hv3 := hv2.below kn hB2;have o2 := oN.later kn;have S2 := N2.lt;have og : ∀ g, (Value.slice adN L.length capN).ownBlock = some g → y.heap.size ≤ g ∧ g < w1.heap.size := fun g e => oN.lt g e
 clear oN k1 hv2 hB2 B1;go_upto_region 3 with fail
 rw [← hy2];clear hy2 A1 kn R1;generalize w1.heap.size = N at S1 N2 S2 og ⊢
 obtain ⟨g, rfl, hg1, hg2⟩ := o2.row (by omega);have hg3 : g < N := (og g rfl).2;clear og;have AY : Ab y w.heap.size id (.slice ad L.length cap) := A2.keep (K2.block _ (by omega)).symm;have RY : AP y (w.heap.size + 1) 0 (.slice none 0 0) := R2.keep (K2.block _ S0).symm;have hvy : AH AJ y ad L := hv3.carry fun a e p => (K2.block _ (bt a e p)).symm
 have hta : ∀ w_ : World, (Instr.typeAssert (.iface 187 (.agg #[ji (k : Int), ji r, ji c, ji b, ji p, ji h])) 155 187 true).run prog w_ = .ok (.tuple #[.agg #[ji (k : Int), ji r, ji c, ji b, ji p, ji h], .bool true]) w_ := fun _ => by kernel_rfl
 obtain ⟨y5, hy5, kn⟩ := AI y2 (Obj.cells #[ji (k : Int), ji r, ji c, ji b, ji p, ji h] 187);have C5 : ∀ j v, (#[ji (k : Int), ji r, ji c, ji b, ji p, ji h] : Array Value)[j]? = some v → y5.cell? (ja y2.heap.size j) = some v := by
  intro i v h_;rw [hy5];have hi : i < 6 := (Array.getElem?_eq_some_iff.1 h_).1;rcases (by omega : i = 0 ∨ i = 1 ∨ i = 2 ∨ i = 3 ∨ i = 4 ∨ i = 5) with rfl | rfl | rfl | rfl | rfl | rfl <;> (cases h_; simp [go_sem])
 have S5 : y2.heap.size < y5.heap.size := by rw [hy5]; simp
 have A5 := A2.below kn A2.lt;have N5 := N2.below kn S2;have o5 := o2.later kn;have K5 := AA K2 kn;go_upto_region 5 with fail
 rw [← hy5];clear hy5 kn hta A2 N2 o2 R2 hv3 B2;generalize y2.heap.size = Q at C5 S2 S5 ⊢
 have hC : ∀ Y, AL g y5.heap.size y5 Y → ∀ j v, (#[ji (k : Int), ji r, ji c, ji b, ji p, ji h] : Array Value)[j]? = some v → Y.cell? (ja Q j) = some v := fun Y hY j v e => (World.cell?_of_block (a := (ja Q j)) (hY.block Q S5 (by omega))).trans (C5 j v e)
 obtain ⟨bk, off, rfl, _⟩ := hvy (by omega);have hv5 : ∀ Y, AL g y5.heap.size y5 Y → BL Y bk (off + k * 11) (L.getD k Pt.nil) := fun Y hY => BV ((hvy.carry fun a e p => ((hY.block a.block (by have := bt a e p; have := K5.size; omega) (by have := bt a e p; omega)).trans (K5.block _ (bt a e p)))).at_ AK Pt.nil hqL)
 obtain ⟨hp, hhp⟩ : ∃ v, L.getD k Pt.nil = v := ⟨_, rfl⟩;rw [hhp] at hv5;obtain ⟨z, hz⟩ : ∃ z, BD hp r c b p h = z := ⟨_, rfl⟩;have hz2 : Hid (z = (BD (L.getD k Pt.nil) r c b p h)) := by unfold Hid; rw [hhp, hz]
 replace hz : Hid _ := hz;replace hhp : Hid _ := hhp;refine AR (fun Y => AL g y5.heap.size y5 Y) fun u0 hb0 => ?_
 have hS0 : AL g y5.heap.size y5 u0 := AL.of hb0;refine tw 0 17 (.pointer (some (ja N 1))) ?_;refine tw 1 18 (.slice (some (ja g 0)) L.length capN) ?_ (hy := by intro Y hSw; obtain ⟨X0, X1⟩ := N5.at_.bar hSw (by omega) (by omega); go_simp);refine tw 2 19 (.pointer (some (ja Q 0))) ?_;refine tw 3 20 (ji (k : Int)) ?_ (hy := by intro Y hSw; have X0 := hC Y hSw 0 _ rfl; go_simp);refine tw 4 21 (.pointer (some (ja w.heap.size 1))) ?_;refine tw 5 22 (.slice (some (ja bk off)) L.length cap) ?_ (hy := by intro Y hSw; obtain ⟨X0, X1⟩ := A5.bar hSw (by omega) (by omega); go_simp);refine tw 6 23 (.pointer (some (ja Q 0))) ?_;refine tw 7 24 (ji (k : Int)) ?_ (hy := by intro Y hSw; have X0 := hC Y hSw 0 _ rfl; go_simp);refine tw 8 25 (.pointer (some ⟨bk, off + k * 11, none⟩)) ?_ (hy := by intro Y hSw; go_simp; try omega);refine tw 9 26 (.agg (pc hp)) ?_ (hy := by intro Y hSw; have X := (hv5 Y hSw).all; go_simp);refine tw 10 27 (.pointer (some (ja Q 1))) ?_;refine tw 11 28 (.agg #[ji r, ji c, ji b, ji p]) ?_ (hy := by intro Y hSw; have X1 := hC Y hSw 1 _ rfl; have X2 := hC Y hSw 2 _ rfl; have X3 := hC Y hSw 3 _ rfl; have X4 := hC Y hSw 4 _ rfl; go_simp);refine tw 12 29 (.pointer (some (ja Q 5))) ?_;refine tw 13 30 (ji h) ?_ (hy := by intro Y hSw; have X5 := hC Y hSw 5 _ rfl; go_simp);refine wpAnyH_all (rs := [14]) (by kernel_rfl) (by simp) ?_;intro i hi; obtain rfl : i = 14 := by simpa using hi
 refine wpOp_step rfl (fun K hK => ?_);rw [if_pos (by kernel_rfl)];go_simp
 go_at_call 157
 refine (Kd hp r c b p h u0).mono ?_;rintro e u1 ⟨rfl, kq⟩;have hb1 := AA hb0 kq;clear kq;rw [hz.out];have hS1 : AL g y5.heap.size y5 u1 := AL.of hb1;refine hK _ _ ⟨AL.of hb1, ?_⟩;clear hK K hi;refine tw 15 32 (.pointer (some ⟨g, k * 11, none⟩)) ?_ (hy := by intro Y hSw; go_simp; try omega);refine wpAnyH_all (rs := [16]) (by kernel_rfl) (by simp) ?_;intro i hi; obtain rfl : i = 16 := by simpa using hi
 refine wpOp_step rfl (fun K hK => ?_);rw [if_pos (by kernel_rfl)];have MU : AD AJ 11 70 y.heap.size u1 (.slice (some (ja g 0)) L.length capN) L := o5.below hb1 (fun g' e => by obtain rfl : g = g' := (by simpa [Value.ownBlock] using e); omega);obtain ⟨t0, t1, t2, t3, t4, t5, t6, t7, t8, t9, t10⟩ : BL u1 g (k * 11) (L.getD k Pt.nil) := BV (MU.cell AK Pt.nil hqL);have ff := MU.frozen;have f0 := ff (k * 11);have f1 := ff (k * 11 + 1);have f2 := ff (k * 11 + 2);have f3 := ff (k * 11 + 3);have f4 := ff (k * 11 + 4);have f5 := ff (k * 11 + 5);have f6 := ff (k * 11 + 6);have f7 := ff (k * 11 + 7);have f8 := ff (k * 11 + 8);have f9 := ff (k * 11 + 9);have f10 := ff (k * 11 + 10);have MS := MU.set AK (by omega) (i := k) hqL z;rw [CB] at MS;have SB := AL.putAll (o := k * 11) (AJ z) (AL.of (g := g) hb1);rw [CB] at SB;have BB := DC (B := y.heap.size) hg1 (AJ z) (k * 11) (AA K5 hb1);rw [CB] at BB;clear ff MU;obtain ⟨uf, huf⟩ := AB (((((((((((u1.setCell ⟨g, k * 11, none⟩ (.bool z.up)).setCell ⟨g, k * 11 + 1, none⟩ (.bool z.has)).setCell ⟨g, k * 11 + 2, none⟩ (ji z.r)).setCell ⟨g, k * 11 + 3, none⟩ (ji z.c)).setCell ⟨g, k * 11 + 4, none⟩ (ji z.b)).setCell ⟨g, k * 11 + 5, none⟩ (ji z.p)).setCell ⟨g, k * 11 + 6, none⟩ (ji z.h)).setCell ⟨g, k * 11 + 7, none⟩ (ji z.l)).setCell ⟨g, k * 11 + 8, none⟩ (ji z.ro)).setCell ⟨g, k * 11 + 9, none⟩ (ji z.wa)).setCell ⟨g, k * 11 + 10, none⟩ (.bool z.op));rw [← huf] at MS SB BB;go_simp
 rw [← huf];have NFF : AP uf N id (.slice (some (ja g 0)) L.length capN) := N5.keep (SB.block N (by omega) (by omega));clear huf t0 f0 t1 f1 t2 f2 t3 f3 t4 f4 t5 f5 t6 f6 t7 f7 t8 f8 t9 f9 t10 f10;refine hK _ _ ⟨SB, ?_⟩;clear hK K hi;refine AM ?_;rw [hz2.out] at MS;obtain ⟨Mv, hMv⟩ := AB (L.set k (BD (L.getD k Pt.nil) r c b p h));rw [← hMv] at MS;have hMl : Mv.length = L.length := by rw [hMv]; simp
 have hDM : Hid (D = Ar id Mv) := by unfold Hid; rw [hD.out, hMv]
 replace hMl : Hid _ := hMl;clear hMv;have RU := RY.below BB S0;have BU := AA B0 BB;have hdc := Gb id (some (ja g 0)) capN Mv uf (by have := MS; unfold AD at this; exact (show AD AJ 11 70 y.heap.size uf (.slice (some (ja g 0)) L.length capN) Mv from this).view.2) (by rw [hMl.out]; omega) (fun e => by cases e);rw [hMl.out] at hdc;obtain ⟨⟨n0, n1⟩, nf⟩ := NFF;go_wp2_with fail
 go_at_call 160
 clear n0 n1 nf;refine hdc.mono ?_;rintro e w9 ⟨aD, cD, rfl, oD, k9⟩;clear hdc;rw [← hDM.out] at oD ⊢;have R9 := RU.below k9 RU.lt;have B9 := AA BU k9;have S9 : w.heap.size + 1 < uf.heap.size := RU.lt;have RP := R9.put id (.slice aD D.length cD);obtain ⟨⟨r0, r1⟩, rf⟩ := R9;have BZ := (B9.setCell (p := ⟨w.heap.size + 1, 0, none⟩) (by show _ ≤ w.heap.size + 1; omega) (ji id)).setCell (p := ⟨w.heap.size + 1, 1, none⟩) (by show _ ≤ w.heap.size + 1; omega) (.slice aD D.length cD);have OZ : AD AJ 11 70 w.heap.size ((w9.setCell ⟨w.heap.size + 1, 0, none⟩ (ji id)).setCell ⟨w.heap.size + 1, 1, none⟩ (.slice aD D.length cD)) (.slice aD D.length cD) D := (oD.base (by omega)).keep fun g' e => by
  have := (oD.lt g' e).1;rw [AE (by show g' ≠ w.heap.size + 1; omega), AE (by show g' ≠ w.heap.size + 1; omega)]
 obtain ⟨⟨p0, p1⟩, _⟩ := RP;go_wp2
 refine bodyPost_ret (v := .agg #[ji id, .slice aD D.length cD]) (by simp [results, results136, go_sem, *]) rfl ⟨_, _, rfl, OZ, BZ⟩
end Go.Proofs.YthgcbihhdbpbdaaGreat
