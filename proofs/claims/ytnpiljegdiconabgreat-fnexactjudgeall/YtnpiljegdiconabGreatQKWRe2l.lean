import Derived.Test.YtnpiljegdiconabGreatQM7
namespace Go.Proofs.YtnpiljegdiconabGreat
open Go.ChangeShapes Go.WideShapes Go.ChangeAt Go.RowKit
open Go.ChangeMaps (open_string shut_string)
set_option linter.unusedVariables false
set_option maxRecDepth 100000
set_option maxHeartbeats 8000000 in
theorem takenL (id : Int) (ad : Option Addr) (cap : Nat) (L : List Pt) (k : Nat) (up : Bool) (w : World) (hv : FView ptEnc w ad L) (hl : L.length ≤ 4) (hn : ad = none → cap = 0) (hqL : k < L.length) :
  Calls Tryz.prog 94 #[.agg #[.int .i64 id, .slice ad L.length cap], .iface 152 (.agg #[.int .i64 (k : Int), .bool up])] w fun e w' => ∃ ad' cap', e = .returned (.agg #[.int .i64 id, .slice ad' ((if (L.getD k Pt.nil).up = up then L else decideR id (L.set k (linkP up)))).length cap']) ∧ FOwn ptEnc 11 113 w.heap.size w' (.slice ad' ((if (L.getD k Pt.nil).up = up then L else decideR id (L.set k (linkP up)))).length cap') ((if (L.getD k Pt.nil).up = up then L else decideR id (L.set k (linkP up)))) ∧ Below w.heap.size w w' := by
 have hB := hv.lt ptEnc_len (by omega)
 obtain ⟨y, hy⟩ := mk_ ((w.alloc (Obj.cells #[.int .i64 id, .slice ad L.length cap] 69)).alloc (Obj.cells #[.int .i64 0, .slice none 0 0] 69))
 have B0 : Below w.heap.size w y := by rw [hy]; exact ((Below.refl _ _).alloc (Nat.le_refl _) _).alloc (by simp) _
 have A0 : BrAt y w.heap.size id (.slice ad L.length cap) := by rw [hy]; constructor <;> simp [go_sem]
 have R0 : BBox y (w.heap.size + 1) 0 (.slice none 0 0) := by rw [hy]; refine ⟨?_, fun i => ?_⟩; constructor <;> simp [go_sem]; simp [go_sem]
 have S0 := R0.lt
 have hv1 := hv.below B0 hB
 have hB1 := hv1.lt ptEnc_len (by omega)
 obtain ⟨D, hD⟩ := mk_ (if (L.getD k Pt.nil).up = up then L else decideR id (L.set k (linkP up)))
 rw [← hD]
 replace hD : Hid _ := hD
 go_enter Tryz.func94, Tryz.ntmps94
 go_wp2_with fail
 go_at_call 93
 rw [← hy]
 clear hy hv hB
 refine (copI id ad cap L y hv1 (by omega) hn).mono ?_
 rintro e w1 ⟨adN, capN, rfl, oN, k1⟩
 have B1 := B0.trans (k1.mono B0.size)
 have A1 := A0.below k1 (by omega)
 have R1 := R0.below k1 (by omega)
 have S1 : w.heap.size + 1 < w1.heap.size := R1.lt
 have hv2 := hv1.below k1 hB1
 have hB2 := hv2.lt ptEnc_len (by omega)
 have bt : ∀ a, ad = some a → 0 < L.length → a.block < y.heap.size := hB1
 clear A0 R0 hv1 hB1
 obtain ⟨y2, hy2⟩ := mk_ (w1.alloc (Obj.cells #[.int .i64 id, .slice adN L.length capN] 69))
 have kn : Below w1.heap.size w1 y2 := by rw [hy2]; exact below_new _
 have N2 : BBox y2 w1.heap.size id (.slice adN L.length capN) := by rw [hy2]; exact BBox.new w1 _ _ _
 have A2 := A1.below kn (by omega)
 have R2 := R1.below kn (by omega)
 have B2 := B1.trans (kn.mono B1.size)
 have K2 : Below y.heap.size y y2 := k1.trans (kn.mono k1.size)
 have hv3 := hv2.below kn hB2
 have o2 := oN.later kn
 have S2 := N2.lt
 have og : ∀ g, (Value.slice adN L.length capN).ownBlock = some g → y.heap.size ≤ g ∧ g < w1.heap.size := fun g e => oN.lt g e
 clear oN k1 hv2 hB2 B1
 go_upto_region 3 with fail
 rw [← hy2]
 clear hy2 A1 kn R1
 generalize w1.heap.size = N at S1 N2 S2 og ⊢
 obtain ⟨g, rfl, hg1, hg2⟩ := o2.row (by omega)
 have hg3 : g < N := (og g rfl).2
 clear og
 have AY : BrAt y w.heap.size id (.slice ad L.length cap) := A2.keep (K2.block _ (by omega)).symm
 have RY : BBox y (w.heap.size + 1) 0 (.slice none 0 0) := R2.keep (K2.block _ S0).symm
 have hvy : FView ptEnc y ad L := hv3.carry fun a e p => (K2.block _ (bt a e p)).symm
 have hta : ∀ w_ : World, (Instr.typeAssert (.iface 152 (.agg #[.int .i64 (k : Int), .bool up])) 129 148 true).run Tryz.prog w_ = .ok (.tuple #[.agg #[.int .i64 0, .int .i64 0, .int .i64 0, .int .i64 0, .int .i64 0, .int .i64 0], .bool false]) w_ := fun _ => by kernel_rfl
 have htb : ∀ w_ : World, (Instr.typeAssert (.iface 152 (.agg #[.int .i64 (k : Int), .bool up])) 129 150 true).run Tryz.prog w_ = .ok (.tuple #[.agg #[], .bool false]) w_ := fun _ => by kernel_rfl
 have htc : ∀ w_ : World, (Instr.typeAssert (.iface 152 (.agg #[.int .i64 (k : Int), .bool up])) 129 152 true).run Tryz.prog w_ = .ok (.tuple #[.agg #[.int .i64 (k : Int), .bool up], .bool true]) w_ := fun _ => by kernel_rfl
 obtain ⟨y5, hy5⟩ := mk_ (y2.alloc (Obj.cells #[.int .i64 (k : Int), .bool up] 152))
 have kn : Below y2.heap.size y2 y5 := by rw [hy5]; exact below_new _
 have C50 : y5.cell? ⟨y2.heap.size, 0, none⟩ = some (.int .i64 (k : Int)) := by rw [hy5]; simp [go_sem]
 have C51 : y5.cell? ⟨y2.heap.size, 1, none⟩ = some (.bool up) := by rw [hy5]; simp [go_sem]
 have S5 : y2.heap.size < y5.heap.size := by rw [hy5]; simp
 have A5 := A2.below kn A2.lt
 have N5 := N2.below kn S2
 have R5 := R2.below kn R2.lt
 have o5 := o2.later kn
 have K5 := K2.trans (kn.mono K2.size)
 go_upto_region 15 with fail
 rw [← hy5]
 clear hy5 kn hta htb htc A2 N2 o2 R2 hv3 B2
 generalize y2.heap.size = Q at C50 C51 S2 S5 ⊢
 have hC0 : ∀ Y, Bar g y5.heap.size y5 Y → Y.cell? ⟨Q, 0, none⟩ = some (.int .i64 (k : Int)) := fun Y hY => (World.cell?_of_block (a := ⟨Q, 0, none⟩) (hY.block Q S5 (by omega))).trans C50
 have hC1 : ∀ Y, Bar g y5.heap.size y5 Y → Y.cell? ⟨Q, 1, none⟩ = some (.bool up) := fun Y hY => (World.cell?_of_block (a := ⟨Q, 1, none⟩) (hY.block Q S5 (by omega))).trans C51
 obtain ⟨bk, off, rfl, _⟩ := hvy (by omega)
 have hv5 : ∀ Y, Bar g y5.heap.size y5 Y → PtAtO Y bk (off + k * 11) (L.getD k Pt.nil) := fun Y hY => ptAtO_of ((hvy.carry fun a e p => ((hY.block a.block (by have := bt a e p; have := K5.size; omega) (by have := bt a e p; omega)).trans (K5.block _ (bt a e p)))).at_ ptEnc_len Pt.nil hqL)
 obtain ⟨hp, hhp⟩ : ∃ v, L.getD k Pt.nil = v := ⟨_, rfl⟩
 rw [hhp] at hv5
 have hD1 : Hid (D = if hp.up = up then L else decideR id (L.set k (linkP up))) := by unfold Hid; rw [hD.out, hhp]
 clear hD hhp
 by_cases hu : hp.up = up
 ·
  have hN : Hid (D = L) := by unfold Hid; rw [hD1.out, if_pos hu]
  replace hu : Hid _ := hu
  refine wp_region_held (S := fun Y => Bar g y5.heap.size y5 Y) (by kernel_rfl) ?_
  change wpAnyH _ _ _ _ _ _ _ _ (World.drew _)
  have hb0 : Below y5.heap.size y5 y5.drew := (Below.refl _ _).drew
  obtain ⟨u0, hy0⟩ := mk_ y5.drew
  rw [← hy0] at hb0 ⊢
  clear hy0
  have hS0 : Bar g y5.heap.size y5 u0 := Bar.of hb0
  refine tw 0 54 (.pointer (some ⟨w.heap.size, 1, none⟩)) ?_
  refine tw 1 55 (.slice (some ⟨bk, off, none⟩) L.length cap) ?_ (hy := by intro Y hSw; obtain ⟨X0, X1⟩ := A5.bar hSw (by omega) (by omega); go_simp)
  refine tw 2 56 (.pointer (some ⟨Q, 0, none⟩)) ?_
  refine tw 3 57 (.int .i64 (k : Int)) ?_ (hy := by intro Y hSw; have X0 := hC0 Y hSw; go_simp)
  refine tw 4 58 (.pointer (some ⟨bk, off + k * 11, none⟩)) ?_ (hy := by intro Y hSw; go_simp; try omega)
  refine tw 5 59 (.pointer (some ⟨bk, off + k * 11, none⟩)) ?_
  refine tw 6 60 (.bool hp.up) ?_ (hy := by intro Y hSw; obtain ⟨X0, X1, X2, X3, X4, X5, X6, X7, X8, X9, X10⟩ := hv5 Y hSw; go_simp)
  refine tw 7 61 (.pointer (some ⟨Q, 1, none⟩)) ?_
  refine tw 8 62 (.bool up) ?_ (hy := by intro Y hSw; have X0 := hC1 Y hSw; go_simp)
  refine tw 9 63 (.bool true) ?_ (hy := by intro Y hSw; go_simp; exact hu.out)
  refine wpAnyH_done (by kernel_rfl) ?_ _
  have N6 := N5.below hb0 N5.lt
  have R6 := R5.below hb0 R5.lt
  have o6 := o5.later hb0
  have B6 := B0.trans ((K5.trans (hb0.mono K5.size)).mono B0.size)
  have RP := R6.put id (.slice (some ⟨g, 0, none⟩) L.length capN)
  obtain ⟨⟨r0, r1⟩, rf⟩ := R6
  obtain ⟨⟨n0, n1⟩, nf⟩ := N6
  have BZ := (B6.setCell (p := ⟨w.heap.size + 1, 0, none⟩) (by show _ ≤ w.heap.size + 1; omega) (.int .i64 id)).setCell (p := ⟨w.heap.size + 1, 1, none⟩) (by show _ ≤ w.heap.size + 1; omega) (.slice (some ⟨g, 0, none⟩) L.length capN)
  have OZ : FOwn ptEnc 11 113 w.heap.size ((u0.setCell ⟨w.heap.size + 1, 0, none⟩ (.int .i64 id)).setCell ⟨w.heap.size + 1, 1, none⟩ (.slice (some ⟨g, 0, none⟩) L.length capN)) (.slice (some ⟨g, 0, none⟩) L.length capN) L := (o6.base (by omega)).keep fun g' e => by
   have := (o6.lt g' e).1
   rw [Below.heap_setCell _ _ _ _ (by show g' ≠ w.heap.size + 1; omega), Below.heap_setCell _ _ _ _ (by show g' ≠ w.heap.size + 1; omega)]
  obtain ⟨⟨p0, p1⟩, _⟩ := RP
  go_wp2
  refine bodyPost_ret (v := .agg #[.int .i64 id, .slice (some ⟨g, 0, none⟩) L.length capN]) (by simp [results, Tryz.results94, go_sem, *]) rfl ⟨_, _, by rw [hN.out], by rw [hN.out]; exact OZ, BZ⟩
 ·
  have hN : Hid (D = decideR id (L.set k (linkP up))) := by unfold Hid; rw [hD1.out, if_neg hu]
  obtain ⟨z, hz⟩ : ∃ z, linkP up = z := ⟨_, rfl⟩
  replace hz : Hid _ := hz
  replace hu : Hid _ := hu
  refine wp_region_held (S := fun Y => Bar g y5.heap.size y5 Y) (by kernel_rfl) ?_
  change wpAnyH _ _ _ _ _ _ _ _ (World.drew _)
  have hb0 : Below y5.heap.size y5 y5.drew := (Below.refl _ _).drew
  obtain ⟨u0, hy0⟩ := mk_ y5.drew
  rw [← hy0] at hb0 ⊢
  clear hy0
  have hS0 : Bar g y5.heap.size y5 u0 := Bar.of hb0
  refine tw 0 54 (.pointer (some ⟨w.heap.size, 1, none⟩)) ?_
  refine tw 1 55 (.slice (some ⟨bk, off, none⟩) L.length cap) ?_ (hy := by intro Y hSw; obtain ⟨X0, X1⟩ := A5.bar hSw (by omega) (by omega); go_simp)
  refine tw 2 56 (.pointer (some ⟨Q, 0, none⟩)) ?_
  refine tw 3 57 (.int .i64 (k : Int)) ?_ (hy := by intro Y hSw; have X0 := hC0 Y hSw; go_simp)
  refine tw 4 58 (.pointer (some ⟨bk, off + k * 11, none⟩)) ?_ (hy := by intro Y hSw; go_simp; try omega)
  refine tw 5 59 (.pointer (some ⟨bk, off + k * 11, none⟩)) ?_
  refine tw 6 60 (.bool hp.up) ?_ (hy := by intro Y hSw; obtain ⟨X0, X1, X2, X3, X4, X5, X6, X7, X8, X9, X10⟩ := hv5 Y hSw; go_simp)
  refine tw 7 61 (.pointer (some ⟨Q, 1, none⟩)) ?_
  refine tw 8 62 (.bool up) ?_ (hy := by intro Y hSw; have X0 := hC1 Y hSw; go_simp)
  refine tw 9 63 (.bool false) ?_ (hy := by intro Y hSw; go_simp; exact hu.out)
  refine wpAnyH_done (by kernel_rfl) ?_ _
  obtain ⟨y6, hy6⟩ := mk_ u0
  rw [← hy6] at hb0 ⊢
  clear hy6
  have hS0' : Bar g y5.heap.size y5 y6 := Bar.of hb0
  have hb5 := hb0
  go_upto_region 17 with fail
  have hC0 : ∀ Y, Bar g y6.heap.size y6 Y → Y.cell? ⟨Q, 0, none⟩ = some (.int .i64 (k : Int)) := fun Y hY => (World.cell?_of_block (a := ⟨Q, 0, none⟩) (hY.block Q (by have := hb5.size; omega) (by omega))).trans (hC0 y6 hS0')
  have hC1 : ∀ Y, Bar g y6.heap.size y6 Y → Y.cell? ⟨Q, 1, none⟩ = some (.bool up) := fun Y hY => (World.cell?_of_block (a := ⟨Q, 1, none⟩) (hY.block Q (by have := hb5.size; omega) (by omega))).trans (hC1 y6 hS0')
  have N5 := N5.below hb5 N5.lt
  have o5 := o5.later hb5
  have K5 := K5.trans (hb5.mono K5.size)
  have S6 := N5.lt
  clear hb0 hS0 hS0' hv5
  refine wp_region_held (S := fun Y => Bar g y6.heap.size y6 Y) (by kernel_rfl) ?_
  change wpAnyH _ _ _ _ _ _ _ _ (World.drew _)
  have hb0 : Below y6.heap.size y6 y6.drew := (Below.refl _ _).drew
  obtain ⟨u0, hy0⟩ := mk_ y6.drew
  rw [← hy0] at hb0 ⊢
  clear hy0
  have hS0 : Bar g y6.heap.size y6 u0 := Bar.of hb0
  refine tw 0 65 (.pointer (some ⟨N, 1, none⟩)) ?_
  refine tw 1 66 (.slice (some ⟨g, 0, none⟩) L.length capN) ?_ (hy := by intro Y hSw; obtain ⟨X0, X1⟩ := N5.at_.bar hSw (by omega) (by omega); go_simp)
  refine tw 2 67 (.pointer (some ⟨Q, 0, none⟩)) ?_
  refine tw 3 68 (.int .i64 (k : Int)) ?_ (hy := by intro Y hSw; have X0 := hC0 Y hSw; go_simp)
  refine tw 4 69 (.pointer (some ⟨Q, 1, none⟩)) ?_
  refine tw 5 70 (.bool up) ?_ (hy := by intro Y hSw; have X0 := hC1 Y hSw; go_simp)
  refine wpAnyH_all (rs := [6]) (by kernel_rfl) (by simp) ?_
  intro i hi; obtain rfl : i = 6 := by simpa using hi
  refine wpOp_step rfl (fun K hK => ?_)
  rw [if_pos (by kernel_rfl)]
  go_simp
  go_at_call 117
  refine (linkedI up u0).mono ?_
  rintro e u1 ⟨rfl, kq⟩
  have hb1 : Below y6.heap.size y6 u1 := hb0.trans (kq.mono hb0.size)
  clear kq
  rw [hz.out]
  have hS1 : Bar g y6.heap.size y6 u1 := Bar.of hb1
  refine hK _ _ ⟨Bar.of hb1, ?_⟩
  clear hK K hi
  refine tw 7 72 (.pointer (some ⟨g, k * 11, none⟩)) ?_ (hy := by intro Y hSw; go_simp; try omega)
  refine wpAnyH_all (rs := [8]) (by kernel_rfl) (by simp) ?_
  intro i hi; obtain rfl : i = 8 := by simpa using hi
  refine wpOp_step rfl (fun K hK => ?_)
  rw [if_pos (by kernel_rfl)]
  have MU : FOwn ptEnc 11 113 y.heap.size u1 (.slice (some ⟨g, 0, none⟩) L.length capN) L := o5.below hb1 (fun g' e => by obtain rfl : g = g' := (by simpa [Value.ownBlock] using e); omega)
  obtain ⟨t0, t1, t2, t3, t4, t5, t6, t7, t8, t9, t10⟩ : PtAtO u1 g (k * 11) (L.getD k Pt.nil) := ptAtO_of (MU.cell ptEnc_len Pt.nil hqL)
  have ff := MU.frozen
  have f0 := ff (k * 11)
  have f1 := ff (k * 11 + 1)
  have f2 := ff (k * 11 + 2)
  have f3 := ff (k * 11 + 3)
  have f4 := ff (k * 11 + 4)
  have f5 := ff (k * 11 + 5)
  have f6 := ff (k * 11 + 6)
  have f7 := ff (k * 11 + 7)
  have f8 := ff (k * 11 + 8)
  have f9 := ff (k * 11 + 9)
  have f10 := ff (k * 11 + 10)
  have MS := MU.set ptEnc_len (by omega) (i := k) hqL z
  rw [ptPut] at MS
  have SB := Bar.putAll (o := k * 11) (ptEnc z) (Bar.of (g := g) hb1)
  rw [ptPut] at SB
  have BB := below_putAll (B := y.heap.size) hg1 (ptEnc z) (k * 11) (K5.trans (hb1.mono K5.size))
  rw [ptPut] at BB
  clear ff MU
  obtain ⟨uf, huf⟩ := mk_ (((((((((((u1.setCell ⟨g, k * 11, none⟩ (.bool z.up)).setCell ⟨g, k * 11 + 1, none⟩ (.bool z.has)).setCell ⟨g, k * 11 + 2, none⟩ (.int .i64 z.r)).setCell ⟨g, k * 11 + 3, none⟩ (.int .i64 z.c)).setCell ⟨g, k * 11 + 4, none⟩ (.int .i64 z.b)).setCell ⟨g, k * 11 + 5, none⟩ (.int .i64 z.p)).setCell ⟨g, k * 11 + 6, none⟩ (.int .i64 z.h)).setCell ⟨g, k * 11 + 7, none⟩ (.int .i64 z.l)).setCell ⟨g, k * 11 + 8, none⟩ (.int .i64 z.ro)).setCell ⟨g, k * 11 + 9, none⟩ (.int .i64 z.wa)).setCell ⟨g, k * 11 + 10, none⟩ (.bool z.op))
  rw [← huf] at MS SB BB
  go_simp
  rw [← huf]
  have NFF : BBox uf N id (.slice (some ⟨g, 0, none⟩) L.length capN) := N5.keep (SB.block N (by omega) (by omega))
  clear huf t0 f0 t1 f1 t2 f2 t3 f3 t4 f4 t5 f5 t6 f6 t7 f7 t8 f8 t9 f9 t10 f10
  refine hK _ _ ⟨SB, ?_⟩
  clear hK K hi
  refine wpAnyH_done (by kernel_rfl) ?_ _
  rw [← hz.out] at MS
  obtain ⟨Mv, hMv⟩ := mk_ (L.set k (linkP up))
  rw [← hMv] at MS
  have hMl : Mv.length = L.length := by rw [hMv]; simp
  have hDM : Hid (D = decideR id Mv) := by unfold Hid; rw [hN.out, hMv]
  replace hMl : Hid _ := hMl
  clear hMv
  have RU := RY.below BB S0
  have BU := B0.trans (BB.mono B0.size)
  have hdc := decideI id (some ⟨g, 0, none⟩) capN Mv uf (by have := MS; unfold FOwn at this; exact (show FOwn ptEnc 11 113 y.heap.size uf (.slice (some ⟨g, 0, none⟩) L.length capN) Mv from this).view.2) (by rw [hMl.out]; omega) (fun e => by cases e)
  rw [hMl.out] at hdc
  obtain ⟨⟨n0, n1⟩, nf⟩ := NFF
  go_wp2_with fail
  go_at_call 118
  clear n0 n1 nf
  refine hdc.mono ?_
  rintro e w9 ⟨aD, cD, rfl, oD, k9⟩
  clear hdc
  rw [← hDM.out] at oD ⊢
  have R9 := RU.below k9 RU.lt
  have B9 := BU.trans (k9.mono BU.size)
  have S9 : w.heap.size + 1 < uf.heap.size := RU.lt
  have RP := R9.put id (.slice aD D.length cD)
  obtain ⟨⟨r0, r1⟩, rf⟩ := R9
  have BZ := (B9.setCell (p := ⟨w.heap.size + 1, 0, none⟩) (by show _ ≤ w.heap.size + 1; omega) (.int .i64 id)).setCell (p := ⟨w.heap.size + 1, 1, none⟩) (by show _ ≤ w.heap.size + 1; omega) (.slice aD D.length cD)
  have OZ : FOwn ptEnc 11 113 w.heap.size ((w9.setCell ⟨w.heap.size + 1, 0, none⟩ (.int .i64 id)).setCell ⟨w.heap.size + 1, 1, none⟩ (.slice aD D.length cD)) (.slice aD D.length cD) D := (oD.base (by omega)).keep fun g' e => by
   have := (oD.lt g' e).1
   rw [Below.heap_setCell _ _ _ _ (by show g' ≠ w.heap.size + 1; omega), Below.heap_setCell _ _ _ _ (by show g' ≠ w.heap.size + 1; omega)]
  obtain ⟨⟨p0, p1⟩, _⟩ := RP
  go_wp2
  refine bodyPost_ret (v := .agg #[.int .i64 id, .slice aD D.length cD]) (by simp [results, Tryz.results94, go_sem, *]) rfl ⟨_, _, rfl, OZ, BZ⟩
end Go.Proofs.YtnpiljegdiconabGreat
