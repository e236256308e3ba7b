import Derived.Test.YtnpiljegdiconabGreatQKWBr8
import Derived.Test.YtnpiljegdiconabGreatQKWIn3
import Derived.Test.YtnpiljegdiconabGreatQKWRe1t
namespace Go.Proofs.YtnpiljegdiconabGreat
open Go.ChangeShapes Go.WideShapes Go.ChangeAt Go.RowKit
open Go.ChangeMaps (open_string shut_string)
set_option linter.unusedVariables false
set_option maxRecDepth 100000
def afterL (id : Int) (L : List Pt) (x : Ik) : List Pt :=
 if x.k = 1 then decideR id (L.set x.q.toNat (claimR (L.getD x.q.toNat Pt.nil) x.r x.c x.b x.p x.h))
 else if x.k = 2 then decideR id (L.map tickP)
 else if (L.getD x.q.toNat Pt.nil).up = x.up then L else decideR id (L.set x.q.toNat (linkP x.up))
theorem afterL_len (id : Int) (L : List Pt) (x : Ik) : (afterL id L x).length = L.length := by
 unfold afterL
 split
 ·
  rw [decideR_len, List.length_set]
 ·
  split
  ·
   rw [decideR_len, List.length_map]
  ·
   split
   ·
    rfl
   ·
    rw [decideR_len, List.length_set]
set_option maxHeartbeats 8000000 in
theorem takenC (id : Int) (ad : Option Addr) (cap : Nat) (L : List Pt) (k : Nat) (r c b p h : Int) (w : World) (hv : FView ptEnc w ad L) (hl : L.length ≤ 4) (hn : ad = none → cap = 0) (hqL : k < L.length) :
  Calls Tryz.prog 94 #[.agg #[.int .i64 id, .slice ad L.length cap], .iface 148 (.agg #[.int .i64 (k : Int), .int .i64 r, .int .i64 c, .int .i64 b, .int .i64 p, .int .i64 h])] w fun e w' => ∃ ad' cap', e = .returned (.agg #[.int .i64 id, .slice ad' (decideR id (L.set k (claimR (L.getD k Pt.nil) r c b p h))).length cap']) ∧ FOwn ptEnc 11 113 w.heap.size w' (.slice ad' (decideR id (L.set k (claimR (L.getD k Pt.nil) r c b p h))).length cap') (decideR id (L.set k (claimR (L.getD k Pt.nil) r c b p h))) ∧ Below w.heap.size w w' := by
 have hB := hv.lt ptEnc_len (by omega)
 obtain ⟨y, hy⟩ := mk_ ((w.alloc (Obj.cells #[.int .i64 id, .slice ad L.length cap] 69)).alloc (Obj.cells #[.int .i64 0, .slice none 0 0] 69))
 have B0 : Below w.heap.size w y := by rw [hy]; exact ((Below.refl _ _).alloc (Nat.le_refl _) _).alloc (by simp) _
 have A0 : BrAt y w.heap.size id (.slice ad L.length cap) := by rw [hy]; constructor <;> simp [go_sem]
 have R0 : BBox y (w.heap.size + 1) 0 (.slice none 0 0) := by rw [hy]; refine ⟨?_, fun i => ?_⟩; constructor <;> simp [go_sem]; simp [go_sem]
 have S0 := R0.lt
 have hv1 := hv.below B0 hB
 have hB1 := hv1.lt ptEnc_len (by omega)
 obtain ⟨D, hD⟩ := mk_ (decideR id (L.set k (claimR (L.getD k Pt.nil) r c b p h)))
 rw [← hD]
 replace hD : Hid _ := hD
 go_enter Tryz.func94, Tryz.ntmps94
 go_wp2_with fail
 go_at_call 93
 rw [← hy]
 clear hy hv hB
 refine (copI id ad cap L y hv1 (by omega) hn).mono ?_
 rintro e w1 ⟨adN, capN, rfl, oN, k1⟩
 have B1 := B0.trans (k1.mono B0.size)
 have A1 := A0.below k1 (by omega)
 have R1 := R0.below k1 (by omega)
 have S1 : w.heap.size + 1 < w1.heap.size := R1.lt
 have hv2 := hv1.below k1 hB1
 have hB2 := hv2.lt ptEnc_len (by omega)
 have bt : ∀ a, ad = some a → 0 < L.length → a.block < y.heap.size := hB1
 clear A0 R0 hv1 hB1
 obtain ⟨y2, hy2⟩ := mk_ (w1.alloc (Obj.cells #[.int .i64 id, .slice adN L.length capN] 69))
 have kn : Below w1.heap.size w1 y2 := by rw [hy2]; exact below_new _
 have N2 : BBox y2 w1.heap.size id (.slice adN L.length capN) := by rw [hy2]; exact BBox.new w1 _ _ _
 have A2 := A1.below kn (by omega)
 have R2 := R1.below kn (by omega)
 have B2 := B1.trans (kn.mono B1.size)
 have K2 : Below y.heap.size y y2 := k1.trans (kn.mono k1.size)
 have hv3 := hv2.below kn hB2
 have o2 := oN.later kn
 have S2 := N2.lt
 have og : ∀ g, (Value.slice adN L.length capN).ownBlock = some g → y.heap.size ≤ g ∧ g < w1.heap.size := fun g e => oN.lt g e
 clear oN k1 hv2 hB2 B1
 go_upto_region 3 with fail
 rw [← hy2]
 clear hy2 A1 kn R1
 generalize w1.heap.size = N at S1 N2 S2 og ⊢
 obtain ⟨g, rfl, hg1, hg2⟩ := o2.row (by omega)
 have hg3 : g < N := (og g rfl).2
 clear og
 have AY : BrAt y w.heap.size id (.slice ad L.length cap) := A2.keep (K2.block _ (by omega)).symm
 have RY : BBox y (w.heap.size + 1) 0 (.slice none 0 0) := R2.keep (K2.block _ S0).symm
 have hvy : FView ptEnc y ad L := hv3.carry fun a e p => (K2.block _ (bt a e p)).symm
 have hta : ∀ w_ : World, (Instr.typeAssert (.iface 148 (.agg #[.int .i64 (k : Int), .int .i64 r, .int .i64 c, .int .i64 b, .int .i64 p, .int .i64 h])) 129 148 true).run Tryz.prog w_ = .ok (.tuple #[.agg #[.int .i64 (k : Int), .int .i64 r, .int .i64 c, .int .i64 b, .int .i64 p, .int .i64 h], .bool true]) w_ := fun _ => by kernel_rfl
 obtain ⟨y5, hy5⟩ := mk_ (y2.alloc (Obj.cells #[.int .i64 (k : Int), .int .i64 r, .int .i64 c, .int .i64 b, .int .i64 p, .int .i64 h] 148))
 have kn : Below y2.heap.size y2 y5 := by rw [hy5]; exact below_new _
 have C5 : ∀ j v, (#[.int .i64 (k : Int), .int .i64 r, .int .i64 c, .int .i64 b, .int .i64 p, .int .i64 h] : Array Value)[j]? = some v → y5.cell? ⟨y2.heap.size, j, none⟩ = some v := by
  intro i v h_
  rw [hy5]
  have hi : i < 6 := (Array.getElem?_eq_some_iff.1 h_).1
  rcases (by omega : i = 0 ∨ i = 1 ∨ i = 2 ∨ i = 3 ∨ i = 4 ∨ i = 5) with rfl | rfl | rfl | rfl | rfl | rfl <;> (cases h_; simp [go_sem])
 have S5 : y2.heap.size < y5.heap.size := by rw [hy5]; simp
 have A5 := A2.below kn A2.lt
 have N5 := N2.below kn S2
 have o5 := o2.later kn
 have K5 := K2.trans (kn.mono K2.size)
 go_upto_region 5 with fail
 rw [← hy5]
 clear hy5 kn hta A2 N2 o2 R2 hv3 B2
 generalize y2.heap.size = Q at C5 S2 S5 ⊢
 have hC : ∀ Y, Bar g y5.heap.size y5 Y → ∀ j v, (#[.int .i64 (k : Int), .int .i64 r, .int .i64 c, .int .i64 b, .int .i64 p, .int .i64 h] : Array Value)[j]? = some v → Y.cell? ⟨Q, j, none⟩ = some v := fun Y hY j v e => (World.cell?_of_block (a := ⟨Q, j, none⟩) (hY.block Q S5 (by omega))).trans (C5 j v e)
 obtain ⟨bk, off, rfl, _⟩ := hvy (by omega)
 have hv5 : ∀ Y, Bar g y5.heap.size y5 Y → PtAtO Y bk (off + k * 11) (L.getD k Pt.nil) := fun Y hY => ptAtO_of ((hvy.carry fun a e p => ((hY.block a.block (by have := bt a e p; have := K5.size; omega) (by have := bt a e p; omega)).trans (K5.block _ (bt a e p)))).at_ ptEnc_len Pt.nil hqL)
 obtain ⟨hp, hhp⟩ : ∃ v, L.getD k Pt.nil = v := ⟨_, rfl⟩
 rw [hhp] at hv5
 obtain ⟨z, hz⟩ : ∃ z, claimR hp r c b p h = z := ⟨_, rfl⟩
 have hz2 : Hid (z = (claimR (L.getD k Pt.nil) r c b p h)) := by unfold Hid; rw [hhp, hz]
 replace hz : Hid _ := hz
 replace hhp : Hid _ := hhp
 refine wp_region_held (S := fun Y => Bar g y5.heap.size y5 Y) (by kernel_rfl) ?_
 change wpAnyH _ _ _ _ _ _ _ _ (World.drew _)
 have hb0 : Below y5.heap.size y5 y5.drew := (Below.refl _ _).drew
 obtain ⟨u0, hy0⟩ := mk_ y5.drew
 rw [← hy0] at hb0 ⊢
 clear hy0
 have hS0 : Bar g y5.heap.size y5 u0 := Bar.of hb0
 refine tw 0 17 (.pointer (some ⟨N, 1, none⟩)) ?_
 refine tw 1 18 (.slice (some ⟨g, 0, none⟩) L.length capN) ?_ (hy := by intro Y hSw; obtain ⟨X0, X1⟩ := N5.at_.bar hSw (by omega) (by omega); go_simp)
 refine tw 2 19 (.pointer (some ⟨Q, 0, none⟩)) ?_
 refine tw 3 20 (.int .i64 (k : Int)) ?_ (hy := by intro Y hSw; have X0 := hC Y hSw 0 _ rfl; go_simp)
 refine tw 4 21 (.pointer (some ⟨w.heap.size, 1, none⟩)) ?_
 refine tw 5 22 (.slice (some ⟨bk, off, none⟩) L.length cap) ?_ (hy := by intro Y hSw; obtain ⟨X0, X1⟩ := A5.bar hSw (by omega) (by omega); go_simp)
 refine tw 6 23 (.pointer (some ⟨Q, 0, none⟩)) ?_
 refine tw 7 24 (.int .i64 (k : Int)) ?_ (hy := by intro Y hSw; have X0 := hC Y hSw 0 _ rfl; go_simp)
 refine tw 8 25 (.pointer (some ⟨bk, off + k * 11, none⟩)) ?_ (hy := by intro Y hSw; go_simp; try omega)
 refine tw 9 26 (.agg #[.bool hp.up, .bool hp.has, .int .i64 hp.r, .int .i64 hp.c, .int .i64 hp.b, .int .i64 hp.p, .int .i64 hp.h, .int .i64 hp.l, .int .i64 hp.ro, .int .i64 hp.wa, .bool hp.op]) ?_ (hy := by intro Y hSw; obtain ⟨X0, X1, X2, X3, X4, X5, X6, X7, X8, X9, X10⟩ := hv5 Y hSw; go_simp)
 refine tw 10 27 (.pointer (some ⟨Q, 1, none⟩)) ?_
 refine tw 11 28 (.agg #[.int .i64 r, .int .i64 c, .int .i64 b, .int .i64 p]) ?_ (hy := by intro Y hSw; have X1 := hC Y hSw 1 _ rfl; have X2 := hC Y hSw 2 _ rfl; have X3 := hC Y hSw 3 _ rfl; have X4 := hC Y hSw 4 _ rfl; go_simp)
 refine tw 12 29 (.pointer (some ⟨Q, 5, none⟩)) ?_
 refine tw 13 30 (.int .i64 h) ?_ (hy := by intro Y hSw; have X5 := hC Y hSw 5 _ rfl; go_simp)
 refine wpAnyH_all (rs := [14]) (by kernel_rfl) (by simp) ?_
 intro i hi; obtain rfl : i = 14 := by simpa using hi
 refine wpOp_step rfl (fun K hK => ?_)
 rw [if_pos (by kernel_rfl)]
 go_simp
 go_at_call 115
 refine (claimI hp r c b p h u0).mono ?_
 rintro e u1 ⟨rfl, kq⟩
 have hb1 : Below y5.heap.size y5 u1 := hb0.trans (kq.mono hb0.size)
 clear kq
 rw [hz.out]
 have hS1 : Bar g y5.heap.size y5 u1 := Bar.of hb1
 refine hK _ _ ⟨Bar.of hb1, ?_⟩
 clear hK K hi
 refine tw 15 32 (.pointer (some ⟨g, k * 11, none⟩)) ?_ (hy := by intro Y hSw; go_simp; try omega)
 refine wpAnyH_all (rs := [16]) (by kernel_rfl) (by simp) ?_
 intro i hi; obtain rfl : i = 16 := by simpa using hi
 refine wpOp_step rfl (fun K hK => ?_)
 rw [if_pos (by kernel_rfl)]
 have MU : FOwn ptEnc 11 113 y.heap.size u1 (.slice (some ⟨g, 0, none⟩) L.length capN) L := o5.below hb1 (fun g' e => by obtain rfl : g = g' := (by simpa [Value.ownBlock] using e); omega)
 obtain ⟨t0, t1, t2, t3, t4, t5, t6, t7, t8, t9, t10⟩ : PtAtO u1 g (k * 11) (L.getD k Pt.nil) := ptAtO_of (MU.cell ptEnc_len Pt.nil hqL)
 have ff := MU.frozen
 have f0 := ff (k * 11)
 have f1 := ff (k * 11 + 1)
 have f2 := ff (k * 11 + 2)
 have f3 := ff (k * 11 + 3)
 have f4 := ff (k * 11 + 4)
 have f5 := ff (k * 11 + 5)
 have f6 := ff (k * 11 + 6)
 have f7 := ff (k * 11 + 7)
 have f8 := ff (k * 11 + 8)
 have f9 := ff (k * 11 + 9)
 have f10 := ff (k * 11 + 10)
 have MS := MU.set ptEnc_len (by omega) (i := k) hqL z
 rw [ptPut] at MS
 have SB := Bar.putAll (o := k * 11) (ptEnc z) (Bar.of (g := g) hb1)
 rw [ptPut] at SB
 have BB := below_putAll (B := y.heap.size) hg1 (ptEnc z) (k * 11) (K5.trans (hb1.mono K5.size))
 rw [ptPut] at BB
 clear ff MU
 obtain ⟨uf, huf⟩ := mk_ (((((((((((u1.setCell ⟨g, k * 11, none⟩ (.bool z.up)).setCell ⟨g, k * 11 + 1, none⟩ (.bool z.has)).setCell ⟨g, k * 11 + 2, none⟩ (.int .i64 z.r)).setCell ⟨g, k * 11 + 3, none⟩ (.int .i64 z.c)).setCell ⟨g, k * 11 + 4, none⟩ (.int .i64 z.b)).setCell ⟨g, k * 11 + 5, none⟩ (.int .i64 z.p)).setCell ⟨g, k * 11 + 6, none⟩ (.int .i64 z.h)).setCell ⟨g, k * 11 + 7, none⟩ (.int .i64 z.l)).setCell ⟨g, k * 11 + 8, none⟩ (.int .i64 z.ro)).setCell ⟨g, k * 11 + 9, none⟩ (.int .i64 z.wa)).setCell ⟨g, k * 11 + 10, none⟩ (.bool z.op))
 rw [← huf] at MS SB BB
 go_simp
 rw [← huf]
 have NFF : BBox uf N id (.slice (some ⟨g, 0, none⟩) L.length capN) := N5.keep (SB.block N (by omega) (by omega))
 clear huf t0 f0 t1 f1 t2 f2 t3 f3 t4 f4 t5 f5 t6 f6 t7 f7 t8 f8 t9 f9 t10 f10
 refine hK _ _ ⟨SB, ?_⟩
 clear hK K hi
 refine wpAnyH_done (by kernel_rfl) ?_ _
 rw [hz2.out] at MS
 obtain ⟨Mv, hMv⟩ := mk_ (L.set k (claimR (L.getD k Pt.nil) r c b p h))
 rw [← hMv] at MS
 have hMl : Mv.length = L.length := by rw [hMv]; simp
 have hDM : Hid (D = decideR id Mv) := by unfold Hid; rw [hD.out, hMv]
 replace hMl : Hid _ := hMl
 clear hMv
 have RU := RY.below BB S0
 have BU := B0.trans (BB.mono B0.size)
 have hdc := decideI id (some ⟨g, 0, none⟩) capN Mv uf (by have := MS; unfold FOwn at this; exact (show FOwn ptEnc 11 113 y.heap.size uf (.slice (some ⟨g, 0, none⟩) L.length capN) Mv from this).view.2) (by rw [hMl.out]; omega) (fun e => by cases e)
 rw [hMl.out] at hdc
 obtain ⟨⟨n0, n1⟩, nf⟩ := NFF
 go_wp2_with fail
 go_at_call 118
 clear n0 n1 nf
 refine hdc.mono ?_
 rintro e w9 ⟨aD, cD, rfl, oD, k9⟩
 clear hdc
 rw [← hDM.out] at oD ⊢
 have R9 := RU.below k9 RU.lt
 have B9 := BU.trans (k9.mono BU.size)
 have S9 : w.heap.size + 1 < uf.heap.size := RU.lt
 have RP := R9.put id (.slice aD D.length cD)
 obtain ⟨⟨r0, r1⟩, rf⟩ := R9
 have BZ := (B9.setCell (p := ⟨w.heap.size + 1, 0, none⟩) (by show _ ≤ w.heap.size + 1; omega) (.int .i64 id)).setCell (p := ⟨w.heap.size + 1, 1, none⟩) (by show _ ≤ w.heap.size + 1; omega) (.slice aD D.length cD)
 have OZ : FOwn ptEnc 11 113 w.heap.size ((w9.setCell ⟨w.heap.size + 1, 0, none⟩ (.int .i64 id)).setCell ⟨w.heap.size + 1, 1, none⟩ (.slice aD D.length cD)) (.slice aD D.length cD) D := (oD.base (by omega)).keep fun g' e => by
  have := (oD.lt g' e).1
  rw [Below.heap_setCell _ _ _ _ (by show g' ≠ w.heap.size + 1; omega), Below.heap_setCell _ _ _ _ (by show g' ≠ w.heap.size + 1; omega)]
 obtain ⟨⟨p0, p1⟩, _⟩ := RP
 go_wp2
 refine bodyPost_ret (v := .agg #[.int .i64 id, .slice aD D.length cD]) (by simp [results, Tryz.results94, go_sem, *]) rfl ⟨_, _, rfl, OZ, BZ⟩
set_option maxHeartbeats 8000000 in
theorem takenT (id : Int) (ad : Option Addr) (cap : Nat) (L : List Pt)  (w : World) (hv : FView ptEnc w ad L) (hl : L.length ≤ 4) (hn : ad = none → cap = 0) (hb : bOk id L = true) :
  Calls Tryz.prog 94 #[.agg #[.int .i64 id, .slice ad L.length cap], .iface 150 (.agg #[])] w fun e w' => ∃ ad' cap', e = .returned (.agg #[.int .i64 id, .slice ad' (decideR id (L.map tickP)).length cap']) ∧ FOwn ptEnc 11 113 w.heap.size w' (.slice ad' (decideR id (L.map tickP)).length cap') (decideR id (L.map tickP)) ∧ Below w.heap.size w w' := by
 have hB := hv.lt ptEnc_len (by omega)
 obtain ⟨y, hy⟩ := mk_ ((w.alloc (Obj.cells #[.int .i64 id, .slice ad L.length cap] 69)).alloc (Obj.cells #[.int .i64 0, .slice none 0 0] 69))
 have B0 : Below w.heap.size w y := by rw [hy]; exact ((Below.refl _ _).alloc (Nat.le_refl _) _).alloc (by simp) _
 have A0 : BrAt y w.heap.size id (.slice ad L.length cap) := by rw [hy]; constructor <;> simp [go_sem]
 have R0 : BBox y (w.heap.size + 1) 0 (.slice none 0 0) := by rw [hy]; refine ⟨?_, fun i => ?_⟩; constructor <;> simp [go_sem]; simp [go_sem]
 have S0 := R0.lt
 have hv1 := hv.below B0 hB
 have hB1 := hv1.lt ptEnc_len (by omega)
 obtain ⟨D, hD⟩ := mk_ (decideR id (L.map tickP))
 rw [← hD]
 replace hD : Hid _ := hD
 go_enter Tryz.func94, Tryz.ntmps94
 go_wp2_with fail
 go_at_call 93
 rw [← hy]
 clear hy hv hB
 refine (copI id ad cap L y hv1 (by omega) hn).mono ?_
 rintro e w1 ⟨adN, capN, rfl, oN, k1⟩
 have B1 := B0.trans (k1.mono B0.size)
 have A1 := A0.below k1 (by omega)
 have R1 := R0.below k1 (by omega)
 have S1 : w.heap.size + 1 < w1.heap.size := R1.lt
 have hv2 := hv1.below k1 hB1
 have hB2 := hv2.lt ptEnc_len (by omega)
 have bt : ∀ a, ad = some a → 0 < L.length → a.block < y.heap.size := hB1
 clear A0 R0 hv1 hB1
 obtain ⟨y2, hy2⟩ := mk_ (w1.alloc (Obj.cells #[.int .i64 id, .slice adN L.length capN] 69))
 have kn : Below w1.heap.size w1 y2 := by rw [hy2]; exact below_new _
 have N2 : BBox y2 w1.heap.size id (.slice adN L.length capN) := by rw [hy2]; exact BBox.new w1 _ _ _
 have A2 := A1.below kn (by omega)
 have R2 := R1.below kn (by omega)
 have B2 := B1.trans (kn.mono B1.size)
 have K2 : Below y.heap.size y y2 := k1.trans (kn.mono k1.size)
 have hv3 := hv2.below kn hB2
 have o2 := oN.later kn
 have S2 := N2.lt
 have og : ∀ g, (Value.slice adN L.length capN).ownBlock = some g → y.heap.size ≤ g ∧ g < w1.heap.size := fun g e => oN.lt g e
 clear oN k1 hv2 hB2 B1
 go_upto_region 3 with fail
 rw [← hy2]
 clear hy2 A1 kn R1
 generalize w1.heap.size = N at S1 N2 S2 og ⊢
 have hlen := (bOk_all hb).2.1
 replace hb : Hid _ := hb
 obtain ⟨g, rfl, hg1, hg2⟩ := o2.row (by omega)
 have hg3 : g < N := (og g rfl).2
 clear og
 have AY : BrAt y w.heap.size id (.slice ad L.length cap) := A2.keep (K2.block _ (by omega)).symm
 have RY : BBox y (w.heap.size + 1) 0 (.slice none 0 0) := R2.keep (K2.block _ S0).symm
 have hvy : FView ptEnc y ad L := hv3.carry fun a e p => (K2.block _ (bt a e p)).symm
 have hta : ∀ w_ : World, (Instr.typeAssert (.iface 150 (.agg #[])) 129 148 true).run Tryz.prog w_ = .ok (.tuple #[.agg #[.int .i64 0, .int .i64 0, .int .i64 0, .int .i64 0, .int .i64 0, .int .i64 0], .bool false]) w_ := fun _ => by kernel_rfl
 have htb : ∀ w_ : World, (Instr.typeAssert (.iface 150 (.agg #[])) 129 150 true).run Tryz.prog w_ = .ok (.tuple #[.agg #[], .bool true]) w_ := fun _ => by kernel_rfl
 obtain ⟨f, hf⟩ : ∃ f : Nat → Pt, f = fun i => tickP (L.getD i Pt.nil) := ⟨_, rfl⟩
 have hfk : ∀ i, tickP (L.getD i Pt.nil) = f i := fun i => by rw [hf]
 have hfm : Hid ((List.range L.length).map f = L.map tickP) := by
  unfold Hid
  rw [hf]
  apply List.ext_getElem (by simp)
  intro i h1 h2
  simp [List.getD, (by simpa using h1 : i < L.length)]
 clear hf
 replace hfk : Hid _ := hfk
 obtain ⟨y4, hy4⟩ := mk_ (y2.alloc (Obj.cells #[] 150))
 have kn : Below y2.heap.size y2 y4 := by rw [hy4]; exact below_new _
 have N3 := N2.below kn S2
 have o3 := o2.later kn
 have K3 := K2.trans (kn.mono K2.size)
 have A4 := A2.below kn A2.lt
 have M0 : FOwn ptEnc 11 113 y.heap.size y4 (.slice (some ⟨g, 0, none⟩) L.length capN) (markd f L 0) := by rw [markd_zero]; exact o3
 go_upto_region 8 with fail
 rw [← hy4]
 clear hy4 kn hta htb A2 N2 o2 R2 hv3 B2 o3
 obtain ⟨a0, a1⟩ := A4
 go_wp2
 clear a0 a1
 go_loopw [39] (fun i wr => ∃ k : Nat, k ≤ L.length ∧ i = .int .i64 (k : Int) ∧ FOwn ptEnc 11 113 y.heap.size wr (.slice (some ⟨g, 0, none⟩) L.length capN) (markd f L k) ∧ BBox wr N id (.slice (some ⟨g, 0, none⟩) L.length capN) ∧ Below y.heap.size y wr) (fun i _ => L.length - (intOf i).toNat)
 case atStart => exact ⟨0, Nat.zero_le _, rfl, M0, N3, K3⟩
 case round =>
  obtain ⟨k, hk, rfl, M, N4, K4⟩ := hrel
  have A4 := AY.below K4 (by omega)
  have R4 := RY.below K4 S0
  have B4 := B0.trans (K4.mono B0.size)
  have S4 := N4.lt
  obtain ⟨a0, a1⟩ := A4
  by_cases hlt : k < L.length
  ·
   have hv5 := hvy.below K4 bt
   obtain ⟨bk, off, rfl, _⟩ := hv5 (by omega)
   obtain ⟨h, hh⟩ : ∃ h, L.getD k Pt.nil = h := ⟨_, rfl⟩
   obtain ⟨c0, c1, c2, c3, c4, c5, c6, c7, c8, c9, c10⟩ : PtAtO wr bk (off + k * 11) h := by rw [← hh]; exact ptAtO_of (hv5.at_ ptEnc_len Pt.nil hlt)
   have hok : Hid (pOk h = true) := by unfold Hid; rw [← hh]; exact (bOk_all hb.out).2.2 k
   obtain ⟨z, hz⟩ := mk_ (f k)
   have hz2 : Hid (tickP h = z) := by unfold Hid; rw [hz, ← hh]; exact hfk.out k
   replace hz : Hid _ := hz
   replace hh : Hid _ := hh
   obtain ⟨y5, hy5⟩ := mk_ (wr.alloc (Obj.cells #[.bool h.up, .bool h.has, .int .i64 h.r, .int .i64 h.c, .int .i64 h.b, .int .i64 h.p, .int .i64 h.h, .int .i64 h.l, .int .i64 h.ro, .int .i64 h.wa, .bool h.op] 113))
   have P5 : PtAt y5 wr.heap.size h := by rw [hy5]; exact ptAt_box wr _ _
   have kn : Below wr.heap.size wr y5 := by rw [hy5]; exact below_new _
   have A5 := BrAt.below ⟨a0, a1⟩ kn (by omega)
   have N5 := N4.below kn S4
   have M5 := M.later kn
   have hv6 := hv5.below kn (hv5.lt ptEnc_len (by omega))
   have hB6 := hv6.lt ptEnc_len (by omega)
   have K5 := K4.trans (kn.mono K4.size)
   have S5 := P5.lt
   have hgw : g < wr.heap.size := (M.lt g rfl).2
   go_upto_region 11 with fail
   rw [← hy5]
   clear hy5 a0 a1 c0 c1 c2 c3 c4 c5 c6 c7 c8 c9 c10 kn M N4 hv5
   generalize wr.heap.size = Q at P5 S4 S5 hgw ⊢
   refine wp_region_held (S := fun Y => Bar g y5.heap.size y5 Y) (by kernel_rfl) ?_
   change wpAnyH _ _ _ _ _ _ _ _ (World.drew _)
   have hb0 : Below y5.heap.size y5 y5.drew := (Below.refl _ _).drew
   obtain ⟨u0, hy0⟩ := mk_ y5.drew
   rw [← hy0] at hb0 ⊢
   clear hy0
   have hS0 : Bar g y5.heap.size y5 u0 := Bar.of hb0
   refine tw 0 44 (.pointer (some ⟨N, 1, none⟩)) ?_
   refine tw 1 45 (.slice (some ⟨g, 0, none⟩) L.length capN) ?_ (hy := by intro Y hSw; obtain ⟨X0, X1⟩ := N5.at_.bar hSw (by omega) (by omega); go_simp)
   refine tw 2 46 (.int .i64 (k : Int)) ?_
   refine tw 3 47 (.agg #[.bool h.up, .bool h.has, .int .i64 h.r, .int .i64 h.c, .int .i64 h.b, .int .i64 h.p, .int .i64 h.h, .int .i64 h.l, .int .i64 h.ro, .int .i64 h.wa, .bool h.op]) ?_ (hy := by intro Y hSw; obtain ⟨X0, X1, X2, X3, X4, X5, X6, X7, X8, X9, X10⟩ := P5.bar hSw (by omega) (by omega); go_simp)
   refine wpAnyH_all (rs := [4]) (by kernel_rfl) (by simp) ?_
   intro i hi; obtain rfl : i = 4 := by simpa using hi
   refine wpOp_step rfl (fun K hK => ?_)
   rw [if_pos (by kernel_rfl)]
   go_simp
   go_at_call 116
   refine (tickedI h u0 hok.out).mono ?_
   rintro e u1 ⟨rfl, kq⟩
   have hb1 : Below y5.heap.size y5 u1 := hb0.trans (kq.mono hb0.size)
   clear kq
   rw [hz2.out]
   have hS1 : Bar g y5.heap.size y5 u1 := Bar.of hb1
   refine hK _ _ ⟨Bar.of hb1, ?_⟩
   clear hK K hi
   refine tw 5 49 (.pointer (some ⟨g, k * 11, none⟩)) ?_ (hy := by intro Y hSw; go_simp; try omega)
   refine wpAnyH_all (rs := [6]) (by kernel_rfl) (by simp) ?_
   intro i hi; obtain rfl : i = 6 := by simpa using hi
   refine wpOp_step rfl (fun K hK => ?_)
   rw [if_pos (by kernel_rfl)]
   have MU : FOwn ptEnc 11 113 y.heap.size u1 (.slice (some ⟨g, 0, none⟩) L.length capN) (markd f L k) := M5.below hb1 (fun g' e => by obtain rfl : g = g' := (by simpa [Value.ownBlock] using e); omega)
   have hml : (markd f L k).length = L.length := markd_len hk
   rw [← hml] at MU
   obtain ⟨t0, t1, t2, t3, t4, t5, t6, t7, t8, t9, t10⟩ : PtAtO u1 g (k * 11) ((markd f L k).getD k Pt.nil) := ptAtO_of (MU.cell ptEnc_len Pt.nil (by rw [hml]; exact hlt))
   have ff := MU.frozen
   have f0 := ff (k * 11)
   have f1 := ff (k * 11 + 1)
   have f2 := ff (k * 11 + 2)
   have f3 := ff (k * 11 + 3)
   have f4 := ff (k * 11 + 4)
   have f5 := ff (k * 11 + 5)
   have f6 := ff (k * 11 + 6)
   have f7 := ff (k * 11 + 7)
   have f8 := ff (k * 11 + 8)
   have f9 := ff (k * 11 + 9)
   have f10 := ff (k * 11 + 10)
   have MS := MU.set ptEnc_len (by omega) (i := k) (by rw [hml]; exact hlt) z
   rw [hz.out, markd_set hlt, ptPut, hml, ← hz.out] at MS
   have SB := Bar.putAll (o := k * 11) (ptEnc z) (Bar.of (g := g) hb1)
   rw [ptPut] at SB
   have BB := below_putAll (B := y.heap.size) hg1 (ptEnc z) (k * 11) (K5.trans (hb1.mono K5.size))
   rw [ptPut] at BB
   clear hml ff MU
   obtain ⟨uf, huf⟩ := mk_ (((((((((((u1.setCell ⟨g, k * 11, none⟩ (.bool z.up)).setCell ⟨g, k * 11 + 1, none⟩ (.bool z.has)).setCell ⟨g, k * 11 + 2, none⟩ (.int .i64 z.r)).setCell ⟨g, k * 11 + 3, none⟩ (.int .i64 z.c)).setCell ⟨g, k * 11 + 4, none⟩ (.int .i64 z.b)).setCell ⟨g, k * 11 + 5, none⟩ (.int .i64 z.p)).setCell ⟨g, k * 11 + 6, none⟩ (.int .i64 z.h)).setCell ⟨g, k * 11 + 7, none⟩ (.int .i64 z.l)).setCell ⟨g, k * 11 + 8, none⟩ (.int .i64 z.ro)).setCell ⟨g, k * 11 + 9, none⟩ (.int .i64 z.wa)).setCell ⟨g, k * 11 + 10, none⟩ (.bool z.op))
   rw [← huf] at MS SB BB
   go_simp
   rw [← huf]
   have NF := N5.at_.bar SB (by omega) (by omega)
   have NFF : BBox uf N id (.slice (some ⟨g, 0, none⟩) L.length capN) := N5.keep (SB.block N (by omega) (by omega))
   clear huf t0 f0 t1 f1 t2 f2 t3 f3 t4 f4 t5 f5 t6 f6 t7 f7 t8 f8 t9 f9 t10 f10 NF
   refine hK _ _ ⟨SB, ?_⟩
   clear hK K hi
   refine wpAnyH_done (by kernel_rfl) ?_ _
   go_wp2
   go_roundw
   case rel => exact ⟨k + 1, by omega, by go_num, MS, NFF, BB⟩
   case measure => simp [intOf]; omega
  ·
   obtain rfl : k = L.length := by omega
   rw [markd_all, hfm.out] at M
   obtain ⟨Mv, hMv⟩ := mk_ (L.map tickP)
   rw [← hMv] at M
   have hMl : Mv.length = L.length := by rw [hMv]; simp
   have hDM : Hid (D = decideR id Mv) := by unfold Hid; rw [hD.out, hMv]
   replace hMl : Hid _ := hMl
   clear hMv
   have RU := RY.below K4 S0
   have BU := B0.trans (K4.mono B0.size)
   have hdc := decideI id (some ⟨g, 0, none⟩) capN Mv wr (by have := M; unfold FOwn at this; exact (show FOwn ptEnc 11 113 y.heap.size wr (.slice (some ⟨g, 0, none⟩) L.length capN) Mv from this).view.2) (by rw [hMl.out]; omega) (fun e => by cases e)
   rw [hMl.out] at hdc
   obtain ⟨⟨n0, n1⟩, nf⟩ := N4
   go_wp2_with fail
   go_at_call 118
   clear n0 n1 nf
   refine hdc.mono ?_
   rintro e w9 ⟨aD, cD, rfl, oD, k9⟩
   clear hdc
   rw [← hDM.out] at oD ⊢
   have R9 := RU.below k9 RU.lt
   have B9 := BU.trans (k9.mono BU.size)
   have S9 : w.heap.size + 1 < wr.heap.size := RU.lt
   have RP := R9.put id (.slice aD D.length cD)
   obtain ⟨⟨r0, r1⟩, rf⟩ := R9
   have BZ := (B9.setCell (p := ⟨w.heap.size + 1, 0, none⟩) (by show _ ≤ w.heap.size + 1; omega) (.int .i64 id)).setCell (p := ⟨w.heap.size + 1, 1, none⟩) (by show _ ≤ w.heap.size + 1; omega) (.slice aD D.length cD)
   have OZ : FOwn ptEnc 11 113 w.heap.size ((w9.setCell ⟨w.heap.size + 1, 0, none⟩ (.int .i64 id)).setCell ⟨w.heap.size + 1, 1, none⟩ (.slice aD D.length cD)) (.slice aD D.length cD) D := (oD.base (by omega)).keep fun g' e => by
    have := (oD.lt g' e).1
    rw [Below.heap_setCell _ _ _ _ (by show g' ≠ w.heap.size + 1; omega), Below.heap_setCell _ _ _ _ (by show g' ≠ w.heap.size + 1; omega)]
   obtain ⟨⟨p0, p1⟩, _⟩ := RP
   go_wp2
   refine bodyPost_ret (v := .agg #[.int .i64 id, .slice aD D.length cD]) (by simp [results, Tryz.results94, go_sem, *]) rfl ⟨_, _, rfl, OZ, BZ⟩
end Go.Proofs.YtnpiljegdiconabGreat
