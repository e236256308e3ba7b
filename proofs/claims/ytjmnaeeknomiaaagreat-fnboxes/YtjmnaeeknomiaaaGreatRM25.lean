import Derived.Test.YtjmnaeeknomiaaaGreatRM24
import Derived.Test.YtjmnaeeknomiaaaGreatRM22
import Derived.Test.YtjmnaeeknomiaaaGreatRM10
namespace Go.Proofs.YtjmnaeeknomiaaaGreat
open Go.ChangeShapes Go.WideShapes Go.ChangeAt Go.RowKit
open Go.ChangeMaps (open_string shut_string)
set_option linter.unusedVariables false
set_option maxRecDepth 100000
set_option maxHeartbeats 32000000
set_option linter.unusedSimpArgs false
open Go.Proofs.Tryz
attribute [local go_sem] ji ja
theorem Kq (id : Int) (cap : Nat) (L : List Pt) (k : Nat) (r c b p h : Int) (base g : Nat) (w : World) (hr : AB AL 11 70 base w (.slice (some (ja g 0)) L.length cap) L) (hl : L.length ≤ 4) (hqL : k < L.length) :
  Calls prog 84 #[.agg #[ji id, .slice (some (ja g 0)) L.length cap], .agg #[ji 1, ji (k : Int), ji r, ji c, ji b, ji p, ji h, .bool false]] w fun e w' => ∃ ad' cap', e = .returned (.agg #[ji id, .slice ad' (Bg id (L.set k (CD (L.getD k Pt.nil) r c b p h))).length cap']) ∧ AB AL 11 70 base w' (.slice ad' (Bg id (L.set k (CD (L.getD k Pt.nil) r c b p h))).length cap') (Bg id (L.set k (CD (L.getD k Pt.nil) r c b p h))) ∧ (∀ g_, (Value.slice ad' (Bg id (L.set k (CD (L.getD k Pt.nil) r c b p h))).length cap').ownBlock = some g_ → g_ = g ∨ w.heap.size ≤ g_) ∧ AW g w.heap.size w w' ∧ Below base w w' := by
 have hgb := hr.lt g rfl;obtain ⟨y, hy⟩ := AC (((w.alloc (Obj.cells #[ji id, .slice (some (ja g 0)) L.length cap] 42)).alloc (Obj.cells #[ji 1, ji (k : Int), ji r, ji c, ji b, ji p, ji h, .bool false] 64)).alloc (Obj.cells #[ji 0, .slice none 0 0] 42));have B0 : Bw w y := by rw [hy]; exact (((Below.refl _ _).alloc (Nat.le_refl _) _).alloc (by simp) _).alloc (by simp; omega) _
 have A0 : As y w.heap.size id (.slice (some (ja g 0)) L.length cap) := by rw [hy]; constructor <;> simp [go_sem]
 have X0 : BD y (w.heap.size + 1) ⟨1, (k : Int), r, c, b, p, h, false⟩ := by rw [hy]; constructor <;> simp [go_sem]
 have R0 : AU y (w.heap.size + 1 + 1) 0 (.slice none 0 0) := by rw [hy]; refine ⟨?_, fun i => ?_⟩; constructor <;> simp [go_sem]; simp [go_sem]
 have S0 := R0.lt;have o0 := hr.later B0;have C0 : Below base w y := B0.mono (by omega);obtain ⟨D, hD⟩ := AC (Bg id (L.set k (CD (L.getD k Pt.nil) r c b p h)));rw [← hD];replace hD : Hid _ := hD;obtain ⟨hg1, hg2⟩ := hgb;clear hr;go_enter func84, ntmps84
 go_upto_region 3 with fail
 rw [← hy];clear hy;obtain ⟨hp, hhp⟩ : ∃ v, L.getD k Pt.nil = v := ⟨_, rfl⟩;obtain ⟨z, hz⟩ : ∃ z, CD hp r c b p h = z := ⟨_, rfl⟩;have hz2 : Hid (z = (CD (L.getD k Pt.nil) r c b p h)) := by unfold Hid; rw [hhp, hz]
 replace hz : Hid _ := hz;replace hhp : Hid _ := hhp;refine AV (fun Y => AW g y.heap.size y Y) fun u0 hb0 => ?_
 have hS0 : AW g y.heap.size y u0 := AW.of hb0;refine tw 0 10 (.pointer (some (ja w.heap.size 1))) ?_;refine tw 1 11 (.slice (some (ja g 0)) L.length cap) ?_ (hy := by intro Y hSw; obtain ⟨X0_, X1_⟩ := A0.bar hSw A0.lt (by omega); go_simp);refine tw 2 12 (.pointer (some ⟨w.heap.size + 1, 1, none⟩)) ?_;refine tw 3 13 (ji (k : Int)) ?_ (hy := by intro Y hSw; obtain ⟨Z0, Z1, Z2, Z3, Z4, Z5, Z6, Z7⟩ := X0.keep (hSw.block _ X0.lt (by omega)); go_simp);refine tw 4 14 (.pointer (some (ja w.heap.size 1))) ?_;refine tw 5 15 (.slice (some (ja g 0)) L.length cap) ?_ (hy := by intro Y hSw; obtain ⟨X0_, X1_⟩ := A0.bar hSw A0.lt (by omega); go_simp);refine tw 6 16 (.pointer (some ⟨w.heap.size + 1, 1, none⟩)) ?_;refine tw 7 17 (ji (k : Int)) ?_ (hy := by intro Y hSw; obtain ⟨Z0, Z1, Z2, Z3, Z4, Z5, Z6, Z7⟩ := X0.keep (hSw.block _ X0.lt (by omega)); go_simp);refine tw 8 18 (.pointer (some ⟨g, k * 11, none⟩)) ?_ (hy := by intro Y hSw; go_simp; try omega);refine tw 10 20 (.pointer (some ⟨w.heap.size + 1, 2, none⟩)) ?_;refine tw 11 21 (.agg #[ji r, ji c, ji b, ji p]) ?_ (hy := by intro Y hSw; obtain ⟨Z0, Z1, Z2, Z3, Z4, Z5, Z6, Z7⟩ := X0.keep (hSw.block _ X0.lt (by omega)); go_simp);refine tw 12 22 (.pointer (some ⟨w.heap.size + 1, 6, none⟩)) ?_;refine tw 13 23 (ji h) ?_ (hy := by intro Y hSw; obtain ⟨Z0, Z1, Z2, Z3, Z4, Z5, Z6, Z7⟩ := X0.keep (hSw.block _ X0.lt (by omega)); go_simp);refine wpAnyH_all (rs := [9]) (by kernel_rfl) (by simp) ?_;intro i hi; obtain rfl : i = 9 := by simpa using hi
 refine wpOp_step rfl (fun K hK => ?_);rw [if_pos (by kernel_rfl)];obtain ⟨t0, t1, t2, t3, t4, t5, t6, t7, t8, t9, t10⟩ : Bt u0 g (k * 11) hp := by rw [← hhp.out]; exact CJ ((o0.later hb0).cell AZ Pt.nil hqL)
 go_simp
 clear t0 t1 t2 t3 t4 t5 t6 t7 t8 t9 t10;refine hK _ _ ⟨hS0, ?_⟩;clear hK K hi;refine wpAnyH_all (rs := [14]) (by kernel_rfl) (by simp) ?_;intro i hi; obtain rfl : i = 14 := by simpa using hi
 refine wpOp_step rfl (fun K hK => ?_);rw [if_pos (by kernel_rfl)];go_simp
 go_at_call 124
 refine (Jv hp r c b p h u0).mono ?_;rintro e u1 ⟨rfl, kq⟩;have hb1 := AE hb0 kq;clear kq;rw [hz.out];have hS1 : AW g y.heap.size y u1 := AW.of hb1;refine hK _ _ ⟨AW.of hb1, ?_⟩;clear hK K hi;refine tw 15 25 (.pointer (some ⟨g, k * 11, none⟩)) ?_ (hy := by intro Y hSw; go_simp; try omega);refine wpAnyH_all (rs := [16]) (by kernel_rfl) (by simp) ?_;intro i hi; obtain rfl : i = 16 := by simpa using hi
 refine wpOp_step rfl (fun K hK => ?_);rw [if_pos (by kernel_rfl)];have MU : AB AL 11 70 base u1 (.slice (some (ja g 0)) L.length cap) L := o0.later hb1;obtain ⟨t0, t1, t2, t3, t4, t5, t6, t7, t8, t9, t10⟩ : Bt u1 g (k * 11) (L.getD k Pt.nil) := CJ (MU.cell AZ Pt.nil hqL);have ff := MU.frozen;have f0 := ff (k * 11);have f1 := ff (k * 11 + 1);have f2 := ff (k * 11 + 2);have f3 := ff (k * 11 + 3);have f4 := ff (k * 11 + 4);have f5 := ff (k * 11 + 5);have f6 := ff (k * 11 + 6);have f7 := ff (k * 11 + 7);have f8 := ff (k * 11 + 8);have f9 := ff (k * 11 + 9);have f10 := ff (k * 11 + 10);have MS := MU.set AZ (by omega) (i := k) hqL z;rw [Cc] at MS;have SB := AW.putAll (o := k * 11) (AL z) (AW.of (g := g) hb1);rw [Cc] at SB;have BB := DF (B := base) hg1 (AL z) (k * 11) (C0.trans (hb1.mono (by omega)));rw [Cc] at BB;clear ff MU;obtain ⟨uf, huf⟩ := AC (((((((((((u1.setCell ⟨g, k * 11, none⟩ (.bool z.up)).setCell ⟨g, k * 11 + 1, none⟩ (.bool z.has)).setCell ⟨g, k * 11 + 2, none⟩ (ji z.r)).setCell ⟨g, k * 11 + 3, none⟩ (ji z.c)).setCell ⟨g, k * 11 + 4, none⟩ (ji z.b)).setCell ⟨g, k * 11 + 5, none⟩ (ji z.p)).setCell ⟨g, k * 11 + 6, none⟩ (ji z.h)).setCell ⟨g, k * 11 + 7, none⟩ (ji z.l)).setCell ⟨g, k * 11 + 8, none⟩ (ji z.ro)).setCell ⟨g, k * 11 + 9, none⟩ (ji z.wa)).setCell ⟨g, k * 11 + 10, none⟩ (.bool z.op));rw [← huf] at MS SB BB;go_simp
 rw [← huf];clear huf t0 f0 t1 f1 t2 f2 t3 f3 t4 f4 t5 f5 t6 f6 t7 f7 t8 f8 t9 f9 t10 f10;refine hK _ _ ⟨SB, ?_⟩;clear hK K hi;refine AR ?_;rw [hz2.out] at MS;have A9 := A0.bar SB A0.lt (by omega);have R9 := R0.keep (SB.block _ R0.lt (by omega));obtain ⟨Mv, hMv⟩ := AC (L.set k (CD (L.getD k Pt.nil) r c b p h));rw [← hMv] at MS;have hMl : Mv.length = L.length := by rw [hMv]; simp
 have hDM : Hid (D = Bg id Mv) := by unfold Hid; rw [hD.out, hMv]
 replace hMl : Hid _ := hMl;clear hMv;have hdc := Fc id (some (ja g 0)) cap Mv uf (by have := MS; unfold AB at this; exact (show AB AL 11 70 base uf (.slice (some (ja g 0)) L.length cap) Mv from this).view.2) (by rw [hMl.out]; omega) (fun e => by cases e);rw [hMl.out] at hdc;obtain ⟨a0, a1⟩ := A9;go_wp2_with fail
 go_at_call 126
 clear a0 a1;refine hdc.mono ?_;rintro e w9 ⟨aD, cD, rfl, oD, k9⟩;clear hdc;rw [← hDM.out] at oD ⊢;have z9 := BB.size;have S9 : w.heap.size + 1 + 1 < uf.heap.size := R9.lt;have RX := R9.below k9 R9.lt;have BX := BB.trans (k9.mono (by omega));have RP := RX.put id (.slice aD D.length cD);obtain ⟨⟨r0, r1⟩, rf⟩ := RX;have BZ := (BX.setCell (p := ⟨w.heap.size + 1 + 1, 0, none⟩) (by show base ≤ w.heap.size + 1 + 1; omega) (ji id)).setCell (p := ⟨w.heap.size + 1 + 1, 1, none⟩) (by show base ≤ w.heap.size + 1 + 1; omega) (.slice aD D.length cD);have OZ : AB AL 11 70 base ((w9.setCell ⟨w.heap.size + 1 + 1, 0, none⟩ (ji id)).setCell ⟨w.heap.size + 1 + 1, 1, none⟩ (.slice aD D.length cD)) (.slice aD D.length cD) D := (oD.base (by omega)).keep fun g' e => by
  have := (oD.lt g' e).1;rw [AF (by show g' ≠ w.heap.size + 1 + 1; omega), AF (by show g' ≠ w.heap.size + 1 + 1; omega)]
 have b0z := B0.size;have sbz := SB.size;have WZ : AW g w.heap.size w ((w9.setCell ⟨w.heap.size + 1 + 1, 0, none⟩ (ji id)).setCell ⟨w.heap.size + 1 + 1, 1, none⟩ (.slice aD D.length cD)) := ⟨BZ.size, fun q hq hne => by
  rw [AF (by show q ≠ w.heap.size + 1 + 1; omega), AF (by show q ≠ w.heap.size + 1 + 1; omega)];exact (k9.block q (by omega)).trans ((SB.block q (by omega) hne).trans (B0.block q hq))⟩
 have JZ : ∀ g_, (Value.slice aD D.length cD).ownBlock = some g_ → g_ = g ∨ w.heap.size ≤ g_ := fun g_ e => .inr (by have := (oD.lt g_ e).1; omega)
 obtain ⟨⟨p0, p1⟩, _⟩ := RP;go_wp2
 refine bodyPost_ret (v := .agg #[ji id, .slice aD D.length cD]) (by simp [results, results84, go_sem, *]) rfl ⟨_, _, rfl, OZ, JZ, WZ, BZ⟩
end Go.Proofs.YtjmnaeeknomiaaaGreat
namespace Go.Proofs.YtjmnaeeknomiaaaGreat
open Go.ChangeShapes Go.WideShapes Go.ChangeAt Go.RowKit
open Go.ChangeMaps (open_string shut_string)
set_option linter.unusedVariables false
set_option maxRecDepth 100000
set_option maxHeartbeats 32000000
set_option linter.unusedSimpArgs false
open Go.Proofs.Tryz
theorem IC {X : Type} {mk : Nat → X} {L : List X} {k : Nat} (d : X) (h : k < L.length) : (Bi mk L k).getD k d = L.getD k d := by
 unfold Bi;rw [List.getD_eq_getElem?_getD, List.getElem?_append_right (by simp), List.getD_eq_getElem?_getD];simp
theorem Ko (id : Int) (cap : Nat) (L : List Pt)  (base g : Nat) (w : World) (hr : AB AL 11 70 base w (.slice (some (ja g 0)) L.length cap) L) (hl : L.length ≤ 4) (hb : Bl id L = true) :
  Calls prog 84 #[.agg #[ji id, .slice (some (ja g 0)) L.length cap], .agg #[ji 2, ji 0, ji 0, ji 0, ji 0, ji 0, ji 0, .bool false]] w fun e w' => ∃ ad' cap', e = .returned (.agg #[ji id, .slice ad' (Bg id (L.map CK)).length cap']) ∧ AB AL 11 70 base w' (.slice ad' (Bg id (L.map CK)).length cap') (Bg id (L.map CK)) ∧ (∀ g_, (Value.slice ad' (Bg id (L.map CK)).length cap').ownBlock = some g_ → g_ = g ∨ w.heap.size ≤ g_) ∧ AW g w.heap.size w w' ∧ Below base w w' := by
 have hgb := hr.lt g rfl;obtain ⟨y, hy⟩ := AC (((w.alloc (Obj.cells #[ji id, .slice (some (ja g 0)) L.length cap] 42)).alloc (Obj.cells #[ji 2, ji 0, ji 0, ji 0, ji 0, ji 0, ji 0, .bool false] 64)).alloc (Obj.cells #[ji 0, .slice none 0 0] 42));have B0 : Bw w y := by rw [hy]; exact (((Below.refl _ _).alloc (Nat.le_refl _) _).alloc (by simp) _).alloc (by simp; omega) _
 have A0 : As y w.heap.size id (.slice (some (ja g 0)) L.length cap) := by rw [hy]; constructor <;> simp [go_sem]
 have X0 : BD y (w.heap.size + 1) ⟨2, 0, 0, 0, 0, 0, 0, false⟩ := by rw [hy]; constructor <;> simp [go_sem]
 have R0 : AU y (w.heap.size + 1 + 1) 0 (.slice none 0 0) := by rw [hy]; refine ⟨?_, fun i => ?_⟩; constructor <;> simp [go_sem]; simp [go_sem]
 have S0 := R0.lt;have o0 := hr.later B0;have C0 : Below base w y := B0.mono (by omega);obtain ⟨D, hD⟩ := AC (Bg id (L.map CK));rw [← hD];replace hD : Hid _ := hD;obtain ⟨hg1, hg2⟩ := hgb;clear hr;go_enter func84, ntmps84
 have hlen := (DX hb).2.1;replace hb : Hid _ := hb;obtain ⟨f, hf⟩ : ∃ f : Nat → Pt, f = fun i => CK (L.getD i Pt.nil) := ⟨_, rfl⟩
 have hfk : ∀ i, CK (L.getD i Pt.nil) = f i := fun i => by rw [hf]
 have hfm : Hid ((List.range L.length).map f = L.map CK) := by
  unfold Hid;rw [hf];apply List.ext_getElem (by simp)
  intro i h1 h2;simp [List.getD, (by simpa using h1 : i < L.length)]
 clear hf;replace hfk : Hid _ := hfk;have M0 : AB AL 11 70 base y (.slice (some (ja g 0)) L.length cap) (Bi f L 0) := by rw [Gy]; exact o0
 clear o0;go_upto_region 5 with fail
 rw [← hy];clear hy;go_wp2
 go_loopw [5] (fun i wr => ∃ k : Nat, k ≤ L.length ∧ i = .int .i64 (k : Int) ∧ AB AL 11 70 base wr (.slice (some ⟨g, 0, none⟩) L.length cap) (Bi f L k) ∧ AW g y.heap.size y wr ∧ Below base w wr) (fun i _ => L.length - (intOf i).toNat)
 case atStart => exact ⟨0, Nat.zero_le _, rfl, M0, AW.of (Below.refl _ _), C0⟩
 case round =>
  obtain ⟨k, hk, rfl, M, hBar, C4⟩ := hrel;have A4 := A0.bar hBar A0.lt (by omega);have R4 := R0.keep (hBar.block _ R0.lt (by omega));have z4 := hBar.size;have A4' := A4;obtain ⟨a0, a1⟩ := A4';by_cases hlt : k < L.length
  ·
   have hml : (Bi f L k).length = L.length := FT hk;have M' := M;rw [← hml] at M';obtain ⟨hp, hhp⟩ : ∃ v, L.getD k Pt.nil = v := ⟨_, rfl⟩;have hok : Hid (Ax hp = true) := by unfold Hid; rw [← hhp]; exact (DX hb.out).2.2 k
   obtain ⟨z, hz⟩ := AC (f k);have hz2 : Hid (CK hp = z) := by unfold Hid; rw [hz, ← hhp]; exact hfk.out k
   replace hz : Hid _ := hz;have hck : Bt wr g (k * 11) hp := by rw [← hhp, ← IC (mk := f) Pt.nil hlt]; exact CJ (M'.cell AZ Pt.nil (by rw [hml]; exact hlt))
   replace hhp : Hid _ := hhp;replace hml : Hid _ := hml;clear M';go_upto_region 8 with fail
   clear a0 a1;refine AV (fun Y => AW g wr.heap.size wr Y) fun u0 hb0 => ?_
   have hS0 : AW g wr.heap.size wr u0 := AW.of hb0;refine tw 0 35 (.pointer (some (ja w.heap.size 1))) ?_;refine tw 1 36 (.slice (some (ja g 0)) L.length cap) ?_ (hy := by intro Y hSw; obtain ⟨X0_, X1_⟩ := A4.bar hSw A4.lt (by omega); go_simp);refine tw 2 37 (ji (k : Int)) ?_;refine tw 3 38 (.pointer (some (ja w.heap.size 1))) ?_;refine tw 4 39 (.slice (some (ja g 0)) L.length cap) ?_ (hy := by intro Y hSw; obtain ⟨X0_, X1_⟩ := A4.bar hSw A4.lt (by omega); go_simp);refine tw 5 40 (ji (k : Int)) ?_;refine tw 6 41 (.pointer (some ⟨g, k * 11, none⟩)) ?_ (hy := by intro Y hSw; go_simp; try omega);refine wpAnyH_all (rs := [7]) (by kernel_rfl) (by simp) ?_;intro i hi; obtain rfl : i = 7 := by simpa using hi
   refine wpOp_step rfl (fun K hK => ?_);rw [if_pos (by kernel_rfl)];obtain ⟨t0, t1, t2, t3, t4, t5, t6, t7, t8, t9, t10⟩ : Bt u0 g (k * 11) hp := ⟨(World.cell?_of_block (a := ⟨g, k * 11, none⟩) (hb0.block g (by omega))).trans hck.c0, (World.cell?_of_block (a := ⟨g, k * 11 + 1, none⟩) (hb0.block g (by omega))).trans hck.c1, (World.cell?_of_block (a := ⟨g, k * 11 + 2, none⟩) (hb0.block g (by omega))).trans hck.c2, (World.cell?_of_block (a := ⟨g, k * 11 + 3, none⟩) (hb0.block g (by omega))).trans hck.c3, (World.cell?_of_block (a := ⟨g, k * 11 + 4, none⟩) (hb0.block g (by omega))).trans hck.c4, (World.cell?_of_block (a := ⟨g, k * 11 + 5, none⟩) (hb0.block g (by omega))).trans hck.c5, (World.cell?_of_block (a := ⟨g, k * 11 + 6, none⟩) (hb0.block g (by omega))).trans hck.c6, (World.cell?_of_block (a := ⟨g, k * 11 + 7, none⟩) (hb0.block g (by omega))).trans hck.c7, (World.cell?_of_block (a := ⟨g, k * 11 + 8, none⟩) (hb0.block g (by omega))).trans hck.c8, (World.cell?_of_block (a := ⟨g, k * 11 + 9, none⟩) (hb0.block g (by omega))).trans hck.c9, (World.cell?_of_block (a := ⟨g, k * 11 + 10, none⟩) (hb0.block g (by omega))).trans hck.c10⟩;go_simp
   clear t0 t1 t2 t3 t4 t5 t6 t7 t8 t9 t10;refine hK _ _ ⟨hS0, ?_⟩;clear hK K hi;refine wpAnyH_all (rs := [8]) (by kernel_rfl) (by simp) ?_;intro i hi; obtain rfl : i = 8 := by simpa using hi
   refine wpOp_step rfl (fun K hK => ?_);rw [if_pos (by kernel_rfl)];go_simp
   go_at_call 125
   refine (Iy hp u0 hok.out).mono ?_;rintro e u1 ⟨rfl, kq⟩;have hb1 := AE hb0 kq;clear kq;rw [hz2.out];have hS1 : AW g wr.heap.size wr u1 := AW.of hb1;refine hK _ _ ⟨AW.of hb1, ?_⟩;clear hK K hi;refine tw 9 44 (.pointer (some ⟨g, k * 11, none⟩)) ?_ (hy := by intro Y hSw; go_simp; try omega);refine wpAnyH_all (rs := [10]) (by kernel_rfl) (by simp) ?_;intro i hi; obtain rfl : i = 10 := by simpa using hi
   refine wpOp_step rfl (fun K hK => ?_);rw [if_pos (by kernel_rfl)];have MU : AB AL 11 70 base u1 (.slice (some (ja g 0)) L.length cap) (Bi f L k) := M.later hb1;rw [← hml.out] at MU;obtain ⟨t0, t1, t2, t3, t4, t5, t6, t7, t8, t9, t10⟩ : Bt u1 g (k * 11) ((Bi f L k).getD k Pt.nil) := CJ (MU.cell AZ Pt.nil (by rw [hml.out]; exact hlt));have ff := MU.frozen;have f0 := ff (k * 11);have f1 := ff (k * 11 + 1);have f2 := ff (k * 11 + 2);have f3 := ff (k * 11 + 3);have f4 := ff (k * 11 + 4);have f5 := ff (k * 11 + 5);have f6 := ff (k * 11 + 6);have f7 := ff (k * 11 + 7);have f8 := ff (k * 11 + 8);have f9 := ff (k * 11 + 9);have f10 := ff (k * 11 + 10);have MS := MU.set AZ (by omega) (i := k) (by rw [hml.out]; exact hlt) z;rw [hz.out, FS hlt, Cc, hml.out, ← hz.out] at MS;have SB := AW.putAll (o := k * 11) (AL z) (AW.of (g := g) hb1);rw [Cc] at SB;have BB := DF (B := base) hg1 (AL z) (k * 11) (C4.trans (hb1.mono (by omega)));rw [Cc] at BB;clear ff MU;obtain ⟨uf, huf⟩ := AC (((((((((((u1.setCell ⟨g, k * 11, none⟩ (.bool z.up)).setCell ⟨g, k * 11 + 1, none⟩ (.bool z.has)).setCell ⟨g, k * 11 + 2, none⟩ (ji z.r)).setCell ⟨g, k * 11 + 3, none⟩ (ji z.c)).setCell ⟨g, k * 11 + 4, none⟩ (ji z.b)).setCell ⟨g, k * 11 + 5, none⟩ (ji z.p)).setCell ⟨g, k * 11 + 6, none⟩ (ji z.h)).setCell ⟨g, k * 11 + 7, none⟩ (ji z.l)).setCell ⟨g, k * 11 + 8, none⟩ (ji z.ro)).setCell ⟨g, k * 11 + 9, none⟩ (ji z.wa)).setCell ⟨g, k * 11 + 10, none⟩ (.bool z.op));rw [← huf] at MS SB BB;go_simp
   rw [← huf];clear huf t0 f0 t1 f1 t2 f2 t3 f3 t4 f4 t5 f5 t6 f6 t7 f7 t8 f8 t9 f9 t10 f10;refine hK _ _ ⟨SB, ?_⟩;clear hK K hi;refine AR ?_;have hBar2 : AW g y.heap.size y uf := ⟨Nat.le_trans hBar.size SB.size, fun q hq hne => (SB.block q (by omega) hne).trans (hBar.block q hq hne)⟩;go_wp2
   go_roundw
   case rel => exact ⟨k + 1, by omega, by go_num, MS, hBar2, BB⟩
   case measure => simp [intOf]; omega
  obtain rfl : k = L.length := by omega
  clear a0 a1;have ac := A4;rw [HA, hfm.out] at M;obtain ⟨Mv, hMv⟩ := AC (L.map CK);rw [← hMv] at M;have hMl : Mv.length = L.length := by rw [hMv]; simp
  have hDM : Hid (D = Bg id Mv) := by unfold Hid; rw [hD.out, hMv]
  replace hMl : Hid _ := hMl;clear hMv;have hdc := Fc id (some (ja g 0)) cap Mv wr (by have := M; unfold AB at this; exact (show AB AL 11 70 base wr (.slice (some (ja g 0)) L.length cap) Mv from this).view.2) (by rw [hMl.out]; omega) (fun e => by cases e);rw [hMl.out] at hdc;obtain ⟨a0, a1⟩ := ac;go_wp2_with fail
  go_at_call 126
  clear a0 a1;refine hdc.mono ?_;rintro e w9 ⟨aD, cD, rfl, oD, k9⟩;clear hdc;rw [← hDM.out] at oD ⊢;have z9 := C4.size;have S9 : w.heap.size + 1 + 1 < wr.heap.size := R4.lt;have RX := R4.below k9 R4.lt;have BX := C4.trans (k9.mono (by omega));have RP := RX.put id (.slice aD D.length cD);obtain ⟨⟨r0, r1⟩, rf⟩ := RX;have BZ := (BX.setCell (p := ⟨w.heap.size + 1 + 1, 0, none⟩) (by show base ≤ w.heap.size + 1 + 1; omega) (ji id)).setCell (p := ⟨w.heap.size + 1 + 1, 1, none⟩) (by show base ≤ w.heap.size + 1 + 1; omega) (.slice aD D.length cD);have OZ : AB AL 11 70 base ((w9.setCell ⟨w.heap.size + 1 + 1, 0, none⟩ (ji id)).setCell ⟨w.heap.size + 1 + 1, 1, none⟩ (.slice aD D.length cD)) (.slice aD D.length cD) D := (oD.base (by omega)).keep fun g' e => by
   have := (oD.lt g' e).1;rw [AF (by show g' ≠ w.heap.size + 1 + 1; omega), AF (by show g' ≠ w.heap.size + 1 + 1; omega)]
  have b0z := B0.size;have sbz := hBar.size;have WZ : AW g w.heap.size w ((w9.setCell ⟨w.heap.size + 1 + 1, 0, none⟩ (ji id)).setCell ⟨w.heap.size + 1 + 1, 1, none⟩ (.slice aD D.length cD)) := ⟨BZ.size, fun q hq hne => by
   rw [AF (by show q ≠ w.heap.size + 1 + 1; omega), AF (by show q ≠ w.heap.size + 1 + 1; omega)];exact (k9.block q (by omega)).trans ((hBar.block q (by omega) hne).trans (B0.block q hq))⟩
  have JZ : ∀ g_, (Value.slice aD D.length cD).ownBlock = some g_ → g_ = g ∨ w.heap.size ≤ g_ := fun g_ e => .inr (by have := (oD.lt g_ e).1; omega)
  obtain ⟨⟨p0, p1⟩, _⟩ := RP;go_wp2
  refine bodyPost_ret (v := .agg #[ji id, .slice aD D.length cD]) (by simp [results, results84, go_sem, *]) rfl ⟨_, _, rfl, OZ, JZ, WZ, BZ⟩
attribute [local go_sem] ji ja
theorem Kp (id : Int) (cap : Nat) (L : List Pt) (k : Nat) (up : Bool) (base g : Nat) (w : World) (hr : AB AL 11 70 base w (.slice (some (ja g 0)) L.length cap) L) (hl : L.length ≤ 4) (hqL : k < L.length) :
  Calls prog 84 #[.agg #[ji id, .slice (some (ja g 0)) L.length cap], .agg #[ji 3, ji (k : Int), ji 0, ji 0, ji 0, ji 0, ji 0, .bool up]] w fun e w' => ∃ ad' cap', e = .returned (.agg #[ji id, .slice ad' ((if (L.getD k Pt.nil).up = up then L else Bg id (L.set k (DH up)))).length cap']) ∧ AB AL 11 70 base w' (.slice ad' ((if (L.getD k Pt.nil).up = up then L else Bg id (L.set k (DH up)))).length cap') ((if (L.getD k Pt.nil).up = up then L else Bg id (L.set k (DH up)))) ∧ (∀ g_, (Value.slice ad' ((if (L.getD k Pt.nil).up = up then L else Bg id (L.set k (DH up)))).length cap').ownBlock = some g_ → g_ = g ∨ w.heap.size ≤ g_) ∧ AW g w.heap.size w w' ∧ Below base w w' := by
 have hgb := hr.lt g rfl;obtain ⟨y, hy⟩ := AC (((w.alloc (Obj.cells #[ji id, .slice (some (ja g 0)) L.length cap] 42)).alloc (Obj.cells #[ji 3, ji (k : Int), ji 0, ji 0, ji 0, ji 0, ji 0, .bool up] 64)).alloc (Obj.cells #[ji 0, .slice none 0 0] 42));have B0 : Bw w y := by rw [hy]; exact (((Below.refl _ _).alloc (Nat.le_refl _) _).alloc (by simp) _).alloc (by simp; omega) _
 have A0 : As y w.heap.size id (.slice (some (ja g 0)) L.length cap) := by rw [hy]; constructor <;> simp [go_sem]
 have X0 : BD y (w.heap.size + 1) ⟨3, (k : Int), 0, 0, 0, 0, 0, up⟩ := by rw [hy]; constructor <;> simp [go_sem]
 have R0 : AU y (w.heap.size + 1 + 1) 0 (.slice none 0 0) := by rw [hy]; refine ⟨?_, fun i => ?_⟩; constructor <;> simp [go_sem]; simp [go_sem]
 have S0 := R0.lt;have o0 := hr.later B0;have C0 : Below base w y := B0.mono (by omega);obtain ⟨D, hD⟩ := AC (if (L.getD k Pt.nil).up = up then L else Bg id (L.set k (DH up)));rw [← hD];replace hD : Hid _ := hD;obtain ⟨hg1, hg2⟩ := hgb;clear hr;go_enter func84, ntmps84
 go_upto_region 10 with fail
 rw [← hy];clear hy;obtain ⟨hp, hhp⟩ : ∃ v, L.getD k Pt.nil = v := ⟨_, rfl⟩;have hD1 : Hid (D = if hp.up = up then L else Bg id (L.set k (DH up))) := by unfold Hid; rw [hD.out, hhp]
 have hcp : ∀ Y, Bw y Y → Bt Y g (k * 11) hp := fun Y hY => by rw [← hhp]; exact CJ ((o0.later hY).cell AZ Pt.nil hqL)
 clear hD hhp;by_cases hu : hp.up = up
 ·
  have hN : Hid (D = L) := by unfold Hid; rw [hD1.out, if_pos hu]
  replace hu : Hid _ := hu;refine AV (fun Y => Bw y Y) fun u0 hb0 => ?_
  refine tw 0 47 (.pointer (some (ja w.heap.size 1))) ?_;refine tw 1 48 (.slice (some (ja g 0)) L.length cap) ?_ (hy := by intro Y hSw; obtain ⟨X0_, X1_⟩ := A0.below hSw A0.lt; go_simp);refine tw 2 49 (.pointer (some ⟨w.heap.size + 1, 1, none⟩)) ?_;refine tw 3 50 (ji (k : Int)) ?_ (hy := by intro Y hSw; obtain ⟨Z0, Z1, Z2, Z3, Z4, Z5, Z6, Z7⟩ := X0.below hSw X0.lt; go_simp);refine tw 4 51 (.pointer (some ⟨g, k * 11, none⟩)) ?_ (hy := by intro Y hSw; go_simp; try omega);refine tw 5 52 (.pointer (some ⟨g, k * 11, none⟩)) ?_;refine tw 6 53 (.bool hp.up) ?_ (hy := by intro Y hSw; have X := (hcp Y hSw).all; go_simp);refine tw 7 54 (.pointer (some ⟨w.heap.size + 1, 7, none⟩)) ?_;refine tw 8 55 (.bool up) ?_ (hy := by intro Y hSw; obtain ⟨Z0, Z1, Z2, Z3, Z4, Z5, Z6, Z7⟩ := X0.below hSw X0.lt; go_simp);refine tw 9 56 (.bool true) ?_ (hy := by intro Y hSw; go_simp; exact hu.out);refine AR ?_;have A6 := A0.below hb0 A0.lt;have R6 := R0.below hb0 R0.lt;have o6 := o0.later hb0;have z6 := hb0.size;have B6 := C0.trans (hb0.mono (by omega));have RP := R6.put id (.slice (some (ja g 0)) L.length cap);obtain ⟨⟨r0, r1⟩, rf⟩ := R6;obtain ⟨n0, n1⟩ := A6;have BZ := (B6.setCell (p := ⟨w.heap.size + 1 + 1, 0, none⟩) (by show base ≤ w.heap.size + 1 + 1; omega) (ji id)).setCell (p := ⟨w.heap.size + 1 + 1, 1, none⟩) (by show base ≤ w.heap.size + 1 + 1; omega) (.slice (some (ja g 0)) L.length cap);have OZ : AB AL 11 70 base ((u0.setCell ⟨w.heap.size + 1 + 1, 0, none⟩ (ji id)).setCell ⟨w.heap.size + 1 + 1, 1, none⟩ (.slice (some (ja g 0)) L.length cap)) (.slice (some (ja g 0)) L.length cap) L := o6.keep fun g' e => by
   obtain rfl : g = g' := by simpa [Value.ownBlock] using e
   rw [AF (by show g ≠ w.heap.size + 1 + 1; omega), AF (by show g ≠ w.heap.size + 1 + 1; omega)]
  have WZ : AW g w.heap.size w ((u0.setCell ⟨w.heap.size + 1 + 1, 0, none⟩ (ji id)).setCell ⟨w.heap.size + 1 + 1, 1, none⟩ (.slice (some (ja g 0)) L.length cap)) := ⟨BZ.size, fun q hq hne => by
   rw [AF (by show q ≠ w.heap.size + 1 + 1; omega), AF (by show q ≠ w.heap.size + 1 + 1; omega)];exact (hb0.block q (by omega)).trans (B0.block q hq)⟩
  have JZ : ∀ g_, (Value.slice (some (ja g 0)) L.length cap).ownBlock = some g_ → g_ = g ∨ w.heap.size ≤ g_ := fun g_ e => .inl (by simpa [Value.ownBlock] using e.symm)
  obtain ⟨⟨p0, p1⟩, _⟩ := RP;go_wp2
  refine bodyPost_ret (v := .agg #[ji id, .slice (some (ja g 0)) L.length cap]) (by simp [results, results84, go_sem, *]) rfl ⟨_, _, by rw [hN.out], by rw [hN.out]; exact OZ, by rw [hN.out]; exact JZ, WZ, BZ⟩
 have hN : Hid (D = Bg id (L.set k (DH up))) := by unfold Hid; rw [hD1.out, if_neg hu]
 replace hu : Hid _ := hu;refine AV (fun Y => Bw y Y) fun u0 hb0 => ?_
 refine tw 0 47 (.pointer (some (ja w.heap.size 1))) ?_;refine tw 1 48 (.slice (some (ja g 0)) L.length cap) ?_ (hy := by intro Y hSw; obtain ⟨X0_, X1_⟩ := A0.below hSw A0.lt; go_simp);refine tw 2 49 (.pointer (some ⟨w.heap.size + 1, 1, none⟩)) ?_;refine tw 3 50 (ji (k : Int)) ?_ (hy := by intro Y hSw; obtain ⟨Z0, Z1, Z2, Z3, Z4, Z5, Z6, Z7⟩ := X0.below hSw X0.lt; go_simp);refine tw 4 51 (.pointer (some ⟨g, k * 11, none⟩)) ?_ (hy := by intro Y hSw; go_simp; try omega);refine tw 5 52 (.pointer (some ⟨g, k * 11, none⟩)) ?_;refine tw 6 53 (.bool hp.up) ?_ (hy := by intro Y hSw; have X := (hcp Y hSw).all; go_simp);refine tw 7 54 (.pointer (some ⟨w.heap.size + 1, 7, none⟩)) ?_;refine tw 8 55 (.bool up) ?_ (hy := by intro Y hSw; obtain ⟨Z0, Z1, Z2, Z3, Z4, Z5, Z6, Z7⟩ := X0.below hSw X0.lt; go_simp);refine tw 9 56 (.bool false) ?_ (hy := by intro Y hSw; go_simp; exact hu.out);refine AR ?_;have CW := C0.trans (hb0.mono (by omega));have hB0' : AW g y.heap.size y u0 := AW.of hb0;have o6 := o0.later hb0;have A6 := A0.below hb0 A0.lt;have X6 := X0.below hb0 X0.lt;have MUv1 := o6;obtain ⟨t0, t1, t2, t3, t4, t5, t6, t7, t8, t9, t10⟩ : Bt u0 g (k * 11) (L.getD k Pt.nil) := CJ (MUv1.cell AZ Pt.nil (by simpa using hqL));have ff := MUv1.frozen;have f0 := ff (k * 11);have f1 := ff (k * 11 + 1);have f2 := ff (k * 11 + 2);have f3 := ff (k * 11 + 3);have f4 := ff (k * 11 + 4);have f5 := ff (k * 11 + 5);have f6 := ff (k * 11 + 6);have f7 := ff (k * 11 + 7);have f8 := ff (k * 11 + 8);have f9 := ff (k * 11 + 9);have f10 := ff (k * 11 + 10);have MSv1 := MUv1.set AZ (by omega) (i := k) (by simpa using hqL) Pt.nil;rw [Cc] at MSv1;have SBv1 := AW.putAll (o := k * 11) (AL Pt.nil) hB0';rw [Cc] at SBv1;have BBv1 := DF (B := base) hg1 (AL Pt.nil) (k * 11) CW;rw [Cc] at BBv1;obtain ⟨v1, hnm⟩ := AC (((((((((((u0.setCell ⟨g, k * 11, none⟩ (.bool false)).setCell ⟨g, k * 11 + 1, none⟩ (.bool false)).setCell ⟨g, k * 11 + 2, none⟩ (ji 0)).setCell ⟨g, k * 11 + 3, none⟩ (ji 0)).setCell ⟨g, k * 11 + 4, none⟩ (ji 0)).setCell ⟨g, k * 11 + 5, none⟩ (ji 0)).setCell ⟨g, k * 11 + 6, none⟩ (ji 0)).setCell ⟨g, k * 11 + 7, none⟩ (ji 0)).setCell ⟨g, k * 11 + 8, none⟩ (ji 0)).setCell ⟨g, k * 11 + 9, none⟩ (ji 0)).setCell ⟨g, k * 11 + 10, none⟩ (.bool false));replace MSv1 : AB AL 11 70 base v1 (.slice (some (ja g 0)) (L).length cap) ((L).set k Pt.nil) := by rw [hnm]; exact MSv1
 replace SBv1 : AW g y.heap.size y v1 := by rw [hnm]; exact SBv1
 replace BBv1 : Below base w v1 := by rw [hnm]; exact BBv1
 clear ff;obtain ⟨a0, a1⟩ := A6;replace X6 := X6.all;go_upto_region 13 with fail
 rw [← hnm];clear X6 hnm a0 a1 t0 f0 t1 f1 t2 f2 t3 f3 t4 f4 t5 f5 t6 f6 t7 f7 t8 f8 t9 f9 t10 f10 CW MUv1 o6 hcp;have A7 := A0.bar SBv1 A0.lt (by omega);have X7 := X0.keep (SBv1.block _ X0.lt (by omega));have CW := BBv1;replace X7 := X7.all;cases up
 focus
  replace hN : Hid (D = Bg id (L.set k Pt.nil)) := hN;have A9 := A0.bar SBv1 A0.lt (by omega);have R9 := R0.keep (SBv1.block _ R0.lt (by omega));go_upto_region 15 with fail
  clear X7;obtain ⟨Mv, hMv⟩ := AC (L.set k Pt.nil);rw [← hMv] at MSv1;have hMl : Mv.length = L.length := by rw [hMv]; simp
  have hDM : Hid (D = Bg id Mv) := by unfold Hid; rw [hN.out, hMv]
  replace hMl : Hid _ := hMl;clear hMv;have hdc := Fc id (some (ja g 0)) cap Mv v1 (by have := MSv1; unfold AB at this; exact (show AB AL 11 70 base v1 (.slice (some (ja g 0)) L.length cap) Mv from this).view.2) (by rw [hMl.out]; omega) (fun e => by cases e);rw [hMl.out] at hdc;obtain ⟨a0, a1⟩ := A9;go_wp2_with fail
  go_at_call 126
  clear a0 a1;refine hdc.mono ?_;rintro e w9 ⟨aD, cD, rfl, oD, k9⟩;clear hdc;rw [← hDM.out] at oD ⊢;have z9 := BBv1.size;have S9 : w.heap.size + 1 + 1 < v1.heap.size := R9.lt;have RX := R9.below k9 R9.lt;have BX := BBv1.trans (k9.mono (by omega));have RP := RX.put id (.slice aD D.length cD);obtain ⟨⟨r0, r1⟩, rf⟩ := RX;have BZ := (BX.setCell (p := ⟨w.heap.size + 1 + 1, 0, none⟩) (by show base ≤ w.heap.size + 1 + 1; omega) (ji id)).setCell (p := ⟨w.heap.size + 1 + 1, 1, none⟩) (by show base ≤ w.heap.size + 1 + 1; omega) (.slice aD D.length cD);have OZ : AB AL 11 70 base ((w9.setCell ⟨w.heap.size + 1 + 1, 0, none⟩ (ji id)).setCell ⟨w.heap.size + 1 + 1, 1, none⟩ (.slice aD D.length cD)) (.slice aD D.length cD) D := (oD.base (by omega)).keep fun g' e => by
   have := (oD.lt g' e).1;rw [AF (by show g' ≠ w.heap.size + 1 + 1; omega), AF (by show g' ≠ w.heap.size + 1 + 1; omega)]
  have b0z := B0.size;have sbz := SBv1.size;have WZ : AW g w.heap.size w ((w9.setCell ⟨w.heap.size + 1 + 1, 0, none⟩ (ji id)).setCell ⟨w.heap.size + 1 + 1, 1, none⟩ (.slice aD D.length cD)) := ⟨BZ.size, fun q hq hne => by
   rw [AF (by show q ≠ w.heap.size + 1 + 1; omega), AF (by show q ≠ w.heap.size + 1 + 1; omega)];exact (k9.block q (by omega)).trans ((SBv1.block q (by omega) hne).trans (B0.block q hq))⟩
 rotate_left;focus
  have MSw : AB AL 11 70 base v1 (.slice (some (ja g 0)) (L.set k Pt.nil).length cap) (L.set k Pt.nil) := by rw [List.length_set]; exact MSv1
  have MUv2 := MSw;obtain ⟨t0, t1, t2, t3, t4, t5, t6, t7, t8, t9, t10⟩ : Bt v1 g (k * 11) ((L.set k Pt.nil).getD k Pt.nil) := CJ (MUv2.cell AZ Pt.nil (by simpa using hqL));have ff := MUv2.frozen;have f0 := ff (k * 11);have f1 := ff (k * 11 + 1);have f2 := ff (k * 11 + 2);have f3 := ff (k * 11 + 3);have f4 := ff (k * 11 + 4);have f5 := ff (k * 11 + 5);have f6 := ff (k * 11 + 6);have f7 := ff (k * 11 + 7);have f8 := ff (k * 11 + 8);have f9 := ff (k * 11 + 9);have f10 := ff (k * 11 + 10);have MSv2 := MUv2.set AZ (by omega) (i := k) (by simpa using hqL) (DH true);rw [Cc] at MSv2;have SBv2 := AW.putAll (o := k * 11) (AL (DH true)) SBv1;rw [Cc] at SBv2;have BBv2 := DF (B := base) hg1 (AL (DH true)) (k * 11) CW;rw [Cc] at BBv2;obtain ⟨v2, hnm⟩ := AC (((((((((((v1.setCell ⟨g, k * 11, none⟩ (.bool true)).setCell ⟨g, k * 11 + 1, none⟩ (.bool false)).setCell ⟨g, k * 11 + 2, none⟩ (ji 0)).setCell ⟨g, k * 11 + 3, none⟩ (ji 0)).setCell ⟨g, k * 11 + 4, none⟩ (ji 0)).setCell ⟨g, k * 11 + 5, none⟩ (ji 0)).setCell ⟨g, k * 11 + 6, none⟩ (ji 0)).setCell ⟨g, k * 11 + 7, none⟩ (ji 0)).setCell ⟨g, k * 11 + 8, none⟩ (ji 3)).setCell ⟨g, k * 11 + 9, none⟩ (ji 0)).setCell ⟨g, k * 11 + 10, none⟩ (.bool false));replace MSv2 : AB AL 11 70 base v2 (.slice (some (ja g 0)) ((L.set k Pt.nil)).length cap) (((L.set k Pt.nil)).set k (DH true)) := by rw [hnm]; exact MSv2
  replace SBv2 : AW g y.heap.size y v2 := by rw [hnm]; exact SBv2
  replace BBv2 : Below base w v2 := by rw [hnm]; exact BBv2
  clear ff;have hll : ((L.set k Pt.nil).set k (DH true)) = L.set k (DH true) := by rw [List.set_set]
  rw [hll, List.length_set] at MSv2;obtain ⟨a0, a1⟩ := A7;go_upto_region 15 with fail
  rw [← hnm];clear X7 hnm a0 a1 t0 f0 t1 f1 t2 f2 t3 f3 t4 f4 t5 f5 t6 f6 t7 f7 t8 f8 t9 f9 t10 f10 MSw MUv2 CW;have A9 := A0.bar SBv2 A0.lt (by omega);have R9 := R0.keep (SBv2.block _ R0.lt (by omega));obtain ⟨Mv, hMv⟩ := AC (L.set k (DH true));rw [← hMv] at MSv2;have hMl : Mv.length = L.length := by rw [hMv]; simp
  have hDM : Hid (D = Bg id Mv) := by unfold Hid; rw [hN.out, hMv]
  replace hMl : Hid _ := hMl;clear hMv;have hdc := Fc id (some (ja g 0)) cap Mv v2 (by have := MSv2; unfold AB at this; exact (show AB AL 11 70 base v2 (.slice (some (ja g 0)) L.length cap) Mv from this).view.2) (by rw [hMl.out]; omega) (fun e => by cases e);rw [hMl.out] at hdc;obtain ⟨a0, a1⟩ := A9;go_wp2_with fail
  go_at_call 126
  clear a0 a1;refine hdc.mono ?_;rintro e w9 ⟨aD, cD, rfl, oD, k9⟩;clear hdc;rw [← hDM.out] at oD ⊢;have z9 := BBv2.size;have S9 : w.heap.size + 1 + 1 < v2.heap.size := R9.lt;have RX := R9.below k9 R9.lt;have BX := BBv2.trans (k9.mono (by omega));have RP := RX.put id (.slice aD D.length cD);obtain ⟨⟨r0, r1⟩, rf⟩ := RX;have BZ := (BX.setCell (p := ⟨w.heap.size + 1 + 1, 0, none⟩) (by show base ≤ w.heap.size + 1 + 1; omega) (ji id)).setCell (p := ⟨w.heap.size + 1 + 1, 1, none⟩) (by show base ≤ w.heap.size + 1 + 1; omega) (.slice aD D.length cD);have OZ : AB AL 11 70 base ((w9.setCell ⟨w.heap.size + 1 + 1, 0, none⟩ (ji id)).setCell ⟨w.heap.size + 1 + 1, 1, none⟩ (.slice aD D.length cD)) (.slice aD D.length cD) D := (oD.base (by omega)).keep fun g' e => by
   have := (oD.lt g' e).1;rw [AF (by show g' ≠ w.heap.size + 1 + 1; omega), AF (by show g' ≠ w.heap.size + 1 + 1; omega)]
  have b0z := B0.size;have sbz := SBv2.size;have WZ : AW g w.heap.size w ((w9.setCell ⟨w.heap.size + 1 + 1, 0, none⟩ (ji id)).setCell ⟨w.heap.size + 1 + 1, 1, none⟩ (.slice aD D.length cD)) := ⟨BZ.size, fun q hq hne => by
   rw [AF (by show q ≠ w.heap.size + 1 + 1; omega), AF (by show q ≠ w.heap.size + 1 + 1; omega)];exact (k9.block q (by omega)).trans ((SBv2.block q (by omega) hne).trans (B0.block q hq))⟩
 rotate_left;all_goals
  have JZ : ∀ g_, (Value.slice aD D.length cD).ownBlock = some g_ → g_ = g ∨ w.heap.size ≤ g_ := fun g_ e => .inr (by have := (oD.lt g_ e).1; omega)
  obtain ⟨⟨p0, p1⟩, _⟩ := RP;go_wp2
  refine bodyPost_ret (v := .agg #[ji id, .slice aD D.length cD]) (by simp [results, results84, go_sem, *]) rfl ⟨_, _, rfl, OZ, JZ, WZ, BZ⟩
end Go.Proofs.YtjmnaeeknomiaaaGreat
namespace Go.Proofs.YtjmnaeeknomiaaaGreat
open Go.ChangeShapes Go.WideShapes Go.ChangeAt Go.RowKit
open Go.ChangeMaps (open_string shut_string)
set_option linter.unusedVariables false
set_option maxRecDepth 100000
set_option maxHeartbeats 32000000
set_option linter.unusedSimpArgs false
open Go.Proofs.Tryz
theorem Gj (id : Int) (cap : Nat) (L : List Pt) (x : Ik) (base g : Nat) (w : World) (hr : AB AL 11 70 base w (.slice (some (ja g 0)) L.length cap) L) (hg : DU id L x = true) :
  Calls prog 84 #[.agg #[ji id, .slice (some (ja g 0)) L.length cap], .agg #[ji x.k, ji x.q, ji x.r, ji x.c, ji x.b, ji x.p, ji x.h, .bool x.up]] w fun e w' => ∃ ad' cap', e = .returned (.agg #[ji id, .slice ad' (Dm id L x).length cap']) ∧ AB AL 11 70 base w' (.slice ad' (Dm id L x).length cap') (Dm id L x) ∧ (∀ g_, (Value.slice ad' (Dm id L x).length cap').ownBlock = some g_ → g_ = g ∨ w.heap.size ≤ g_) ∧ AW g w.heap.size w w' ∧ Below base w w' := by
 have hx0 := hg;unfold DU at hg;simp only [Bool.and_eq_true, decide_eq_true_eq] at hg;obtain ⟨hb, hx, hq⟩ := hg;have hl := (DX hb).2.1.2;obtain ⟨k, q, r, c, b, p, h, up⟩ := x;dsimp only at hq ⊢;obtain ⟨kq, rfl⟩ : ∃ kq : Nat, q = (kq : Int) := ⟨q.toNat, by omega⟩;have hkl : kq < L.length := by omega
 rcases JY hx with e | e | e
 ·
  dsimp only at e;subst e;have hu : up = false := by
   unfold Ay at hx;simp only [if_true, Bool.and_eq_true, Bool.not_eq_true'] at hx;exact hx.2.2.2
  subst hu;exact Kq id cap L kq r c b p h base g w hr hl hkl
 ·
  dsimp only at e;subst e;unfold Ay at hx;simp only [show ¬ ((2 : Int) = 1) by decide, show ¬ ((2 : Int) = 3) by decide, if_false, if_true, decide_eq_true_eq] at hx;obtain ⟨e1, e2, e3, e4, e5, e6, e7⟩ := hx;rw [e1, e2, e3, e4, e5, e6, e7];exact Ko id cap L base g w hr hl hb
 dsimp only at e;subst e;unfold Ay at hx;simp only [show ¬ ((3 : Int) = 1) by decide, if_false, if_true, Bool.and_eq_true, decide_eq_true_eq, beq_iff_eq] at hx;obtain ⟨_, ⟨e2, e3, e4, e5⟩, e6⟩ := hx;rw [e2, e3, e4, e5, e6];exact Kp id cap L kq up base g w hr hl hkl
theorem EU (id : Int) (ad : Option Addr) (cap : Nat) (L : List Pt) (x : Ik) (w : World) (hv : AH AL w ad L) (hl : L.length ≤ 1048576) (hn : ad = none → cap = 0) :
  Calls prog 39 #[.agg #[ji id, .slice ad L.length cap], .agg #[ji x.k, ji x.q, ji x.r, ji x.c, ji x.b, ji x.p, ji x.h, .bool x.up]] w fun e w' => ∃ ad' cap' ao co, e = .returned (.tuple #[.agg #[ji id, .slice ad' (CR id L x).length cap'], .slice ao (Cb id L x).length co]) ∧ AB AL 11 70 w.heap.size w' (.slice ad' (CR id L x).length cap') (CR id L x) ∧ AB Ag 8 77 w.heap.size w' (.slice ao (Cb id L x).length co) (Cb id L x) ∧ (∀ g_, (Value.slice ao (Cb id L x).length co).ownBlock = some g_ → (Value.slice ad' (CR id L x).length cap').ownBlock ≠ some g_) ∧ Bw w w' := by
 obtain ⟨i0, hi, hz0, hz1, hz2⟩ := info_parts Es;have hB := hv.lt AZ (by omega);obtain ⟨y, hy⟩ := AC (((w.alloc (Obj.cells #[ji id, .slice ad L.length cap] 42)).alloc (Obj.cells (ic x) 64)).alloc (Obj.cells #[ji 0, .slice none 0 0] 42));have B0 : Bw w y := by rw [hy]; exact (((Below.refl _ _).alloc (Nat.le_refl _) _).alloc (by simp) _).alloc (by simp; omega) _
 have A0 : As y w.heap.size id (.slice ad L.length cap) := by rw [hy]; constructor <;> simp [go_sem]
 have X0 : BD y (w.heap.size + 1) x := by rw [hy]; constructor <;> simp [go_sem]
 have R0 : AU y (w.heap.size + 1 + 1) 0 (.slice none 0 0) := by rw [hy]; refine ⟨?_, fun i => ?_⟩; constructor <;> simp [go_sem]; simp [go_sem]
 have S0 := R0.lt;have hv1 := hv.below B0 hB;have hB1 := hv1.lt AZ (by omega);have hvb0 : ∀ a, ad = some a → 0 < L.length → a.block < w.heap.size := hB;clear hv hB;obtain ⟨D, hD⟩ : ∃ D, CR id L x = D := ⟨_, rfl⟩;obtain ⟨OO, hO⟩ : ∃ D, Cb id L x = D := ⟨_, rfl⟩;rw [hD, hO];replace hD : Hid _ := hD;replace hO : Hid _ := hO;go_enter func39, ntmps39
 go_upto_region 1 with fail
 rw [← hy];clear hy;have hvb := hvb0;have BY := B0;obtain ⟨ye, hye, ke⟩ := AI y (Obj.cells #[] 77);have oE : AB Ag 8 77 y.heap.size ye (.slice (some (ja y.heap.size 0)) 0 0) ([] : List Ou) := by rw [hye]; exact AB.empty y
 have ze := ke.size;have A0 := A0.below ke A0.lt;have X0 := X0.below ke X0.lt;have R0 := R0.below ke R0.lt;have hv1 := hv1.below ke (hv1.lt AZ (by omega));have BY := AE BY ke;clear ke;go_upto_region 2 with fail
 rw [← hye];clear hye;generalize hE : y.heap.size = E at oE S0 ⊢
 replace hE : Hid _ := hE;have wE : w.heap.size + 1 + 1 < E := S0;have eE0 : E < ye.heap.size := (oE.lt E rfl).2;have cc_ := A0;obtain ⟨a0, a1⟩ := cc_;go_wp2_with fail
 go_at_call 44
 clear a0 a1;refine (Ex id ad cap L ye hv1 hl).mono ?_;rintro e Y1 ⟨rfl, k1⟩;have z1 := k1.size;have A0 := A0.below k1 A0.lt;have X0 := X0.below k1 X0.lt;have R0 := R0.below k1 R0.lt;have hv1 := hv1.below k1 (hv1.lt AZ (by omega));have oE := oE.later k1;have BY := AE BY k1;clear k1;cases hb : Bl id L with
 | false =>
  have hgo : DU id L x = false := by unfold DU; rw [hb]; rfl
  have hN : Hid (D = L ∧ OO = []) := by
   unfold Hid;rw [← hD.out, ← hO.out];unfold CR Cb;rw [hgo];exact ⟨rfl, rfl⟩
  clear hD hO;have cc_ := A0;obtain ⟨a0, a1⟩ := cc_;go_wp2_with fail
  go_at_call 83
  clear a0 a1;have z9 := BY.size;refine (Ew id ad cap L Y1 hv1 hl hn).mono ?_;rintro e w9 ⟨adN, capN, rfl, oN, k9⟩;have S9 : w.heap.size + 1 + 1 < Y1.heap.size := R0.lt;have jN : ∀ g_, (Value.slice (some (ja E 0)) 0 0).ownBlock = some g_ → (Value.slice adN L.length capN).ownBlock ≠ some g_ := fun g_ e e2 => by have h1 := (oN.lt g_ e2).1; have h2 := (oE.lt g_ e).2; omega
  have oE := oE.later k9;have R0 := R0.below k9 R0.lt;have BY := AE BY k9;have RP := R0.put id (.slice adN L.length capN);obtain ⟨⟨r0, r1⟩, rf⟩ := R0;have BZ := (BY.setCell (p := ⟨w.heap.size + 1 + 1, 0, none⟩) (by show _ ≤ w.heap.size + 1 + 1; omega) (ji id)).setCell (p := ⟨w.heap.size + 1 + 1, 1, none⟩) (by show _ ≤ w.heap.size + 1 + 1; omega) (.slice adN L.length capN);have OZ : AB AL 11 70 w.heap.size ((w9.setCell ⟨w.heap.size + 1 + 1, 0, none⟩ (ji id)).setCell ⟨w.heap.size + 1 + 1, 1, none⟩ (.slice adN L.length capN)) (.slice adN L.length capN) L := (oN.base (by omega)).keep fun g' e => by
   have := (oN.lt g' e).1;rw [AF (by show g' ≠ w.heap.size + 1 + 1; omega), AF (by show g' ≠ w.heap.size + 1 + 1; omega)]
  obtain ⟨⟨p0, p1⟩, _⟩ := RP;have OQ : AB Ag 8 77 w.heap.size ((w9.setCell ⟨w.heap.size + 1 + 1, 0, none⟩ (ji id)).setCell ⟨w.heap.size + 1 + 1, 1, none⟩ (.slice adN L.length capN)) (.slice (some (ja E 0)) 0 0) [] := (oE.base (by omega)).keep fun g' e => by
   have := (oE.lt g' e).1;rw [AF (by show g' ≠ w.heap.size + 1 + 1; omega), AF (by show g' ≠ w.heap.size + 1 + 1; omega)]
  go_wp2
  obtain ⟨rfl, rfl⟩ := hN.out;refine bodyPost_ret (v := .tuple #[.agg #[ji id, .slice adN D.length capN], .slice (some (ja E 0)) 0 0]) (by simp [results, results39, go_sem, *]) rfl ⟨adN, capN, some (ja E 0), 0, rfl, OZ, OQ, jN, BZ⟩
 | true =>
  have hl4 := (DX hb).2.1;have X1 := X0;replace X1 := X1.all;go_wp2_with fail
  go_at_call 82
  clear X1;refine (Fi x Y1).mono ?_;rintro e Y2 ⟨rfl, k2⟩;have z2 := k2.size;have A0 := A0.below k2 A0.lt;have X0 := X0.below k2 X0.lt;have R0 := R0.below k2 R0.lt;have hv1 := hv1.below k2 (hv1.lt AZ (by omega));have oE := oE.later k2;have BY := AE BY k2;clear k2;cases hx : Ay x with
  | false =>
   have hgo : DU id L x = false := by unfold DU; rw [hb, hx]; rfl
   have hN : Hid (D = L ∧ OO = []) := by
    unfold Hid;rw [← hD.out, ← hO.out];unfold CR Cb;rw [hgo];exact ⟨rfl, rfl⟩
   clear hD hO;have cc_ := A0;obtain ⟨a0, a1⟩ := cc_;go_wp2_with fail
   go_at_call 83
   clear a0 a1;have z9 := BY.size;refine (Ew id ad cap L Y2 hv1 hl hn).mono ?_;rintro e w9 ⟨adN, capN, rfl, oN, k9⟩;have S9 : w.heap.size + 1 + 1 < Y2.heap.size := R0.lt;have jN : ∀ g_, (Value.slice (some (ja E 0)) 0 0).ownBlock = some g_ → (Value.slice adN L.length capN).ownBlock ≠ some g_ := fun g_ e e2 => by have h1 := (oN.lt g_ e2).1; have h2 := (oE.lt g_ e).2; omega
   have oE := oE.later k9;have R0 := R0.below k9 R0.lt;have BY := AE BY k9;have RP := R0.put id (.slice adN L.length capN);obtain ⟨⟨r0, r1⟩, rf⟩ := R0;have BZ := (BY.setCell (p := ⟨w.heap.size + 1 + 1, 0, none⟩) (by show _ ≤ w.heap.size + 1 + 1; omega) (ji id)).setCell (p := ⟨w.heap.size + 1 + 1, 1, none⟩) (by show _ ≤ w.heap.size + 1 + 1; omega) (.slice adN L.length capN);have OZ : AB AL 11 70 w.heap.size ((w9.setCell ⟨w.heap.size + 1 + 1, 0, none⟩ (ji id)).setCell ⟨w.heap.size + 1 + 1, 1, none⟩ (.slice adN L.length capN)) (.slice adN L.length capN) L := (oN.base (by omega)).keep fun g' e => by
    have := (oN.lt g' e).1;rw [AF (by show g' ≠ w.heap.size + 1 + 1; omega), AF (by show g' ≠ w.heap.size + 1 + 1; omega)]
   obtain ⟨⟨p0, p1⟩, _⟩ := RP;have OQ : AB Ag 8 77 w.heap.size ((w9.setCell ⟨w.heap.size + 1 + 1, 0, none⟩ (ji id)).setCell ⟨w.heap.size + 1 + 1, 1, none⟩ (.slice adN L.length capN)) (.slice (some (ja E 0)) 0 0) [] := (oE.base (by omega)).keep fun g' e => by
    have := (oE.lt g' e).1;rw [AF (by show g' ≠ w.heap.size + 1 + 1; omega), AF (by show g' ≠ w.heap.size + 1 + 1; omega)]
   go_wp2
   obtain ⟨rfl, rfl⟩ := hN.out;refine bodyPost_ret (v := .tuple #[.agg #[ji id, .slice adN D.length capN], .slice (some (ja E 0)) 0 0]) (by simp [results, results39, go_sem, *]) rfl ⟨adN, capN, some (ja E 0), 0, rfl, OZ, OQ, jN, BZ⟩
  | true =>
   have X1 := X0;replace X1 := X1.all;have cc_ := A0;obtain ⟨a0, a1⟩ := cc_;have hq0 := (JX hx).1;by_cases hq : x.q < (L.length : Int)
   rotate_left
   ·
    have hgo : DU id L x = false := by unfold DU; rw [hb, hx, decide_eq_false (by omega)]; rfl
    have dq : decide ((L.length : Int) ≤ x.q) = true := decide_eq_true (by omega);replace hq : Hid _ := hq;go_upto_region 3 with fail
    clear X1 a0 a1;have hN : Hid (D = L ∧ OO = []) := by
     unfold Hid;rw [← hD.out, ← hO.out];unfold CR Cb;rw [hgo];exact ⟨rfl, rfl⟩
    clear hD hO;have cc_ := A0;obtain ⟨a0, a1⟩ := cc_;go_wp2_with fail
    go_at_call 83
    clear a0 a1;have z9 := BY.size;refine (Ew id ad cap L Y2 hv1 hl hn).mono ?_;rintro e w9 ⟨adN, capN, rfl, oN, k9⟩;have S9 : w.heap.size + 1 + 1 < Y2.heap.size := R0.lt;have jN : ∀ g_, (Value.slice (some (ja E 0)) 0 0).ownBlock = some g_ → (Value.slice adN L.length capN).ownBlock ≠ some g_ := fun g_ e e2 => by have h1 := (oN.lt g_ e2).1; have h2 := (oE.lt g_ e).2; omega
    have oE := oE.later k9;have R0 := R0.below k9 R0.lt;have BY := AE BY k9;have RP := R0.put id (.slice adN L.length capN);obtain ⟨⟨r0, r1⟩, rf⟩ := R0;have BZ := (BY.setCell (p := ⟨w.heap.size + 1 + 1, 0, none⟩) (by show _ ≤ w.heap.size + 1 + 1; omega) (ji id)).setCell (p := ⟨w.heap.size + 1 + 1, 1, none⟩) (by show _ ≤ w.heap.size + 1 + 1; omega) (.slice adN L.length capN);have OZ : AB AL 11 70 w.heap.size ((w9.setCell ⟨w.heap.size + 1 + 1, 0, none⟩ (ji id)).setCell ⟨w.heap.size + 1 + 1, 1, none⟩ (.slice adN L.length capN)) (.slice adN L.length capN) L := (oN.base (by omega)).keep fun g' e => by
     have := (oN.lt g' e).1;rw [AF (by show g' ≠ w.heap.size + 1 + 1; omega), AF (by show g' ≠ w.heap.size + 1 + 1; omega)]
    obtain ⟨⟨p0, p1⟩, _⟩ := RP;have OQ : AB Ag 8 77 w.heap.size ((w9.setCell ⟨w.heap.size + 1 + 1, 0, none⟩ (ji id)).setCell ⟨w.heap.size + 1 + 1, 1, none⟩ (.slice adN L.length capN)) (.slice (some (ja E 0)) 0 0) [] := (oE.base (by omega)).keep fun g' e => by
     have := (oE.lt g' e).1;rw [AF (by show g' ≠ w.heap.size + 1 + 1; omega), AF (by show g' ≠ w.heap.size + 1 + 1; omega)]
    go_wp2
    obtain ⟨rfl, rfl⟩ := hN.out;refine bodyPost_ret (v := .tuple #[.agg #[ji id, .slice adN D.length capN], .slice (some (ja E 0)) 0 0]) (by simp [results, results39, go_sem, *]) rfl ⟨adN, capN, some (ja E 0), 0, rfl, OZ, OQ, jN, BZ⟩
   have hgo : DU id L x = true := by unfold DU; rw [hb, hx, decide_eq_true (by omega)]; rfl
   have dq : decide ((L.length : Int) ≤ x.q) = false := decide_eq_false (by omega);replace hq : Hid _ := hq;obtain ⟨T, hT⟩ : ∃ T, Dm id L x = T := ⟨_, rfl⟩;have hTl : T.length = L.length := by rw [← hT]; exact Gz id L x
   have hD2 : Hid (D = T) := by unfold Hid; rw [← hD.out, ← hT]; unfold CR; rw [hgo]; rfl
   have hO2 : Hid (OO = Cz L T L.length ++ (if x.k = 2 then Cf id T T.length else [])) := by unfold Hid; rw [← hO.out, hTl, ← hT]; unfold Cb; rw [hgo]; rfl
   have hT4 : 1 ≤ T.length ∧ T.length ≤ 4 := by omega
   replace hTl : Hid _ := hTl;replace hT : Hid _ := hT;clear hD hO hb hx;go_upto_region 4 with fail
   clear X1 a0 a1;refine H6 (fun l l' W' => ∃ (P : Nat) (aT : Option Addr) (cT : Nat) (us : List Value), us.length = 4 ∧ l' = l.take 7 ++ (.pointer (some (ja P 0)) :: (l.drop 8).take 22) ++ us ++ l.drop 34 ∧ AU W' P id (.slice aT T.length cT) ∧ AB AL 11 70 Y2.heap.size W' (.slice aT T.length cT) T ∧ (∀ g_, (Value.slice aT T.length cT).ownBlock = some g_ → g_ ≠ P) ∧ Y2.heap.size ≤ P ∧ Bw Y2 W') ?_ ?_;rotate_left
   ·
    intro K2 hT3;refine AV (fun Y => Bw Y2 Y) fun u0 hb0 => ?_
    refine tw 0 30 (.agg #[ji id, .slice ad L.length cap]) ?_ (hy := by intro Y hSw; obtain ⟨X0_, X1_⟩ := A0.below hSw A0.lt; go_simp);refine tw 2 32 (.agg (ic x)) ?_ (hy := by intro Y hSw; obtain ⟨Z0, Z1, Z2, Z3, Z4, Z5, Z6, Z7⟩ := X0.below hSw X0.lt; go_simp);refine wpAnyH_all (rs := [1, 4]) (by kernel_rfl) (by simp) ?_;intro i hi; rcases (by simpa using hi : i = 1 ∨ i = 4) with rfl | rfl
    ·
     refine wpOp_step rfl (fun K hK => ?_);rw [if_pos (by kernel_rfl)];go_simp
     go_at_call 83
     refine (Ew id ad cap L u0 (hv1.below hb0 (hv1.lt AZ (by omega))) (by omega) hn).mono ?_;rintro e u1 ⟨aN, cN, rfl, oN, kq⟩;obtain ⟨gN, rfl, gN1, gN2⟩ := oN.row (by omega);have bN : Y2.heap.size ≤ u0.heap.size := hb0.size;have bU := kq.size;have hb1 := AE hb0 kq;clear kq;refine hK _ _ ⟨hb1, ?_⟩;clear hK K hi;refine wpAnyH_all (rs := [3, 4]) (by kernel_rfl) (by simp) ?_;intro i hi; rcases (by simpa using hi : i = 3 ∨ i = 4) with rfl | rfl
     ·
      refine wpOp_step rfl (fun K hK => ?_);rw [if_pos (by kernel_rfl)];go_simp
      go_at_call 84
      refine (Gj id cN L x _ gN u1 oN hgo).mono ?_;rintro e u2 ⟨aT, cT, rfl, oT, jT, kBar, kB⟩;rw [hT.out] at oT jT ⊢;have hb2 : Bw Y2 u2 := hb1.trans (kB.mono bN);refine hK _ _ ⟨hb2, ?_⟩;clear hK K hi;refine wpAnyH_all (rs := [4]) (by kernel_rfl) (by simp) ?_;intro i hi; obtain rfl : i = 4 := by simpa using hi
      refine wpOp_step rfl (fun K hK => ?_);rw [if_pos (by kernel_rfl)];go_simp
      obtain ⟨u3, hy, kq⟩ := AI u2 (Obj.cells #[ji 0, .slice none 0 0] 42);have joT : ∀ g_, (Value.slice aT T.length cT).ownBlock = some g_ → g_ ≠ u2.heap.size := fun g_ e => by have h1 := (oT.lt g_ e).2; omega
      have oT := oT.later kq;have FP : AU u3 u2.heap.size 0 (.slice none 0 0) := by rw [hy]; exact AU.new u2 _ _ _
      have pa : Y2.heap.size ≤ u2.heap.size := hb2.size;have hb3 := AE hb2 kq;rw [← hy];clear hy kq;refine hK _ _ ⟨hb3, ?_⟩;clear hK K hi;refine wpAnyH_all (rs := [5]) (by kernel_rfl) (by simp) ?_;intro i hi; obtain rfl : i = 5 := by simpa using hi
      refine wpOp_step rfl (fun K hK => ?_);rw [if_pos (by kernel_rfl)];have FQ := FP;obtain ⟨⟨t0, t1⟩, tf⟩ := FP;go_simp
      clear t0 t1 tf;obtain ⟨uf, huf⟩ := AC ((u3.setCell (ja u2.heap.size 0) (ji id)).setCell (ja u2.heap.size 1) (.slice aT T.length cT));have FE : AU uf (u2.heap.size) id (.slice aT T.length cT) := by rw [huf]; exact FQ.put _ _
      have hbf : Bw Y2 uf := by rw [huf]; exact (hb3.setCell (p := (ja u2.heap.size 0)) pa _).setCell (p := (ja u2.heap.size 1)) pa _
      have oT := oT.keep (w' := uf) (fun g_ e => by rw [huf, AF (by show g_ ≠ u2.heap.size; exact joT g_ e), AF (by show g_ ≠ u2.heap.size; exact joT g_ e)]);rw [← huf];clear huf FQ;refine hK _ _ ⟨hbf, ?_⟩;clear hK K hi;refine AR ?_;exact hT3.out _ _ ⟨u2.heap.size, aT, cT, [(.agg #[ji id, .slice ad L.length cap] : Value), .agg #[ji id, .slice (some (ja gN 0)) L.length cN], (.agg (ic x)), .agg #[ji id, .slice aT T.length cT]], rfl, by kernel_rfl, FE, oT.base bN, joT, pa, hbf⟩
     refine wpOp_step rfl (fun K hK => ?_);rw [if_pos (by kernel_rfl)];go_simp
     obtain ⟨u2, hy, kq⟩ := AI u1 (Obj.cells #[ji 0, .slice none 0 0] 42);have joN : ∀ g_, (Value.slice (some (ja gN 0)) L.length cN).ownBlock = some g_ → g_ ≠ u1.heap.size := fun g_ e => by have h1 := (oN.lt g_ e).2; omega
     have oN := oN.later kq;have FP : AU u2 u1.heap.size 0 (.slice none 0 0) := by rw [hy]; exact AU.new u1 _ _ _
     have pa : Y2.heap.size ≤ u1.heap.size := hb1.size;have hb2 := AE hb1 kq;rw [← hy];clear hy kq;refine hK _ _ ⟨hb2, ?_⟩;clear hK K hi;refine wpAnyH_all (rs := [3]) (by kernel_rfl) (by simp) ?_;intro i hi; obtain rfl : i = 3 := by simpa using hi
     refine wpOp_step rfl (fun K hK => ?_);rw [if_pos (by kernel_rfl)];go_simp
     go_at_call 84
     refine (Gj id cN L x _ gN u2 oN hgo).mono ?_;rintro e u3 ⟨aT, cT, rfl, oT, jT, kBar, kB⟩;rw [hT.out] at oT jT ⊢;have joT : ∀ g_, (Value.slice aT T.length cT).ownBlock = some g_ → g_ ≠ u1.heap.size := fun g_ e => by
      have h1 := jT g_ e;have h2 := FP.lt;have h3 := joN gN rfl;omega
     have FP := FP.keep (kBar.block _ FP.lt (fun e => joN gN rfl e.symm));have hb3 : Bw Y2 u3 := hb2.trans (kB.mono bN);refine hK _ _ ⟨hb3, ?_⟩;clear hK K hi;refine wpAnyH_all (rs := [5]) (by kernel_rfl) (by simp) ?_;intro i hi; obtain rfl : i = 5 := by simpa using hi
     refine wpOp_step rfl (fun K hK => ?_);rw [if_pos (by kernel_rfl)];have FQ := FP;obtain ⟨⟨t0, t1⟩, tf⟩ := FP;go_simp
     clear t0 t1 tf;obtain ⟨uf, huf⟩ := AC ((u3.setCell (ja u1.heap.size 0) (ji id)).setCell (ja u1.heap.size 1) (.slice aT T.length cT));have FE : AU uf (u1.heap.size) id (.slice aT T.length cT) := by rw [huf]; exact FQ.put _ _
     have hbf : Bw Y2 uf := by rw [huf]; exact (hb3.setCell (p := (ja u1.heap.size 0)) pa _).setCell (p := (ja u1.heap.size 1)) pa _
     have oT := oT.keep (w' := uf) (fun g_ e => by rw [huf, AF (by show g_ ≠ u1.heap.size; exact joT g_ e), AF (by show g_ ≠ u1.heap.size; exact joT g_ e)]);rw [← huf];clear huf FQ;refine hK _ _ ⟨hbf, ?_⟩;clear hK K hi;refine AR ?_;exact hT3.out _ _ ⟨u1.heap.size, aT, cT, [(.agg #[ji id, .slice ad L.length cap] : Value), .agg #[ji id, .slice (some (ja gN 0)) L.length cN], (.agg (ic x)), .agg #[ji id, .slice aT T.length cT]], rfl, by kernel_rfl, FE, oT.base bN, joT, pa, hbf⟩
    refine wpOp_step rfl (fun K hK => ?_);rw [if_pos (by kernel_rfl)];go_simp
    obtain ⟨u1, hy, kq⟩ := AI u0 (Obj.cells #[ji 0, .slice none 0 0] 42);have FP : AU u1 u0.heap.size 0 (.slice none 0 0) := by rw [hy]; exact AU.new u0 _ _ _
    have pa : Y2.heap.size ≤ u0.heap.size := hb0.size;have hb1 := AE hb0 kq;rw [← hy];clear hy kq;refine hK _ _ ⟨hb1, ?_⟩;clear hK K hi;refine wpAnyH_all (rs := [1]) (by kernel_rfl) (by simp) ?_;intro i hi; obtain rfl : i = 1 := by simpa using hi
    refine wpOp_step rfl (fun K hK => ?_);rw [if_pos (by kernel_rfl)];go_simp
    go_at_call 83
    refine (Ew id ad cap L u1 (hv1.below hb1 (hv1.lt AZ (by omega))) (by omega) hn).mono ?_;rintro e u2 ⟨aN, cN, rfl, oN, kq⟩;obtain ⟨gN, rfl, gN1, gN2⟩ := oN.row (by omega);have bN : Y2.heap.size ≤ u1.heap.size := hb1.size;have bU := kq.size;have joN : ∀ g_, (Value.slice (some (ja gN 0)) L.length cN).ownBlock = some g_ → g_ ≠ u0.heap.size := fun g_ e => by have h1 := (oN.lt g_ e).1; have h2 := FP.lt; omega
    have FP := FP.below kq FP.lt;have hb2 := AE hb1 kq;clear kq;refine hK _ _ ⟨hb2, ?_⟩;clear hK K hi;refine wpAnyH_all (rs := [3]) (by kernel_rfl) (by simp) ?_;intro i hi; obtain rfl : i = 3 := by simpa using hi
    refine wpOp_step rfl (fun K hK => ?_);rw [if_pos (by kernel_rfl)];go_simp
    go_at_call 84
    refine (Gj id cN L x _ gN u2 oN hgo).mono ?_;rintro e u3 ⟨aT, cT, rfl, oT, jT, kBar, kB⟩;rw [hT.out] at oT jT ⊢;have joT : ∀ g_, (Value.slice aT T.length cT).ownBlock = some g_ → g_ ≠ u0.heap.size := fun g_ e => by
     have h1 := jT g_ e;have h2 := FP.lt;have h3 := joN gN rfl;omega
    have FP := FP.keep (kBar.block _ FP.lt (fun e => joN gN rfl e.symm));have hb3 : Bw Y2 u3 := hb2.trans (kB.mono bN);refine hK _ _ ⟨hb3, ?_⟩;clear hK K hi;refine wpAnyH_all (rs := [5]) (by kernel_rfl) (by simp) ?_;intro i hi; obtain rfl : i = 5 := by simpa using hi
    refine wpOp_step rfl (fun K hK => ?_);rw [if_pos (by kernel_rfl)];have FQ := FP;obtain ⟨⟨t0, t1⟩, tf⟩ := FP;go_simp
    clear t0 t1 tf;obtain ⟨uf, huf⟩ := AC ((u3.setCell (ja u0.heap.size 0) (ji id)).setCell (ja u0.heap.size 1) (.slice aT T.length cT));have FE : AU uf (u0.heap.size) id (.slice aT T.length cT) := by rw [huf]; exact FQ.put _ _
    have hbf : Bw Y2 uf := by rw [huf]; exact (hb3.setCell (p := (ja u0.heap.size 0)) pa _).setCell (p := (ja u0.heap.size 1)) pa _
    have oT := oT.keep (w' := uf) (fun g_ e => by rw [huf, AF (by show g_ ≠ u0.heap.size; exact joT g_ e), AF (by show g_ ≠ u0.heap.size; exact joT g_ e)]);rw [← huf];clear huf FQ;refine hK _ _ ⟨hbf, ?_⟩;clear hK K hi;refine AR ?_;exact hT3.out _ _ ⟨u0.heap.size, aT, cT, [(.agg #[ji id, .slice ad L.length cap] : Value), .agg #[ji id, .slice (some (ja gN 0)) L.length cN], (.agg (ic x)), .agg #[ji id, .slice aT T.length cT]], rfl, by kernel_rfl, FE, oT.base bN, joT, pa, hbf⟩
   rintro l' Y4 ⟨P, aT, cT, us, hul, rfl, NP, oT, jT, pT, k4⟩;obtain ⟨u30, us, rfl⟩ : ∃ a b, us = a :: b := List.exists_cons_of_length_eq_add_one hul;replace hul := Nat.succ.inj hul;obtain ⟨u31, us, rfl⟩ : ∃ a b, us = a :: b := List.exists_cons_of_length_eq_add_one hul;replace hul := Nat.succ.inj hul;obtain ⟨u32, us, rfl⟩ : ∃ a b, us = a :: b := List.exists_cons_of_length_eq_add_one hul;replace hul := Nat.succ.inj hul;obtain ⟨u33, us, rfl⟩ : ∃ a b, us = a :: b := List.exists_cons_of_length_eq_add_one hul;replace hul := Nat.succ.inj hul;obtain rfl : us = [] := List.eq_nil_of_length_eq_zero hul;clear hul;simp only [List.take, List.drop, List.cons_append, List.nil_append];have z4 := k4.size;have A0 := A0.below k4 A0.lt;have X0 := X0.below k4 X0.lt;have R0 := R0.below k4 R0.lt;have hv1 := hv1.below k4 (hv1.lt AZ (by omega));have oE := oE.later k4;have BY := AE BY k4;clear k4;have NP := NP.at_;have vT : AH AL Y4 aT T := oT.view.2;have vtb : ∀ a, aT = some a → 0 < T.length → Y2.heap.size ≤ a.block ∧ a.block < Y4.heap.size := fun a e p => by
    obtain ⟨g_, e1, e2, e3⟩ := oT.row p;rw [e1] at e;cases e
    exact ⟨e2, e3⟩
   have vab : ∀ a, ad = some a → 0 < L.length → a.block < w.heap.size := hvb;have eE := (oE.lt E rfl).2;have pP := NP.lt;have sE : ∀ g_, (Value.slice (some (ja E 0)) ([] : List Ou).length 0).ownBlock = some g_ → g_ = E ∨ Y4.heap.size ≤ g_ := fun g_ e => .inl (by simpa [Value.ownBlock] using e.symm)
   have EY2 : E < Y2.heap.size := by omega
   go_wp2
   go_loopw [6, 8] (fun v i wr => ∃ k : Nat, k ≤ L.length ∧ i = .int .i64 (k : Int) ∧ AB Ag 8 77 E wr v (Cz L T k) ∧ (∀ g_, v.ownBlock = some g_ → g_ = E ∨ Y4.heap.size ≤ g_) ∧ AW E Y4.heap.size Y4 wr ∧ Below w.heap.size w wr) (fun _ i _ => L.length - (intOf i).toNat)
   case atStart => exact ⟨0, Nat.zero_le _, rfl, oE, sE, AW.of (Below.refl _ _), BY⟩
   case round =>
    obtain ⟨k, hk, rfl, O, sO, hBar, B5⟩ := hrel;obtain ⟨adk, capk, rfl⟩ := O.open_;have z5 := hBar.size;have A5 := A0.bar hBar A0.lt (by omega);have P5 := NP.bar hBar NP.lt (by omega);have cc_ := A5;obtain ⟨a0, a1⟩ := cc_;by_cases hlt : k < L.length
    ·
     have hltT : k < T.length := by rw [hTl.out]; exact hlt
     have hv5 : AH AL wr ad L := hv1.carry fun a e p => hBar.block _ (by have := vab a e p; omega) (by have := vab a e p; omega)
     have vT5 : AH AL wr aT T := vT.carry fun a e p => hBar.block _ (vtb a e p).2 (by have := (vtb a e p).1; omega)
     obtain ⟨bk, off, rfl, _⟩ := hv5 (by omega);obtain ⟨bt_, ot_, rfl, _⟩ := vT5 (by omega);obtain ⟨h, hh⟩ : ∃ h, T.getD k Pt.nil = h := ⟨_, rfl⟩;obtain ⟨q_, hg⟩ : ∃ g, L.getD k Pt.nil = g := ⟨_, rfl⟩;have hhc : ∀ Y, Bw wr Y → Bt Y bt_ (ot_ + k * 11) h := fun Y hY => by rw [← hh]; exact CJ ((vT5.below hY (vT5.lt AZ (by omega))).at_ AZ Pt.nil hltT)
     have hgc : ∀ Y, Bw wr Y → Bt Y bk (off + k * 11) q_ := fun Y hY => by rw [← hg]; exact CJ ((hv5.below hY (hv5.lt AZ (by omega))).at_ AZ Pt.nil hlt)
     replace hh : Hid _ := hh;replace hg : Hid _ := hg;have gl := F1 L T k;obtain ⟨G, hG⟩ : ∃ G, Cz L T k = G := ⟨_, rfl⟩;rw [hG] at O gl sO ⊢;replace hG : Hid _ := hG;go_upto_region 8 with fail
     clear a0 a1 hv5 vT5;by_cases ho : h.op = q_.op
     ·
      have hN : Hid (Cz L T (k + 1) = G) := by unfold Hid; rw [IN hh.out hg.out ho, hG.out]
      replace ho : Hid _ := ho;refine AV (fun Y => Bw wr Y) fun u0 hb0 => ?_
      refine tw 0 41 (.pointer (some (ja P 1))) ?_;refine tw 1 42 (.slice (some (ja bt_ ot_)) T.length cT) ?_ (hy := by intro Y hSw; obtain ⟨X0_, X1_⟩ := P5.below hSw P5.lt; go_simp);refine tw 2 43 (ji (k : Int)) ?_;refine tw 3 44 (.pointer (some ⟨bt_, ot_ + k * 11, none⟩)) ?_ (hy := by intro Y hSw; go_simp; try omega);refine tw 4 45 (.pointer (some ⟨bt_, ot_ + k * 11 + 10, none⟩)) ?_;refine tw 5 46 (.bool h.op) ?_ (hy := by intro Y hSw; have X := (hhc Y hSw).all; go_simp);refine tw 6 47 (.pointer (some (ja w.heap.size 1))) ?_;refine tw 7 48 (.slice (some (ja bk off)) L.length cap) ?_ (hy := by intro Y hSw; obtain ⟨X0_, X1_⟩ := A5.below hSw A5.lt; go_simp);refine tw 8 49 (ji (k : Int)) ?_;refine tw 9 50 (.pointer (some ⟨bk, off + k * 11, none⟩)) ?_ (hy := by intro Y hSw; go_simp; try omega);refine tw 10 51 (.pointer (some ⟨bk, off + k * 11 + 10, none⟩)) ?_;refine tw 11 52 (.bool q_.op) ?_ (hy := by intro Y hSw; have X := (hgc Y hSw).all; go_simp);refine tw 12 53 (.bool false) ?_ (hy := by intro Y hSw; go_simp; exact ho.out);refine AR ?_;have hBar2 : AW E Y4.heap.size Y4 u0 := ⟨Nat.le_trans hBar.size hb0.size, fun q hq hne => (hb0.block q (by omega)).trans (hBar.block q hq hne)⟩;go_wp2
      go_roundw
      case rel => exact ⟨k + 1, by omega, by go_num, by rw [hN.out]; exact O.later hb0, sO, hBar2, AE B5 hb0⟩
      case measure => simp [intOf]; omega
     have hN : Hid (Cz L T (k + 1) = G ++ [Dd k h.op]) := by unfold Hid; rw [Ij hh.out hg.out ho, hG.out]
     replace ho : Hid _ := ho;refine AV (fun Y => Bw wr Y) fun u0 hb0 => ?_
     refine tw 0 41 (.pointer (some (ja P 1))) ?_;refine tw 1 42 (.slice (some (ja bt_ ot_)) T.length cT) ?_ (hy := by intro Y hSw; obtain ⟨X0_, X1_⟩ := P5.below hSw P5.lt; go_simp);refine tw 2 43 (ji (k : Int)) ?_;refine tw 3 44 (.pointer (some ⟨bt_, ot_ + k * 11, none⟩)) ?_ (hy := by intro Y hSw; go_simp; try omega);refine tw 4 45 (.pointer (some ⟨bt_, ot_ + k * 11 + 10, none⟩)) ?_;refine tw 5 46 (.bool h.op) ?_ (hy := by intro Y hSw; have X := (hhc Y hSw).all; go_simp);refine tw 6 47 (.pointer (some (ja w.heap.size 1))) ?_;refine tw 7 48 (.slice (some (ja bk off)) L.length cap) ?_ (hy := by intro Y hSw; obtain ⟨X0_, X1_⟩ := A5.below hSw A5.lt; go_simp);refine tw 8 49 (ji (k : Int)) ?_;refine tw 9 50 (.pointer (some ⟨bk, off + k * 11, none⟩)) ?_ (hy := by intro Y hSw; go_simp; try omega);refine tw 10 51 (.pointer (some ⟨bk, off + k * 11 + 10, none⟩)) ?_;refine tw 11 52 (.bool q_.op) ?_ (hy := by intro Y hSw; have X := (hgc Y hSw).all; go_simp);refine tw 12 53 (.bool true) ?_ (hy := by intro Y hSw; go_simp; exact ho.out);refine AR ?_;have hBar2 : AW E Y4.heap.size Y4 u0 := ⟨Nat.le_trans hBar.size hb0.size, fun q hq hne => (hb0.block q (by omega)).trans (hBar.block q hq hne)⟩;have B6 := AE B5 hb0;have z6 := hb0.size;obtain ⟨c0, c1, c2, c3, c4, c5, c6, c7, c8, c9, c10⟩ := hhc u0 hb0;obtain ⟨n0, n1⟩ := P5.below hb0 P5.lt;have V1 := AH.oneO u0 77 (Dd k h.op);have O2 : AB Ag 8 77 E (u0.alloc (Obj.cells #[ji (Dd k h.op).k, ji (Dd k h.op).pt, ji (Dd k h.op).r, ji (Dd k h.op).c, ji (Dd k h.op).b, ji (Dd k h.op).p, ji (Dd k h.op).h, .bool (Dd k h.op).on] 77)) (.slice adk G.length capk) G := (O.later hb0).later (Ae _);unfold Dd at V1 O2;dsimp only at V1 O2;go_wp2_with (first | (at_builtin; refine DT BN Dz rfl _ _ 32 rfl E 77 i0 (.agg #[ji 0, ji 0, ji 0, ji 0, ji 0, ji 0, ji 0, .bool false]) 64 underlying32 hi hz0 hz1 hz2 rfl (by decide) (by decide) (.slice adk G.length capk) G rfl O2 (some (ja u0.heap.size 0)) 1 [(⟨2, (k : Int), 0, 0, 0, 0, 0, h.op⟩ : Ou)] rfl (fun e => by cases e) V1 ?z0 ?z1 ?_) | go_in)
     case z0 => simp; omega
     case z1 => simp; omega
     intro vZ wZ hownZ hgrowZ hoZ;have gsz := hgrowZ.size;simp only [World.size_alloc] at gsz;have sZ : ∀ g_, vZ.ownBlock = some g_ → g_ = E ∨ Y4.heap.size ≤ g_ := fun g_ e => by
      rcases hoZ with q | q
      ·
       exact sO g_ (by rw [← q]; exact e)
      rw [q] at e;simp at e
      omega
     have BarZ : AW E Y4.heap.size Y4 wZ := ⟨by omega, fun q hq hne => (hgrowZ.block q (by simp; omega) (fun e => by have := sO q e.symm; omega)).trans ((Below.heap_alloc _ _ q (by omega)).trans (hBar2.block q hq hne))⟩;have BZ6 : Bw w wZ := (B6.alloc B6.size _).grown hgrowZ (by simp; have := B6.size; omega) (fun g_ e => by have := sO g_ e; omega);clear hgrowZ V1 O2 c0 c1 c2 c3 c4 c5 c6 c7 c8 c9 c10 n0 n1 hoZ;go_wp2
     go_roundw
     case rel => exact ⟨k + 1, by omega, by go_num, by rw [hN.out]; exact hownZ, sZ, BarZ, BZ6⟩
     case measure => simp [intOf]; omega
    obtain rfl : k = L.length := by omega
    obtain ⟨G, hG⟩ : ∃ G, Cz L T L.length = G := ⟨_, rfl⟩;have gl := F1 L T L.length;rw [hG] at O sO gl hO2 ⊢;replace hO2 : Hid _ := hO2;clear hG;have X5 := X0.keep (hBar.block _ X0.lt (by omega));have R5 := R0.keep (hBar.block _ R0.lt (by omega));have cc_ := X5;replace cc_ := cc_.all;have cp_ := P5;obtain ⟨n0, n1⟩ := cp_;by_cases hk2 : x.k = 2
    ·
     have hO3 : Hid (OO = G ++ Cf id T T.length) := by unfold Hid; rw [hO2.out, if_pos hk2]
     replace hk2 : Hid _ := hk2;clear hO2;have gl4 : G.length ≤ 4 := by omega
     go_upto_region 10 with fail
     go_wp2
     clear cc_ n0 n1 a0 a1 A5 P5 X5 R5;go_loopw [6, 9] (fun v i ws => ∃ k : Nat, k ≤ T.length ∧ i = .int .i64 (k : Int) ∧ AB Ag 8 77 E ws v (G ++ Cf id T k) ∧ (∀ g_, v.ownBlock = some g_ → g_ = E ∨ Y4.heap.size ≤ g_) ∧ AW E Y4.heap.size Y4 ws ∧ Below w.heap.size w ws) (fun _ i _ => T.length - (intOf i).toNat)
     case atStart => exact ⟨0, Nat.zero_le _, rfl, by rw [show Cf id T 0 = [] from rfl, List.append_nil]; exact O, sO, hBar, B5⟩
     case round =>
      clear O sO hBar B5;obtain ⟨k, hk, rfl, O, sO, hBar, B5⟩ := hrel;obtain ⟨adk, capk, rfl⟩ := O.open_;have z5 := hBar.size;have P5 := NP.bar hBar NP.lt (by omega);have X5 := X0.keep (hBar.block _ X0.lt (by omega));have R5 := R0.keep (hBar.block _ R0.lt (by omega));have cc_ := X5;replace cc_ := cc_.all;have dk : (x.k == 2) = true := by simpa using hk2.out
      have cp_ := P5;obtain ⟨n0, n1⟩ := cp_;by_cases hlt : k < T.length
      ·
       have vT5 : AH AL wr aT T := vT.carry fun a e p => hBar.block _ (vtb a e p).2 (by have := (vtb a e p).1; omega)
       obtain ⟨bt_, ot_, rfl, _⟩ := vT5 (by omega);obtain ⟨h, hh⟩ : ∃ h, T.getD k Pt.nil = h := ⟨_, rfl⟩;obtain ⟨c0, c1, c2, c3, c4, c5, c6, c7, c8, c9, c10⟩ : Bt wr bt_ (ot_ + k * 11) h := by rw [← hh]; exact CJ (vT5.at_ AZ Pt.nil hlt)
       replace hh : Hid _ := hh;have tl := HD id T k;obtain ⟨H, hH⟩ : ∃ H, Cf id T k = H := ⟨_, rfl⟩;rw [hH] at O tl sO ⊢;obtain ⟨GH, hGH⟩ : ∃ GH, G ++ H = GH := ⟨_, rfl⟩;have gh8 : GH.length ≤ 8 := by rw [← hGH, List.length_append]; omega
       rw [hGH] at O sO ⊢;have hHN : Hid (G ++ Cf id T k = GH) := by unfold Hid; rw [hH, hGH]
       clear hH hGH;by_cases ho : h.ro = 2
       ·
        have dr : (h.ro == 2) = true := by simpa using ho
        obtain ⟨⟨v1, v2, v3, v4⟩, hov⟩ : ∃ v, CZ id T k = v := ⟨_, rfl⟩;obtain ⟨hq_, hhq⟩ : ∃ v, Ev id T = v := ⟨_, rfl⟩;have hN : Hid (G ++ Cf id T (k + 1) = GH ++ [(⟨1, (k : Int), v1, v2, v3, v4, hq_, false⟩ : Ou)]) := by unfold Hid; rw [IZ hh.out ho, ← List.append_assoc, hHN.out]; unfold GY; rw [hov, hhq]
        replace ho : Hid _ := ho;replace hov : Hid _ := hov;replace hhq : Hid _ := hhq;have hiT := hi;go_upto_region 14 with fail
        clear cc_ c0 c1 c2 c3 c4 c5 c6 c7 c8 c9 c10 n0 n1 vT5;refine AV (fun Y => AW E Y4.heap.size Y4 Y) fun u0 ha0 => ?_
        have hb0 : AW E Y4.heap.size Y4 u0 := ⟨Nat.le_trans hBar.size ha0.size, fun q hq hne => (ha0.block q (by omega)).trans (hBar.block q hq hne)⟩;refine tw 0 84 (.slice adk GH.length capk) ?_;refine tw 1 85 (ji (k : Int)) ?_;refine tw 2 86 (.agg #[ji id, .slice (some (ja bt_ ot_)) T.length cT]) ?_ (hy := by intro Y hSw; obtain ⟨X0_, X1_⟩ := NP.bar hSw NP.lt (by omega); go_simp);refine tw 3 87 (ji (k : Int)) ?_;refine tw 5 89 (.agg #[ji id, .slice (some (ja bt_ ot_)) T.length cT]) ?_ (hy := by intro Y hSw; obtain ⟨X0_, X1_⟩ := NP.bar hSw NP.lt (by omega); go_simp);refine wpAnyH_all (rs := [4]) (by kernel_rfl) (by simp) ?_;intro i hi; obtain rfl : i = 4 := by simpa using hi
        refine wpOp_step rfl (fun K hK => ?_);rw [if_pos (by kernel_rfl)];go_simp
        go_at_call 85
        refine (Gg id (some (ja bt_ ot_)) cT T (k : Int) u0 (vT.carry fun a e p => hb0.block _ (vtb a e p).2 (by have := (vtb a e p).1; omega)) (by omega)).mono ?_;rintro e u1 ⟨rfl, kq⟩;have ha1 := AE ha0 kq;have hb1 : AW E Y4.heap.size Y4 u1 := ⟨Nat.le_trans hBar.size ha1.size, fun q hq hne => (ha1.block q (by omega)).trans (hBar.block q hq hne)⟩;clear kq;rw [hov.out];refine hK _ _ ⟨hb1, ?_⟩;clear hK K hi;refine wpAnyH_all (rs := [6]) (by kernel_rfl) (by simp) ?_;intro i hi; obtain rfl : i = 6 := by simpa using hi
        refine wpOp_step rfl (fun K hK => ?_);rw [if_pos (by kernel_rfl)];go_simp
        go_at_call 86
        refine (KS id (some (ja bt_ ot_)) cT T u1 (vT.carry fun a e p => hb1.block _ (vtb a e p).2 (by have := (vtb a e p).1; omega)) (by omega)).mono ?_;rintro e u2 ⟨rfl, kq⟩;have ha2 := AE ha1 kq;have hb2 : AW E Y4.heap.size Y4 u2 := ⟨Nat.le_trans hBar.size ha2.size, fun q hq hne => (ha2.block q (by omega)).trans (hBar.block q hq hne)⟩;clear kq;rw [hhq.out];refine hK _ _ ⟨hb2, ?_⟩;clear hK K hi;refine tw 7 91 (.agg #[ji 1, ji (k : Int), ji v1, ji v2, ji v3, ji v4, ji hq_, .bool false]) ?_;refine wpAnyH_all (rs := [8]) (by kernel_rfl) (by simp) ?_;intro i hi; obtain rfl : i = 8 := by simpa using hi
        refine wpOp_step rfl (fun K_ hK_ => ?_);rw [if_pos (by kernel_rfl)];go_simp
        obtain ⟨u3, hu3, kq⟩ := AI u2 (Obj.cells #[ji 1, ji (k : Int), ji v1, ji v2, ji v3, ji v4, ji hq_, .bool false] 77);have V1 : AH Ag u3 (some (ja u2.heap.size 0)) [(⟨1, (k : Int), v1, v2, v3, v4, hq_, false⟩ : Ou)] := by rw [hu3]; exact AH.oneO u2 77 ⟨1, (k : Int), v1, v2, v3, v4, hq_, false⟩
        have ha3 := AE ha2 kq;have hb3 : AW E Y4.heap.size Y4 u3 := ⟨Nat.le_trans hBar.size ha3.size, fun q hq hne => (ha3.block q (by omega)).trans (hBar.block q hq hne)⟩;clear kq;rw [← hu3];clear hu3;generalize u2.heap.size = Ee at V1 ⊢
        refine hK_ _ _ ⟨hb3, ?_⟩;clear hK_ K_ hi;have O2 : AB Ag 8 77 E u3 (.slice adk GH.length capk) GH := O.later ha3;have z6 := ha3.size;have B6 := AE B5 ha3;refine wpAnyH_all (rs := [9]) (by kernel_rfl) (by simp) ?_;intro i hi; obtain rfl : i = 9 := by simpa using hi
        refine wpOp_step rfl (fun K_ hK_ => ?_);rw [if_pos (by kernel_rfl)];refine Bh BN Dz 93 _ _ 32 rfl rfl E 77 i0 (.agg #[ji 0, ji 0, ji 0, ji 0, ji 0, ji 0, ji 0, .bool false]) 64 underlying32 hiT hz0 hz1 hz2 rfl (by decide) (by decide) (.slice adk GH.length capk) GH rfl O2 (some (ja Ee 0)) 1 [(⟨1, (k : Int), v1, v2, v3, v4, hq_, false⟩ : Ou)] rfl (fun e => by cases e) V1 (by simp; omega) (by omega) ?_;intro vZ wZ hownZ gZ hoZ;have gsz := gZ.size;have sZ : ∀ g_, vZ.ownBlock = some g_ → g_ = E ∨ Y4.heap.size ≤ g_ := fun g_ e => by
         rcases hoZ with q | q
         ·
          exact sO g_ (by rw [← q]; exact e)
         rw [q] at e;simp at e
         omega
        have BarZ : AW E Y4.heap.size Y4 wZ := ⟨by omega, fun q hq hne => (gZ.block q (by omega) (fun e => by have := sO q e.symm; omega)).trans (hb3.block q hq hne)⟩;have BZ6 : Bw w wZ := B6.grown gZ B6.size (fun g_ e => by have := sO g_ e; omega);clear gZ V1 O2 hoZ;simp only [List.set_cons_zero, List.set_cons_succ];refine hK_ _ _ ⟨BarZ, ?_⟩;clear hK_ K_ hi;refine tw 10 6 vZ ?_;refine AR ?_;clear O ha0 ha1 ha2 ha3 hb0 hb1 hb2 hb3;go_wp2
        go_roundw
        case rel => exact ⟨k + 1, by omega, by go_num, by rw [hN.out]; exact hownZ, sZ, BarZ, BZ6⟩
        case measure => simp [intOf]; omega
       have dr : (h.ro == 2) = false := by simpa using ho
       have hN : Hid (G ++ Cf id T (k + 1) = GH) := by unfold Hid; rw [Ix hh.out ho, hHN.out]
       replace ho : Hid _ := ho;go_wp2
       go_roundw
       case rel => exact ⟨k + 1, by omega, by go_num, by rw [hN.out]; exact O, sO, hBar, B5⟩
       case measure => simp [intOf]; omega
      obtain rfl : k = T.length := by omega
      obtain ⟨Z, hZ⟩ : ∃ Z, G ++ Cf id T T.length = Z := ⟨_, rfl⟩;rw [hZ] at O sO hO3 ⊢;replace hO3 : Hid _ := hO3;clear hZ;go_upto_region 15 with fail
      clear cc_ n0 n1;have OT : AB AL 11 70 Y2.heap.size wr (.slice aT T.length cT) T := oT.keep fun g_ e => hBar.block g_ (oT.lt g_ e).2 (by have := (oT.lt g_ e).1; omega)
      have JJ : ∀ g_, (Value.slice adk (Z).length capk).ownBlock = some g_ → (Value.slice aT T.length cT).ownBlock ≠ some g_ := fun g_ e e2 => by have h1 := sO g_ e; have h2 := oT.lt g_ e2; omega
      have RP := R5.put id (.slice aT T.length cT);have S8 : w.heap.size + 1 + 1 < wr.heap.size := R5.lt;obtain ⟨⟨r0, r1⟩, rf⟩ := R5;have BZ := (B5.setCell (p := ⟨w.heap.size + 1 + 1, 0, none⟩) (by show _ ≤ w.heap.size + 1 + 1; omega) (ji id)).setCell (p := ⟨w.heap.size + 1 + 1, 1, none⟩) (by show _ ≤ w.heap.size + 1 + 1; omega) (.slice aT T.length cT);have OZ : AB AL 11 70 w.heap.size ((wr.setCell ⟨w.heap.size + 1 + 1, 0, none⟩ (ji id)).setCell ⟨w.heap.size + 1 + 1, 1, none⟩ (.slice aT T.length cT)) (.slice aT T.length cT) T := (OT.base (by omega)).keep fun g' e => by
       have := (OT.lt g' e).1;rw [AF (by show g' ≠ w.heap.size + 1 + 1; omega), AF (by show g' ≠ w.heap.size + 1 + 1; omega)]
      have OQ : AB Ag 8 77 w.heap.size ((wr.setCell ⟨w.heap.size + 1 + 1, 0, none⟩ (ji id)).setCell ⟨w.heap.size + 1 + 1, 1, none⟩ (.slice aT T.length cT)) (.slice adk (Z).length capk) (Z) := (O.base (by omega)).keep fun g' e => by
       have := (O.lt g' e).1;rw [AF (by show g' ≠ w.heap.size + 1 + 1; omega), AF (by show g' ≠ w.heap.size + 1 + 1; omega)]
      obtain ⟨⟨p0, p1⟩, _⟩ := RP;obtain ⟨n0, n1⟩ := P5;go_wp2
      refine bodyPost_ret (v := .tuple #[.agg #[ji id, .slice aT T.length cT], .slice adk (Z).length capk]) (by simp [results, results39, go_sem, *]) rfl ⟨aT, cT, adk, capk, by rw [hD2.out, hO3.out], by rw [hD2.out]; exact OZ, by rw [hO3.out]; exact OQ, by rw [hD2.out, hO3.out]; exact JJ, BZ⟩
    have dk : (x.k == 2) = false := by simpa using hk2
    have hO3 : Hid (OO = G) := by unfold Hid; rw [hO2.out, if_neg hk2, List.append_nil]
    have d0 : decide ((0 : Int) < (T.length : Int)) = true := decide_eq_true (by omega);have d0' : decide (0 < T.length) = true := decide_eq_true (by omega);replace hk2 : Hid _ := hk2;clear hO2;go_upto_region 10 with fail
    go_wp2
    refine wp_loop_rounds 1 ?_; rw [rounds_succ]
    go_upto_region 15 with fail
    clear cc_ n0 n1;have OT : AB AL 11 70 Y2.heap.size wr (.slice aT T.length cT) T := oT.keep fun g_ e => hBar.block g_ (oT.lt g_ e).2 (by have := (oT.lt g_ e).1; omega)
    have JJ : ∀ g_, (Value.slice adk (G).length capk).ownBlock = some g_ → (Value.slice aT T.length cT).ownBlock ≠ some g_ := fun g_ e e2 => by have h1 := sO g_ e; have h2 := oT.lt g_ e2; omega
    have RP := R5.put id (.slice aT T.length cT);have S8 : w.heap.size + 1 + 1 < wr.heap.size := R5.lt;obtain ⟨⟨r0, r1⟩, rf⟩ := R5;have BZ := (B5.setCell (p := ⟨w.heap.size + 1 + 1, 0, none⟩) (by show _ ≤ w.heap.size + 1 + 1; omega) (ji id)).setCell (p := ⟨w.heap.size + 1 + 1, 1, none⟩) (by show _ ≤ w.heap.size + 1 + 1; omega) (.slice aT T.length cT);have OZ : AB AL 11 70 w.heap.size ((wr.setCell ⟨w.heap.size + 1 + 1, 0, none⟩ (ji id)).setCell ⟨w.heap.size + 1 + 1, 1, none⟩ (.slice aT T.length cT)) (.slice aT T.length cT) T := (OT.base (by omega)).keep fun g' e => by
     have := (OT.lt g' e).1;rw [AF (by show g' ≠ w.heap.size + 1 + 1; omega), AF (by show g' ≠ w.heap.size + 1 + 1; omega)]
    have OQ : AB Ag 8 77 w.heap.size ((wr.setCell ⟨w.heap.size + 1 + 1, 0, none⟩ (ji id)).setCell ⟨w.heap.size + 1 + 1, 1, none⟩ (.slice aT T.length cT)) (.slice adk (G).length capk) (G) := (O.base (by omega)).keep fun g' e => by
     have := (O.lt g' e).1;rw [AF (by show g' ≠ w.heap.size + 1 + 1; omega), AF (by show g' ≠ w.heap.size + 1 + 1; omega)]
    obtain ⟨⟨p0, p1⟩, _⟩ := RP;obtain ⟨n0, n1⟩ := P5;go_wp2
    refine bodyPost_ret (v := .tuple #[.agg #[ji id, .slice aT T.length cT], .slice adk (G).length capk]) (by simp [results, results39, go_sem, *]) rfl ⟨aT, cT, adk, capk, by rw [hD2.out, hO3.out], by rw [hD2.out]; exact OZ, by rw [hO3.out]; exact OQ, by rw [hD2.out, hO3.out]; exact JJ, BZ⟩
theorem Ir {id : Int} {L : List Pt} (h : Bl id L = true) : L.length ≤ 4 := (DX h).2.1.2
theorem Gu (id : Int) (L : List Pt) (x : Ik) : (Cb id L x).length ≤ 8 := by
 unfold Cb;split
 ·
  rename_i h
  unfold DU at h;simp only [Bool.and_eq_true] at h;have h4 := Ir h.1;have h1 := F1 L (Dm id L x) L.length;have h2 := HD id (Dm id L x) L.length;rw [List.length_append];split
  ·
   omega
  simp; omega
 simp
attribute [local go_sem] ji ja
theorem AH.take {X : Type} {enc : X → List Value} {w : World} {ad : Option Addr} {L : List X} (h : AH enc w ad L) (k : Nat) : AH enc w ad (L.take k) := by
 intro hp;obtain ⟨b, off, e, hc⟩ := h (by rw [List.length_take] at hp; omega);refine ⟨b, off, e, fun j v hv => hc j v ?_⟩;rw [← List.take_append_drop k L, E1, List.getElem?_append_left (List.getElem?_eq_some_iff.1 hv).1];exact hv
def Dy (id n : Int) (X : List Ik) : List Pt := DE (BJ id n) (AX id n) X
theorem Gx (id n : Int) : (AX id n).length ≤ 4 := by
 unfold AX;split
 ·
  rename_i q
  unfold Aq at q;simp only [Bool.and_eq_true, decide_eq_true_eq] at q;rw [List.length_replicate];omega
 simp
theorem I5 (id n : Int) (X : List Ik) : (Dy id n X).length ≤ 4 := by
 unfold Dy; rw [HN]; exact Gx id n
theorem I3 {id n : Int} (X : List Ik) (h : Aq id n = false) : Dy id n X = [] ∧ BJ id n = 0 := by
 have e1 : BJ id n = 0 := by unfold BJ; rw [h]; rfl
 have e2 : AX id n = [] := by unfold AX; rw [h]; rfl
 refine ⟨?_, e1⟩;unfold Dy;rw [e1, e2];exact I6 X (by decide)
def Dw (id n : Int) (X : List Ik) (i : Int) : List Ou := Dn (BJ id n) (AX id n) X Ik.nil i
theorem Ib (id n : Int) (X : List Ik) (i : Int) : (Dw id n X i).length ≤ 8 := by
 unfold Dw Dn;split
 ·
  exact Gu _ _ _
 simp
theorem AU.put1 {w : World} {q : Nat} {id : Int} {v : Value} (h : AU w q id v) (id' : Int) (v' : Value) (k : Nat) (hk : k ≠ q) : ((w.setCell (ja q 0) (ji id')).setCell (ja q 1) v').heap[k]? = w.heap[k]? := by
 rw [AF hk, AF hk]
end Go.Proofs.YtjmnaeeknomiaaaGreat
namespace Go.Proofs.YtjmnaeeknomiaaaGreat
open Go.ChangeShapes Go.WideShapes Go.ChangeAt Go.RowKit
open Go.ChangeMaps (open_string shut_string)
set_option linter.unusedVariables false
set_option maxRecDepth 100000
set_option maxHeartbeats 32000000
set_option linter.unusedSimpArgs false
open Go.Proofs.Tryz
theorem Hx (id n : Int) (ad : Option Addr) (cap : Nat) (X : List Ik) (w : World) (hv : AH AO w ad X) (hl : X.length ≤ 1048576) :
  Calls prog 75 #[.int .i64 id, .int .i64 n, .slice ad X.length cap] w fun e w' => ∃ a c, e = .returned (.agg #[.int .i64 (BJ id n), .slice a (Dy id n X).length c]) ∧ AB AL 11 70 w.heap.size w' (.slice a (Dy id n X).length c) (Dy id n X) ∧ Below w.heap.size w w' := by
 have hB := hv.lt AT (by omega)
 obtain ⟨y, hy, B0⟩ := AI w (Obj.cells #[.int .i64 0, .slice none 0 0] 42)
 have A0 : AU y w.heap.size 0 (.slice none 0 0) := by rw [hy]; exact AU.new w _ _ _
 have S0 := A0.lt
 have hR : Dy id n X = DE (BJ id n) (AX id n) X := rfl
 have hNl := Gx id n
 have hno := fun h => I3 (id := id) (n := n) X h
 obtain ⟨I, hI⟩ : ∃ v, BJ id n = v := ⟨_, rfl⟩
 obtain ⟨N, hN⟩ : ∃ v, AX id n = v := ⟨_, rfl⟩
 obtain ⟨ok, hok⟩ : ∃ v, Aq id n = v := ⟨_, rfl⟩
 obtain ⟨D, hD⟩ : ∃ v, Dy id n X = v := ⟨_, rfl⟩
 rw [hI, hN, hD] at hR
 rw [hI, hD, hok] at hno
 rw [hN] at hNl
 rw [hI, hD]
 replace hR : Hid _ := hR
 replace hno : Hid _ := hno
 replace hI : Hid _ := hI
 replace hN : Hid _ := hN
 replace hok : Hid _ := hok
 clear hD
 go_enter func75, ntmps75
 go_wp2_with fail
 go_at_call 14
 rw [← hy]
 clear hy
 refine (FG id n y).mono ?_
 rintro e u1 ⟨a1, c1, rfl, O1, k1⟩
 rw [hN.out] at O1
 rw [hI.out, hN.out, hok.out]
 clear hI hN hok
 have B1 := AE B0 k1
 have A0 := A0.below k1 A0.lt
 have s1 := k1.size
 have lo1 := O1.lt
 clear k1 B0
 obtain ⟨u2, hu2, k2⟩ := AI u1 (Obj.cells #[.int .i64 I, .slice a1 N.length c1] 42)
 have P2 : AU u2 u1.heap.size I (.slice a1 N.length c1) := by rw [hu2]; exact AU.new u1 _ _ _
 have B2 := AE B1 k2
 have A0 := A0.below k2 A0.lt
 have O1 := O1.later k2
 have s2 := P2.lt
 go_upto_region 2 with fail
 rw [← hu2]
 clear hu2 k2 B1
 obtain ⟨p, hp⟩ := AC u1.heap.size
 rw [← hp] at P2 s1 s2 lo1 ⊢
 clear hp
 have lp : w.heap.size < p := by omega
 clear hno
 go_wp2
 go_loopw [9] (fun i wr => ∃ (k : Nat) (a : Option Addr) (c : Nat) (L : List Pt), k ≤ X.length ∧ i = .int .i64 k ∧ DE I N (X.take k) = L ∧ AU wr p I (.slice a L.length c) ∧ AB AL 11 70 w.heap.size wr (.slice a L.length c) L ∧ (∀ g, (Value.slice a L.length c).ownBlock = some g → g ≠ p ∧ g ≠ w.heap.size) ∧ AU wr w.heap.size 0 (.slice none 0 0) ∧ Below w.heap.size w wr) (fun i _ => X.length - (intOf i).toNat)
 case atStart => exact ⟨0, a1, c1, N, Nat.zero_le _, rfl, rfl, P2, O1.base (by omega), fun g e => by have := lo1 g e; omega, A0, B2⟩
 case round =>
  obtain ⟨k, a, c, L, hk, rfl, hL, P, O, hne, A, B⟩ := hrel
  have hLl : L.length ≤ 4 := by rw [← hL, HN]; exact hNl
  clear A0 P2 O1 B2 lo1
  by_cases hlt : k < X.length
  ·
   have hst := If I N X Ik.nil hlt
   rw [hL] at hst
   replace hL : Hid _ := hL
   obtain ⟨b, off, rfl, _⟩ := hv (by omega)
   obtain ⟨x, hh⟩ : ∃ x, X.getD k Ik.nil = x := ⟨_, rfl⟩
   rw [hh] at hst
   have hck : Bk wr b (off + k * 8) x := by
    rw [← hh]
    exact EA ((hv.below B hB).at_ AT Ik.nil hlt)
   have hcB : b < w.heap.size := hB ⟨b, off, none⟩ rfl (by omega)
   replace hst : Hid _ := hst
   clear hh
   have lp2 := P.lt
   have bs := B.size
   have ln := O.lt
   go_upto_region 5 with fail
   refine wp_region_held (S := fun Y => Below w.heap.size wr Y) (by kernel_rfl) ?_
   change wpAnyH _ _ _ _ _ _ _ _ (World.drew _)
   have hb0 : Below wr.heap.size wr wr.drew := (Below.refl _ _).drew
   obtain ⟨u, hy0'⟩ : ∃ y_, y_ = wr.drew := ⟨_, rfl⟩
   rw [← hy0'] at hb0 ⊢
   clear hy0'
   have hc0 : Below w.heap.size wr u := hb0.mono (by omega)
   refine tw 1 24 (.slice (some ⟨b, off, none⟩) X.length cap) ?_
   refine tw 2 25 (.int .i64 (k : Int)) ?_
   refine tw 3 26 (.pointer (some ⟨b, off + k * 8, none⟩)) ?_
   refine tw 4 27 (.agg #[.int .i64 x.k, .int .i64 x.q, .int .i64 x.r, .int .i64 x.c, .int .i64 x.b, .int .i64 x.p, .int .i64 x.h, .bool x.up]) ?_ (hy := by intro Y hSw; have X := (hck.below hSw hcB).all; go_simp)
   have P := P.below hb0 P.lt
   have A := A.below hb0 A.lt
   have O := O.later hb0
   have B3 := AE B hb0
   have su := hb0.size
   refine w1 0 fun Kz hKz => ?_
   have cc := P
   obtain ⟨⟨p0, p1⟩, pf⟩ := cc
   go_simp
   clear p0 p1 pf
   refine hKz _ _ ⟨hc0, ?_⟩
   clear hKz Kz
   refine w1 5 fun Kz hKz => ?_
   go_simp
   go_at_call 39
   refine (EU I a c L x u O.view.2 (by omega) O.capn).mono ?_
   rintro e w2 ⟨a2, c2, o2, d2, rfl, O2, _, _, k2⟩
   obtain ⟨M, hM⟩ : ∃ M, CR I L x = M := ⟨_, rfl⟩
   obtain ⟨OO, hOO⟩ : ∃ M, Cb I L x = M := ⟨_, rfl⟩
   rw [hM] at O2 ⊢
   rw [hOO]
   have hst2 : Hid (DE I N (X.take (k + 1)) = M) := by unfold Hid; rw [hst.out]; exact hM
   clear hM hOO hst
   have hc1 : Below w.heap.size wr w2 := hc0.trans (k2.mono (by omega))
   have P := P.below k2 P.lt
   have A := A.below k2 A.lt
   have B3 := AE B3 k2
   refine hKz _ _ ⟨hc1, ?_⟩
   clear hKz Kz
   refine tw 6 22 (.tuple #[.agg #[.int .i64 I, .slice a2 M.length c2], .slice o2 OO.length d2]) ?_
   refine tw 7 29 (.agg #[.int .i64 I, .slice a2 M.length c2]) ?_
   refine tw 8 30 (.slice o2 OO.length d2) ?_
   refine w1 9 fun Kz hKz => ?_
   have cc := P
   obtain ⟨⟨p0, p1⟩, pf⟩ := cc
   have g0 := pf 0
   have g1 := pf 1
   clear pf
   go_simp
   clear p0 p1 g0 g1
   have hc2 : Below w.heap.size wr ((w2.setCell ⟨p, 0, none⟩ (.int .i64 I)).setCell ⟨p, 1, none⟩ (.slice a2 M.length c2)) := (hc1.setCell (p := ⟨p, 0, none⟩) (by show _ ≤ p; omega) _).setCell (p := ⟨p, 1, none⟩) (by show _ ≤ p; omega) _
   refine hKz _ _ ⟨hc2, ?_⟩
   clear hKz Kz
   refine AR ?_
   have P9 := P.put I (.slice a2 M.length c2)
   have lo2 := O2.lt
   have O9 : AB AL 11 70 w.heap.size ((w2.setCell ⟨p, 0, none⟩ (.int .i64 I)).setCell ⟨p, 1, none⟩ (.slice a2 M.length c2)) (.slice a2 M.length c2) M := (O2.base (by omega)).keep (fun g e => P.put1 I _ g (by have := lo2 g e; omega))
   have A9 := A.keep (P.put1 I (.slice a2 M.length c2) w.heap.size (by omega))
   have B9 : Below w.heap.size w ((w2.setCell ⟨p, 0, none⟩ (.int .i64 I)).setCell ⟨p, 1, none⟩ (.slice a2 M.length c2)) := (B3.setCell (p := ⟨p, 0, none⟩) (by show _ ≤ p; omega) _).setCell (p := ⟨p, 1, none⟩) (by show _ ≤ p; omega) _
   have hne9 : ∀ g, (Value.slice a2 M.length c2).ownBlock = some g → g ≠ p ∧ g ≠ w.heap.size := fun g e => by have := lo2 g e; omega
   clear O O2 hne ln A k2 B3 lo2 P
   go_wp2
   go_roundw
   case rel => exact ⟨k + 1, a2, c2, M, by omega, by go_num, hst2.out, P9, O9, hne9, A9, B9⟩
   case measure => simp [intOf]; omega
  ·
   obtain rfl : k = X.length := by omega
   rw [List.take_length] at hL
   obtain rfl : D = L := hR.out.trans hL
   have O9 : AB AL 11 70 w.heap.size ((wr.setCell ⟨w.heap.size, 0, none⟩ (.int .i64 I)).setCell ⟨w.heap.size, 1, none⟩ (.slice a D.length c)) (.slice a D.length c) D := O.keep (fun g e => A.put1 I _ g (hne g e).2)
   have B9 : Below w.heap.size w ((wr.setCell ⟨w.heap.size, 0, none⟩ (.int .i64 I)).setCell ⟨w.heap.size, 1, none⟩ (.slice a D.length c)) := (B.setCell (p := ⟨w.heap.size, 0, none⟩) (Nat.le_refl _) _).setCell (p := ⟨w.heap.size, 1, none⟩) (Nat.le_refl _) _
   obtain ⟨⟨p0, p1⟩, pf⟩ := P
   obtain ⟨⟨z0, z1⟩, zf⟩ := A
   have g0 := zf 0
   have g1 := zf 1
   clear pf zf hne O B hL hR
   go_wp2
   refine bodyPost_ret (v := .agg #[.int .i64 I, .slice a D.length c]) (by simp [results, results75, go_sem, *]) rfl ⟨a, c, rfl, O9, B9⟩
attribute [local go_sem] ji ja ic
theorem Hv (id n : Int) (ad : Option Addr) (cap : Nat) (X : List Ik) (i : Int) (w : World) (hv : AH AO w ad X) (hl : X.length ≤ 1048576) (hcp : X.length ≤ cap) :
  Calls prog 198 #[ji id, ji n, .slice ad X.length cap, ji i] w fun e w' => ∃ a c, e = .returned (.slice a (Dw id n X i).length c) ∧ AB Ag 8 77 w.heap.size w' (.slice a (Dw id n X i).length c) (Dw id n X i) ∧ Bw w w' := by
 have hB := hv.lt AT (by omega);by_cases h0 : 0 ≤ i ∧ i ≤ (X.length : Int) - 1
 ·
  obtain ⟨k, rfl⟩ : ∃ k : Nat, i = (k : Int) := ⟨i.toNat, by omega⟩;have hk : k < X.length := by omega
  have d0 : decide (0 ≤ (k : Int) ∧ (k : Int) ≤ (X.length : Int) - 1) = true := decide_eq_true h0;obtain ⟨b, off, rfl, _⟩ := hv (by omega);obtain ⟨x, hh⟩ : ∃ x, X.getD k Ik.nil = x := ⟨_, rfl⟩;have hck : Bk w b (off + k * 8) x := by
   rw [← hh];exact EA (hv.at_ AT Ik.nil hk)
  have hcB : b < w.heap.size := hB (ja b off) rfl (by omega);have hvT := hv.take k;have hkl : (X.take k).length = k := by rw [List.length_take]; omega
  have hS : Dw id n X (k : Int) = Cb (BJ id n) (Dy id n (X.take k)) x := by unfold Dw; rw [Iz _ _ X Ik.nil hk, hh]; rfl
  have hMl := I5 id n (X.take k);obtain ⟨I, hI⟩ : ∃ v, BJ id n = v := ⟨_, rfl⟩;obtain ⟨M, hM⟩ : ∃ v, Dy id n (X.take k) = v := ⟨_, rfl⟩;obtain ⟨D, hD⟩ : ∃ v, Dw id n X (k : Int) = v := ⟨_, rfl⟩;rw [hI, hM, hD] at hS;rw [hM] at hMl;rw [hD];obtain ⟨N, hN⟩ : ∃ v, CR I M x = v := ⟨_, rfl⟩;replace hS := hS.symm;clear hh hD;replace hS : Hid _ := hS;replace hI : Hid _ := hI;replace hM : Hid _ := hM;replace hN : Hid _ := hN;replace hkl : Hid _ := hkl;go_enter func198, ntmps198
  go_wp2_with fail
  go_at_call 65
  refine (BK (k : Int) 0 ((X.length : Int) - 1) w).mono ?_;rintro e w_ ⟨rfl, hw_⟩;rw [d0, hw_];clear d0 h0 hw_;go_upto_region 3 with fail
  refine AV (fun Y => Bw w Y) fun u0 hb0 => ?_
  refine tw 0 19 (ji id) ?_;refine tw 1 20 (ji n) ?_;refine tw 2 21 (.slice (some (ja b off)) X.length cap) ?_;refine tw 3 22 (ji (k : Int)) ?_;refine tw 4 23 (.slice (some (ja b off)) k cap) ?_ (hy := by intro w hSw; go_simp; intro h_; omega);refine tw 6 25 (.slice (some (ja b off)) X.length cap) ?_;refine tw 7 26 (ji (k : Int)) ?_;refine tw 8 27 (.pointer (some ⟨b, off + k * 8, none⟩)) ?_;refine tw 9 28 (.agg (ic x)) ?_ (hy := by intro Y hSw; have X := (hck.below hSw hcB).all; go_simp);refine wpAnyH_all (rs := [5, 14]) (by kernel_rfl) (by simp) ?_;intro i hi; rcases (by simpa using hi : i = 5 ∨ i = 14) with rfl | rfl
  ·
   refine wpOp_step rfl (fun K hK => ?_);rw [if_pos (by kernel_rfl)];go_simp
   go_at_call 75
   refine (show Calls _ _ _ _ _ by have h_ := Hx id n (some (ja b off)) cap (X.take k) u0 (hvT.below hb0 (fun a e _ => by cases e; exact hcB)) (by rw [hkl.out]; omega); rw [hkl.out] at h_; exact h_).mono ?_;rintro e u1 ⟨a1, c1, rfl, O1, kq⟩;rw [hM.out] at O1 ⊢;rw [hI.out];have hb1 := AE hb0 kq;clear kq;refine hK _ _ ⟨hb1, ?_⟩;clear hK K hi;refine wpAnyH_all (rs := [10, 14]) (by kernel_rfl) (by simp) ?_;intro i hi; rcases (by simpa using hi : i = 10 ∨ i = 14) with rfl | rfl
   focus
    refine wpOp_step rfl (fun K hK => ?_);rw [if_pos (by kernel_rfl)];go_simp
    go_at_call 39
    refine (EU I a1 c1 M x u1 O1.view.2 (by omega) O1.capn).mono ?_;have bb : w.heap.size ≤ u1.heap.size := hb1.size;rintro e u2 ⟨a2, c2, o2, d2, rfl, O2, Q2, _, kq⟩;rw [hN.out] at O2 ⊢;rw [hS.out] at Q2 ⊢;have O1 := O1.later kq;have hb2 := AE hb1 kq;clear kq;refine hK _ _ ⟨hb2, ?_⟩;clear hK K hi;refine tw 11 18 (.tuple #[.agg #[ji I, .slice a2 N.length c2], .slice o2 D.length d2]) ?_;refine tw 12 30 (.agg #[ji I, .slice a2 N.length c2]) ?_;refine tw 13 31 (.slice o2 D.length d2) ?_;refine wpAnyH_all (rs := [14]) (by kernel_rfl) (by simp) ?_;intro i hi; obtain rfl : i = 14 := by simpa using hi
    refine wpOp_step rfl (fun K hK => ?_);rw [if_pos (by kernel_rfl)];go_simp
    obtain ⟨u3, hy, kq⟩ := AI u2 (Obj.cells #[ji 0, .slice none 0 0] 42);have jO1 : ∀ g_, (Value.slice a1 M.length c1).ownBlock = some g_ → g_ ≠ u2.heap.size := fun g_ e => by have h1 := (O1.lt g_ e).2; omega
    have jO2 : ∀ g_, (Value.slice a2 N.length c2).ownBlock = some g_ → g_ ≠ u2.heap.size := fun g_ e => by have h1 := (O2.lt g_ e).2; omega
    have jQ2 : ∀ g_, (Value.slice o2 D.length d2).ownBlock = some g_ → g_ ≠ u2.heap.size := fun g_ e => by have h1 := (Q2.lt g_ e).2; omega
    have O1 := O1.later kq;have O2 := O2.later kq;have Q2 := Q2.later kq;have FP : AU u3 u2.heap.size 0 (.slice none 0 0) := by rw [hy]; exact AU.new u2 _ _ _
    have pa : w.heap.size ≤ u2.heap.size := hb2.size;have hb3 := AE hb2 kq;rw [← hy];clear hy kq;refine hK _ _ ⟨hb3, ?_⟩;clear hK K hi;refine wpAnyH_all (rs := [15]) (by kernel_rfl) (by simp) ?_;intro i hi; obtain rfl : i = 15 := by simpa using hi
    refine wpOp_step rfl (fun K hK => ?_);rw [if_pos (by kernel_rfl)];have FQ := FP;obtain ⟨⟨t0, t1⟩, tf⟩ := FP;go_simp
    clear t0 t1 tf;obtain ⟨uf, huf⟩ := AC ((u3.setCell (ja u2.heap.size 0) (ji I)).setCell (ja u2.heap.size 1) (.slice a2 N.length c2));have FE : AU uf (u2.heap.size) I (.slice a2 N.length c2) := by rw [huf]; exact FQ.put _ _
    have hbf : Bw w uf := by rw [huf]; exact (hb3.setCell (p := (ja u2.heap.size 0)) pa _).setCell (p := (ja u2.heap.size 1)) pa _
    have O1 := O1.keep (w' := uf) (fun g_ e => by rw [huf, AF (by show g_ ≠ u2.heap.size; exact jO1 g_ e), AF (by show g_ ≠ u2.heap.size; exact jO1 g_ e)]);have O2 := O2.keep (w' := uf) (fun g_ e => by rw [huf, AF (by show g_ ≠ u2.heap.size; exact jO2 g_ e), AF (by show g_ ≠ u2.heap.size; exact jO2 g_ e)]);have Q2 := Q2.keep (w' := uf) (fun g_ e => by rw [huf, AF (by show g_ ≠ u2.heap.size; exact jQ2 g_ e), AF (by show g_ ≠ u2.heap.size; exact jQ2 g_ e)])
   rotate_left;focus
    refine wpOp_step rfl (fun K hK => ?_);rw [if_pos (by kernel_rfl)];go_simp
    obtain ⟨u2, hy, kq⟩ := AI u1 (Obj.cells #[ji 0, .slice none 0 0] 42);have jO1 : ∀ g_, (Value.slice a1 M.length c1).ownBlock = some g_ → g_ ≠ u1.heap.size := fun g_ e => by have h1 := (O1.lt g_ e).2; omega
    have O1 := O1.later kq;have FP : AU u2 u1.heap.size 0 (.slice none 0 0) := by rw [hy]; exact AU.new u1 _ _ _
    have pa : w.heap.size ≤ u1.heap.size := hb1.size;have hb2 := AE hb1 kq;rw [← hy];clear hy kq;refine hK _ _ ⟨hb2, ?_⟩;clear hK K hi;refine wpAnyH_all (rs := [10]) (by kernel_rfl) (by simp) ?_;intro i hi; obtain rfl : i = 10 := by simpa using hi
    refine wpOp_step rfl (fun K hK => ?_);rw [if_pos (by kernel_rfl)];go_simp
    go_at_call 39
    refine (EU I a1 c1 M x u2 O1.view.2 (by omega) O1.capn).mono ?_;have bb : w.heap.size ≤ u2.heap.size := hb2.size;rintro e u3 ⟨a2, c2, o2, d2, rfl, O2, Q2, _, kq⟩;rw [hN.out] at O2 ⊢;rw [hS.out] at Q2 ⊢;have jO2 : ∀ g_, (Value.slice a2 N.length c2).ownBlock = some g_ → g_ ≠ u1.heap.size := fun g_ e => by have h1 := (O2.lt g_ e).1; have h2 := FP.lt; omega
    have jQ2 : ∀ g_, (Value.slice o2 D.length d2).ownBlock = some g_ → g_ ≠ u1.heap.size := fun g_ e => by have h1 := (Q2.lt g_ e).1; have h2 := FP.lt; omega
    have O1 := O1.later kq;have FP := FP.below kq FP.lt;have hb3 := AE hb2 kq;clear kq;refine hK _ _ ⟨hb3, ?_⟩;clear hK K hi;refine tw 11 18 (.tuple #[.agg #[ji I, .slice a2 N.length c2], .slice o2 D.length d2]) ?_;refine tw 12 30 (.agg #[ji I, .slice a2 N.length c2]) ?_;refine tw 13 31 (.slice o2 D.length d2) ?_;refine wpAnyH_all (rs := [15]) (by kernel_rfl) (by simp) ?_;intro i hi; obtain rfl : i = 15 := by simpa using hi
    refine wpOp_step rfl (fun K hK => ?_);rw [if_pos (by kernel_rfl)];have FQ := FP;obtain ⟨⟨t0, t1⟩, tf⟩ := FP;go_simp
    clear t0 t1 tf;obtain ⟨uf, huf⟩ := AC ((u3.setCell (ja u1.heap.size 0) (ji I)).setCell (ja u1.heap.size 1) (.slice a2 N.length c2));have FE : AU uf (u1.heap.size) I (.slice a2 N.length c2) := by rw [huf]; exact FQ.put _ _
    have hbf : Bw w uf := by rw [huf]; exact (hb3.setCell (p := (ja u1.heap.size 0)) pa _).setCell (p := (ja u1.heap.size 1)) pa _
    have O1 := O1.keep (w' := uf) (fun g_ e => by rw [huf, AF (by show g_ ≠ u1.heap.size; exact jO1 g_ e), AF (by show g_ ≠ u1.heap.size; exact jO1 g_ e)]);have O2 := O2.keep (w' := uf) (fun g_ e => by rw [huf, AF (by show g_ ≠ u1.heap.size; exact jO2 g_ e), AF (by show g_ ≠ u1.heap.size; exact jO2 g_ e)]);have Q2 := Q2.keep (w' := uf) (fun g_ e => by rw [huf, AF (by show g_ ≠ u1.heap.size; exact jQ2 g_ e), AF (by show g_ ≠ u1.heap.size; exact jQ2 g_ e)])
   rotate_left;all_goals
    rw [← huf];clear huf FQ;refine hK _ _ ⟨hbf, ?_⟩;clear hK K hi;refine tw 16 10 (.slice o2 D.length d2) ?_;refine AR ?_;have QZ := Q2.base bb;go_wp2
    go_ret
    exact ⟨o2, d2, rfl, QZ, hbf⟩
  refine wpOp_step rfl (fun K hK => ?_);rw [if_pos (by kernel_rfl)];go_simp
  obtain ⟨u1, hy, kq⟩ := AI u0 (Obj.cells #[ji 0, .slice none 0 0] 42);have FP : AU u1 u0.heap.size 0 (.slice none 0 0) := by rw [hy]; exact AU.new u0 _ _ _
  have pa : w.heap.size ≤ u0.heap.size := hb0.size;have hb1 := AE hb0 kq;rw [← hy];clear hy kq;refine hK _ _ ⟨hb1, ?_⟩;clear hK K hi;refine wpAnyH_all (rs := [5]) (by kernel_rfl) (by simp) ?_;intro i hi; obtain rfl : i = 5 := by simpa using hi
  refine wpOp_step rfl (fun K hK => ?_);rw [if_pos (by kernel_rfl)];go_simp
  go_at_call 75
  refine (show Calls _ _ _ _ _ by have h_ := Hx id n (some (ja b off)) cap (X.take k) u1 (hvT.below hb1 (fun a e _ => by cases e; exact hcB)) (by rw [hkl.out]; omega); rw [hkl.out] at h_; exact h_).mono ?_;rintro e u2 ⟨a1, c1, rfl, O1, kq⟩;rw [hM.out] at O1 ⊢;rw [hI.out];have jO1 : ∀ g_, (Value.slice a1 M.length c1).ownBlock = some g_ → g_ ≠ u0.heap.size := fun g_ e => by have h1 := (O1.lt g_ e).1; have h2 := FP.lt; omega
  have FP := FP.below kq FP.lt;have hb2 := AE hb1 kq;clear kq;refine hK _ _ ⟨hb2, ?_⟩;clear hK K hi;refine wpAnyH_all (rs := [10]) (by kernel_rfl) (by simp) ?_;intro i hi; obtain rfl : i = 10 := by simpa using hi
  refine wpOp_step rfl (fun K hK => ?_);rw [if_pos (by kernel_rfl)];go_simp
  go_at_call 39
  refine (EU I a1 c1 M x u2 O1.view.2 (by omega) O1.capn).mono ?_;have bb : w.heap.size ≤ u2.heap.size := hb2.size;rintro e u3 ⟨a2, c2, o2, d2, rfl, O2, Q2, _, kq⟩;rw [hN.out] at O2 ⊢;rw [hS.out] at Q2 ⊢;have jO2 : ∀ g_, (Value.slice a2 N.length c2).ownBlock = some g_ → g_ ≠ u0.heap.size := fun g_ e => by have h1 := (O2.lt g_ e).1; have h2 := FP.lt; omega
  have jQ2 : ∀ g_, (Value.slice o2 D.length d2).ownBlock = some g_ → g_ ≠ u0.heap.size := fun g_ e => by have h1 := (Q2.lt g_ e).1; have h2 := FP.lt; omega
  have O1 := O1.later kq;have FP := FP.below kq FP.lt;have hb3 := AE hb2 kq;clear kq;refine hK _ _ ⟨hb3, ?_⟩;clear hK K hi;refine tw 11 18 (.tuple #[.agg #[ji I, .slice a2 N.length c2], .slice o2 D.length d2]) ?_;refine tw 12 30 (.agg #[ji I, .slice a2 N.length c2]) ?_;refine tw 13 31 (.slice o2 D.length d2) ?_;refine wpAnyH_all (rs := [15]) (by kernel_rfl) (by simp) ?_;intro i hi; obtain rfl : i = 15 := by simpa using hi
  refine wpOp_step rfl (fun K hK => ?_);rw [if_pos (by kernel_rfl)];have FQ := FP;obtain ⟨⟨t0, t1⟩, tf⟩ := FP;go_simp
  clear t0 t1 tf;obtain ⟨uf, huf⟩ := AC ((u3.setCell (ja u0.heap.size 0) (ji I)).setCell (ja u0.heap.size 1) (.slice a2 N.length c2));have FE : AU uf (u0.heap.size) I (.slice a2 N.length c2) := by rw [huf]; exact FQ.put _ _
  have hbf : Bw w uf := by rw [huf]; exact (hb3.setCell (p := (ja u0.heap.size 0)) pa _).setCell (p := (ja u0.heap.size 1)) pa _
  have O1 := O1.keep (w' := uf) (fun g_ e => by rw [huf, AF (by show g_ ≠ u0.heap.size; exact jO1 g_ e), AF (by show g_ ≠ u0.heap.size; exact jO1 g_ e)]);have O2 := O2.keep (w' := uf) (fun g_ e => by rw [huf, AF (by show g_ ≠ u0.heap.size; exact jO2 g_ e), AF (by show g_ ≠ u0.heap.size; exact jO2 g_ e)]);have Q2 := Q2.keep (w' := uf) (fun g_ e => by rw [huf, AF (by show g_ ≠ u0.heap.size; exact jQ2 g_ e), AF (by show g_ ≠ u0.heap.size; exact jQ2 g_ e)]);rw [← huf];clear huf FQ;refine hK _ _ ⟨hbf, ?_⟩;clear hK K hi;refine tw 16 10 (.slice o2 D.length d2) ?_;refine AR ?_;have QZ := Q2.base bb;go_wp2
  go_ret
  exact ⟨o2, d2, rfl, QZ, hbf⟩
 have d0 : decide (0 ≤ i ∧ i ≤ (X.length : Int) - 1) = false := decide_eq_false h0;have hD : Dw id n X i = [] := by unfold Dw Dn; rw [if_neg (by omega)]
 rw [hD];clear hD;have O0 : AB Ag 8 77 w.heap.size (w.alloc (Obj.cells #[] 77)) (.slice (some (ja w.heap.size 0)) 0 0) ([] : List Ou) := AB.empty w;have B0 := Ae (w := w) (Obj.cells #[] 77);go_enter func198, ntmps198
 go_wp2_with fail
 go_at_call 65
 refine (BK i 0 ((X.length : Int) - 1) w).mono ?_;rintro e w_ ⟨rfl, hw_⟩;rw [d0, hw_];clear d0 h0 hw_;go_wp2
 go_ret
 exact ⟨_, _, rfl, O0, B0⟩
end Go.Proofs.YtjmnaeeknomiaaaGreat
