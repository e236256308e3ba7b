import Derived.Test.YtjmnaeeknomiaaaGreatDoorRKWBr8s
import Derived.Test.YtjmnaeeknomiaaaGreatDoorRM3
namespace Go.Proofs.YtjmnaeeknomiaaaGreatDoor
open Go.ChangeShapes Go.WideShapes Go.ChangeAt Go.RowKit
open Go.ChangeMaps (open_string shut_string)
set_option linter.unusedVariables false
set_option maxRecDepth 100000
set_option maxHeartbeats 32000000
set_option linter.unusedSimpArgs false
open Go.Proofs.Tryz
theorem JC {X : Type} {mk : Nat → X} {L : List X} {k : Nat} (d : X) (h : k < L.length) : (Bk mk L k).getD k d = L.getD k d := by
 unfold Bk;rw [List.getD_eq_getElem?_getD, List.getElem?_append_right (by simp), List.getD_eq_getElem?_getD];simp
theorem Lj (id : Int) (cap : Nat) (L : List Pt)  (base g : Nat) (w : World) (hr : AA AK 11 47 base w (.slice (some (ja g 0)) L.length cap) L) (hl : L.length ≤ 4) (hb : Az id L = true) :
  Calls prog 93 #[.agg #[ji id, .slice (some (ja g 0)) L.length cap], .agg #[ji 2, ji 0, ji 0, ji 0, ji 0, ji 0, ji 0, .bool false]] w fun e w' => ∃ ad' cap', e = .returned (.agg #[ji id, .slice ad' (BQ id (L.map CF)).length cap']) ∧ AA AK 11 47 base w' (.slice ad' (BQ id (L.map CF)).length cap') (BQ id (L.map CF)) ∧ (∀ g_, (Value.slice ad' (BQ id (L.map CF)).length cap').ownBlock = some g_ → g_ = g ∨ w.heap.size ≤ g_) ∧ AU g w.heap.size w w' ∧ Below base w w' := by
 have hgb := hr.lt g rfl;obtain ⟨y, hy⟩ := AC (((w.alloc (Obj.cells #[ji id, .slice (some (ja g 0)) L.length cap] 51)).alloc (Obj.cells #[ji 2, ji 0, ji 0, ji 0, ji 0, ji 0, ji 0, .bool false] 27)).alloc (Obj.cells #[ji 0, .slice none 0 0] 51));have B0 : Bw w y := by rw [hy]; exact (((Below.refl _ _).alloc (Nat.le_refl _) _).alloc (by simp) _).alloc (by simp; omega) _
 have A0 : Ap y w.heap.size id (.slice (some (ja g 0)) L.length cap) := by rw [hy]; constructor <;> simp [go_sem]
 have X0 : Bh y (w.heap.size + 1) ⟨2, 0, 0, 0, 0, 0, 0, false⟩ := by rw [hy]; constructor <;> simp [go_sem]
 have R0 : AR y (w.heap.size + 1 + 1) 0 (.slice none 0 0) := by rw [hy]; refine ⟨?_, fun i => ?_⟩; constructor <;> simp [go_sem]; simp [go_sem]
 have S0 := R0.lt;have o0 := hr.later B0;have C0 : Below base w y := B0.mono (by omega);obtain ⟨D, hD⟩ := AC (BQ id (L.map CF));rw [← hD];replace hD : Hid _ := hD;obtain ⟨hg1, hg2⟩ := hgb;clear hr;go_enter func93, ntmps93
 have hlen := (DJ hb).2.1;replace hb : Hid _ := hb;obtain ⟨f, hf⟩ : ∃ f : Nat → Pt, f = fun i => CF (L.getD i Pt.nil) := ⟨_, rfl⟩
 have hfk : ∀ i, CF (L.getD i Pt.nil) = f i := fun i => by rw [hf]
 have hfm : Hid ((List.range L.length).map f = L.map CF) := by
  unfold Hid;rw [hf];apply List.ext_getElem (by simp)
  intro i h1 h2;simp [List.getD, (by simpa using h1 : i < L.length)]
 clear hf;replace hfk : Hid _ := hfk;have M0 : AA AK 11 47 base y (.slice (some (ja g 0)) L.length cap) (Bk f L 0) := by rw [HM]; exact o0
 clear o0;go_upto_region 5 with fail
 rw [← hy];clear hy;go_wp2
 go_loopw [5] (fun i wr => ∃ k : Nat, k ≤ L.length ∧ i = .int .i64 (k : Int) ∧ AA AK 11 47 base wr (.slice (some ⟨g, 0, none⟩) L.length cap) (Bk f L k) ∧ AU g y.heap.size y wr ∧ Below base w wr) (fun i _ => L.length - (intOf i).toNat)
 case atStart => exact ⟨0, Nat.zero_le _, rfl, M0, AU.of (Below.refl _ _), C0⟩
 case round =>
  obtain ⟨k, hk, rfl, M, hBar, C4⟩ := hrel;have A4 := A0.bar hBar A0.lt (by omega);have R4 := R0.keep (hBar.block _ R0.lt (by omega));have z4 := hBar.size;have A4' := A4;obtain ⟨a0, a1⟩ := A4';by_cases hlt : k < L.length
  ·
   have hml : (Bk f L k).length = L.length := F5 hk;have M' := M;rw [← hml] at M';obtain ⟨hp, hhp⟩ : ∃ v, L.getD k Pt.nil = v := ⟨_, rfl⟩;have hok : Hid (Ae hp = true) := by unfold Hid; rw [← hhp]; exact (DJ hb.out).2.2 k
   obtain ⟨z, hz⟩ := AC (f k);have hz2 : Hid (CF hp = z) := by unfold Hid; rw [hz, ← hhp]; exact hfk.out k
   replace hz : Hid _ := hz;have hck : CA wr g (k * 11) hp := by rw [← hhp, ← JC (mk := f) Pt.nil hlt]; exact CP (M'.cell AV Pt.nil (by rw [hml]; exact hlt))
   replace hhp : Hid _ := hhp;replace hml : Hid _ := hml;clear M';go_upto_region 8 with fail
   clear a0 a1;refine An (fun Y => AU g wr.heap.size wr Y) fun u0 hb0 => ?_
   have hS0 : AU g wr.heap.size wr u0 := AU.of hb0;refine tw 0 35 (.pointer (some (ja w.heap.size 1))) ?_;refine tw 1 36 (.slice (some (ja g 0)) L.length cap) ?_ (hy := by intro Y hSw; obtain ⟨X0_, X1_⟩ := A4.bar hSw A4.lt (by omega); go_simp);refine tw 2 37 (ji (k : Int)) ?_;refine tw 3 38 (.pointer (some (ja w.heap.size 1))) ?_;refine tw 4 39 (.slice (some (ja g 0)) L.length cap) ?_ (hy := by intro Y hSw; obtain ⟨X0_, X1_⟩ := A4.bar hSw A4.lt (by omega); go_simp);refine tw 5 40 (ji (k : Int)) ?_;refine tw 6 41 (.pointer (some ⟨g, k * 11, none⟩)) ?_ (hy := by intro Y hSw; go_simp; try omega);refine wpAnyH_all (rs := [7]) (by kernel_rfl) (by simp) ?_;intro i hi; obtain rfl : i = 7 := by simpa using hi
   refine wpOp_step rfl (fun K hK => ?_);rw [if_pos (by kernel_rfl)];obtain ⟨t0, t1, t2, t3, t4, t5, t6, t7, t8, t9, t10⟩ : CA u0 g (k * 11) hp := ⟨(World.cell?_of_block (a := ⟨g, k * 11, none⟩) (hb0.block g (by omega))).trans hck.c0, (World.cell?_of_block (a := ⟨g, k * 11 + 1, none⟩) (hb0.block g (by omega))).trans hck.c1, (World.cell?_of_block (a := ⟨g, k * 11 + 2, none⟩) (hb0.block g (by omega))).trans hck.c2, (World.cell?_of_block (a := ⟨g, k * 11 + 3, none⟩) (hb0.block g (by omega))).trans hck.c3, (World.cell?_of_block (a := ⟨g, k * 11 + 4, none⟩) (hb0.block g (by omega))).trans hck.c4, (World.cell?_of_block (a := ⟨g, k * 11 + 5, none⟩) (hb0.block g (by omega))).trans hck.c5, (World.cell?_of_block (a := ⟨g, k * 11 + 6, none⟩) (hb0.block g (by omega))).trans hck.c6, (World.cell?_of_block (a := ⟨g, k * 11 + 7, none⟩) (hb0.block g (by omega))).trans hck.c7, (World.cell?_of_block (a := ⟨g, k * 11 + 8, none⟩) (hb0.block g (by omega))).trans hck.c8, (World.cell?_of_block (a := ⟨g, k * 11 + 9, none⟩) (hb0.block g (by omega))).trans hck.c9, (World.cell?_of_block (a := ⟨g, k * 11 + 10, none⟩) (hb0.block g (by omega))).trans hck.c10⟩;go_simp
   clear t0 t1 t2 t3 t4 t5 t6 t7 t8 t9 t10;refine hK _ _ ⟨hS0, ?_⟩;clear hK K hi;refine wpAnyH_all (rs := [8]) (by kernel_rfl) (by simp) ?_;intro i hi; obtain rfl : i = 8 := by simpa using hi
   refine wpOp_step rfl (fun K hK => ?_);rw [if_pos (by kernel_rfl)];go_simp
   go_at_call 114
   refine (KK hp u0 hok.out).mono ?_;rintro e u1 ⟨rfl, kq⟩;have hb1 := AG hb0 kq;clear kq;rw [hz2.out];have hS1 : AU g wr.heap.size wr u1 := AU.of hb1;refine hK _ _ ⟨AU.of hb1, ?_⟩;clear hK K hi;refine tw 9 44 (.pointer (some ⟨g, k * 11, none⟩)) ?_ (hy := by intro Y hSw; go_simp; try omega);refine wpAnyH_all (rs := [10]) (by kernel_rfl) (by simp) ?_;intro i hi; obtain rfl : i = 10 := by simpa using hi
   refine wpOp_step rfl (fun K hK => ?_);rw [if_pos (by kernel_rfl)];have MU : AA AK 11 47 base u1 (.slice (some (ja g 0)) L.length cap) (Bk f L k) := M.later hb1;rw [← hml.out] at MU;obtain ⟨t0, t1, t2, t3, t4, t5, t6, t7, t8, t9, t10⟩ : CA u1 g (k * 11) ((Bk f L k).getD k Pt.nil) := CP (MU.cell AV Pt.nil (by rw [hml.out]; exact hlt));have ff := MU.frozen;have f0 := ff (k * 11);have f1 := ff (k * 11 + 1);have f2 := ff (k * 11 + 2);have f3 := ff (k * 11 + 3);have f4 := ff (k * 11 + 4);have f5 := ff (k * 11 + 5);have f6 := ff (k * 11 + 6);have f7 := ff (k * 11 + 7);have f8 := ff (k * 11 + 8);have f9 := ff (k * 11 + 9);have f10 := ff (k * 11 + 10);have MS := MU.set AV (by omega) (i := k) (by rw [hml.out]; exact hlt) z;rw [hz.out, F1 hlt, Ca, hml.out, ← hz.out] at MS;have SB := AU.putAll (o := k * 11) (AK z) (AU.of (g := g) hb1);rw [Ca] at SB;have BB := Dp (B := base) hg1 (AK z) (k * 11) (C4.trans (hb1.mono (by omega)));rw [Ca] at BB;clear ff MU;obtain ⟨uf, huf⟩ := AC (((((((((((u1.setCell ⟨g, k * 11, none⟩ (.bool z.up)).setCell ⟨g, k * 11 + 1, none⟩ (.bool z.has)).setCell ⟨g, k * 11 + 2, none⟩ (ji z.r)).setCell ⟨g, k * 11 + 3, none⟩ (ji z.c)).setCell ⟨g, k * 11 + 4, none⟩ (ji z.b)).setCell ⟨g, k * 11 + 5, none⟩ (ji z.p)).setCell ⟨g, k * 11 + 6, none⟩ (ji z.h)).setCell ⟨g, k * 11 + 7, none⟩ (ji z.l)).setCell ⟨g, k * 11 + 8, none⟩ (ji z.ro)).setCell ⟨g, k * 11 + 9, none⟩ (ji z.wa)).setCell ⟨g, k * 11 + 10, none⟩ (.bool z.op));rw [← huf] at MS SB BB;go_simp
   rw [← huf];clear huf t0 f0 t1 f1 t2 f2 t3 f3 t4 f4 t5 f5 t6 f6 t7 f7 t8 f8 t9 f9 t10 f10;refine hK _ _ ⟨SB, ?_⟩;clear hK K hi;refine Ag ?_;have hBar2 : AU g y.heap.size y uf := ⟨Nat.le_trans hBar.size SB.size, fun q hq hne => (SB.block q (by omega) hne).trans (hBar.block q hq hne)⟩;go_wp2
   go_roundw
   case rel => exact ⟨k + 1, by omega, by go_num, MS, hBar2, BB⟩
   case measure => simp [intOf]; omega
  obtain rfl : k = L.length := by omega
  clear a0 a1;have ac := A4;rw [HY, hfm.out] at M;obtain ⟨Mv, hMv⟩ := AC (L.map CF);rw [← hMv] at M;have hMl : Mv.length = L.length := by rw [hMv]; simp
  have hDM : Hid (D = BQ id Mv) := by unfold Hid; rw [hD.out, hMv]
  replace hMl : Hid _ := hMl;clear hMv;have hdc := GG id (some (ja g 0)) cap Mv wr (by have := M; unfold AA at this; exact (show AA AK 11 47 base wr (.slice (some (ja g 0)) L.length cap) Mv from this).view.2) (by rw [hMl.out]; omega) (fun e => by cases e);rw [hMl.out] at hdc;obtain ⟨a0, a1⟩ := ac;go_wp2_with fail
  go_at_call 115
  clear a0 a1;refine hdc.mono ?_;rintro e w9 ⟨aD, cD, rfl, oD, k9⟩;clear hdc;rw [← hDM.out] at oD ⊢;have z9 := C4.size;have S9 : w.heap.size + 1 + 1 < wr.heap.size := R4.lt;have RX := R4.below k9 R4.lt;have BX := C4.trans (k9.mono (by omega));have RP := RX.put id (.slice aD D.length cD);obtain ⟨⟨r0, r1⟩, rf⟩ := RX;have BZ := (BX.setCell (p := ⟨w.heap.size + 1 + 1, 0, none⟩) (by show base ≤ w.heap.size + 1 + 1; omega) (ji id)).setCell (p := ⟨w.heap.size + 1 + 1, 1, none⟩) (by show base ≤ w.heap.size + 1 + 1; omega) (.slice aD D.length cD);have OZ : AA AK 11 47 base ((w9.setCell ⟨w.heap.size + 1 + 1, 0, none⟩ (ji id)).setCell ⟨w.heap.size + 1 + 1, 1, none⟩ (.slice aD D.length cD)) (.slice aD D.length cD) D := (oD.base (by omega)).keep fun g' e => by
   have := (oD.lt g' e).1;rw [AE (by show g' ≠ w.heap.size + 1 + 1; omega), AE (by show g' ≠ w.heap.size + 1 + 1; omega)]
  have b0z := B0.size;have sbz := hBar.size;have WZ : AU g w.heap.size w ((w9.setCell ⟨w.heap.size + 1 + 1, 0, none⟩ (ji id)).setCell ⟨w.heap.size + 1 + 1, 1, none⟩ (.slice aD D.length cD)) := ⟨BZ.size, fun q hq hne => by
   rw [AE (by show q ≠ w.heap.size + 1 + 1; omega), AE (by show q ≠ w.heap.size + 1 + 1; omega)];exact (k9.block q (by omega)).trans ((hBar.block q (by omega) hne).trans (B0.block q hq))⟩
  have JZ : ∀ g_, (Value.slice aD D.length cD).ownBlock = some g_ → g_ = g ∨ w.heap.size ≤ g_ := fun g_ e => .inr (by have := (oD.lt g_ e).1; omega)
  obtain ⟨⟨p0, p1⟩, _⟩ := RP;go_wp2
  refine bodyPost_ret (v := .agg #[ji id, .slice aD D.length cD]) (by simp [results, results93, go_sem, *]) rfl ⟨_, _, rfl, OZ, JZ, WZ, BZ⟩
end Go.Proofs.YtjmnaeeknomiaaaGreatDoor
