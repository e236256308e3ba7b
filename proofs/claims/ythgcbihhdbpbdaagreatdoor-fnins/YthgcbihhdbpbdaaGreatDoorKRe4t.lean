/- spec.l8In: a tick, walked. -/
import Derived.Test.YthgcbihhdbpbdaaGreatDoorRows
import Derived.WalkKit
import Derived.ProofKit
import Derived.OpenShut
import Derived.ShutString
import Derived.ChangeOld
import Derived.Below
import Derived.Deep.QuietTactic
import Derived.BigQuiet
import Derived.WalkSmall
import Derived.Laws.OwnMore
import Derived.WalkSpells
import Derived.WalkLawsBesides
import Derived.Deep.Cut
import Derived.Test.YthgcbihhdbpbdaaGreatDoorM14
import Derived.Test.YthgcbihhdbpbdaaGreatDoorKBr8s
import Derived.Test.YthgcbihhdbpbdaaGreatDoorKIn3s
namespace Go.Proofs.YthgcbihhdbpbdaaGreatDoor
open Go.ChangeShapes Go.WideShapes Go.ChangeAt Go.RowKit
open Go.ChangeMaps (open_string shut_string)
set_option linter.unusedVariables false
set_option maxRecDepth 100000

theorem markd_getD {X : Type} {mk : Nat → X} {L : List X} {k : Nat} (d : X) (h : k < L.length) : (markd mk L k).getD k d = L.getD k d := by
  unfold markd
  rw [List.getD_eq_getElem?_getD, List.getElem?_append_right (by simp), List.getD_eq_getElem?_getD]
  simp
set_option maxHeartbeats 8000000 in
theorem inST (id : Int) (cap : Nat) (L : List Pt)  (base g : Nat) (w : World) (hr : FOwn ptEnc 11 47 base w (.slice (some ⟨g, 0, none⟩) L.length cap) L) (hl : L.length ≤ 4) (hb : bOk id L = true) :
    Calls Tryz.prog 93 #[.agg #[.int .i64 id, .slice (some ⟨g, 0, none⟩) L.length cap], .agg #[.int .i64 2, .int .i64 0, .int .i64 0, .int .i64 0, .int .i64 0, .int .i64 0, .int .i64 0, .bool false]] w fun e w' => ∃ ad' cap', e = .returned (.agg #[.int .i64 id, .slice ad' (decideR id (L.map tickP)).length cap']) ∧ FOwn ptEnc 11 47 base w' (.slice ad' (decideR id (L.map tickP)).length cap') (decideR id (L.map tickP)) ∧ (∀ g_, (Value.slice ad' (decideR id (L.map tickP)).length cap').ownBlock = some g_ → g_ = g ∨ w.heap.size ≤ g_) ∧ Bar g w.heap.size w w' ∧ Below base w w' := by
  have hgb := hr.lt g rfl
  obtain ⟨y, hy⟩ : ∃ y, y = ((w.alloc (Obj.cells #[.int .i64 id, .slice (some ⟨g, 0, none⟩) L.length cap] 51)).alloc (Obj.cells #[.int .i64 2, .int .i64 0, .int .i64 0, .int .i64 0, .int .i64 0, .int .i64 0, .int .i64 0, .bool false] 27)).alloc (Obj.cells #[.int .i64 0, .slice none 0 0] 51) := ⟨_, rfl⟩
  have B0 : Below w.heap.size w y := by rw [hy]; exact (((Below.refl _ _).alloc (Nat.le_refl _) _).alloc (by simp) _).alloc (by simp; omega) _
  have A0 : BrAt y w.heap.size id (.slice (some ⟨g, 0, none⟩) L.length cap) := by rw [hy]; constructor <;> simp [go_sem]
  have X0 : InAt y (w.heap.size + 1) ⟨2, 0, 0, 0, 0, 0, 0, false⟩ := by rw [hy]; constructor <;> simp [go_sem]
  have R0 : BBox y (w.heap.size + 1 + 1) 0 (.slice none 0 0) := by rw [hy]; refine ⟨?_, fun i => ?_⟩; constructor <;> simp [go_sem]; simp [go_sem]
  have S0 := R0.lt
  have o0 := hr.later B0
  have C0 : Below base w y := B0.mono (by omega)
  obtain ⟨D, hD⟩ : ∃ D, D = decideR id (L.map tickP) := ⟨_, rfl⟩
  rw [← hD]
  replace hD : Hid _ := hD
  obtain ⟨hg1, hg2⟩ := hgb
  clear hr
  go_enter Tryz.func93, Tryz.ntmps93
  have hlen := (bOk_all hb).2.1
  replace hb : Hid _ := hb
  obtain ⟨f, hf⟩ : ∃ f : Nat → Pt, f = fun i => tickP (L.getD i Pt.nil) := ⟨_, rfl⟩
  have hfk : ∀ i, tickP (L.getD i Pt.nil) = f i := fun i => by rw [hf]
  have hfm : Hid ((List.range L.length).map f = L.map tickP) := by
    unfold Hid
    rw [hf]
    apply List.ext_getElem (by simp)
    intro i h1 h2
    simp [List.getD, (by simpa using h1 : i < L.length)]
  clear hf
  replace hfk : Hid _ := hfk
  have M0 : FOwn ptEnc 11 47 base y (.slice (some ⟨g, 0, none⟩) L.length cap) (markd f L 0) := by rw [markd_zero]; exact o0
  clear o0
  go_upto_region 5 with fail
  rw [← hy]
  clear hy
  go_wp2
  go_loopw [5] (fun i wr => ∃ k : Nat, k ≤ L.length ∧ i = .int .i64 (k : Int) ∧ FOwn ptEnc 11 47 base wr (.slice (some ⟨g, 0, none⟩) L.length cap) (markd f L k) ∧ Bar g y.heap.size y wr ∧ Below base w wr) (fun i _ => L.length - (intOf i).toNat)
  case atStart => exact ⟨0, Nat.zero_le _, rfl, M0, Bar.of (Below.refl _ _), C0⟩
  case round =>
    obtain ⟨k, hk, rfl, M, hBar, C4⟩ := hrel
    have A4 := A0.bar hBar A0.lt (by omega)
    have R4 := R0.keep (hBar.block _ R0.lt (by omega))
    have z4 := hBar.size
    have A4' := A4
    obtain ⟨a0, a1⟩ := A4'
    by_cases hlt : k < L.length
    · have hml : (markd f L k).length = L.length := markd_len hk
      have M' := M
      rw [← hml] at M'
      obtain ⟨hp, hhp⟩ : ∃ v, L.getD k Pt.nil = v := ⟨_, rfl⟩
      have hok : Hid (pOk hp = true) := by unfold Hid; rw [← hhp]; exact (bOk_all hb.out).2.2 k
      obtain ⟨z, hz⟩ : ∃ z, z = f k := ⟨_, rfl⟩
      have hz2 : Hid (tickP hp = z) := by unfold Hid; rw [hz, ← hhp]; exact hfk.out k
      replace hz : Hid _ := hz
      have hck : PtAtO wr g (k * 11) hp := by rw [← hhp, ← markd_getD (mk := f) Pt.nil hlt]; exact ptAtO_of (M'.cell ptEnc_len Pt.nil (by rw [hml]; exact hlt))
      replace hhp : Hid _ := hhp
      replace hml : Hid _ := hml
      clear M'
      go_upto_region 8 with fail
      clear a0 a1
      refine wp_region_held (S := fun Y => Bar g wr.heap.size wr Y) (by kernel_rfl) ?_
      change wpAnyH _ _ _ _ _ _ _ _ (World.drew _)
      have hb0 : Below wr.heap.size wr wr.drew := (Below.refl _ _).drew
      obtain ⟨u0, hy0⟩ : ∃ y_, y_ = wr.drew := ⟨_, rfl⟩
      rw [← hy0] at hb0 ⊢
      clear hy0
      have hS0 : Bar g wr.heap.size wr u0 := Bar.of hb0
      refine takeW 0 35 (.pointer (some ⟨w.heap.size, 1, none⟩)) rfl rfl (by kernel_rfl) (by kernel_rfl) (by kernel_rfl) (fun _ _ _ h => h) (by kernel_rfl) (by (intro w hSw; go_simp)) (by assumption) ?_
      simp only [List.set_cons_zero, List.set_cons_succ]
      refine takeW 1 36 (.slice (some ⟨g, 0, none⟩) L.length cap) rfl rfl (by kernel_rfl) (by kernel_rfl) (by kernel_rfl) (fun _ _ _ h => h) (by kernel_rfl) (by (intro Y hSw; obtain ⟨X0_, X1_⟩ := A4.bar hSw A4.lt (by omega); go_simp)) (by assumption) ?_
      simp only [List.set_cons_zero, List.set_cons_succ]
      refine takeW 2 37 (.int .i64 (k : Int)) rfl rfl (by kernel_rfl) (by kernel_rfl) (by kernel_rfl) (fun _ _ _ h => h) (by kernel_rfl) (by (intro w hSw; go_simp)) (by assumption) ?_
      simp only [List.set_cons_zero, List.set_cons_succ]
      refine takeW 3 38 (.pointer (some ⟨w.heap.size, 1, none⟩)) rfl rfl (by kernel_rfl) (by kernel_rfl) (by kernel_rfl) (fun _ _ _ h => h) (by kernel_rfl) (by (intro w hSw; go_simp)) (by assumption) ?_
      simp only [List.set_cons_zero, List.set_cons_succ]
      refine takeW 4 39 (.slice (some ⟨g, 0, none⟩) L.length cap) rfl rfl (by kernel_rfl) (by kernel_rfl) (by kernel_rfl) (fun _ _ _ h => h) (by kernel_rfl) (by (intro Y hSw; obtain ⟨X0_, X1_⟩ := A4.bar hSw A4.lt (by omega); go_simp)) (by assumption) ?_
      simp only [List.set_cons_zero, List.set_cons_succ]
      refine takeW 5 40 (.int .i64 (k : Int)) rfl rfl (by kernel_rfl) (by kernel_rfl) (by kernel_rfl) (fun _ _ _ h => h) (by kernel_rfl) (by (intro w hSw; go_simp)) (by assumption) ?_
      simp only [List.set_cons_zero, List.set_cons_succ]
      refine takeW 6 41 (.pointer (some ⟨g, k * 11, none⟩)) rfl rfl (by kernel_rfl) (by kernel_rfl) (by kernel_rfl) (fun _ _ _ h => h) (by kernel_rfl) (by (intro Y hSw; go_simp; try omega)) (by assumption) ?_
      simp only [List.set_cons_zero, List.set_cons_succ]
      refine wpAnyH_all (rs := [7]) (by kernel_rfl) (by simp) ?_
      intro i hi; obtain rfl : i = 7 := by simpa using hi
      refine wpOp_step rfl (fun K hK => ?_)
      rw [if_pos (by kernel_rfl)]
      obtain ⟨t0, t1, t2, t3, t4, t5, t6, t7, t8, t9, t10⟩ : PtAtO u0 g (k * 11) hp := ⟨(World.cell?_of_block (a := ⟨g, k * 11, none⟩) (hb0.block g (by omega))).trans hck.c0, (World.cell?_of_block (a := ⟨g, k * 11 + 1, none⟩) (hb0.block g (by omega))).trans hck.c1, (World.cell?_of_block (a := ⟨g, k * 11 + 2, none⟩) (hb0.block g (by omega))).trans hck.c2, (World.cell?_of_block (a := ⟨g, k * 11 + 3, none⟩) (hb0.block g (by omega))).trans hck.c3, (World.cell?_of_block (a := ⟨g, k * 11 + 4, none⟩) (hb0.block g (by omega))).trans hck.c4, (World.cell?_of_block (a := ⟨g, k * 11 + 5, none⟩) (hb0.block g (by omega))).trans hck.c5, (World.cell?_of_block (a := ⟨g, k * 11 + 6, none⟩) (hb0.block g (by omega))).trans hck.c6, (World.cell?_of_block (a := ⟨g, k * 11 + 7, none⟩) (hb0.block g (by omega))).trans hck.c7, (World.cell?_of_block (a := ⟨g, k * 11 + 8, none⟩) (hb0.block g (by omega))).trans hck.c8, (World.cell?_of_block (a := ⟨g, k * 11 + 9, none⟩) (hb0.block g (by omega))).trans hck.c9, (World.cell?_of_block (a := ⟨g, k * 11 + 10, none⟩) (hb0.block g (by omega))).trans hck.c10⟩
      go_simp
      clear t0 t1 t2 t3 t4 t5 t6 t7 t8 t9 t10
      refine hK _ _ ⟨hS0, ?_⟩
      clear hK K hi
      refine wpAnyH_all (rs := [8]) (by kernel_rfl) (by simp) ?_
      intro i hi; obtain rfl : i = 8 := by simpa using hi
      refine wpOp_step rfl (fun K hK => ?_)
      rw [if_pos (by kernel_rfl)]
      go_simp
      go_at_call 114
      refine (tickedS hp u0 hok.out).mono ?_
      rintro e u1 ⟨rfl, kq⟩
      have hb1 : Below wr.heap.size wr u1 := hb0.trans (kq.mono hb0.size)
      clear kq
      rw [hz2.out]
      have hS1 : Bar g wr.heap.size wr u1 := Bar.of hb1
      refine hK _ _ ⟨Bar.of hb1, ?_⟩
      clear hK K hi
      refine takeW 9 44 (.pointer (some ⟨g, k * 11, none⟩)) rfl rfl (by kernel_rfl) (by kernel_rfl) (by kernel_rfl) (fun _ _ _ h => h) (by kernel_rfl) (by (intro Y hSw; go_simp; try omega)) (by assumption) ?_
      simp only [List.set_cons_zero, List.set_cons_succ]
      refine wpAnyH_all (rs := [10]) (by kernel_rfl) (by simp) ?_
      intro i hi; obtain rfl : i = 10 := by simpa using hi
      refine wpOp_step rfl (fun K hK => ?_)
      rw [if_pos (by kernel_rfl)]
      have MU : FOwn ptEnc 11 47 base u1 (.slice (some ⟨g, 0, none⟩) L.length cap) (markd f L k) := M.later hb1
      rw [← hml.out] at MU
      obtain ⟨t0, t1, t2, t3, t4, t5, t6, t7, t8, t9, t10⟩ : PtAtO u1 g (k * 11) ((markd f L k).getD k Pt.nil) := ptAtO_of (MU.cell ptEnc_len Pt.nil (by rw [hml.out]; exact hlt))
      have ff := MU.frozen
      have f0 := ff (k * 11)
      have f1 := ff (k * 11 + 1)
      have f2 := ff (k * 11 + 2)
      have f3 := ff (k * 11 + 3)
      have f4 := ff (k * 11 + 4)
      have f5 := ff (k * 11 + 5)
      have f6 := ff (k * 11 + 6)
      have f7 := ff (k * 11 + 7)
      have f8 := ff (k * 11 + 8)
      have f9 := ff (k * 11 + 9)
      have f10 := ff (k * 11 + 10)
      have MS := MU.set ptEnc_len (by omega) (i := k) (by rw [hml.out]; exact hlt) z
      rw [hz.out, markd_set hlt, ptPut, hml.out, ← hz.out] at MS
      have SB := Bar.putAll (o := k * 11) (ptEnc z) (Bar.of (g := g) hb1)
      rw [ptPut] at SB
      have BB := below_putAll (B := base) hg1 (ptEnc z) (k * 11) (C4.trans (hb1.mono (by omega)))
      rw [ptPut] at BB
      clear ff MU
      obtain ⟨uf, huf⟩ : ∃ y_, y_ = (((((((((((u1.setCell ⟨g, k * 11, none⟩ (.bool z.up)).setCell ⟨g, k * 11 + 1, none⟩ (.bool z.has)).setCell ⟨g, k * 11 + 2, none⟩ (.int .i64 z.r)).setCell ⟨g, k * 11 + 3, none⟩ (.int .i64 z.c)).setCell ⟨g, k * 11 + 4, none⟩ (.int .i64 z.b)).setCell ⟨g, k * 11 + 5, none⟩ (.int .i64 z.p)).setCell ⟨g, k * 11 + 6, none⟩ (.int .i64 z.h)).setCell ⟨g, k * 11 + 7, none⟩ (.int .i64 z.l)).setCell ⟨g, k * 11 + 8, none⟩ (.int .i64 z.ro)).setCell ⟨g, k * 11 + 9, none⟩ (.int .i64 z.wa)).setCell ⟨g, k * 11 + 10, none⟩ (.bool z.op)) := ⟨_, rfl⟩
      rw [← huf] at MS SB BB
      go_simp
      rw [← huf]
      clear huf t0 f0 t1 f1 t2 f2 t3 f3 t4 f4 t5 f5 t6 f6 t7 f7 t8 f8 t9 f9 t10 f10
      refine hK _ _ ⟨SB, ?_⟩
      clear hK K hi
      refine wpAnyH_done (by kernel_rfl) ?_ _
      have hBar2 : Bar g y.heap.size y uf := ⟨Nat.le_trans hBar.size SB.size, fun q hq hne => (SB.block q (by omega) hne).trans (hBar.block q hq hne)⟩
      go_wp2
      go_roundw
      case rel => exact ⟨k + 1, by omega, by go_num, MS, hBar2, BB⟩
      case measure => simp [intOf]; omega
    · obtain rfl : k = L.length := by omega
      clear a0 a1
      have ac := A4
      rw [markd_all, hfm.out] at M
      obtain ⟨Mv, hMv⟩ : ∃ v, v = L.map tickP := ⟨_, rfl⟩
      rw [← hMv] at M
      have hMl : Mv.length = L.length := by rw [hMv]; simp
      have hDM : Hid (D = decideR id Mv) := by unfold Hid; rw [hD.out, hMv]
      replace hMl : Hid _ := hMl
      clear hMv
      have hdc := decideS id (some ⟨g, 0, none⟩) cap Mv wr (by have := M; unfold FOwn at this; exact (show FOwn ptEnc 11 47 base wr (.slice (some ⟨g, 0, none⟩) L.length cap) Mv from this).view.2) (by rw [hMl.out]; omega) (fun e => by cases e)
      rw [hMl.out] at hdc
      obtain ⟨a0, a1⟩ := ac
      go_wp2_with fail
      go_at_call 115
      clear a0 a1
      refine hdc.mono ?_
      rintro e w9 ⟨aD, cD, rfl, oD, k9⟩
      clear hdc
      rw [← hDM.out] at oD ⊢
      have z9 := C4.size
      have S9 : w.heap.size + 1 + 1 < wr.heap.size := R4.lt
      have RX := R4.below k9 R4.lt
      have BX := C4.trans (k9.mono (by omega))
      have RP := RX.put id (.slice aD D.length cD)
      obtain ⟨⟨r0, r1⟩, rf⟩ := RX
      have BZ := (BX.setCell (p := ⟨w.heap.size + 1 + 1, 0, none⟩) (by show base ≤ w.heap.size + 1 + 1; omega) (.int .i64 id)).setCell (p := ⟨w.heap.size + 1 + 1, 1, none⟩) (by show base ≤ w.heap.size + 1 + 1; omega) (.slice aD D.length cD)
      have OZ : FOwn ptEnc 11 47 base ((w9.setCell ⟨w.heap.size + 1 + 1, 0, none⟩ (.int .i64 id)).setCell ⟨w.heap.size + 1 + 1, 1, none⟩ (.slice aD D.length cD)) (.slice aD D.length cD) D := (oD.base (by omega)).keep fun g' e => by
        have := (oD.lt g' e).1
        rw [Below.heap_setCell _ _ _ _ (by show g' ≠ w.heap.size + 1 + 1; omega), Below.heap_setCell _ _ _ _ (by show g' ≠ w.heap.size + 1 + 1; omega)]
      have b0z := B0.size
      have sbz := hBar.size
      have WZ : Bar g w.heap.size w ((w9.setCell ⟨w.heap.size + 1 + 1, 0, none⟩ (.int .i64 id)).setCell ⟨w.heap.size + 1 + 1, 1, none⟩ (.slice aD D.length cD)) := ⟨BZ.size, fun q hq hne => by
        rw [Below.heap_setCell _ _ _ _ (by show q ≠ w.heap.size + 1 + 1; omega), Below.heap_setCell _ _ _ _ (by show q ≠ w.heap.size + 1 + 1; omega)]
        exact (k9.block q (by omega)).trans ((hBar.block q (by omega) hne).trans (B0.block q hq))⟩
      have JZ : ∀ g_, (Value.slice aD D.length cD).ownBlock = some g_ → g_ = g ∨ w.heap.size ≤ g_ := fun g_ e => .inr (by have := (oD.lt g_ e).1; omega)
      obtain ⟨⟨p0, p1⟩, _⟩ := RP
      go_wp2
      refine bodyPost_ret (v := .agg #[.int .i64 id, .slice aD D.length cD]) (by simp [results, Tryz.results93, go_sem, *]) rfl ⟨_, _, rfl, OZ, JZ, WZ, BZ⟩

end Go.Proofs.YthgcbihhdbpbdaaGreatDoor
