/- spec.l8In: a claim, walked. -/
import Derived.Test.YthgcbihhdbpbdaaGreatDoorRows
import Derived.WalkKit
import Derived.ProofKit
import Derived.OpenShut
import Derived.ShutString
import Derived.ChangeOld
import Derived.Below
import Derived.Deep.QuietTactic
import Derived.BigQuiet
import Derived.WalkSmall
import Derived.Laws.OwnMore
import Derived.WalkSpells
import Derived.WalkLawsBesides
import Derived.Deep.Cut
import Derived.Test.YthgcbihhdbpbdaaGreatDoorM14
import Derived.Test.YthgcbihhdbpbdaaGreatDoorKBr8s
import Derived.Test.YthgcbihhdbpbdaaGreatDoorKPort4s
namespace Go.Proofs.YthgcbihhdbpbdaaGreatDoor
open Go.ChangeShapes Go.WideShapes Go.ChangeAt Go.RowKit
open Go.ChangeMaps (open_string shut_string)
set_option linter.unusedVariables false
set_option maxRecDepth 100000

set_option maxHeartbeats 8000000 in
theorem inSC (id : Int) (cap : Nat) (L : List Pt) (k : Nat) (r c b p h : Int) (base g : Nat) (w : World) (hr : FOwn ptEnc 11 47 base w (.slice (some ⟨g, 0, none⟩) L.length cap) L) (hl : L.length ≤ 4) (hqL : k < L.length) :
    Calls Tryz.prog 93 #[.agg #[.int .i64 id, .slice (some ⟨g, 0, none⟩) L.length cap], .agg #[.int .i64 1, .int .i64 (k : Int), .int .i64 r, .int .i64 c, .int .i64 b, .int .i64 p, .int .i64 h, .bool false]] w fun e w' => ∃ ad' cap', e = .returned (.agg #[.int .i64 id, .slice ad' (decideR id (L.set k (claimR (L.getD k Pt.nil) r c b p h))).length cap']) ∧ FOwn ptEnc 11 47 base w' (.slice ad' (decideR id (L.set k (claimR (L.getD k Pt.nil) r c b p h))).length cap') (decideR id (L.set k (claimR (L.getD k Pt.nil) r c b p h))) ∧ (∀ g_, (Value.slice ad' (decideR id (L.set k (claimR (L.getD k Pt.nil) r c b p h))).length cap').ownBlock = some g_ → g_ = g ∨ w.heap.size ≤ g_) ∧ Bar g w.heap.size w w' ∧ Below base w w' := by
  have hgb := hr.lt g rfl
  obtain ⟨y, hy⟩ : ∃ y, y = ((w.alloc (Obj.cells #[.int .i64 id, .slice (some ⟨g, 0, none⟩) L.length cap] 51)).alloc (Obj.cells #[.int .i64 1, .int .i64 (k : Int), .int .i64 r, .int .i64 c, .int .i64 b, .int .i64 p, .int .i64 h, .bool false] 27)).alloc (Obj.cells #[.int .i64 0, .slice none 0 0] 51) := ⟨_, rfl⟩
  have B0 : Below w.heap.size w y := by rw [hy]; exact (((Below.refl _ _).alloc (Nat.le_refl _) _).alloc (by simp) _).alloc (by simp; omega) _
  have A0 : BrAt y w.heap.size id (.slice (some ⟨g, 0, none⟩) L.length cap) := by rw [hy]; constructor <;> simp [go_sem]
  have X0 : InAt y (w.heap.size + 1) ⟨1, (k : Int), r, c, b, p, h, false⟩ := by rw [hy]; constructor <;> simp [go_sem]
  have R0 : BBox y (w.heap.size + 1 + 1) 0 (.slice none 0 0) := by rw [hy]; refine ⟨?_, fun i => ?_⟩; constructor <;> simp [go_sem]; simp [go_sem]
  have S0 := R0.lt
  have o0 := hr.later B0
  have C0 : Below base w y := B0.mono (by omega)
  obtain ⟨D, hD⟩ : ∃ D, D = decideR id (L.set k (claimR (L.getD k Pt.nil) r c b p h)) := ⟨_, rfl⟩
  rw [← hD]
  replace hD : Hid _ := hD
  obtain ⟨hg1, hg2⟩ := hgb
  clear hr
  go_enter Tryz.func93, Tryz.ntmps93
  go_upto_region 3 with fail
  rw [← hy]
  clear hy
  obtain ⟨hp, hhp⟩ : ∃ v, L.getD k Pt.nil = v := ⟨_, rfl⟩
  obtain ⟨z, hz⟩ : ∃ z, claimR hp r c b p h = z := ⟨_, rfl⟩
  have hz2 : Hid (z = (claimR (L.getD k Pt.nil) r c b p h)) := by unfold Hid; rw [hhp, hz]
  replace hz : Hid _ := hz
  replace hhp : Hid _ := hhp
  refine wp_region_held (S := fun Y => Bar g y.heap.size y Y) (by kernel_rfl) ?_
  change wpAnyH _ _ _ _ _ _ _ _ (World.drew _)
  have hb0 : Below y.heap.size y y.drew := (Below.refl _ _).drew
  obtain ⟨u0, hy0⟩ : ∃ y_, y_ = y.drew := ⟨_, rfl⟩
  rw [← hy0] at hb0 ⊢
  clear hy0
  have hS0 : Bar g y.heap.size y u0 := Bar.of hb0
  refine takeW 0 10 (.pointer (some ⟨w.heap.size, 1, none⟩)) rfl rfl (by kernel_rfl) (by kernel_rfl) (by kernel_rfl) (fun _ _ _ h => h) (by kernel_rfl) (by (intro w hSw; go_simp)) (by assumption) ?_
  simp only [List.set_cons_zero, List.set_cons_succ]
  refine takeW 1 11 (.slice (some ⟨g, 0, none⟩) L.length cap) rfl rfl (by kernel_rfl) (by kernel_rfl) (by kernel_rfl) (fun _ _ _ h => h) (by kernel_rfl) (by (intro Y hSw; obtain ⟨X0_, X1_⟩ := A0.bar hSw A0.lt (by omega); go_simp)) (by assumption) ?_
  simp only [List.set_cons_zero, List.set_cons_succ]
  refine takeW 2 12 (.pointer (some ⟨w.heap.size + 1, 1, none⟩)) rfl rfl (by kernel_rfl) (by kernel_rfl) (by kernel_rfl) (fun _ _ _ h => h) (by kernel_rfl) (by (intro w hSw; go_simp)) (by assumption) ?_
  simp only [List.set_cons_zero, List.set_cons_succ]
  refine takeW 3 13 (.int .i64 (k : Int)) rfl rfl (by kernel_rfl) (by kernel_rfl) (by kernel_rfl) (fun _ _ _ h => h) (by kernel_rfl) (by (intro Y hSw; obtain ⟨Z0, Z1, Z2, Z3, Z4, Z5, Z6, Z7⟩ := X0.keep (hSw.block _ X0.lt (by omega)); go_simp)) (by assumption) ?_
  simp only [List.set_cons_zero, List.set_cons_succ]
  refine takeW 4 14 (.pointer (some ⟨w.heap.size, 1, none⟩)) rfl rfl (by kernel_rfl) (by kernel_rfl) (by kernel_rfl) (fun _ _ _ h => h) (by kernel_rfl) (by (intro w hSw; go_simp)) (by assumption) ?_
  simp only [List.set_cons_zero, List.set_cons_succ]
  refine takeW 5 15 (.slice (some ⟨g, 0, none⟩) L.length cap) rfl rfl (by kernel_rfl) (by kernel_rfl) (by kernel_rfl) (fun _ _ _ h => h) (by kernel_rfl) (by (intro Y hSw; obtain ⟨X0_, X1_⟩ := A0.bar hSw A0.lt (by omega); go_simp)) (by assumption) ?_
  simp only [List.set_cons_zero, List.set_cons_succ]
  refine takeW 6 16 (.pointer (some ⟨w.heap.size + 1, 1, none⟩)) rfl rfl (by kernel_rfl) (by kernel_rfl) (by kernel_rfl) (fun _ _ _ h => h) (by kernel_rfl) (by (intro w hSw; go_simp)) (by assumption) ?_
  simp only [List.set_cons_zero, List.set_cons_succ]
  refine takeW 7 17 (.int .i64 (k : Int)) rfl rfl (by kernel_rfl) (by kernel_rfl) (by kernel_rfl) (fun _ _ _ h => h) (by kernel_rfl) (by (intro Y hSw; obtain ⟨Z0, Z1, Z2, Z3, Z4, Z5, Z6, Z7⟩ := X0.keep (hSw.block _ X0.lt (by omega)); go_simp)) (by assumption) ?_
  simp only [List.set_cons_zero, List.set_cons_succ]
  refine takeW 8 18 (.pointer (some ⟨g, k * 11, none⟩)) rfl rfl (by kernel_rfl) (by kernel_rfl) (by kernel_rfl) (fun _ _ _ h => h) (by kernel_rfl) (by (intro Y hSw; go_simp; try omega)) (by assumption) ?_
  simp only [List.set_cons_zero, List.set_cons_succ]
  refine takeW 10 20 (.pointer (some ⟨w.heap.size + 1, 2, none⟩)) rfl rfl (by kernel_rfl) (by kernel_rfl) (by kernel_rfl) (fun _ _ _ h => h) (by kernel_rfl) (by (intro w hSw; go_simp)) (by assumption) ?_
  simp only [List.set_cons_zero, List.set_cons_succ]
  refine takeW 11 21 (.agg #[.int .i64 r, .int .i64 c, .int .i64 b, .int .i64 p]) rfl rfl (by kernel_rfl) (by kernel_rfl) (by kernel_rfl) (fun _ _ _ h => h) (by kernel_rfl) (by (intro Y hSw; obtain ⟨Z0, Z1, Z2, Z3, Z4, Z5, Z6, Z7⟩ := X0.keep (hSw.block _ X0.lt (by omega)); go_simp)) (by assumption) ?_
  simp only [List.set_cons_zero, List.set_cons_succ]
  refine takeW 12 22 (.pointer (some ⟨w.heap.size + 1, 6, none⟩)) rfl rfl (by kernel_rfl) (by kernel_rfl) (by kernel_rfl) (fun _ _ _ h => h) (by kernel_rfl) (by (intro w hSw; go_simp)) (by assumption) ?_
  simp only [List.set_cons_zero, List.set_cons_succ]
  refine takeW 13 23 (.int .i64 h) rfl rfl (by kernel_rfl) (by kernel_rfl) (by kernel_rfl) (fun _ _ _ h => h) (by kernel_rfl) (by (intro Y hSw; obtain ⟨Z0, Z1, Z2, Z3, Z4, Z5, Z6, Z7⟩ := X0.keep (hSw.block _ X0.lt (by omega)); go_simp)) (by assumption) ?_
  simp only [List.set_cons_zero, List.set_cons_succ]
  refine wpAnyH_all (rs := [9]) (by kernel_rfl) (by simp) ?_
  intro i hi; obtain rfl : i = 9 := by simpa using hi
  refine wpOp_step rfl (fun K hK => ?_)
  rw [if_pos (by kernel_rfl)]
  obtain ⟨t0, t1, t2, t3, t4, t5, t6, t7, t8, t9, t10⟩ : PtAtO u0 g (k * 11) hp := by rw [← hhp.out]; exact ptAtO_of ((o0.later hb0).cell ptEnc_len Pt.nil hqL)
  go_simp
  clear t0 t1 t2 t3 t4 t5 t6 t7 t8 t9 t10
  refine hK _ _ ⟨hS0, ?_⟩
  clear hK K hi
  refine wpAnyH_all (rs := [14]) (by kernel_rfl) (by simp) ?_
  intro i hi; obtain rfl : i = 14 := by simpa using hi
  refine wpOp_step rfl (fun K hK => ?_)
  rw [if_pos (by kernel_rfl)]
  go_simp
  go_at_call 113
  refine (claimS hp r c b p h u0).mono ?_
  rintro e u1 ⟨rfl, kq⟩
  have hb1 : Below y.heap.size y u1 := hb0.trans (kq.mono hb0.size)
  clear kq
  rw [hz.out]
  have hS1 : Bar g y.heap.size y u1 := Bar.of hb1
  refine hK _ _ ⟨Bar.of hb1, ?_⟩
  clear hK K hi
  refine takeW 15 25 (.pointer (some ⟨g, k * 11, none⟩)) rfl rfl (by kernel_rfl) (by kernel_rfl) (by kernel_rfl) (fun _ _ _ h => h) (by kernel_rfl) (by (intro Y hSw; go_simp; try omega)) (by assumption) ?_
  simp only [List.set_cons_zero, List.set_cons_succ]
  refine wpAnyH_all (rs := [16]) (by kernel_rfl) (by simp) ?_
  intro i hi; obtain rfl : i = 16 := by simpa using hi
  refine wpOp_step rfl (fun K hK => ?_)
  rw [if_pos (by kernel_rfl)]
  have MU : FOwn ptEnc 11 47 base u1 (.slice (some ⟨g, 0, none⟩) L.length cap) L := o0.later hb1
  obtain ⟨t0, t1, t2, t3, t4, t5, t6, t7, t8, t9, t10⟩ : PtAtO u1 g (k * 11) (L.getD k Pt.nil) := ptAtO_of (MU.cell ptEnc_len Pt.nil hqL)
  have ff := MU.frozen
  have f0 := ff (k * 11)
  have f1 := ff (k * 11 + 1)
  have f2 := ff (k * 11 + 2)
  have f3 := ff (k * 11 + 3)
  have f4 := ff (k * 11 + 4)
  have f5 := ff (k * 11 + 5)
  have f6 := ff (k * 11 + 6)
  have f7 := ff (k * 11 + 7)
  have f8 := ff (k * 11 + 8)
  have f9 := ff (k * 11 + 9)
  have f10 := ff (k * 11 + 10)
  have MS := MU.set ptEnc_len (by omega) (i := k) hqL z
  rw [ptPut] at MS
  have SB := Bar.putAll (o := k * 11) (ptEnc z) (Bar.of (g := g) hb1)
  rw [ptPut] at SB
  have BB := below_putAll (B := base) hg1 (ptEnc z) (k * 11) (C0.trans (hb1.mono (by omega)))
  rw [ptPut] at BB
  clear ff MU
  obtain ⟨uf, huf⟩ : ∃ y_, y_ = (((((((((((u1.setCell ⟨g, k * 11, none⟩ (.bool z.up)).setCell ⟨g, k * 11 + 1, none⟩ (.bool z.has)).setCell ⟨g, k * 11 + 2, none⟩ (.int .i64 z.r)).setCell ⟨g, k * 11 + 3, none⟩ (.int .i64 z.c)).setCell ⟨g, k * 11 + 4, none⟩ (.int .i64 z.b)).setCell ⟨g, k * 11 + 5, none⟩ (.int .i64 z.p)).setCell ⟨g, k * 11 + 6, none⟩ (.int .i64 z.h)).setCell ⟨g, k * 11 + 7, none⟩ (.int .i64 z.l)).setCell ⟨g, k * 11 + 8, none⟩ (.int .i64 z.ro)).setCell ⟨g, k * 11 + 9, none⟩ (.int .i64 z.wa)).setCell ⟨g, k * 11 + 10, none⟩ (.bool z.op)) := ⟨_, rfl⟩
  rw [← huf] at MS SB BB
  go_simp
  rw [← huf]
  clear huf t0 f0 t1 f1 t2 f2 t3 f3 t4 f4 t5 f5 t6 f6 t7 f7 t8 f8 t9 f9 t10 f10
  refine hK _ _ ⟨SB, ?_⟩
  clear hK K hi
  refine wpAnyH_done (by kernel_rfl) ?_ _
  rw [hz2.out] at MS
  have A9 := A0.bar SB A0.lt (by omega)
  have R9 := R0.keep (SB.block _ R0.lt (by omega))
  obtain ⟨Mv, hMv⟩ : ∃ v, v = L.set k (claimR (L.getD k Pt.nil) r c b p h) := ⟨_, rfl⟩
  rw [← hMv] at MS
  have hMl : Mv.length = L.length := by rw [hMv]; simp
  have hDM : Hid (D = decideR id Mv) := by unfold Hid; rw [hD.out, hMv]
  replace hMl : Hid _ := hMl
  clear hMv
  have hdc := decideS id (some ⟨g, 0, none⟩) cap Mv uf (by have := MS; unfold FOwn at this; exact (show FOwn ptEnc 11 47 base uf (.slice (some ⟨g, 0, none⟩) L.length cap) Mv from this).view.2) (by rw [hMl.out]; omega) (fun e => by cases e)
  rw [hMl.out] at hdc
  obtain ⟨a0, a1⟩ := A9
  go_wp2_with fail
  go_at_call 115
  clear a0 a1
  refine hdc.mono ?_
  rintro e w9 ⟨aD, cD, rfl, oD, k9⟩
  clear hdc
  rw [← hDM.out] at oD ⊢
  have z9 := BB.size
  have S9 : w.heap.size + 1 + 1 < uf.heap.size := R9.lt
  have RX := R9.below k9 R9.lt
  have BX := BB.trans (k9.mono (by omega))
  have RP := RX.put id (.slice aD D.length cD)
  obtain ⟨⟨r0, r1⟩, rf⟩ := RX
  have BZ := (BX.setCell (p := ⟨w.heap.size + 1 + 1, 0, none⟩) (by show base ≤ w.heap.size + 1 + 1; omega) (.int .i64 id)).setCell (p := ⟨w.heap.size + 1 + 1, 1, none⟩) (by show base ≤ w.heap.size + 1 + 1; omega) (.slice aD D.length cD)
  have OZ : FOwn ptEnc 11 47 base ((w9.setCell ⟨w.heap.size + 1 + 1, 0, none⟩ (.int .i64 id)).setCell ⟨w.heap.size + 1 + 1, 1, none⟩ (.slice aD D.length cD)) (.slice aD D.length cD) D := (oD.base (by omega)).keep fun g' e => by
    have := (oD.lt g' e).1
    rw [Below.heap_setCell _ _ _ _ (by show g' ≠ w.heap.size + 1 + 1; omega), Below.heap_setCell _ _ _ _ (by show g' ≠ w.heap.size + 1 + 1; omega)]
  have b0z := B0.size
  have sbz := SB.size
  have WZ : Bar g w.heap.size w ((w9.setCell ⟨w.heap.size + 1 + 1, 0, none⟩ (.int .i64 id)).setCell ⟨w.heap.size + 1 + 1, 1, none⟩ (.slice aD D.length cD)) := ⟨BZ.size, fun q hq hne => by
    rw [Below.heap_setCell _ _ _ _ (by show q ≠ w.heap.size + 1 + 1; omega), Below.heap_setCell _ _ _ _ (by show q ≠ w.heap.size + 1 + 1; omega)]
    exact (k9.block q (by omega)).trans ((SB.block q (by omega) hne).trans (B0.block q hq))⟩
  have JZ : ∀ g_, (Value.slice aD D.length cD).ownBlock = some g_ → g_ = g ∨ w.heap.size ≤ g_ := fun g_ e => .inr (by have := (oD.lt g_ e).1; omega)
  obtain ⟨⟨p0, p1⟩, _⟩ := RP
  go_wp2
  refine bodyPost_ret (v := .agg #[.int .i64 id, .slice aD D.length cD]) (by simp [results, Tryz.results93, go_sem, *]) rfl ⟨_, _, rfl, OZ, JZ, WZ, BZ⟩

end Go.Proofs.YthgcbihhdbpbdaaGreatDoor
