/- spec.l8In: a link, walked. -/
import Derived.Test.YthgcbihhdbpbdaaGreatDoorRows
import Derived.WalkKit
import Derived.ProofKit
import Derived.OpenShut
import Derived.ShutString
import Derived.ChangeOld
import Derived.Below
import Derived.Deep.QuietTactic
import Derived.BigQuiet
import Derived.WalkSmall
import Derived.Laws.OwnMore
import Derived.WalkSpells
import Derived.WalkLawsBesides
import Derived.Deep.Cut
import Derived.Test.YthgcbihhdbpbdaaGreatDoorM14
import Derived.Test.YthgcbihhdbpbdaaGreatDoorKBr8s
namespace Go.Proofs.YthgcbihhdbpbdaaGreatDoor
open Go.ChangeShapes Go.WideShapes Go.ChangeAt Go.RowKit
open Go.ChangeMaps (open_string shut_string)
set_option linter.unusedVariables false
set_option maxRecDepth 100000

set_option maxHeartbeats 8000000 in
theorem inSL (id : Int) (cap : Nat) (L : List Pt) (k : Nat) (up : Bool) (base g : Nat) (w : World) (hr : FOwn ptEnc 11 47 base w (.slice (some ⟨g, 0, none⟩) L.length cap) L) (hl : L.length ≤ 4) (hqL : k < L.length) :
    Calls Tryz.prog 93 #[.agg #[.int .i64 id, .slice (some ⟨g, 0, none⟩) L.length cap], .agg #[.int .i64 3, .int .i64 (k : Int), .int .i64 0, .int .i64 0, .int .i64 0, .int .i64 0, .int .i64 0, .bool up]] w fun e w' => ∃ ad' cap', e = .returned (.agg #[.int .i64 id, .slice ad' ((if (L.getD k Pt.nil).up = up then L else decideR id (L.set k (linkP up)))).length cap']) ∧ FOwn ptEnc 11 47 base w' (.slice ad' ((if (L.getD k Pt.nil).up = up then L else decideR id (L.set k (linkP up)))).length cap') ((if (L.getD k Pt.nil).up = up then L else decideR id (L.set k (linkP up)))) ∧ (∀ g_, (Value.slice ad' ((if (L.getD k Pt.nil).up = up then L else decideR id (L.set k (linkP up)))).length cap').ownBlock = some g_ → g_ = g ∨ w.heap.size ≤ g_) ∧ Bar g w.heap.size w w' ∧ Below base w w' := by
  have hgb := hr.lt g rfl
  obtain ⟨y, hy⟩ : ∃ y, y = ((w.alloc (Obj.cells #[.int .i64 id, .slice (some ⟨g, 0, none⟩) L.length cap] 51)).alloc (Obj.cells #[.int .i64 3, .int .i64 (k : Int), .int .i64 0, .int .i64 0, .int .i64 0, .int .i64 0, .int .i64 0, .bool up] 27)).alloc (Obj.cells #[.int .i64 0, .slice none 0 0] 51) := ⟨_, rfl⟩
  have B0 : Below w.heap.size w y := by rw [hy]; exact (((Below.refl _ _).alloc (Nat.le_refl _) _).alloc (by simp) _).alloc (by simp; omega) _
  have A0 : BrAt y w.heap.size id (.slice (some ⟨g, 0, none⟩) L.length cap) := by rw [hy]; constructor <;> simp [go_sem]
  have X0 : InAt y (w.heap.size + 1) ⟨3, (k : Int), 0, 0, 0, 0, 0, up⟩ := by rw [hy]; constructor <;> simp [go_sem]
  have R0 : BBox y (w.heap.size + 1 + 1) 0 (.slice none 0 0) := by rw [hy]; refine ⟨?_, fun i => ?_⟩; constructor <;> simp [go_sem]; simp [go_sem]
  have S0 := R0.lt
  have o0 := hr.later B0
  have C0 : Below base w y := B0.mono (by omega)
  obtain ⟨D, hD⟩ : ∃ D, D = (if (L.getD k Pt.nil).up = up then L else decideR id (L.set k (linkP up))) := ⟨_, rfl⟩
  rw [← hD]
  replace hD : Hid _ := hD
  obtain ⟨hg1, hg2⟩ := hgb
  clear hr
  go_enter Tryz.func93, Tryz.ntmps93
  go_upto_region 10 with fail
  rw [← hy]
  clear hy
  obtain ⟨hp, hhp⟩ : ∃ v, L.getD k Pt.nil = v := ⟨_, rfl⟩
  have hD1 : Hid (D = if hp.up = up then L else decideR id (L.set k (linkP up))) := by unfold Hid; rw [hD.out, hhp]
  have hcp : ∀ Y, Below y.heap.size y Y → PtAtO Y g (k * 11) hp := fun Y hY => by rw [← hhp]; exact ptAtO_of ((o0.later hY).cell ptEnc_len Pt.nil hqL)
  clear hD hhp
  by_cases hu : hp.up = up
  · have hN : Hid (D = L) := by unfold Hid; rw [hD1.out, if_pos hu]
    replace hu : Hid _ := hu
    refine wp_region_held (S := fun Y => Below y.heap.size y Y) (by kernel_rfl) ?_
    change wpAnyH _ _ _ _ _ _ _ _ (World.drew _)
    have hb0 : Below y.heap.size y y.drew := (Below.refl _ _).drew
    obtain ⟨u0, hy0⟩ : ∃ y_, y_ = y.drew := ⟨_, rfl⟩
    rw [← hy0] at hb0 ⊢
    clear hy0
    refine takeW 0 47 (.pointer (some ⟨w.heap.size, 1, none⟩)) rfl rfl (by kernel_rfl) (by kernel_rfl) (by kernel_rfl) (fun _ _ _ h => h) (by kernel_rfl) (by (intro w hSw; go_simp)) (by assumption) ?_
    simp only [List.set_cons_zero, List.set_cons_succ]
    refine takeW 1 48 (.slice (some ⟨g, 0, none⟩) L.length cap) rfl rfl (by kernel_rfl) (by kernel_rfl) (by kernel_rfl) (fun _ _ _ h => h) (by kernel_rfl) (by (intro Y hSw; obtain ⟨X0_, X1_⟩ := A0.below hSw A0.lt; go_simp)) (by assumption) ?_
    simp only [List.set_cons_zero, List.set_cons_succ]
    refine takeW 2 49 (.pointer (some ⟨w.heap.size + 1, 1, none⟩)) rfl rfl (by kernel_rfl) (by kernel_rfl) (by kernel_rfl) (fun _ _ _ h => h) (by kernel_rfl) (by (intro w hSw; go_simp)) (by assumption) ?_
    simp only [List.set_cons_zero, List.set_cons_succ]
    refine takeW 3 50 (.int .i64 (k : Int)) rfl rfl (by kernel_rfl) (by kernel_rfl) (by kernel_rfl) (fun _ _ _ h => h) (by kernel_rfl) (by (intro Y hSw; obtain ⟨Z0, Z1, Z2, Z3, Z4, Z5, Z6, Z7⟩ := X0.below hSw X0.lt; go_simp)) (by assumption) ?_
    simp only [List.set_cons_zero, List.set_cons_succ]
    refine takeW 4 51 (.pointer (some ⟨g, k * 11, none⟩)) rfl rfl (by kernel_rfl) (by kernel_rfl) (by kernel_rfl) (fun _ _ _ h => h) (by kernel_rfl) (by (intro Y hSw; go_simp; try omega)) (by assumption) ?_
    simp only [List.set_cons_zero, List.set_cons_succ]
    refine takeW 5 52 (.pointer (some ⟨g, k * 11, none⟩)) rfl rfl (by kernel_rfl) (by kernel_rfl) (by kernel_rfl) (fun _ _ _ h => h) (by kernel_rfl) (by (intro w hSw; go_simp)) (by assumption) ?_
    simp only [List.set_cons_zero, List.set_cons_succ]
    refine takeW 6 53 (.bool hp.up) rfl rfl (by kernel_rfl) (by kernel_rfl) (by kernel_rfl) (fun _ _ _ h => h) (by kernel_rfl) (by (intro Y hSw; obtain ⟨X0, X1, X2, X3, X4, X5, X6, X7, X8, X9, X10⟩ := hcp Y hSw; go_simp)) (by assumption) ?_
    simp only [List.set_cons_zero, List.set_cons_succ]
    refine takeW 7 54 (.pointer (some ⟨w.heap.size + 1, 7, none⟩)) rfl rfl (by kernel_rfl) (by kernel_rfl) (by kernel_rfl) (fun _ _ _ h => h) (by kernel_rfl) (by (intro w hSw; go_simp)) (by assumption) ?_
    simp only [List.set_cons_zero, List.set_cons_succ]
    refine takeW 8 55 (.bool up) rfl rfl (by kernel_rfl) (by kernel_rfl) (by kernel_rfl) (fun _ _ _ h => h) (by kernel_rfl) (by (intro Y hSw; obtain ⟨Z0, Z1, Z2, Z3, Z4, Z5, Z6, Z7⟩ := X0.below hSw X0.lt; go_simp)) (by assumption) ?_
    simp only [List.set_cons_zero, List.set_cons_succ]
    refine takeW 9 56 (.bool true) rfl rfl (by kernel_rfl) (by kernel_rfl) (by kernel_rfl) (fun _ _ _ h => h) (by kernel_rfl) (by (intro Y hSw; go_simp; exact hu.out)) (by assumption) ?_
    simp only [List.set_cons_zero, List.set_cons_succ]
    refine wpAnyH_done (by kernel_rfl) ?_ _
    have A6 := A0.below hb0 A0.lt
    have R6 := R0.below hb0 R0.lt
    have o6 := o0.later hb0
    have z6 := hb0.size
    have B6 := C0.trans (hb0.mono (by omega))
    have RP := R6.put id (.slice (some ⟨g, 0, none⟩) L.length cap)
    obtain ⟨⟨r0, r1⟩, rf⟩ := R6
    obtain ⟨n0, n1⟩ := A6
    have BZ := (B6.setCell (p := ⟨w.heap.size + 1 + 1, 0, none⟩) (by show base ≤ w.heap.size + 1 + 1; omega) (.int .i64 id)).setCell (p := ⟨w.heap.size + 1 + 1, 1, none⟩) (by show base ≤ w.heap.size + 1 + 1; omega) (.slice (some ⟨g, 0, none⟩) L.length cap)
    have OZ : FOwn ptEnc 11 47 base ((u0.setCell ⟨w.heap.size + 1 + 1, 0, none⟩ (.int .i64 id)).setCell ⟨w.heap.size + 1 + 1, 1, none⟩ (.slice (some ⟨g, 0, none⟩) L.length cap)) (.slice (some ⟨g, 0, none⟩) L.length cap) L := o6.keep fun g' e => by
      obtain rfl : g = g' := by simpa [Value.ownBlock] using e
      rw [Below.heap_setCell _ _ _ _ (by show g ≠ w.heap.size + 1 + 1; omega), Below.heap_setCell _ _ _ _ (by show g ≠ w.heap.size + 1 + 1; omega)]
    have WZ : Bar g w.heap.size w ((u0.setCell ⟨w.heap.size + 1 + 1, 0, none⟩ (.int .i64 id)).setCell ⟨w.heap.size + 1 + 1, 1, none⟩ (.slice (some ⟨g, 0, none⟩) L.length cap)) := ⟨BZ.size, fun q hq hne => by
      rw [Below.heap_setCell _ _ _ _ (by show q ≠ w.heap.size + 1 + 1; omega), Below.heap_setCell _ _ _ _ (by show q ≠ w.heap.size + 1 + 1; omega)]
      exact (hb0.block q (by omega)).trans (B0.block q hq)⟩
    have JZ : ∀ g_, (Value.slice (some ⟨g, 0, none⟩) L.length cap).ownBlock = some g_ → g_ = g ∨ w.heap.size ≤ g_ := fun g_ e => .inl (by simpa [Value.ownBlock] using e.symm)
    obtain ⟨⟨p0, p1⟩, _⟩ := RP
    go_wp2
    refine bodyPost_ret (v := .agg #[.int .i64 id, .slice (some ⟨g, 0, none⟩) L.length cap]) (by simp [results, Tryz.results93, go_sem, *]) rfl ⟨_, _, by rw [hN.out], by rw [hN.out]; exact OZ, by rw [hN.out]; exact JZ, WZ, BZ⟩
  · have hN : Hid (D = decideR id (L.set k (linkP up))) := by unfold Hid; rw [hD1.out, if_neg hu]
    replace hu : Hid _ := hu
    refine wp_region_held (S := fun Y => Below y.heap.size y Y) (by kernel_rfl) ?_
    change wpAnyH _ _ _ _ _ _ _ _ (World.drew _)
    have hb0 : Below y.heap.size y y.drew := (Below.refl _ _).drew
    obtain ⟨u0, hy0⟩ : ∃ y_, y_ = y.drew := ⟨_, rfl⟩
    rw [← hy0] at hb0 ⊢
    clear hy0
    refine takeW 0 47 (.pointer (some ⟨w.heap.size, 1, none⟩)) rfl rfl (by kernel_rfl) (by kernel_rfl) (by kernel_rfl) (fun _ _ _ h => h) (by kernel_rfl) (by (intro w hSw; go_simp)) (by assumption) ?_
    simp only [List.set_cons_zero, List.set_cons_succ]
    refine takeW 1 48 (.slice (some ⟨g, 0, none⟩) L.length cap) rfl rfl (by kernel_rfl) (by kernel_rfl) (by kernel_rfl) (fun _ _ _ h => h) (by kernel_rfl) (by (intro Y hSw; obtain ⟨X0_, X1_⟩ := A0.below hSw A0.lt; go_simp)) (by assumption) ?_
    simp only [List.set_cons_zero, List.set_cons_succ]
    refine takeW 2 49 (.pointer (some ⟨w.heap.size + 1, 1, none⟩)) rfl rfl (by kernel_rfl) (by kernel_rfl) (by kernel_rfl) (fun _ _ _ h => h) (by kernel_rfl) (by (intro w hSw; go_simp)) (by assumption) ?_
    simp only [List.set_cons_zero, List.set_cons_succ]
    refine takeW 3 50 (.int .i64 (k : Int)) rfl rfl (by kernel_rfl) (by kernel_rfl) (by kernel_rfl) (fun _ _ _ h => h) (by kernel_rfl) (by (intro Y hSw; obtain ⟨Z0, Z1, Z2, Z3, Z4, Z5, Z6, Z7⟩ := X0.below hSw X0.lt; go_simp)) (by assumption) ?_
    simp only [List.set_cons_zero, List.set_cons_succ]
    refine takeW 4 51 (.pointer (some ⟨g, k * 11, none⟩)) rfl rfl (by kernel_rfl) (by kernel_rfl) (by kernel_rfl) (fun _ _ _ h => h) (by kernel_rfl) (by (intro Y hSw; go_simp; try omega)) (by assumption) ?_
    simp only [List.set_cons_zero, List.set_cons_succ]
    refine takeW 5 52 (.pointer (some ⟨g, k * 11, none⟩)) rfl rfl (by kernel_rfl) (by kernel_rfl) (by kernel_rfl) (fun _ _ _ h => h) (by kernel_rfl) (by (intro w hSw; go_simp)) (by assumption) ?_
    simp only [List.set_cons_zero, List.set_cons_succ]
    refine takeW 6 53 (.bool hp.up) rfl rfl (by kernel_rfl) (by kernel_rfl) (by kernel_rfl) (fun _ _ _ h => h) (by kernel_rfl) (by (intro Y hSw; obtain ⟨X0, X1, X2, X3, X4, X5, X6, X7, X8, X9, X10⟩ := hcp Y hSw; go_simp)) (by assumption) ?_
    simp only [List.set_cons_zero, List.set_cons_succ]
    refine takeW 7 54 (.pointer (some ⟨w.heap.size + 1, 7, none⟩)) rfl rfl (by kernel_rfl) (by kernel_rfl) (by kernel_rfl) (fun _ _ _ h => h) (by kernel_rfl) (by (intro w hSw; go_simp)) (by assumption) ?_
    simp only [List.set_cons_zero, List.set_cons_succ]
    refine takeW 8 55 (.bool up) rfl rfl (by kernel_rfl) (by kernel_rfl) (by kernel_rfl) (fun _ _ _ h => h) (by kernel_rfl) (by (intro Y hSw; obtain ⟨Z0, Z1, Z2, Z3, Z4, Z5, Z6, Z7⟩ := X0.below hSw X0.lt; go_simp)) (by assumption) ?_
    simp only [List.set_cons_zero, List.set_cons_succ]
    refine takeW 9 56 (.bool false) rfl rfl (by kernel_rfl) (by kernel_rfl) (by kernel_rfl) (fun _ _ _ h => h) (by kernel_rfl) (by (intro Y hSw; go_simp; exact hu.out)) (by assumption) ?_
    simp only [List.set_cons_zero, List.set_cons_succ]
    refine wpAnyH_done (by kernel_rfl) ?_ _
    have CW := C0.trans (hb0.mono (by omega))
    have hB0' : Bar g y.heap.size y u0 := Bar.of hb0
    have o6 := o0.later hb0
    have A6 := A0.below hb0 A0.lt
    have X6 := X0.below hb0 X0.lt
    have MUv1 := o6
    obtain ⟨t0, t1, t2, t3, t4, t5, t6, t7, t8, t9, t10⟩ : PtAtO u0 g (k * 11) (L.getD k Pt.nil) := ptAtO_of (MUv1.cell ptEnc_len Pt.nil (by simpa using hqL))
    have ff := MUv1.frozen
    have f0 := ff (k * 11)
    have f1 := ff (k * 11 + 1)
    have f2 := ff (k * 11 + 2)
    have f3 := ff (k * 11 + 3)
    have f4 := ff (k * 11 + 4)
    have f5 := ff (k * 11 + 5)
    have f6 := ff (k * 11 + 6)
    have f7 := ff (k * 11 + 7)
    have f8 := ff (k * 11 + 8)
    have f9 := ff (k * 11 + 9)
    have f10 := ff (k * 11 + 10)
    have MSv1 := MUv1.set ptEnc_len (by omega) (i := k) (by simpa using hqL) Pt.nil
    rw [ptPut] at MSv1
    have SBv1 := Bar.putAll (o := k * 11) (ptEnc Pt.nil) hB0'
    rw [ptPut] at SBv1
    have BBv1 := below_putAll (B := base) hg1 (ptEnc Pt.nil) (k * 11) CW
    rw [ptPut] at BBv1
    obtain ⟨v1, hnm⟩ : ∃ y_, y_ = (((((((((((u0.setCell ⟨g, k * 11, none⟩ (.bool false)).setCell ⟨g, k * 11 + 1, none⟩ (.bool false)).setCell ⟨g, k * 11 + 2, none⟩ (.int .i64 0)).setCell ⟨g, k * 11 + 3, none⟩ (.int .i64 0)).setCell ⟨g, k * 11 + 4, none⟩ (.int .i64 0)).setCell ⟨g, k * 11 + 5, none⟩ (.int .i64 0)).setCell ⟨g, k * 11 + 6, none⟩ (.int .i64 0)).setCell ⟨g, k * 11 + 7, none⟩ (.int .i64 0)).setCell ⟨g, k * 11 + 8, none⟩ (.int .i64 0)).setCell ⟨g, k * 11 + 9, none⟩ (.int .i64 0)).setCell ⟨g, k * 11 + 10, none⟩ (.bool false)) := ⟨_, rfl⟩
    replace MSv1 : FOwn ptEnc 11 47 base v1 (.slice (some ⟨g, 0, none⟩) (L).length cap) ((L).set k Pt.nil) := by rw [hnm]; exact MSv1
    replace SBv1 : Bar g y.heap.size y v1 := by rw [hnm]; exact SBv1
    replace BBv1 : Below base w v1 := by rw [hnm]; exact BBv1
    clear ff
    obtain ⟨a0, a1⟩ := A6
    obtain ⟨x0, x1, x2, x3, x4, x5, x6, x7⟩ := X6
    go_upto_region 13 with fail
    rw [← hnm]
    clear hnm a0 a1 x0 x1 x2 x3 x4 x5 x6 x7 t0 f0 t1 f1 t2 f2 t3 f3 t4 f4 t5 f5 t6 f6 t7 f7 t8 f8 t9 f9 t10 f10 CW MUv1 o6 hcp
    have A7 := A0.bar SBv1 A0.lt (by omega)
    have X7 := X0.keep (SBv1.block _ X0.lt (by omega))
    have CW := BBv1
    obtain ⟨x0, x1, x2, x3, x4, x5, x6, x7⟩ := X7
    cases up
    · replace hN : Hid (D = decideR id (L.set k Pt.nil)) := hN
      have A9 := A0.bar SBv1 A0.lt (by omega)
      have R9 := R0.keep (SBv1.block _ R0.lt (by omega))
      go_upto_region 15 with fail
      clear x0 x1 x2 x3 x4 x5 x6 x7
      obtain ⟨Mv, hMv⟩ : ∃ v, v = L.set k Pt.nil := ⟨_, rfl⟩
      rw [← hMv] at MSv1
      have hMl : Mv.length = L.length := by rw [hMv]; simp
      have hDM : Hid (D = decideR id Mv) := by unfold Hid; rw [hN.out, hMv]
      replace hMl : Hid _ := hMl
      clear hMv
      have hdc := decideS id (some ⟨g, 0, none⟩) cap Mv v1 (by have := MSv1; unfold FOwn at this; exact (show FOwn ptEnc 11 47 base v1 (.slice (some ⟨g, 0, none⟩) L.length cap) Mv from this).view.2) (by rw [hMl.out]; omega) (fun e => by cases e)
      rw [hMl.out] at hdc
      obtain ⟨a0, a1⟩ := A9
      go_wp2_with fail
      go_at_call 115
      clear a0 a1
      refine hdc.mono ?_
      rintro e w9 ⟨aD, cD, rfl, oD, k9⟩
      clear hdc
      rw [← hDM.out] at oD ⊢
      have z9 := BBv1.size
      have S9 : w.heap.size + 1 + 1 < v1.heap.size := R9.lt
      have RX := R9.below k9 R9.lt
      have BX := BBv1.trans (k9.mono (by omega))
      have RP := RX.put id (.slice aD D.length cD)
      obtain ⟨⟨r0, r1⟩, rf⟩ := RX
      have BZ := (BX.setCell (p := ⟨w.heap.size + 1 + 1, 0, none⟩) (by show base ≤ w.heap.size + 1 + 1; omega) (.int .i64 id)).setCell (p := ⟨w.heap.size + 1 + 1, 1, none⟩) (by show base ≤ w.heap.size + 1 + 1; omega) (.slice aD D.length cD)
      have OZ : FOwn ptEnc 11 47 base ((w9.setCell ⟨w.heap.size + 1 + 1, 0, none⟩ (.int .i64 id)).setCell ⟨w.heap.size + 1 + 1, 1, none⟩ (.slice aD D.length cD)) (.slice aD D.length cD) D := (oD.base (by omega)).keep fun g' e => by
        have := (oD.lt g' e).1
        rw [Below.heap_setCell _ _ _ _ (by show g' ≠ w.heap.size + 1 + 1; omega), Below.heap_setCell _ _ _ _ (by show g' ≠ w.heap.size + 1 + 1; omega)]
      have b0z := B0.size
      have sbz := SBv1.size
      have WZ : Bar g w.heap.size w ((w9.setCell ⟨w.heap.size + 1 + 1, 0, none⟩ (.int .i64 id)).setCell ⟨w.heap.size + 1 + 1, 1, none⟩ (.slice aD D.length cD)) := ⟨BZ.size, fun q hq hne => by
        rw [Below.heap_setCell _ _ _ _ (by show q ≠ w.heap.size + 1 + 1; omega), Below.heap_setCell _ _ _ _ (by show q ≠ w.heap.size + 1 + 1; omega)]
        exact (k9.block q (by omega)).trans ((SBv1.block q (by omega) hne).trans (B0.block q hq))⟩
      have JZ : ∀ g_, (Value.slice aD D.length cD).ownBlock = some g_ → g_ = g ∨ w.heap.size ≤ g_ := fun g_ e => .inr (by have := (oD.lt g_ e).1; omega)
      obtain ⟨⟨p0, p1⟩, _⟩ := RP
      go_wp2
      refine bodyPost_ret (v := .agg #[.int .i64 id, .slice aD D.length cD]) (by simp [results, Tryz.results93, go_sem, *]) rfl ⟨_, _, rfl, OZ, JZ, WZ, BZ⟩
    · have MSw : FOwn ptEnc 11 47 base v1 (.slice (some ⟨g, 0, none⟩) (L.set k Pt.nil).length cap) (L.set k Pt.nil) := by rw [List.length_set]; exact MSv1
      have MUv2 := MSw
      obtain ⟨t0, t1, t2, t3, t4, t5, t6, t7, t8, t9, t10⟩ : PtAtO v1 g (k * 11) ((L.set k Pt.nil).getD k Pt.nil) := ptAtO_of (MUv2.cell ptEnc_len Pt.nil (by simpa using hqL))
      have ff := MUv2.frozen
      have f0 := ff (k * 11)
      have f1 := ff (k * 11 + 1)
      have f2 := ff (k * 11 + 2)
      have f3 := ff (k * 11 + 3)
      have f4 := ff (k * 11 + 4)
      have f5 := ff (k * 11 + 5)
      have f6 := ff (k * 11 + 6)
      have f7 := ff (k * 11 + 7)
      have f8 := ff (k * 11 + 8)
      have f9 := ff (k * 11 + 9)
      have f10 := ff (k * 11 + 10)
      have MSv2 := MUv2.set ptEnc_len (by omega) (i := k) (by simpa using hqL) (linkP true)
      rw [ptPut] at MSv2
      have SBv2 := Bar.putAll (o := k * 11) (ptEnc (linkP true)) SBv1
      rw [ptPut] at SBv2
      have BBv2 := below_putAll (B := base) hg1 (ptEnc (linkP true)) (k * 11) CW
      rw [ptPut] at BBv2
      obtain ⟨v2, hnm⟩ : ∃ y_, y_ = (((((((((((v1.setCell ⟨g, k * 11, none⟩ (.bool true)).setCell ⟨g, k * 11 + 1, none⟩ (.bool false)).setCell ⟨g, k * 11 + 2, none⟩ (.int .i64 0)).setCell ⟨g, k * 11 + 3, none⟩ (.int .i64 0)).setCell ⟨g, k * 11 + 4, none⟩ (.int .i64 0)).setCell ⟨g, k * 11 + 5, none⟩ (.int .i64 0)).setCell ⟨g, k * 11 + 6, none⟩ (.int .i64 0)).setCell ⟨g, k * 11 + 7, none⟩ (.int .i64 0)).setCell ⟨g, k * 11 + 8, none⟩ (.int .i64 3)).setCell ⟨g, k * 11 + 9, none⟩ (.int .i64 0)).setCell ⟨g, k * 11 + 10, none⟩ (.bool false)) := ⟨_, rfl⟩
      replace MSv2 : FOwn ptEnc 11 47 base v2 (.slice (some ⟨g, 0, none⟩) ((L.set k Pt.nil)).length cap) (((L.set k Pt.nil)).set k (linkP true)) := by rw [hnm]; exact MSv2
      replace SBv2 : Bar g y.heap.size y v2 := by rw [hnm]; exact SBv2
      replace BBv2 : Below base w v2 := by rw [hnm]; exact BBv2
      clear ff
      have hll : ((L.set k Pt.nil).set k (linkP true)) = L.set k (linkP true) := by rw [List.set_set]
      rw [hll, List.length_set] at MSv2
      obtain ⟨a0, a1⟩ := A7
      go_upto_region 15 with fail
      rw [← hnm]
      clear hnm a0 a1 x0 x1 x2 x3 x4 x5 x6 x7 t0 f0 t1 f1 t2 f2 t3 f3 t4 f4 t5 f5 t6 f6 t7 f7 t8 f8 t9 f9 t10 f10 MSw MUv2 CW
      have A9 := A0.bar SBv2 A0.lt (by omega)
      have R9 := R0.keep (SBv2.block _ R0.lt (by omega))
      obtain ⟨Mv, hMv⟩ : ∃ v, v = L.set k (linkP true) := ⟨_, rfl⟩
      rw [← hMv] at MSv2
      have hMl : Mv.length = L.length := by rw [hMv]; simp
      have hDM : Hid (D = decideR id Mv) := by unfold Hid; rw [hN.out, hMv]
      replace hMl : Hid _ := hMl
      clear hMv
      have hdc := decideS id (some ⟨g, 0, none⟩) cap Mv v2 (by have := MSv2; unfold FOwn at this; exact (show FOwn ptEnc 11 47 base v2 (.slice (some ⟨g, 0, none⟩) L.length cap) Mv from this).view.2) (by rw [hMl.out]; omega) (fun e => by cases e)
      rw [hMl.out] at hdc
      obtain ⟨a0, a1⟩ := A9
      go_wp2_with fail
      go_at_call 115
      clear a0 a1
      refine hdc.mono ?_
      rintro e w9 ⟨aD, cD, rfl, oD, k9⟩
      clear hdc
      rw [← hDM.out] at oD ⊢
      have z9 := BBv2.size
      have S9 : w.heap.size + 1 + 1 < v2.heap.size := R9.lt
      have RX := R9.below k9 R9.lt
      have BX := BBv2.trans (k9.mono (by omega))
      have RP := RX.put id (.slice aD D.length cD)
      obtain ⟨⟨r0, r1⟩, rf⟩ := RX
      have BZ := (BX.setCell (p := ⟨w.heap.size + 1 + 1, 0, none⟩) (by show base ≤ w.heap.size + 1 + 1; omega) (.int .i64 id)).setCell (p := ⟨w.heap.size + 1 + 1, 1, none⟩) (by show base ≤ w.heap.size + 1 + 1; omega) (.slice aD D.length cD)
      have OZ : FOwn ptEnc 11 47 base ((w9.setCell ⟨w.heap.size + 1 + 1, 0, none⟩ (.int .i64 id)).setCell ⟨w.heap.size + 1 + 1, 1, none⟩ (.slice aD D.length cD)) (.slice aD D.length cD) D := (oD.base (by omega)).keep fun g' e => by
        have := (oD.lt g' e).1
        rw [Below.heap_setCell _ _ _ _ (by show g' ≠ w.heap.size + 1 + 1; omega), Below.heap_setCell _ _ _ _ (by show g' ≠ w.heap.size + 1 + 1; omega)]
      have b0z := B0.size
      have sbz := SBv2.size
      have WZ : Bar g w.heap.size w ((w9.setCell ⟨w.heap.size + 1 + 1, 0, none⟩ (.int .i64 id)).setCell ⟨w.heap.size + 1 + 1, 1, none⟩ (.slice aD D.length cD)) := ⟨BZ.size, fun q hq hne => by
        rw [Below.heap_setCell _ _ _ _ (by show q ≠ w.heap.size + 1 + 1; omega), Below.heap_setCell _ _ _ _ (by show q ≠ w.heap.size + 1 + 1; omega)]
        exact (k9.block q (by omega)).trans ((SBv2.block q (by omega) hne).trans (B0.block q hq))⟩
      have JZ : ∀ g_, (Value.slice aD D.length cD).ownBlock = some g_ → g_ = g ∨ w.heap.size ≤ g_ := fun g_ e => .inr (by have := (oD.lt g_ e).1; omega)
      obtain ⟨⟨p0, p1⟩, _⟩ := RP
      go_wp2
      refine bodyPost_ret (v := .agg #[.int .i64 id, .slice aD D.length cD]) (by simp [results, Tryz.results93, go_sem, *]) rfl ⟨_, _, rfl, OZ, JZ, WZ, BZ⟩

end Go.Proofs.YthgcbihhdbpbdaaGreatDoor
