/- Bridges copied. -/
import Derived.Test.YtnpiljegdiconaaGreatRows
import Derived.WalkKit
import Derived.ProofKit
import Derived.OpenShut
import Derived.ShutString
import Derived.ChangeOld
import Derived.Below
import Derived.Deep.QuietTactic
import Derived.BigQuiet
import Derived.WalkSmall
import Derived.Laws.OwnMore
import Derived.WalkSpells
import Derived.WalkLawsBesides
import Derived.Lib.SliceRun
import Derived.Test.YtnpiljegdiconaaGreatBr3
import Derived.Test.YtnpiljegdiconaaGreatFlatApp
import Derived.Test.YtnpiljegdiconaaGreatTakes
namespace Go.Proofs.YtnpiljegdiconaaGreat
open Go.ChangeShapes Go.WideShapes Go.ChangeAt Go.RowKit
open Go.ChangeMaps (open_string shut_string)
set_option linter.unusedVariables false
set_option maxRecDepth 100000

set_option maxHeartbeats 1000000 in
theorem cloneP (ad : Option Addr) (cap : Nat) (L : List Pt) (w : World) (hv : FView ptEnc w ad L) (hl : L.length ≤ 1048576) :
    Calls Tryz.prog 216 #[.slice ad L.length cap] w fun e w' => ∃ ad' cap', e = .returned (.slice ad' L.length cap') ∧ FOwn ptEnc 11 109 w.heap.size w' (.slice ad' L.length cap') L ∧ Below w.heap.size w w' := by
  obtain ⟨i1, hj, hy0, hy1, hy2⟩ := info_parts ptInfo
  cases ad with
  | none =>
    obtain rfl := hv.none_nil
    have hEq : ∀ (y : World) (c : Nat), (binOp .eql 54 (.slice none 0 c) (.slice none 0 0)).run Tryz.prog y = .ok (.bool true) y := fun y c => Go.Lib.run_eql_slice_nil y 54 109 none 0 c 0 0 Tryz.underlying54
    simp only [List.length_nil]
    go_enter Tryz.func216, Tryz.ntmps216
    go_wp2
    go_ret
    exact ⟨_, _, rfl, FOwn.nil, Below.refl _ _⟩
  | some a =>
    have hB := hv.lt ptEnc_len (by omega)
    have B0 := below_new (w := w) (Obj.cells #[] 109)
    have hv1 : FView ptEnc (w.alloc (Obj.cells #[] 109)) (some a) L := hv.below B0 hB
    have hEq : ∀ (y : World), (binOp .eql 54 (.slice (some a) L.length cap) (.slice none 0 0)).run Tryz.prog y = .ok (.bool false) y := fun y => Go.Lib.run_eql_slice_nil y 54 109 (some a) L.length cap 0 0 Tryz.underlying54
    go_enter Tryz.func216, Tryz.ntmps216
    go_wp2_with (first | (at_builtin; refine fappL ptEnc_len ptEnc_ones rfl _ _ 54 rfl w.heap.size 109 i1 (.agg #[.bool false, .bool false, .int .i64 0, .int .i64 0, .int .i64 0, .int .i64 0, .int .i64 0, .int .i64 0, .int .i64 0, .int .i64 0, .bool false]) 80 Tryz.underlying54 hj hy0 hy1 hy2 rfl (by decide) (by decide) _ ([] : List Pt) rfl (FOwn.empty w) (some a) cap L rfl (fun e => by cases e) hv1 ?z0 ?z1 ?_) | go_in)
    case z0 => simp; omega
    case z1 => simp
    intro vZ wZ hownZ hgrowZ _
    have BZ : Below w.heap.size w wZ := B0.grown hgrowZ (by simp) (fun j e => ((FOwn.empty w : FOwn ptEnc 11 109 _ _ _ _).lt j e).1)
    replace hownZ : FOwn ptEnc 11 109 w.heap.size wZ vZ L := hownZ
    obtain ⟨adZ, capZ, rfl⟩ := hownZ.open_
    clear hgrowZ B0 hv1
    go_wp2
    go_ret
    exact ⟨_, _, rfl, hownZ, BZ⟩
set_option maxHeartbeats 1000000 in
theorem copI (id : Int) (ad : Option Addr) (cap : Nat) (L : List Pt) (w : World) (hv : FView ptEnc w ad L) (hl : L.length ≤ 1048576) (hn : ad = none → cap = 0) :
    Calls Tryz.prog 192 #[.agg #[.int .i64 id, .slice ad L.length cap]] w fun e w' => ∃ ad' cap', e = .returned (.agg #[.int .i64 id, .slice ad' L.length cap']) ∧ FOwn ptEnc 11 109 w.heap.size w' (.slice ad' L.length cap') L ∧ Below w.heap.size w w' := by
  have hB := hv.lt ptEnc_len (by omega)
  obtain ⟨y, hy⟩ : ∃ y, y = (w.alloc (Obj.cells #[.int .i64 id, .slice ad L.length cap] 56)).alloc (Obj.cells #[.int .i64 0, .slice none 0 0] 56) := ⟨_, rfl⟩
  have B0 : Below w.heap.size w y := by rw [hy]; exact ((Below.refl _ _).alloc (Nat.le_refl _) _).alloc (by simp) _
  have A0 : BrAt y w.heap.size id (.slice ad L.length cap) := by rw [hy]; constructor <;> simp [go_sem]
  have A1 : BBox y (w.heap.size + 1) 0 (.slice none 0 0) := by rw [hy]; refine ⟨?_, fun i => ?_⟩; constructor <;> simp [go_sem]; simp [go_sem]
  have S0 := A1.lt
  have hv1 := hv.below B0 hB
  obtain ⟨i1, hj, hy0, hy1, hy2⟩ := info_parts ptInfo
  go_enter Tryz.func192, Tryz.ntmps192
  go_wp2
  rw [← hy]
  clear hy
  refine wp_region_held (S := fun Y => Below (w.heap.size + 1) y Y) (by kernel_rfl) ?_
  change wpAnyH _ _ _ _ _ _ _ _ (World.drew _)
  have hb0 : Below y.heap.size y y.drew := (Below.refl _ _).drew
  obtain ⟨u0, hy0'⟩ : ∃ y_, y_ = y.drew := ⟨_, rfl⟩
  rw [← hy0'] at hb0 ⊢
  clear hy0'
  have hc0 : Below (w.heap.size + 1) y u0 := hb0.mono (by omega)
  refine takeW 0 3 (.pointer (some ⟨w.heap.size, 0, none⟩)) rfl rfl (by kernel_rfl) (by kernel_rfl) (by kernel_rfl) (fun _ _ _ h => h) (by kernel_rfl) (by (intro w hSw; go_simp)) (by assumption) ?_
  simp only [List.set_cons_zero, List.set_cons_succ]
  refine takeW 1 4 (.int .i64 id) rfl rfl (by kernel_rfl) (by kernel_rfl) (by kernel_rfl) (fun _ _ _ h => h) (by kernel_rfl) (by (intro Y hSw; obtain ⟨X0, X1⟩ := A0.below hSw (by omega); go_simp)) (by assumption) ?_
  simp only [List.set_cons_zero, List.set_cons_succ]
  refine takeW 2 5 (.pointer (some ⟨w.heap.size, 1, none⟩)) rfl rfl (by kernel_rfl) (by kernel_rfl) (by kernel_rfl) (fun _ _ _ h => h) (by kernel_rfl) (by (intro w hSw; go_simp)) (by assumption) ?_
  simp only [List.set_cons_zero, List.set_cons_succ]
  refine takeW 3 6 (.slice ad L.length cap) rfl rfl (by kernel_rfl) (by kernel_rfl) (by kernel_rfl) (fun _ _ _ h => h) (by kernel_rfl) (by (intro Y hSw; obtain ⟨X0, X1⟩ := A0.below hSw (by omega); go_simp)) (by assumption) ?_
  simp only [List.set_cons_zero, List.set_cons_succ]
  refine wpAnyH_all (rs := [4]) (by kernel_rfl) (by simp) ?_
  intro i hi; obtain rfl : i = 4 := by simpa using hi
  refine wpOp_step rfl (fun K hK => ?_)
  rw [if_pos (by kernel_rfl)]
  go_simp
  go_at_call 216
  refine (cloneP ad cap L u0 (hv1.below hb0 (hv1.lt ptEnc_len (by omega))) hl).mono ?_
  rintro e u1 ⟨adN, capN, rfl, oN, kq⟩
  have z0 := hb0.size
  have hb1 : Below y.heap.size y u1 := hb0.trans (kq.mono hb0.size)
  have hc1 : Below (w.heap.size + 1) y u1 := hb1.mono (by omega)
  refine hK _ _ ⟨hc1, ?_⟩
  clear hK K hi
  refine takeW 5 8 (.agg #[.int .i64 id, .slice adN L.length capN]) rfl rfl (by kernel_rfl) (by kernel_rfl) (by kernel_rfl) (fun _ _ _ h => h) (by kernel_rfl) (by (intro w hSw; go_simp)) (by assumption) ?_
  simp only [List.set_cons_zero, List.set_cons_succ]
  refine wpAnyH_all (rs := [6]) (by kernel_rfl) (by simp) ?_
  intro i hi; obtain rfl : i = 6 := by simpa using hi
  refine wpOp_step rfl (fun K hK => ?_)
  rw [if_pos (by kernel_rfl)]
  have A2 := A1.below hb1 S0
  have A3 := A2
  obtain ⟨⟨t0, t1⟩, tf⟩ := A2
  go_simp
  clear t0 t1 tf
  obtain ⟨uf, hu⟩ : ∃ y_, y_ = (u1.setCell ⟨w.heap.size + 1, 0, none⟩ (.int .i64 id)).setCell ⟨w.heap.size + 1, 1, none⟩ (.slice adN L.length capN) := ⟨_, rfl⟩
  have A4 : BBox uf (w.heap.size + 1) id (.slice adN L.length capN) := by rw [hu]; exact A3.put _ _
  have OF : FOwn ptEnc 11 109 w.heap.size uf (.slice adN L.length capN) L := (oN.base (by omega)).keep fun g e => by
    have := oN.lt g e
    rw [hu, Below.heap_setCell _ _ _ _ (by show g ≠ w.heap.size + 1; omega), Below.heap_setCell _ _ _ _ (by show g ≠ w.heap.size + 1; omega)]
  have BF : Below w.heap.size w uf := by rw [hu]; exact ((B0.trans (hb1.mono B0.size)).setCell (by show _ ≤ w.heap.size + 1; omega) _).setCell (by show _ ≤ w.heap.size + 1; omega) _
  have hbf : Below (w.heap.size + 1) y uf := by rw [hu]; exact (hc1.setCell (Nat.le_refl (w.heap.size + 1)) _).setCell (Nat.le_refl (w.heap.size + 1)) _
  rw [← hu]
  clear hu
  refine hK _ _ ⟨hbf, ?_⟩
  clear hK K hi
  refine wpAnyH_done (by kernel_rfl) ?_ _
  obtain ⟨t0, t1⟩ := A4.at_
  go_wp2
  refine bodyPost_ret (v := .agg #[.int .i64 id, .slice adN L.length capN]) (by simp [results, Tryz.results192, go_sem, *]) rfl ⟨_, _, rfl, OF, BF⟩
set_option maxHeartbeats 1000000 in
theorem copS (id : Int) (ad : Option Addr) (cap : Nat) (L : List Pt) (w : World) (hv : FView ptEnc w ad L) (hl : L.length ≤ 1048576) (hn : ad = none → cap = 0) :
    Calls Tryz.prog 135 #[.agg #[.int .i64 id, .slice ad L.length cap]] w fun e w' => ∃ ad' cap', e = .returned (.agg #[.int .i64 id, .slice ad' L.length cap']) ∧ FOwn ptEnc 11 109 w.heap.size w' (.slice ad' L.length cap') L ∧ Below w.heap.size w w' := by
  have hB := hv.lt ptEnc_len (by omega)
  obtain ⟨y, hy⟩ : ∃ y, y = (w.alloc (Obj.cells #[.int .i64 id, .slice ad L.length cap] 56)).alloc (Obj.cells #[.int .i64 0, .slice none 0 0] 56) := ⟨_, rfl⟩
  have B0 : Below w.heap.size w y := by rw [hy]; exact ((Below.refl _ _).alloc (Nat.le_refl _) _).alloc (by simp) _
  have A0 : BrAt y w.heap.size id (.slice ad L.length cap) := by rw [hy]; constructor <;> simp [go_sem]
  have A1 : BBox y (w.heap.size + 1) 0 (.slice none 0 0) := by rw [hy]; refine ⟨?_, fun i => ?_⟩; constructor <;> simp [go_sem]; simp [go_sem]
  have S0 := A1.lt
  have hv1 := hv.below B0 hB
  obtain ⟨i1, hj, hy0, hy1, hy2⟩ := info_parts ptInfo
  go_enter Tryz.func135, Tryz.ntmps135
  go_wp2
  rw [← hy]
  clear hy
  refine wp_region_held (S := fun Y => Below (w.heap.size + 1) y Y) (by kernel_rfl) ?_
  change wpAnyH _ _ _ _ _ _ _ _ (World.drew _)
  have hb0 : Below y.heap.size y y.drew := (Below.refl _ _).drew
  obtain ⟨u0, hy0'⟩ : ∃ y_, y_ = y.drew := ⟨_, rfl⟩
  rw [← hy0'] at hb0 ⊢
  clear hy0'
  have hc0 : Below (w.heap.size + 1) y u0 := hb0.mono (by omega)
  refine takeW 0 3 (.pointer (some ⟨w.heap.size, 0, none⟩)) rfl rfl (by kernel_rfl) (by kernel_rfl) (by kernel_rfl) (fun _ _ _ h => h) (by kernel_rfl) (by (intro w hSw; go_simp)) (by assumption) ?_
  simp only [List.set_cons_zero, List.set_cons_succ]
  refine takeW 1 4 (.int .i64 id) rfl rfl (by kernel_rfl) (by kernel_rfl) (by kernel_rfl) (fun _ _ _ h => h) (by kernel_rfl) (by (intro Y hSw; obtain ⟨X0, X1⟩ := A0.below hSw (by omega); go_simp)) (by assumption) ?_
  simp only [List.set_cons_zero, List.set_cons_succ]
  refine takeW 3 6 (.pointer (some ⟨w.heap.size, 1, none⟩)) rfl rfl (by kernel_rfl) (by kernel_rfl) (by kernel_rfl) (fun _ _ _ h => h) (by kernel_rfl) (by (intro w hSw; go_simp)) (by assumption) ?_
  simp only [List.set_cons_zero, List.set_cons_succ]
  refine takeW 4 7 (.slice ad L.length cap) rfl rfl (by kernel_rfl) (by kernel_rfl) (by kernel_rfl) (fun _ _ _ h => h) (by kernel_rfl) (by (intro Y hSw; obtain ⟨X0, X1⟩ := A0.below hSw (by omega); go_simp)) (by assumption) ?_
  simp only [List.set_cons_zero, List.set_cons_succ]
  refine wpAnyH_all (rs := [2]) (by kernel_rfl) (by simp) ?_
  intro i hi; obtain rfl : i = 2 := by simpa using hi
  refine wpOp_step rfl (fun K hK => ?_)
  rw [if_pos (by kernel_rfl)]
  go_simp
  obtain ⟨u1, hu1⟩ : ∃ y_, y_ = u0.alloc (Obj.cells #[] 109) := ⟨_, rfl⟩
  have oE : FOwn ptEnc 11 109 u0.heap.size u1 (.slice (some ⟨u0.heap.size, 0, none⟩) 0 0) ([] : List Pt) := by rw [hu1]; exact FOwn.empty u0
  have kq : Below u0.heap.size u0 u1 := by rw [hu1]; exact below_new _
  have z0 := hb0.size
  have hb1 : Below y.heap.size y u1 := hb0.trans (kq.mono hb0.size)
  have hc1 : Below (w.heap.size + 1) y u1 := hb1.mono (by omega)
  have z1 := kq.size
  rw [← hu1]
  clear hu1
  generalize u0.heap.size = E at oE kq z0 z1 ⊢
  refine hK _ _ ⟨hc1, ?_⟩
  clear hK K hi
  refine wpAnyH_all (rs := [5]) (by kernel_rfl) (by simp) ?_
  intro i hi; obtain rfl : i = 5 := by simpa using hi
  refine wpOp_step rfl (fun K hK => ?_)
  rw [if_pos (by kernel_rfl)]
  refine fapp ptEnc_len ptEnc_ones 8 _ _ 54 rfl rfl E 109 i1 (.agg #[.bool false, .bool false, .int .i64 0, .int .i64 0, .int .i64 0, .int .i64 0, .int .i64 0, .int .i64 0, .int .i64 0, .int .i64 0, .bool false]) 80 Tryz.underlying54 hj hy0 hy1 hy2 rfl (by decide) (by decide) (.slice (some ⟨E, 0, none⟩) 0 0) ([] : List Pt) rfl oE ad cap L rfl hn (hv1.below hb1 (hv1.lt ptEnc_len (by omega))) (by simp; omega) z1 ?_
  intro vN u2 oN gN _
  replace oN : FOwn ptEnc 11 109 E u2 vN L := oN
  have hb2 : Below y.heap.size y u2 := hb1.grown gN hb1.size (fun j e => Nat.le_trans z0 (oE.lt j e).1)
  have hc2 : Below (w.heap.size + 1) y u2 := hb2.mono (by omega)
  obtain ⟨adN, capN, rfl⟩ := oN.open_
  clear gN
  simp only [List.set_cons_zero, List.set_cons_succ]
  refine hK _ _ ⟨hc2, ?_⟩
  clear hK K hi
  refine takeW 6 9 (.agg #[.int .i64 id, .slice adN L.length capN]) rfl rfl (by kernel_rfl) (by kernel_rfl) (by kernel_rfl) (fun _ _ _ h => h) (by kernel_rfl) (by (intro w hSw; go_simp)) (by assumption) ?_
  simp only [List.set_cons_zero, List.set_cons_succ]
  refine wpAnyH_all (rs := [7]) (by kernel_rfl) (by simp) ?_
  intro i hi; obtain rfl : i = 7 := by simpa using hi
  refine wpOp_step rfl (fun K hK => ?_)
  rw [if_pos (by kernel_rfl)]
  have A2 := A1.below hb2 S0
  have A3 := A2
  obtain ⟨⟨t0, t1⟩, tf⟩ := A2
  go_simp
  clear t0 t1 tf
  obtain ⟨uf, hu⟩ : ∃ y_, y_ = (u2.setCell ⟨w.heap.size + 1, 0, none⟩ (.int .i64 id)).setCell ⟨w.heap.size + 1, 1, none⟩ (.slice adN L.length capN) := ⟨_, rfl⟩
  have A4 : BBox uf (w.heap.size + 1) id (.slice adN L.length capN) := by rw [hu]; exact A3.put _ _
  have OF : FOwn ptEnc 11 109 w.heap.size uf (.slice adN L.length capN) L := (oN.base (by omega)).keep fun g e => by
    have := oN.lt g e
    rw [hu, Below.heap_setCell _ _ _ _ (by show g ≠ w.heap.size + 1; omega), Below.heap_setCell _ _ _ _ (by show g ≠ w.heap.size + 1; omega)]
  have BF : Below w.heap.size w uf := by rw [hu]; exact ((B0.trans (hb2.mono B0.size)).setCell (by show _ ≤ w.heap.size + 1; omega) _).setCell (by show _ ≤ w.heap.size + 1; omega) _
  have hbf : Below (w.heap.size + 1) y uf := by rw [hu]; exact (hc2.setCell (Nat.le_refl (w.heap.size + 1)) _).setCell (Nat.le_refl (w.heap.size + 1)) _
  rw [← hu]
  clear hu
  refine hK _ _ ⟨hbf, ?_⟩
  clear hK K hi
  refine wpAnyH_done (by kernel_rfl) ?_ _
  obtain ⟨t0, t1⟩ := A4.at_
  go_wp2
  refine bodyPost_ret (v := .agg #[.int .i64 id, .slice adN L.length capN]) (by simp [results, Tryz.results135, go_sem, *]) rfl ⟨_, _, rfl, OF, BF⟩

end Go.Proofs.YtnpiljegdiconaaGreat
