/- impl.withNumbers, walked. -/
import Derived.Test.YthgcbihhdbpbdaaGreatDoorRows
import Derived.WalkKit
import Derived.ProofKit
import Derived.OpenShut
import Derived.ShutString
import Derived.ChangeOld
import Derived.Below
import Derived.Deep.QuietTactic
import Derived.BigQuiet
import Derived.WalkSmall
import Derived.Laws.OwnMore
import Derived.WalkSpells
import Derived.WalkLawsBesides
import Derived.Deep.Cut
import Derived.Test.YthgcbihhdbpbdaaGreatDoorM11
import Derived.Test.YthgcbihhdbpbdaaGreatDoorM10
import Derived.Test.YthgcbihhdbpbdaaGreatDoorM1
namespace Go.Proofs.YthgcbihhdbpbdaaGreatDoor
open Go.ChangeShapes Go.WideShapes Go.ChangeAt Go.RowKit
open Go.ChangeMaps (open_string shut_string)
set_option linter.unusedVariables false
set_option maxRecDepth 100000

set_option maxHeartbeats 8000000 in
theorem withI (ad : Option Addr) (cap : Nat) (M : List Int) (w : World) (hv : FView iEnc w ad M) (hM2 : 2 ≤ M.length) (hk1 : M.getD 0 0 = 1 → 7 ≤ M.length) (hk3 : M.getD 0 0 = 3 → 3 ≤ M.length) (hml : M.length ≤ 7) :
    Calls Tryz.prog 84 #[.slice ad M.length cap] w fun e w' => e = .returned (.agg #[.int .i64 (inC fun j => M.getD j 0).k, .int .i64 (inC fun j => M.getD j 0).q, .int .i64 (inC fun j => M.getD j 0).r, .int .i64 (inC fun j => M.getD j 0).c, .int .i64 (inC fun j => M.getD j 0).b, .int .i64 (inC fun j => M.getD j 0).p, .int .i64 (inC fun j => M.getD j 0).h, .bool (inC fun j => M.getD j 0).up]) ∧ Below w.heap.size w w' := by
  obtain ⟨x, hx⟩ : ∃ x, inC (fun j => M.getD j 0) = x := ⟨_, rfl⟩
  rw [hx]
  have hB := hv.lt iEnc_len (by omega)
  have hat : ∀ j, j < M.length → ∀ Y, Below w.heap.size w Y → ∃ b off, ad = some ⟨b, off, none⟩ ∧ Y.cell? ⟨b, off + j, none⟩ = some (.int .i64 (M.getD j 0)) := fun j hj Y hY => iAt (hv.below hY hB) hj
  obtain ⟨b, off, rfl, _⟩ := hat 0 (by omega) w (Below.refl _ _)
  have hat : ∀ j, j < M.length → ∀ Y, Below w.heap.size w Y → Y.cell? ⟨b, off + j, none⟩ = some (.int .i64 (M.getD j 0)) := fun j hj Y hY => by
    obtain ⟨b', off', e, h⟩ := hat j hj Y hY
    cases e
    exact h
  obtain ⟨y0, hy⟩ : ∃ y, y = w.alloc (Obj.cells #[.int .i64 0, .int .i64 0, .int .i64 0, .int .i64 0, .int .i64 0, .int .i64 0, .int .i64 0, .bool false] 27) := ⟨_, rfl⟩
  have Z0 : JBox y0 w.heap.size Ik.nil := by rw [hy]; refine ⟨?_, fun i => by simp [go_sem]⟩; constructor <;> simp [go_sem, Ik.nil]
  have BW : Below w.heap.size w y0 := by rw [hy]; exact below_new _
  have lz := Z0.lt
  have hMne : ¬ M = [] := by intro e; rw [e] at hM2; simp at hM2
  unfold inC at hx
  dsimp only at hx
  have h0 := hat 0 (by omega)
  have h1 := hat 1 (by omega)
  simp only [Nat.add_zero] at h0
  obtain ⟨m0, hm0⟩ : ∃ m, M.getD 0 0 = m := ⟨_, rfl⟩
  obtain ⟨m1, hm1⟩ : ∃ m, M.getD 1 0 = m := ⟨_, rfl⟩
  simp only [hm0, hm1] at hx
  simp only [hm0] at h0 hk1 hk3
  simp only [hm1] at h1
  clear hv hB hm0 hm1
  by_cases e1 : m0 = 1
  · subst e1
    rw [if_pos rfl] at hx
    have hl7 := hk1 rfl
    have h2 := hat 2 (by omega)
    obtain ⟨m2, hm2⟩ : ∃ m, M.getD 2 0 = m := ⟨_, rfl⟩
    simp only [hm2] at hx h2
    clear hm2
    have h3 := hat 3 (by omega)
    obtain ⟨m3, hm3⟩ : ∃ m, M.getD 3 0 = m := ⟨_, rfl⟩
    simp only [hm3] at hx h3
    clear hm3
    have h4 := hat 4 (by omega)
    obtain ⟨m4, hm4⟩ : ∃ m, M.getD 4 0 = m := ⟨_, rfl⟩
    simp only [hm4] at hx h4
    clear hm4
    have h5 := hat 5 (by omega)
    obtain ⟨m5, hm5⟩ : ∃ m, M.getD 5 0 = m := ⟨_, rfl⟩
    simp only [hm5] at hx h5
    clear hm5
    have h6 := hat 6 (by omega)
    obtain ⟨m6, hm6⟩ : ∃ m, M.getD 6 0 = m := ⟨_, rfl⟩
    simp only [hm6] at hx h6
    clear hm6
    replace hx : Hid (_ = x) := hx
    replace hx : Hid (x = ⟨1, m1, m2, m3, m4, m5, m6, false⟩) := hx.out.symm
    clear hat
    go_enter Tryz.func84, Tryz.ntmps84
    go_upto_region 1 with fail
    rw [← hy]
    clear hy
    refine wp_region_held (S := fun Y => Below y0.heap.size y0 Y) (by kernel_rfl) ?_
    change wpAnyH _ _ _ _ _ _ _ _ (World.drew _)
    have hb0 : Below y0.heap.size y0 y0.drew := (Below.refl _ _).drew
    obtain ⟨u0, hy0⟩ : ∃ y_, y_ = y0.drew := ⟨_, rfl⟩
    rw [← hy0] at hb0 ⊢
    clear hy0
    refine takeW 0 4 (.slice (some ⟨b, off, none⟩) M.length cap) rfl rfl (by kernel_rfl) (by kernel_rfl) (by kernel_rfl) (fun _ _ _ h => h) (by kernel_rfl) (by (intro w hSw; go_simp)) (by assumption) ?_
    simp only [List.set_cons_zero, List.set_cons_succ]
    refine takeW 1 5 (.pointer (some ⟨b, off, none⟩)) rfl rfl (by kernel_rfl) (by kernel_rfl) (by kernel_rfl) (fun _ _ _ h => h) (by kernel_rfl) (by (intro Y hSw; go_simp; try omega)) (by assumption) ?_
    simp only [List.set_cons_zero, List.set_cons_succ]
    refine takeW 2 6 (.int .i64 1) rfl rfl (by kernel_rfl) (by kernel_rfl) (by kernel_rfl) (fun _ _ _ h => h) (by kernel_rfl) (by (intro Y hSw; have hq := h0 Y (BW.trans (hSw.mono BW.size)); go_simp)) (by assumption) ?_
    simp only [List.set_cons_zero, List.set_cons_succ]
    refine takeW 3 7 (.slice (some ⟨b, off, none⟩) M.length cap) rfl rfl (by kernel_rfl) (by kernel_rfl) (by kernel_rfl) (fun _ _ _ h => h) (by kernel_rfl) (by (intro w hSw; go_simp)) (by assumption) ?_
    simp only [List.set_cons_zero, List.set_cons_succ]
    refine takeW 4 8 (.pointer (some ⟨b, off + 1, none⟩)) rfl rfl (by kernel_rfl) (by kernel_rfl) (by kernel_rfl) (fun _ _ _ h => h) (by kernel_rfl) (by (intro Y hSw; go_simp; try omega)) (by assumption) ?_
    simp only [List.set_cons_zero, List.set_cons_succ]
    refine takeW 5 9 (.int .i64 m1) rfl rfl (by kernel_rfl) (by kernel_rfl) (by kernel_rfl) (fun _ _ _ h => h) (by kernel_rfl) (by (intro Y hSw; have hq := h1 Y (BW.trans (hSw.mono BW.size)); go_simp)) (by assumption) ?_
    simp only [List.set_cons_zero, List.set_cons_succ]
    refine takeW 6 10 (.agg #[.int .i64 1, .int .i64 m1, .int .i64 0, .int .i64 0, .int .i64 0, .int .i64 0, .int .i64 0, .bool false]) rfl rfl (by kernel_rfl) (by kernel_rfl) (by kernel_rfl) (fun _ _ _ h => h) (by kernel_rfl) (by (intro w hSw; go_simp)) (by assumption) ?_
    simp only [List.set_cons_zero, List.set_cons_succ]
    refine wpAnyH_all (rs := [7]) (by kernel_rfl) (by simp) ?_
    intro i hi; obtain rfl : i = 7 := by simpa using hi
    refine wpOp_step rfl (fun K hK => ?_)
    rw [if_pos (by kernel_rfl)]
    go_simp
    obtain ⟨u1, hu1⟩ : ∃ y_, y_ = u0.alloc (Obj.cells #[.int .i64 0, .int .i64 0, .int .i64 0, .int .i64 0, .int .i64 0, .int .i64 0, .int .i64 0, .bool false] 27) := ⟨_, rfl⟩
    have Q0 : JBox u1 u0.heap.size ⟨0, 0, 0, 0, 0, 0, 0, false⟩ := by rw [hu1]; refine ⟨?_, fun i => by simp [go_sem]⟩; constructor <;> simp [go_sem]
    have kq : Below u0.heap.size u0 u1 := by rw [hu1]; exact below_new _
    have hb1 : Below y0.heap.size y0 u1 := hb0.trans (kq.mono hb0.size)
    rw [← hu1]
    clear hu1 kq
    have s0 := hb0.size
    obtain ⟨q, hq⟩ : ∃ q, q = u0.heap.size := ⟨_, rfl⟩
    rw [← hq] at Q0 ⊢
    have lq : y0.heap.size ≤ q := by omega
    clear hq s0
    refine hK _ _ ⟨hb1, ?_⟩
    clear hK K hi
    refine wpAnyH_all (rs := [8]) (by kernel_rfl) (by simp) ?_
    intro i hi; obtain rfl : i = 8 := by simpa using hi
    refine wpOp_step rfl (fun K hK => ?_)
    rw [if_pos (by kernel_rfl)]
    have Q1 := Q0
    obtain ⟨⟨e0, e1, e2, e3, e4, e5, e6, e7⟩, ef⟩ := Q0
    have f0 := ef 0
    have f1 := ef 1
    have f2 := ef 2
    have f3 := ef 3
    have f4 := ef 4
    have f5 := ef 5
    have f6 := ef 6
    have f7 := ef 7
    go_simp
    clear e0 e1 e2 e3 e4 e5 e6 e7 ef f0 f1 f2 f3 f4 f5 f6 f7
    obtain ⟨u2, hu2⟩ : ∃ y_, y_ = ((((((((u1.setCell ⟨q, 0, none⟩ (.int .i64 1)).setCell ⟨q, 1, none⟩ (.int .i64 m1)).setCell ⟨q, 2, none⟩ (.int .i64 0)).setCell ⟨q, 3, none⟩ (.int .i64 0)).setCell ⟨q, 4, none⟩ (.int .i64 0)).setCell ⟨q, 5, none⟩ (.int .i64 0)).setCell ⟨q, 6, none⟩ (.int .i64 0)).setCell ⟨q, 7, none⟩ (.bool false)) := ⟨_, rfl⟩
    have X0 : JBox u2 q ⟨1, m1, 0, 0, 0, 0, 0, false⟩ := by rw [hu2]; exact Q1.putAll ⟨1, m1, 0, 0, 0, 0, 0, false⟩
    have hb2 : Below y0.heap.size y0 u2 := by rw [hu2]; exact below_all hb1 lq ⟨1, m1, 0, 0, 0, 0, 0, false⟩
    rw [← hu2]
    clear hu2 Q1
    refine hK _ _ ⟨hb2, ?_⟩
    clear hK K hi
    refine wpAnyH_done (by kernel_rfl) ?_ _
    replace BW := BW.trans (hb2.mono BW.size)
    have lw : w.heap.size ≤ q := by omega
    have lw2 : w.heap.size < q := by omega
    have Z0 := Z0.below hb2 Z0.lt
    clear hb0 hb1 hb2
    have cc := X0
    obtain ⟨⟨e0, e1, e2, e3, e4, e5, e6, e7⟩, ef⟩ := cc
    go_upto_region 4 with fail
    clear e0 e1 e2 e3 e4 e5 e6 e7 ef
    refine wp_region_held (S := fun Y => Below w.heap.size w Y) (by kernel_rfl) ?_
    change wpAnyH _ _ _ _ _ _ _ _ (World.drew _)
    have hb0 : Below u2.heap.size u2 u2.drew := (Below.refl _ _).drew
    obtain ⟨v0, hy0⟩ : ∃ y_, y_ = u2.drew := ⟨_, rfl⟩
    rw [← hy0] at hb0 ⊢
    clear hy0
    have hS0 := BW.trans (hb0.mono BW.size)
    refine takeW 0 15 (.slice (some ⟨b, off, none⟩) M.length cap) rfl rfl (by kernel_rfl) (by kernel_rfl) (by kernel_rfl) (fun _ _ _ h => h) (by kernel_rfl) (by (intro w hSw; go_simp)) (by assumption) ?_
    simp only [List.set_cons_zero, List.set_cons_succ]
    refine takeW 1 16 (.pointer (some ⟨b, off + 2, none⟩)) rfl rfl (by kernel_rfl) (by kernel_rfl) (by kernel_rfl) (fun _ _ _ h => h) (by kernel_rfl) (by (intro Y hSw; go_simp; try omega)) (by assumption) ?_
    simp only [List.set_cons_zero, List.set_cons_succ]
    refine takeW 2 17 (.int .i64 m2) rfl rfl (by kernel_rfl) (by kernel_rfl) (by kernel_rfl) (fun _ _ _ h => h) (by kernel_rfl) (by (intro Y hSw; have hq := h2 Y (hSw); go_simp)) (by assumption) ?_
    simp only [List.set_cons_zero, List.set_cons_succ]
    refine takeW 3 18 (.slice (some ⟨b, off, none⟩) M.length cap) rfl rfl (by kernel_rfl) (by kernel_rfl) (by kernel_rfl) (fun _ _ _ h => h) (by kernel_rfl) (by (intro w hSw; go_simp)) (by assumption) ?_
    simp only [List.set_cons_zero, List.set_cons_succ]
    refine takeW 4 19 (.pointer (some ⟨b, off + 3, none⟩)) rfl rfl (by kernel_rfl) (by kernel_rfl) (by kernel_rfl) (fun _ _ _ h => h) (by kernel_rfl) (by (intro Y hSw; go_simp; try omega)) (by assumption) ?_
    simp only [List.set_cons_zero, List.set_cons_succ]
    refine takeW 5 20 (.int .i64 m3) rfl rfl (by kernel_rfl) (by kernel_rfl) (by kernel_rfl) (fun _ _ _ h => h) (by kernel_rfl) (by (intro Y hSw; have hq := h3 Y (hSw); go_simp)) (by assumption) ?_
    simp only [List.set_cons_zero, List.set_cons_succ]
    refine takeW 6 21 (.slice (some ⟨b, off, none⟩) M.length cap) rfl rfl (by kernel_rfl) (by kernel_rfl) (by kernel_rfl) (fun _ _ _ h => h) (by kernel_rfl) (by (intro w hSw; go_simp)) (by assumption) ?_
    simp only [List.set_cons_zero, List.set_cons_succ]
    refine takeW 7 22 (.pointer (some ⟨b, off + 4, none⟩)) rfl rfl (by kernel_rfl) (by kernel_rfl) (by kernel_rfl) (fun _ _ _ h => h) (by kernel_rfl) (by (intro Y hSw; go_simp; try omega)) (by assumption) ?_
    simp only [List.set_cons_zero, List.set_cons_succ]
    refine takeW 8 23 (.int .i64 m4) rfl rfl (by kernel_rfl) (by kernel_rfl) (by kernel_rfl) (fun _ _ _ h => h) (by kernel_rfl) (by (intro Y hSw; have hq := h4 Y (hSw); go_simp)) (by assumption) ?_
    simp only [List.set_cons_zero, List.set_cons_succ]
    refine takeW 9 24 (.slice (some ⟨b, off, none⟩) M.length cap) rfl rfl (by kernel_rfl) (by kernel_rfl) (by kernel_rfl) (fun _ _ _ h => h) (by kernel_rfl) (by (intro w hSw; go_simp)) (by assumption) ?_
    simp only [List.set_cons_zero, List.set_cons_succ]
    refine takeW 10 25 (.pointer (some ⟨b, off + 5, none⟩)) rfl rfl (by kernel_rfl) (by kernel_rfl) (by kernel_rfl) (fun _ _ _ h => h) (by kernel_rfl) (by (intro Y hSw; go_simp; try omega)) (by assumption) ?_
    simp only [List.set_cons_zero, List.set_cons_succ]
    refine takeW 11 26 (.int .i64 m5) rfl rfl (by kernel_rfl) (by kernel_rfl) (by kernel_rfl) (fun _ _ _ h => h) (by kernel_rfl) (by (intro Y hSw; have hq := h5 Y (hSw); go_simp)) (by assumption) ?_
    simp only [List.set_cons_zero, List.set_cons_succ]
    refine takeW 12 27 (.agg #[.int .i64 m2, .int .i64 m3, .int .i64 m4, .int .i64 m5]) rfl rfl (by kernel_rfl) (by kernel_rfl) (by kernel_rfl) (fun _ _ _ h => h) (by kernel_rfl) (by (intro w hSw; go_simp)) (by assumption) ?_
    simp only [List.set_cons_zero, List.set_cons_succ]
    refine takeW 13 28 (.pointer (some ⟨q, 2, none⟩)) rfl rfl (by kernel_rfl) (by kernel_rfl) (by kernel_rfl) (fun _ _ _ h => h) (by kernel_rfl) (by (intro w hSw; go_simp)) (by assumption) ?_
    simp only [List.set_cons_zero, List.set_cons_succ]
    refine wpAnyH_all (rs := [14]) (by kernel_rfl) (by simp) ?_
    intro i hi; obtain rfl : i = 14 := by simpa using hi
    refine wpOp_step rfl (fun K hK => ?_)
    rw [if_pos (by kernel_rfl)]
    have X1 := X0.below hb0 X0.lt
    have X2 := X1
    obtain ⟨⟨e0, e1, e2, e3, e4, e5, e6, e7⟩, ef⟩ := X1
    have f2 := ef 2
    have f3 := ef 3
    have f4 := ef 4
    have f5 := ef 5
    go_simp
    clear e0 e1 e2 e3 e4 e5 e6 e7 ef f2 f3 f4 f5
    obtain ⟨v1, hv1⟩ : ∃ y_, y_ = ((((v0.setCell ⟨q, 2, none⟩ (.int .i64 m2)).setCell ⟨q, 3, none⟩ (.int .i64 m3)).setCell ⟨q, 4, none⟩ (.int .i64 m4)).setCell ⟨q, 5, none⟩ (.int .i64 m5)) := ⟨_, rfl⟩
    have X3 : JBox v1 q ⟨1, m1, m2, m3, m4, m5, 0, false⟩ := by rw [hv1]; exact (((X2.set2 m2).set3 m3).set4 m4).set5 m5
    have hw1 : Below w.heap.size w v1 := by rw [hv1]; exact ((((BW.trans (hb0.mono BW.size)).setCell (p := ⟨q, 2, none⟩) lw _).setCell (p := ⟨q, 3, none⟩) lw _).setCell (p := ⟨q, 4, none⟩) lw _).setCell (p := ⟨q, 5, none⟩) lw _
    have hz1 : v1.heap[w.heap.size]? = u2.heap[w.heap.size]? := by rw [hv1, Below.heap_setCell _ _ _ _ (by show w.heap.size ≠ q; omega), Below.heap_setCell _ _ _ _ (by show w.heap.size ≠ q; omega), Below.heap_setCell _ _ _ _ (by show w.heap.size ≠ q; omega), Below.heap_setCell _ _ _ _ (by show w.heap.size ≠ q; omega)]; exact hb0.block _ Z0.lt
    rw [← hv1]
    clear hv1 X2
    refine hK _ _ ⟨hw1, ?_⟩
    clear hK K hi
    refine wpAnyH_done (by kernel_rfl) ?_ _
    have Z1 := Z0.keep hz1
    clear hz1 Z0 X0 hb0 hS0
    replace BW := hw1
    clear hw1
    have Z0 := Z1
    have X0 := X3
    clear Z1 X3
    have q6 := h6 v1 BW
    have cc := X0
    obtain ⟨⟨e0, e1, e2, e3, e4, e5, e6, e7⟩, ef⟩ := cc
    have f6 := ef 6
    obtain ⟨v2, hv2⟩ : ∃ y_, y_ = v1.setCell ⟨q, 6, none⟩ (.int .i64 m6) := ⟨_, rfl⟩
    have X1 := X0.set6 m6
    have Z1 : JBox v2 w.heap.size Ik.nil := by rw [hv2]; exact Z0.other (by omega)
    rw [← hv2] at X1
    have B1 : Below w.heap.size w v2 := by rw [hv2]; exact BW.setCell (p := ⟨q, 6, none⟩) lw _
    go_upto_region 8 with fail
    rw [← hv2]
    clear hv2 e0 e1 e2 e3 e4 e5 e6 e7 ef f6 q6 X0 Z0 BW
    obtain ⟨⟨e0, e1, e2, e3, e4, e5, e6, e7⟩, ef⟩ := X1
    obtain ⟨⟨g0, g1, g2, g3, g4, g5, g6, g7⟩, gf⟩ := Z1
    have f0 := gf 0
    have f1 := gf 1
    have f2 := gf 2
    have f3 := gf 3
    have f4 := gf 4
    have f5 := gf 5
    have f6 := gf 6
    have f7 := gf 7
    go_wp2
    refine bodyPost_ret (v := .agg #[.int .i64 1, .int .i64 m1, .int .i64 m2, .int .i64 m3, .int .i64 m4, .int .i64 m5, .int .i64 m6, .bool false]) (by simp [results, Tryz.results84, go_sem, *]) rfl ⟨?_, ?_⟩
    · first | (rw [hx.out]; done) | (rw [hx.out]; rfl)
    · exact below_all B1 (Nat.le_refl _) ⟨1, m1, m2, m3, m4, m5, m6, false⟩
  by_cases e3 : m0 = 3
  · subst e3
    rw [if_neg (by decide), if_pos rfl] at hx
    have hl3 := hk3 rfl
    have h2 := hat 2 (by omega)
    obtain ⟨m2, hm2⟩ : ∃ m, M.getD 2 0 = m := ⟨_, rfl⟩
    simp only [hm2] at hx h2
    clear hm2
    replace hx : Hid (x = ⟨3, m1, 0, 0, 0, 0, 0, decide (m2 = 1)⟩) := hx.symm
    clear hat
    go_enter Tryz.func84, Tryz.ntmps84
    go_upto_region 1 with fail
    rw [← hy]
    clear hy
    refine wp_region_held (S := fun Y => Below y0.heap.size y0 Y) (by kernel_rfl) ?_
    change wpAnyH _ _ _ _ _ _ _ _ (World.drew _)
    have hb0 : Below y0.heap.size y0 y0.drew := (Below.refl _ _).drew
    obtain ⟨u0, hy0⟩ : ∃ y_, y_ = y0.drew := ⟨_, rfl⟩
    rw [← hy0] at hb0 ⊢
    clear hy0
    refine takeW 0 4 (.slice (some ⟨b, off, none⟩) M.length cap) rfl rfl (by kernel_rfl) (by kernel_rfl) (by kernel_rfl) (fun _ _ _ h => h) (by kernel_rfl) (by (intro w hSw; go_simp)) (by assumption) ?_
    simp only [List.set_cons_zero, List.set_cons_succ]
    refine takeW 1 5 (.pointer (some ⟨b, off, none⟩)) rfl rfl (by kernel_rfl) (by kernel_rfl) (by kernel_rfl) (fun _ _ _ h => h) (by kernel_rfl) (by (intro Y hSw; go_simp; try omega)) (by assumption) ?_
    simp only [List.set_cons_zero, List.set_cons_succ]
    refine takeW 2 6 (.int .i64 3) rfl rfl (by kernel_rfl) (by kernel_rfl) (by kernel_rfl) (fun _ _ _ h => h) (by kernel_rfl) (by (intro Y hSw; have hq := h0 Y (BW.trans (hSw.mono BW.size)); go_simp)) (by assumption) ?_
    simp only [List.set_cons_zero, List.set_cons_succ]
    refine takeW 3 7 (.slice (some ⟨b, off, none⟩) M.length cap) rfl rfl (by kernel_rfl) (by kernel_rfl) (by kernel_rfl) (fun _ _ _ h => h) (by kernel_rfl) (by (intro w hSw; go_simp)) (by assumption) ?_
    simp only [List.set_cons_zero, List.set_cons_succ]
    refine takeW 4 8 (.pointer (some ⟨b, off + 1, none⟩)) rfl rfl (by kernel_rfl) (by kernel_rfl) (by kernel_rfl) (fun _ _ _ h => h) (by kernel_rfl) (by (intro Y hSw; go_simp; try omega)) (by assumption) ?_
    simp only [List.set_cons_zero, List.set_cons_succ]
    refine takeW 5 9 (.int .i64 m1) rfl rfl (by kernel_rfl) (by kernel_rfl) (by kernel_rfl) (fun _ _ _ h => h) (by kernel_rfl) (by (intro Y hSw; have hq := h1 Y (BW.trans (hSw.mono BW.size)); go_simp)) (by assumption) ?_
    simp only [List.set_cons_zero, List.set_cons_succ]
    refine takeW 6 10 (.agg #[.int .i64 3, .int .i64 m1, .int .i64 0, .int .i64 0, .int .i64 0, .int .i64 0, .int .i64 0, .bool false]) rfl rfl (by kernel_rfl) (by kernel_rfl) (by kernel_rfl) (fun _ _ _ h => h) (by kernel_rfl) (by (intro w hSw; go_simp)) (by assumption) ?_
    simp only [List.set_cons_zero, List.set_cons_succ]
    refine wpAnyH_all (rs := [7]) (by kernel_rfl) (by simp) ?_
    intro i hi; obtain rfl : i = 7 := by simpa using hi
    refine wpOp_step rfl (fun K hK => ?_)
    rw [if_pos (by kernel_rfl)]
    go_simp
    obtain ⟨u1, hu1⟩ : ∃ y_, y_ = u0.alloc (Obj.cells #[.int .i64 0, .int .i64 0, .int .i64 0, .int .i64 0, .int .i64 0, .int .i64 0, .int .i64 0, .bool false] 27) := ⟨_, rfl⟩
    have Q0 : JBox u1 u0.heap.size ⟨0, 0, 0, 0, 0, 0, 0, false⟩ := by rw [hu1]; refine ⟨?_, fun i => by simp [go_sem]⟩; constructor <;> simp [go_sem]
    have kq : Below u0.heap.size u0 u1 := by rw [hu1]; exact below_new _
    have hb1 : Below y0.heap.size y0 u1 := hb0.trans (kq.mono hb0.size)
    rw [← hu1]
    clear hu1 kq
    have s0 := hb0.size
    obtain ⟨q, hq⟩ : ∃ q, q = u0.heap.size := ⟨_, rfl⟩
    rw [← hq] at Q0 ⊢
    have lq : y0.heap.size ≤ q := by omega
    clear hq s0
    refine hK _ _ ⟨hb1, ?_⟩
    clear hK K hi
    refine wpAnyH_all (rs := [8]) (by kernel_rfl) (by simp) ?_
    intro i hi; obtain rfl : i = 8 := by simpa using hi
    refine wpOp_step rfl (fun K hK => ?_)
    rw [if_pos (by kernel_rfl)]
    have Q1 := Q0
    obtain ⟨⟨e0, e1, e2, e3, e4, e5, e6, e7⟩, ef⟩ := Q0
    have f0 := ef 0
    have f1 := ef 1
    have f2 := ef 2
    have f3 := ef 3
    have f4 := ef 4
    have f5 := ef 5
    have f6 := ef 6
    have f7 := ef 7
    go_simp
    clear e0 e1 e2 e3 e4 e5 e6 e7 ef f0 f1 f2 f3 f4 f5 f6 f7
    obtain ⟨u2, hu2⟩ : ∃ y_, y_ = ((((((((u1.setCell ⟨q, 0, none⟩ (.int .i64 3)).setCell ⟨q, 1, none⟩ (.int .i64 m1)).setCell ⟨q, 2, none⟩ (.int .i64 0)).setCell ⟨q, 3, none⟩ (.int .i64 0)).setCell ⟨q, 4, none⟩ (.int .i64 0)).setCell ⟨q, 5, none⟩ (.int .i64 0)).setCell ⟨q, 6, none⟩ (.int .i64 0)).setCell ⟨q, 7, none⟩ (.bool false)) := ⟨_, rfl⟩
    have X0 : JBox u2 q ⟨3, m1, 0, 0, 0, 0, 0, false⟩ := by rw [hu2]; exact Q1.putAll ⟨3, m1, 0, 0, 0, 0, 0, false⟩
    have hb2 : Below y0.heap.size y0 u2 := by rw [hu2]; exact below_all hb1 lq ⟨3, m1, 0, 0, 0, 0, 0, false⟩
    rw [← hu2]
    clear hu2 Q1
    refine hK _ _ ⟨hb2, ?_⟩
    clear hK K hi
    refine wpAnyH_done (by kernel_rfl) ?_ _
    replace BW := BW.trans (hb2.mono BW.size)
    have lw : w.heap.size ≤ q := by omega
    have lw2 : w.heap.size < q := by omega
    have Z0 := Z0.below hb2 Z0.lt
    clear hb0 hb1 hb2
    have q2 := h2 u2 BW
    have cc := X0
    obtain ⟨⟨e0, e1, e2, e3, e4, e5, e6, e7⟩, ef⟩ := cc
    have f7 := ef 7
    obtain ⟨v2, hv2⟩ : ∃ y_, y_ = u2.setCell ⟨q, 7, none⟩ (.bool (m2 == 1)) := ⟨_, rfl⟩
    have X1 := X0.set7 (m2 == 1)
    have Z1 : JBox v2 w.heap.size Ik.nil := by rw [hv2]; exact Z0.other (by omega)
    rw [← hv2] at X1
    have B1 : Below w.heap.size w v2 := by rw [hv2]; exact BW.setCell (p := ⟨q, 7, none⟩) lw _
    go_upto_region 8 with fail
    rw [← hv2]
    clear hv2 e0 e1 e2 e3 e4 e5 e6 e7 ef f7 q2 X0 Z0 BW
    obtain ⟨⟨e0, e1, e2, e3, e4, e5, e6, e7⟩, ef⟩ := X1
    obtain ⟨⟨g0, g1, g2, g3, g4, g5, g6, g7⟩, gf⟩ := Z1
    have f0 := gf 0
    have f1 := gf 1
    have f2 := gf 2
    have f3 := gf 3
    have f4 := gf 4
    have f5 := gf 5
    have f6 := gf 6
    have f7 := gf 7
    go_wp2
    refine bodyPost_ret (v := .agg #[.int .i64 3, .int .i64 m1, .int .i64 0, .int .i64 0, .int .i64 0, .int .i64 0, .int .i64 0, .bool (m2 == 1)]) (by simp [results, Tryz.results84, go_sem, *]) rfl ⟨?_, ?_⟩
    · first | (rw [hx.out]; done) | (rw [hx.out]; rfl)
    · exact below_all B1 (Nat.le_refl _) ⟨3, m1, 0, 0, 0, 0, 0, (m2 == 1)⟩
  rw [if_neg e1, if_neg e3] at hx
  replace hx : Hid (x = ⟨m0, m1, 0, 0, 0, 0, 0, false⟩) := hx.symm
  clear hat
  have d1 : (m0 == 1) = false := by simpa using e1
  have d3 : (m0 == 3) = false := by simpa using e3
  go_enter Tryz.func84, Tryz.ntmps84
  go_upto_region 1 with fail
  rw [← hy]
  clear hy
  refine wp_region_held (S := fun Y => Below y0.heap.size y0 Y) (by kernel_rfl) ?_
  change wpAnyH _ _ _ _ _ _ _ _ (World.drew _)
  have hb0 : Below y0.heap.size y0 y0.drew := (Below.refl _ _).drew
  obtain ⟨u0, hy0⟩ : ∃ y_, y_ = y0.drew := ⟨_, rfl⟩
  rw [← hy0] at hb0 ⊢
  clear hy0
  refine takeW 0 4 (.slice (some ⟨b, off, none⟩) M.length cap) rfl rfl (by kernel_rfl) (by kernel_rfl) (by kernel_rfl) (fun _ _ _ h => h) (by kernel_rfl) (by (intro w hSw; go_simp)) (by assumption) ?_
  simp only [List.set_cons_zero, List.set_cons_succ]
  refine takeW 1 5 (.pointer (some ⟨b, off, none⟩)) rfl rfl (by kernel_rfl) (by kernel_rfl) (by kernel_rfl) (fun _ _ _ h => h) (by kernel_rfl) (by (intro Y hSw; go_simp; try omega)) (by assumption) ?_
  simp only [List.set_cons_zero, List.set_cons_succ]
  refine takeW 2 6 (.int .i64 m0) rfl rfl (by kernel_rfl) (by kernel_rfl) (by kernel_rfl) (fun _ _ _ h => h) (by kernel_rfl) (by (intro Y hSw; have hq := h0 Y (BW.trans (hSw.mono BW.size)); go_simp)) (by assumption) ?_
  simp only [List.set_cons_zero, List.set_cons_succ]
  refine takeW 3 7 (.slice (some ⟨b, off, none⟩) M.length cap) rfl rfl (by kernel_rfl) (by kernel_rfl) (by kernel_rfl) (fun _ _ _ h => h) (by kernel_rfl) (by (intro w hSw; go_simp)) (by assumption) ?_
  simp only [List.set_cons_zero, List.set_cons_succ]
  refine takeW 4 8 (.pointer (some ⟨b, off + 1, none⟩)) rfl rfl (by kernel_rfl) (by kernel_rfl) (by kernel_rfl) (fun _ _ _ h => h) (by kernel_rfl) (by (intro Y hSw; go_simp; try omega)) (by assumption) ?_
  simp only [List.set_cons_zero, List.set_cons_succ]
  refine takeW 5 9 (.int .i64 m1) rfl rfl (by kernel_rfl) (by kernel_rfl) (by kernel_rfl) (fun _ _ _ h => h) (by kernel_rfl) (by (intro Y hSw; have hq := h1 Y (BW.trans (hSw.mono BW.size)); go_simp)) (by assumption) ?_
  simp only [List.set_cons_zero, List.set_cons_succ]
  refine takeW 6 10 (.agg #[.int .i64 m0, .int .i64 m1, .int .i64 0, .int .i64 0, .int .i64 0, .int .i64 0, .int .i64 0, .bool false]) rfl rfl (by kernel_rfl) (by kernel_rfl) (by kernel_rfl) (fun _ _ _ h => h) (by kernel_rfl) (by (intro w hSw; go_simp)) (by assumption) ?_
  simp only [List.set_cons_zero, List.set_cons_succ]
  refine wpAnyH_all (rs := [7]) (by kernel_rfl) (by simp) ?_
  intro i hi; obtain rfl : i = 7 := by simpa using hi
  refine wpOp_step rfl (fun K hK => ?_)
  rw [if_pos (by kernel_rfl)]
  go_simp
  obtain ⟨u1, hu1⟩ : ∃ y_, y_ = u0.alloc (Obj.cells #[.int .i64 0, .int .i64 0, .int .i64 0, .int .i64 0, .int .i64 0, .int .i64 0, .int .i64 0, .bool false] 27) := ⟨_, rfl⟩
  have Q0 : JBox u1 u0.heap.size ⟨0, 0, 0, 0, 0, 0, 0, false⟩ := by rw [hu1]; refine ⟨?_, fun i => by simp [go_sem]⟩; constructor <;> simp [go_sem]
  have kq : Below u0.heap.size u0 u1 := by rw [hu1]; exact below_new _
  have hb1 : Below y0.heap.size y0 u1 := hb0.trans (kq.mono hb0.size)
  rw [← hu1]
  clear hu1 kq
  have s0 := hb0.size
  obtain ⟨q, hq⟩ : ∃ q, q = u0.heap.size := ⟨_, rfl⟩
  rw [← hq] at Q0 ⊢
  have lq : y0.heap.size ≤ q := by omega
  clear hq s0
  refine hK _ _ ⟨hb1, ?_⟩
  clear hK K hi
  refine wpAnyH_all (rs := [8]) (by kernel_rfl) (by simp) ?_
  intro i hi; obtain rfl : i = 8 := by simpa using hi
  refine wpOp_step rfl (fun K hK => ?_)
  rw [if_pos (by kernel_rfl)]
  have Q1 := Q0
  obtain ⟨⟨e0, e1, e2, e3, e4, e5, e6, e7⟩, ef⟩ := Q0
  have f0 := ef 0
  have f1 := ef 1
  have f2 := ef 2
  have f3 := ef 3
  have f4 := ef 4
  have f5 := ef 5
  have f6 := ef 6
  have f7 := ef 7
  go_simp
  clear e0 e1 e2 e3 e4 e5 e6 e7 ef f0 f1 f2 f3 f4 f5 f6 f7
  obtain ⟨u2, hu2⟩ : ∃ y_, y_ = ((((((((u1.setCell ⟨q, 0, none⟩ (.int .i64 m0)).setCell ⟨q, 1, none⟩ (.int .i64 m1)).setCell ⟨q, 2, none⟩ (.int .i64 0)).setCell ⟨q, 3, none⟩ (.int .i64 0)).setCell ⟨q, 4, none⟩ (.int .i64 0)).setCell ⟨q, 5, none⟩ (.int .i64 0)).setCell ⟨q, 6, none⟩ (.int .i64 0)).setCell ⟨q, 7, none⟩ (.bool false)) := ⟨_, rfl⟩
  have X0 : JBox u2 q ⟨m0, m1, 0, 0, 0, 0, 0, false⟩ := by rw [hu2]; exact Q1.putAll ⟨m0, m1, 0, 0, 0, 0, 0, false⟩
  have hb2 : Below y0.heap.size y0 u2 := by rw [hu2]; exact below_all hb1 lq ⟨m0, m1, 0, 0, 0, 0, 0, false⟩
  rw [← hu2]
  clear hu2 Q1
  refine hK _ _ ⟨hb2, ?_⟩
  clear hK K hi
  refine wpAnyH_done (by kernel_rfl) ?_ _
  replace BW := BW.trans (hb2.mono BW.size)
  have lw : w.heap.size ≤ q := by omega
  have lw2 : w.heap.size < q := by omega
  have Z0 := Z0.below hb2 Z0.lt
  clear hb0 hb1 hb2
  have cc := X0
  obtain ⟨⟨e0, e1, e2, e3, e4, e5, e6, e7⟩, ef⟩ := cc
  have X1 := X0
  have Z1 := Z0
  have B1 := BW
  go_upto_region 8 with fail
  clear e0 e1 e2 e3 e4 e5 e6 e7 ef X0 Z0 BW
  obtain ⟨⟨e0, e1, e2, e3, e4, e5, e6, e7⟩, ef⟩ := X1
  obtain ⟨⟨g0, g1, g2, g3, g4, g5, g6, g7⟩, gf⟩ := Z1
  have f0 := gf 0
  have f1 := gf 1
  have f2 := gf 2
  have f3 := gf 3
  have f4 := gf 4
  have f5 := gf 5
  have f6 := gf 6
  have f7 := gf 7
  go_wp2
  refine bodyPost_ret (v := .agg #[.int .i64 m0, .int .i64 m1, .int .i64 0, .int .i64 0, .int .i64 0, .int .i64 0, .int .i64 0, .bool false]) (by simp [results, Tryz.results84, go_sem, *]) rfl ⟨?_, ?_⟩
  · first | (rw [hx.out]; done) | (rw [hx.out]; rfl)
  · exact below_all B1 (Nat.le_refl _) ⟨m0, m1, 0, 0, 0, 0, 0, false⟩

end Go.Proofs.YthgcbihhdbpbdaaGreatDoor
