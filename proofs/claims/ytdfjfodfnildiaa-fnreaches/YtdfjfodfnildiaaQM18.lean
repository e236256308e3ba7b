/- spec.Spans, walked. spec.IsTree, walked. -/
import Derived.Test.YtdfjfodfnildiaaRows
import Derived.WalkKit
import Derived.ProofKit
import Derived.OpenShut
import Derived.ShutString
import Derived.ChangeOld
import Derived.Below
import Derived.Deep.QuietTactic
import Derived.BigQuiet
import Derived.WalkSmall
import Derived.Laws.OwnMore
import Derived.WalkSpells
import Derived.WalkLawsBesides
import Derived.Deep.Cut
import Derived.Laws.StructEq
import Derived.Test.YtdfjfodfnildiaaQM6
import Derived.Test.YtdfjfodfnildiaaQM16
import Derived.Test.YtdfjfodfnildiaaQM17
namespace Go.Proofs.Ytdfjfodfnildiaa
open Go.ChangeShapes Go.WideShapes Go.ChangeAt Go.RowKit
open Go.ChangeMaps (open_string shut_string)
set_option linter.unusedVariables false
set_option maxRecDepth 100000

set_option maxHeartbeats 16000000 in
theorem spanS (adB : Option Addr) (capB : Nat) (Bs : List Bd) (adK : Option Addr) (capK : Nat) (K : List Lk) (w : World) (h : NN w adB Bs adK K) :
    Calls Try.prog 22 #[.agg #[.slice adB Bs.length capB, .slice adK K.length capK]] w fun e w' => YN e (NetP (dB Bs) K ∧ SpanP (openB (dB Bs)) K (dB Bs).length) ∧ Below w.heap.size w w' := by
  rw [dB_len]
  suffices H : ∀ PQ : Prop, Hid (PQ ↔ NetP (dB Bs) K ∧ SpanP (openB (dB Bs)) K Bs.length) → Calls Try.prog 22 #[.agg #[.slice adB Bs.length capB, .slice adK K.length capK]] w fun e w' => YN e PQ ∧ Below w.heap.size w w' from H _ Iff.rfl
  intro PQ hQ0
  obtain ⟨y, hy⟩ : ∃ y, y = w.alloc (Obj.cells #[.slice adB Bs.length capB, .slice adK K.length capK] 27) := ⟨_, rfl⟩
  have B0 : Below w.heap.size w y := by rw [hy]; exact below_new _
  have A : NeAt y w.heap.size (.slice adB Bs.length capB) (.slice adK K.length capK) := by rw [hy]; exact NeAt.new w _
  have hN := h.later B0
  have hk := h.hk
  have hlB := h.hl
  clear h
  by_cases hok : NetP (dB Bs) K
  rotate_left
  · replace hok : Hid _ := hok
    go_enter Try.func22, Try.ntmps22
    go_wp2_with fail
    go_at_call 42
    rw [← hy]
    clear hy
    refine (netOkS adB capB Bs adK capK K y hN).mono ?_
    rintro e y1 ⟨⟨R1, rfl, hR1⟩, kq⟩
    obtain rfl := bool_no hR1 hok.out
    clear hR1
    have B1 := B0.trans (kq.mono B0.size)
    have A := A.below kq A.lt
    have hN := hN.later kq
    clear kq B0
    go_wp2
    go_ret
    exact ⟨YN.no (fun h => hok.out (hQ0.out.1 h).1), B1⟩
  replace hok : Hid _ := hok
  have hQ : Hid (PQ ↔ ∀ i, i < Bs.length → SpanAt (openB (dB Bs)) K Bs.length i) := by
    unfold Hid
    rw [hQ0.out]
    exact ⟨fun q => q.2, fun q => ⟨hok.out, q⟩⟩
  clear hQ0
  go_enter Try.func22, Try.ntmps22
  go_wp2_with fail
  go_at_call 42
  rw [← hy]
  clear hy
  refine (netOkS adB capB Bs adK capK K y hN).mono ?_
  rintro e y1 ⟨⟨R1, rfl, hR1⟩, kq⟩
  obtain rfl : R1 = true := hR1.2 hok.out
  clear hR1
  have B1 := B0.trans (kq.mono B0.size)
  have A := A.below kq A.lt
  have hN := hN.later kq
  clear kq B0
  have cc := A
  obtain ⟨a0, a1⟩ := cc
  go_wp2
  clear a0 a1
  go_loopw [3] (fun q wr => ∃ k : Nat, k ≤ Bs.length ∧ q = .int .i64 (k : Int) ∧ Hid (∀ i, i < k → SpanAt (openB (dB Bs)) K Bs.length i) ∧ Below y1.heap.size y1 wr) (fun q _ => Bs.length - (intOf q).toNat)
  case atStart => exact ⟨0, Nat.zero_le _, rfl, fun j hj => absurd hj (by omega), Below.refl _ _⟩
  case round =>
    obtain ⟨k, hk1, rfl, hF, kb⟩ := hrel
    have A := A.below kb A.lt
    have cc := A
    obtain ⟨a0, a1⟩ := cc
    by_cases hlt : k < Bs.length
    · have hNr := hN.later kb
      have hNw : ∀ Y, Below wr.heap.size wr Y → NN Y adB Bs adK K := fun Y hY => hNr.later hY
      go_upto_region 6 with fail
      clear a0 a1
      refine wp_region_held (S := fun Y => Below wr.heap.size wr Y) (by kernel_rfl) ?_
      change wpAnyH _ _ _ _ _ _ _ _ (World.drew _)
      have hb0 : Below wr.heap.size wr wr.drew := (Below.refl _ _).drew
      obtain ⟨u0, hy0⟩ : ∃ y_, y_ = wr.drew := ⟨_, rfl⟩
      rw [← hy0] at hb0 ⊢
      clear hy0
      refine takeW 0 14 (.agg #[.slice adB Bs.length capB, .slice adK K.length capK]) rfl rfl (by kernel_rfl) (by kernel_rfl) (by kernel_rfl) (fun _ _ _ h => h) (by kernel_rfl) (by (intro Y hSw; obtain ⟨X0, X1⟩ := A.below hSw A.lt; go_simp)) (by assumption) ?_
      simp only [List.set_cons_zero, List.set_cons_succ]
      refine takeW 1 15 (.int .i64 (k : Int)) rfl rfl (by kernel_rfl) (by kernel_rfl) (by kernel_rfl) (fun _ _ _ h => h) (by kernel_rfl) (by (intro w hSw; go_simp)) (by assumption) ?_
      simp only [List.set_cons_zero, List.set_cons_succ]
      refine takeW 4 18 (.agg #[.slice adB Bs.length capB, .slice adK K.length capK]) rfl rfl (by kernel_rfl) (by kernel_rfl) (by kernel_rfl) (fun _ _ _ h => h) (by kernel_rfl) (by (intro Y hSw; obtain ⟨X0, X1⟩ := A.below hSw A.lt; go_simp)) (by assumption) ?_
      simp only [List.set_cons_zero, List.set_cons_succ]
      refine takeW 5 19 (.int .i64 (k : Int)) rfl rfl (by kernel_rfl) (by kernel_rfl) (by kernel_rfl) (fun _ _ _ h => h) (by kernel_rfl) (by (intro w hSw; go_simp)) (by assumption) ?_
      simp only [List.set_cons_zero, List.set_cons_succ]
      refine wpAnyH_all (rs := [2]) (by kernel_rfl) (by simp) ?_
      intro i hi; obtain rfl : i = 2 := by simpa using hi
      refine wpOp_step rfl (fun Kz hKz => ?_)
      rw [if_pos (by kernel_rfl)]
      go_simp
      go_at_call 44
      refine (reachL adB capB Bs adK capK K k true (-1) u0 (hNw u0 hb0) hok hlt).mono ?_
      rintro e u1 ⟨M, aM, cM, hM, rfl, _, kq⟩
      have hb1 : Below wr.heap.size wr u1 := hb0.trans (kq.mono hb0.size)
      clear kq
      rw [sel_none, if_pos rfl] at hM
      replace hM : Hid _ := hM
      refine hKz _ _ ⟨hb1, ?_⟩
      clear hKz Kz hi
      refine takeW 3 17 (.int .i64 ((idx 0 M).length : Int)) rfl rfl (by kernel_rfl) (by kernel_rfl) (by kernel_rfl) (fun _ _ _ h => h) (by kernel_rfl) (by (intro w hSw; go_simp)) (by assumption) ?_
      simp only [List.set_cons_zero, List.set_cons_succ]
      refine wpAnyH_all (rs := [6]) (by kernel_rfl) (by simp) ?_
      intro i hi; obtain rfl : i = 6 := by simpa using hi
      refine wpOp_step rfl (fun Kz hKz => ?_)
      rw [if_pos (by kernel_rfl)]
      go_simp
      go_at_call 44
      refine (reachL adB capB Bs adK capK K k false (-1) u1 (hNw u1 hb1) hok hlt).mono ?_
      rintro e u2 ⟨N, aN, cN, hN1, rfl, _, kq⟩
      have hb2 : Below wr.heap.size wr u2 := hb1.trans (kq.mono hb1.size)
      clear kq
      rw [sel_none, if_neg (by decide)] at hN1
      replace hN1 : Hid _ := hN1
      have hsp : Hid ((idx 0 M).length = (idx 0 N).length ↔ SpanAt (openB (dB Bs)) K Bs.length k) := (span_len hM.out hN1.out).trans (span_eq hM.out hN1.out)
      obtain ⟨o, ho⟩ : ∃ o, decide ((idx 0 M).length = (idx 0 N).length) = o := ⟨_, rfl⟩
      have q1 : (((idx 0 M).length : Int) != ((idx 0 N).length : Int)) = !o := by rw [← ho]; by_cases e : (idx 0 M).length = (idx 0 N).length <;> simp [e, Int.natCast_inj]
      have q2 : decide (((idx 0 M).length : Int) = ((idx 0 N).length : Int)) = o := by rw [← ho]; simp [Int.natCast_inj]
      have hsp : Hid (o = true ↔ SpanAt (openB (dB Bs)) K Bs.length k) := by unfold Hid; rw [← hsp.out, ← ho]; exact decide_eq_true_iff
      replace ho : Hid _ := ho
      clear hM hN1
      refine hKz _ _ ⟨hb2, ?_⟩
      clear hKz Kz hi
      refine takeW 7 21 (.int .i64 ((idx 0 N).length : Int)) rfl rfl (by kernel_rfl) (by kernel_rfl) (by kernel_rfl) (fun _ _ _ h => h) (by kernel_rfl) (by (intro w hSw; go_simp)) (by assumption) ?_
      simp only [List.set_cons_zero, List.set_cons_succ]
      refine takeW 8 22 (.bool (!o)) rfl rfl (by kernel_rfl) (by kernel_rfl) (by kernel_rfl) (fun _ _ _ h => h) (by kernel_rfl) (by (intro w hSw; go_simp; first | done | exact congrArg (fun q => Result.ok (Next.value (Value.bool q)) w) q1 | simp [q1, q2] | simp [← q2])) (by assumption) ?_
      simp only [List.set_cons_zero, List.set_cons_succ]
      refine wpAnyH_done (by kernel_rfl) ?_ _
      have bZ := kb.trans (hb2.mono kb.size)
      clear hb0 hb1 hb2 q1 q2 hNw
      cases o
      · have BZ := B1.trans (bZ.mono B1.size)
        have hno : Hid (¬ SpanAt (openB (dB Bs)) K Bs.length k) := by
          unfold Hid
          intro q
          have := hsp.out.2 q
          cases this
        go_wp2
        go_ret
        exact ⟨YN.no (fun h => hno.out (hQ.out.1 h k hlt)), BZ⟩
      · have hyes : Hid (SpanAt (openB (dB Bs)) K Bs.length k) := hsp.out.1 rfl
        go_wp2
        go_roundw
        case rel =>
          refine ⟨k + 1, by omega, by go_num, fun i hi => ?_, bZ⟩
          by_cases ei : i = k
          · rw [ei]; exact hyes.out
          · exact hF.out i (by omega)
        case measure => simp [intOf]; omega
    · obtain rfl : k = Bs.length := by omega
      have BZ := B1.trans (kb.mono B1.size)
      go_wp2
      go_ret
      exact ⟨YN.yes (hQ.out.2 hF.out), BZ⟩

end Go.Proofs.Ytdfjfodfnildiaa
namespace Go.Proofs.Ytdfjfodfnildiaa
open Go.ChangeShapes Go.WideShapes Go.ChangeAt Go.RowKit
open Go.ChangeMaps (open_string shut_string)
set_option linter.unusedVariables false
set_option maxRecDepth 100000

set_option maxHeartbeats 16000000 in
theorem treeS (adB : Option Addr) (capB : Nat) (Bs : List Bd) (adK : Option Addr) (capK : Nat) (K : List Lk) (w : World) (h : NN w adB Bs adK K) :
    Calls Try.prog 26 #[.agg #[.slice adB Bs.length capB, .slice adK K.length capK]] w fun e w' => YN e (TreeP (dB Bs) K) ∧ Below w.heap.size w w' := by
  suffices H : ∀ PQ : Prop, Hid (PQ ↔ TreeP (dB Bs) K) → Calls Try.prog 26 #[.agg #[.slice adB Bs.length capB, .slice adK K.length capK]] w fun e w' => YN e PQ ∧ Below w.heap.size w w' from H _ Iff.rfl
  intro PQ hQ
  obtain ⟨y, hy⟩ : ∃ y, y = w.alloc (Obj.cells #[.slice adB Bs.length capB, .slice adK K.length capK] 27) := ⟨_, rfl⟩
  have B0 : Below w.heap.size w y := by rw [hy]; exact below_new _
  have A : NeAt y w.heap.size (.slice adB Bs.length capB) (.slice adK K.length capK) := by rw [hy]; exact NeAt.new w _
  have hN := h.later B0
  have hk := h.hk
  have hlB := h.hl
  clear h
  go_enter Try.func26, Try.ntmps26
  go_wp2_with fail
  go_at_call 20
  rw [← hy]
  clear hy
  refine (ringS adB capB Bs adK capK K y hN).mono ?_
  rintro e y1 ⟨⟨R1, rfl, hR1⟩, kq⟩
  have B1 := B0.trans (kq.mono B0.size)
  have A := A.below kq A.lt
  have hN := hN.later kq
  clear kq B0
  by_cases h1 : NetP (dB Bs) K ∧ RingP (openB (dB Bs)) K
  rotate_left
  · obtain rfl := bool_no hR1 h1
    clear hR1
    replace h1 : Hid _ := h1
    go_wp2
    go_ret
    exact ⟨YN.no (fun h => h1.out (hQ.out.1 h).1), B1⟩
  obtain rfl : R1 = true := hR1.2 h1
  clear hR1
  replace h1 : Hid _ := h1
  have cc := A
  obtain ⟨a0, a1⟩ := cc
  go_wp2_with fail
  go_at_call 22
  clear a0 a1
  refine (spanS adB capB Bs adK capK K y1 hN).mono ?_
  rintro e y2 ⟨⟨R2, rfl, hR2⟩, kq⟩
  have B2 := B1.trans (kq.mono B1.size)
  have A := A.below kq A.lt
  have hN := hN.later kq
  clear kq B1
  by_cases h2 : NetP (dB Bs) K ∧ SpanP (openB (dB Bs)) K (dB Bs).length
  rotate_left
  · obtain rfl := bool_no hR2 h2
    clear hR2
    replace h2 : Hid _ := h2
    go_wp2
    go_ret
    exact ⟨YN.no (fun h => h2.out (hQ.out.1 h).2.1), B2⟩
  obtain rfl : R2 = true := hR2.2 h2
  clear hR2
  replace h2 : Hid _ := h2
  have hok : Hid (NetP (dB Bs) K) := h1.out.1
  have h5 : Bs.length ≤ 5 := by have := hok.out.many.2; rwa [dB_len] at this
  have hRin : Hid (∀ i, i < (rootsL (dB Bs)).length → 0 ≤ (rootsL (dB Bs)).getD i 0 ∧ (rootsL (dB Bs)).getD i 0 < (Bs.length : Int)) := fun i hi => by
    have := rootsL_in (getD_memI hi)
    rwa [dB_len] at this
  have hQ : Hid (PQ ↔ ∀ i, i < (rootsL (dB Bs)).length → Good (dB Bs) K ((rootsL (dB Bs)).getD i 0).toNat) := by
    unfold Hid
    rw [← least_iff (fun x hx => rootsL_in hx), hQ.out]
    exact ⟨fun q => q.2.2, fun q => ⟨h1.out, h2.out, q⟩⟩
  have hRl := rootsL_len (dB Bs)
  rw [dB_len] at hRl
  clear h1 h2
  have cc := A
  obtain ⟨a0, a1⟩ := cc
  go_wp2_with fail
  go_at_call 24
  clear a0 a1
  refine (rootsS adB capB Bs adK capK K y2 hN).mono ?_
  rintro e y3 ⟨aR, cR, rfl, OR, kq⟩
  have B3 := B2.trans (kq.mono B2.size)
  have A := A.below kq A.lt
  have hN := hN.later kq
  have vR := OR.view.2
  clear kq B2 OR
  obtain ⟨R, hR⟩ : ∃ R, rootsL (dB Bs) = R := ⟨_, rfl⟩
  rw [hR] at hRin hQ hRl vR ⊢
  clear hR
  obtain ⟨y1, hy1⟩ : ∃ x, x = y3 := ⟨_, rfl⟩
  rw [← hy1] at B3 A hN vR ⊢
  have B1 := B3
  clear hy1 B3
  go_wp2
  have vRi := vR.toI
  go_loopw [4] (fun q wr => ∃ k : Nat, k ≤ R.length ∧ q = .int .i64 (k : Int) ∧ Hid (∀ i, i < k → Good (dB Bs) K (R.getD i 0).toNat) ∧ Below y1.heap.size y1 wr) (fun q _ => R.length - (intOf q).toNat)
  case atStart => exact ⟨0, Nat.zero_le _, rfl, fun j hj => absurd hj (by omega), Below.refl _ _⟩
  case round =>
    obtain ⟨k, hk1, rfl, hF, kb⟩ := hrel
    by_cases hlt : k < R.length
    · obtain ⟨bR, oR, rfl, hcR⟩ := vRi (by omega)
      have hbR : bR < y1.heap.size := World.block_lt_of_cell? y1 _ (hcR k hlt)
      have ckR : wr.cell? ⟨bR, oR + k, none⟩ = some (.int .i64 (R.getD k 0)) := (World.cell?_of_block (a := ⟨bR, oR + k, none⟩) (kb.block bR hbR)).trans (hcR k hlt)
      obtain ⟨f0, f1⟩ := hRin.out k hlt
      have hFk : Hid ((∀ i, i < k → Good (dB Bs) K (R.getD i 0).toNat) → Good (dB Bs) K (R.getD k 0).toNat → ∀ i, i < k + 1 → Good (dB Bs) K (R.getD i 0).toNat) := fun h1 h2 i hi => by
        by_cases e : i = k
        · rw [e]; exact h2
        · exact h1 i (by omega)
      have hQk : Hid (¬ Good (dB Bs) K (R.getD k 0).toNat → ¬ PQ) := fun h1 h2 => h1 (hQ.out.1 h2 k hlt)
      obtain ⟨x, hx⟩ : ∃ x, R.getD k 0 = x := ⟨_, rfl⟩
      have hckf : y1.cell? ⟨bR, oR + k, none⟩ = some (.int .i64 (R.getD k 0)) := hcR k hlt
      rw [hx] at ckR f0 f1 hFk hQk hckf
      replace hckf : Hid _ := hckf
      clear hx
      obtain ⟨f, rfl⟩ := Int.eq_ofNat_of_zero_le f0
      have hf : f < Bs.length := by omega
      simp only [Int.toNat_natCast] at hFk hQk
      have hRf : ∀ Y, Below y1.heap.size y1 Y → Y.cell? ⟨bR, oR + k, none⟩ = some (.int .i64 (f : Int)) := fun Y hY => (World.cell?_of_block (a := ⟨bR, oR + k, none⟩) (hY.block bR hbR)).trans hckf.out
      have A1 := A.below kb A.lt
      have hN1 := hN.later kb
      obtain ⟨b, off, rfl⟩ := hN.vb.ad_ (by omega)
      have cc := A1
      obtain ⟨a0, a1⟩ := cc
      have hbw : bR < wr.heap.size := Nat.lt_of_lt_of_le hbR kb.size
      have hRc0 : ∀ Y, Below wr.heap.size wr Y → Y.cell? ⟨bR, oR + k, none⟩ = some (.int .i64 (f : Int)) := fun Y hY => (World.cell?_of_block (a := ⟨bR, oR + k, none⟩) (hY.block bR hbw)).trans ckR
      go_upto_region 7 with fail
      clear a0 a1
      refine wp_region_held (S := fun Y => Below wr.heap.size wr Y) (by kernel_rfl) ?_
      change wpAnyH _ _ _ _ _ _ _ _ (World.drew _)
      have hb0 : Below wr.heap.size wr wr.drew := (Below.refl _ _).drew
      obtain ⟨u0, hy0⟩ : ∃ y_, y_ = wr.drew := ⟨_, rfl⟩
      rw [← hy0] at hb0 ⊢
      clear hy0
      refine takeW 0 23 (.agg #[.slice (some ⟨b, off, none⟩) Bs.length capB, .slice adK K.length capK]) rfl rfl (by kernel_rfl) (by kernel_rfl) (by kernel_rfl) (fun _ _ _ h => h) (by kernel_rfl) (by (intro Y hSw; obtain ⟨X0, X1⟩ := A1.below hSw A1.lt; go_simp)) (by assumption) ?_
      simp only [List.set_cons_zero, List.set_cons_succ]
      refine takeW 1 24 (.slice (some ⟨bR, oR, none⟩) R.length cR) rfl rfl (by kernel_rfl) (by kernel_rfl) (by kernel_rfl) (fun _ _ _ h => h) (by kernel_rfl) (by (intro w hSw; go_simp)) (by assumption) ?_
      simp only [List.set_cons_zero, List.set_cons_succ]
      refine takeW 2 25 (.int .i64 (k : Int)) rfl rfl (by kernel_rfl) (by kernel_rfl) (by kernel_rfl) (fun _ _ _ h => h) (by kernel_rfl) (by (intro w hSw; go_simp)) (by assumption) ?_
      simp only [List.set_cons_zero, List.set_cons_succ]
      refine takeW 3 26 (.pointer (some ⟨bR, oR + k, none⟩)) rfl rfl (by kernel_rfl) (by kernel_rfl) (by kernel_rfl) (fun _ _ _ h => h) (by kernel_rfl) (by (intro Y hSw; go_simp; try omega)) (by assumption) ?_
      simp only [List.set_cons_zero, List.set_cons_succ]
      refine takeW 4 27 (.int .i64 (f : Int)) rfl rfl (by kernel_rfl) (by kernel_rfl) (by kernel_rfl) (fun _ _ _ h => h) (by kernel_rfl) (by (intro Y hSw; have X0 := hRc0 Y hSw; go_simp)) (by assumption) ?_
      simp only [List.set_cons_zero, List.set_cons_succ]
      refine wpAnyH_all (rs := [5]) (by kernel_rfl) (by simp) ?_
      intro i hi; obtain rfl : i = 5 := by simpa using hi
      refine wpOp_step rfl (fun Kz hKz => ?_)
      rw [if_pos (by kernel_rfl)]
      go_simp
      go_at_call 44
      refine (reachL (some ⟨b, off, none⟩) capB Bs adK capK K f true (-1) u0 (hN1.later hb0) hok hf).mono ?_
      rintro e u1 ⟨M, aL, cL, hM, rfl, OL, kq⟩
      have hb1 : Below wr.heap.size wr u1 := hb0.trans (kq.mono hb0.size)
      clear kq
      rw [sel_none, if_pos rfl] at hM
      refine hKz _ _ ⟨hb1, ?_⟩
      clear hKz Kz hi
      refine takeW 6 5 (.slice aL (idx 0 M).length cL) rfl rfl (by kernel_rfl) (by kernel_rfl) (by kernel_rfl) (fun _ _ _ h => h) (by kernel_rfl) (by (intro w hSw; go_simp)) (by assumption) ?_
      simp only [List.set_cons_zero, List.set_cons_succ]
      refine wpAnyH_done (by kernel_rfl) ?_ _
      have OL := OL
      rw [← dB_len Bs] at hM
      have bz := kb.trans (hb1.mono kb.size)
      have kz := hb1
      clear hb0 hb1 ckR
      obtain ⟨z, hz⟩ : ∃ z, z = u1 := ⟨_, rfl⟩
      rw [← hz] at OL bz kz ⊢
      clear hz
      obtain ⟨L, hLM⟩ : ∃ L, L = idx 0 M := ⟨_, rfl⟩
      rw [← hLM] at OL ⊢
      have hGd : Hid (Good (dB Bs) K f ↔ ∀ i, i < L.length → Fine (dB Bs) (L.getD i 0) f) := by unfold Hid; rw [hLM]; exact good_iff hM
      have hLin : Hid (∀ i, i < L.length → 0 ≤ L.getD i 0 ∧ L.getD i 0 < (Bs.length : Int)) := by unfold Hid; rw [hLM]; exact fun i hi => by have := idx_in (hM.len.trans (dB_len Bs)) hi; exact this
      have hLs : L.length ≤ 1048576 := by rw [hLM]; have h1 := idx_len M 0; have h2 := hM.len; rw [dB_len] at h2; omega
      have A2 := A1.below kz A1.lt
      have hN2 := hN1.later kz
      have vL := OL.view.2.toI
      clear hLM hM OL A1 hN1 kz
      clear hRc0
      have hRz : ∀ Y, Below z.heap.size z Y → Y.cell? ⟨bR, oR + k, none⟩ = some (.int .i64 (f : Int)) := fun Y hY => (hRf Y (bz.trans (hY.mono bz.size)))
      go_wp2
      go_loopw [6] (fun q wr => ∃ n : Nat, n ≤ L.length ∧ q = .int .i64 (n : Int) ∧ Hid (∀ i, i < n → Fine (dB Bs) (L.getD i 0) f) ∧ Below z.heap.size z wr) (fun q _ => L.length - (intOf q).toNat)
      case atStart => exact ⟨0, Nat.zero_le _, rfl, fun j hj => absurd hj (by omega), Below.refl _ _⟩
      case round =>
        obtain ⟨q, hq1, rfl, hG, kv⟩ := hrel
        by_cases hlq : q < L.length
        · obtain ⟨bL, oL, rfl, hcL⟩ := vL (by omega)
          have hbL : bL < z.heap.size := World.block_lt_of_cell? z _ (hcL q hlq)
          have ckL : wr.cell? ⟨bL, oL + q, none⟩ = some (.int .i64 (L.getD q 0)) := (World.cell?_of_block (a := ⟨bL, oL + q, none⟩) (kv.block bL hbL)).trans (hcL q hlq)
          obtain ⟨j0, j1⟩ := hLin.out q hlq
          have hGn : Hid (Fine (dB Bs) (L.getD q 0) f → ∀ i, i < q + 1 → Fine (dB Bs) (L.getD i 0) f) := fun h i hi => by
            by_cases e : i = q
            · rw [e]; exact h
            · exact hG.out i (by omega)
          have hGb : Hid (¬ Fine (dB Bs) (L.getD q 0) f → ¬ Good (dB Bs) K f) := fun h g => h (hGd.out.1 g q hlq)
          obtain ⟨x, hx⟩ : ∃ x, L.getD q 0 = x := ⟨_, rfl⟩
          rw [hx] at ckL j0 j1 hGn hGb
          clear hx
          obtain ⟨j, rfl⟩ := Int.eq_ofNat_of_zero_le j0
          have hjB : j < Bs.length := by omega
          have ej : ((dB Bs).getD j Bg.nil).id = (Bs.getD j Bd.nil).id := by rw [show dB Bs = Bs.map Bd.d from rfl, bd_get]; rfl
          have ef : ((dB Bs).getD f Bg.nil).id = (Bs.getD f Bd.nil).id := by rw [show dB Bs = Bs.map Bd.d from rfl, bd_get]; rfl
          have hfi : Fine (dB Bs) (j : Int) f ↔ ¬ (Bs.getD j Bd.nil).id < (Bs.getD f Bd.nil).id := by unfold Fine; rw [Int.toNat_natCast, ej, ef]
          clear ej ef
          obtain ⟨v, hv⟩ : ∃ v, v = wr := ⟨_, rfl⟩
          rw [← hv] at kv ckL ⊢
          clear hv
          have A2 := A2.below kv A2.lt
          have hNv := hN2.later kv
          have hcj : ∀ Y, Below v.heap.size v Y → Y.cell? ⟨b, off + j * 2, none⟩ = some (.int .i64 (Bs.getD j Bd.nil).id) := fun Y hY => ((hNv.later hY).vb.at_ hjB).c0
          have hcf : ∀ Y, Below v.heap.size v Y → Y.cell? ⟨b, off + f * 2, none⟩ = some (.int .i64 (Bs.getD f Bd.nil).id) := fun Y hY => ((hNv.later hY).vb.at_ hf).c0
          obtain ⟨idj, hdj⟩ : ∃ d, (Bs.getD j Bd.nil).id = d := ⟨_, rfl⟩
          obtain ⟨idf, hdf⟩ : ∃ d, (Bs.getD f Bd.nil).id = d := ⟨_, rfl⟩
          rw [hdj, hdf] at hfi
          simp only [hdj, hdf] at hcj hcf
          clear hdj hdf hNv
          have hbv : bL < v.heap.size := Nat.lt_of_lt_of_le hbL kv.size
          have hLc : ∀ Y, Below v.heap.size v Y → Y.cell? ⟨bL, oL + q, none⟩ = some (.int .i64 (j : Int)) := fun Y hY => (World.cell?_of_block (a := ⟨bL, oL + q, none⟩) (hY.block bL hbv)).trans ckL
          have hRc : ∀ Y, Below v.heap.size v Y → Y.cell? ⟨bR, oR + k, none⟩ = some (.int .i64 (f : Int)) := fun Y hY => hRz Y (kv.trans (hY.mono kv.size))
          obtain ⟨o, ho⟩ : ∃ o, decide (idj < idf) = o := ⟨_, rfl⟩
          have hoF : Hid (o = false → Fine (dB Bs) (j : Int) f) := fun e => hfi.2 (by rw [← ho] at e; exact of_decide_eq_false e)
          have hoT : Hid (o = true → ¬ Fine (dB Bs) (j : Int) f) := fun e h => hfi.1 h (by rw [← ho] at e; exact of_decide_eq_true e)
          clear hfi
          go_upto_region 11 with fail
          refine wp_region_held (S := fun Y => Below v.heap.size v Y) (by kernel_rfl) ?_
          change wpAnyH _ _ _ _ _ _ _ _ (World.drew _)
          have hb0 : Below v.heap.size v v.drew := (Below.refl _ _).drew
          obtain ⟨u0, hy0⟩ : ∃ y_, y_ = v.drew := ⟨_, rfl⟩
          rw [← hy0] at hb0 ⊢
          clear hy0
          refine takeW 0 35 (.pointer (some ⟨w.heap.size, 0, none⟩)) rfl rfl (by kernel_rfl) (by kernel_rfl) (by kernel_rfl) (fun _ _ _ h => h) (by kernel_rfl) (by (intro w hSw; go_simp)) (by assumption) ?_
          simp only [List.set_cons_zero, List.set_cons_succ]
          refine takeW 1 36 (.slice (some ⟨b, off, none⟩) Bs.length capB) rfl rfl (by kernel_rfl) (by kernel_rfl) (by kernel_rfl) (fun _ _ _ h => h) (by kernel_rfl) (by (intro Y hSw; obtain ⟨X0, X1⟩ := A2.below hSw A2.lt; go_simp)) (by assumption) ?_
          simp only [List.set_cons_zero, List.set_cons_succ]
          refine takeW 2 37 (.slice (some ⟨bL, oL, none⟩) L.length cL) rfl rfl (by kernel_rfl) (by kernel_rfl) (by kernel_rfl) (fun _ _ _ h => h) (by kernel_rfl) (by (intro w hSw; go_simp)) (by assumption) ?_
          simp only [List.set_cons_zero, List.set_cons_succ]
          refine takeW 3 38 (.int .i64 (q : Int)) rfl rfl (by kernel_rfl) (by kernel_rfl) (by kernel_rfl) (fun _ _ _ h => h) (by kernel_rfl) (by (intro w hSw; go_simp)) (by assumption) ?_
          simp only [List.set_cons_zero, List.set_cons_succ]
          refine takeW 4 39 (.pointer (some ⟨bL, oL + q, none⟩)) rfl rfl (by kernel_rfl) (by kernel_rfl) (by kernel_rfl) (fun _ _ _ h => h) (by kernel_rfl) (by (intro Y hSw; go_simp; try omega)) (by assumption) ?_
          simp only [List.set_cons_zero, List.set_cons_succ]
          refine takeW 5 40 (.int .i64 (j : Int)) rfl rfl (by kernel_rfl) (by kernel_rfl) (by kernel_rfl) (fun _ _ _ h => h) (by kernel_rfl) (by (intro Y hSw; have X0 := hLc Y hSw; go_simp)) (by assumption) ?_
          simp only [List.set_cons_zero, List.set_cons_succ]
          refine takeW 6 41 (.pointer (some ⟨b, off + j * 2, none⟩)) rfl rfl (by kernel_rfl) (by kernel_rfl) (by kernel_rfl) (fun _ _ _ h => h) (by kernel_rfl) (by (intro Y hSw; go_simp; try omega)) (by assumption) ?_
          simp only [List.set_cons_zero, List.set_cons_succ]
          refine takeW 7 42 (.pointer (some ⟨b, off + j * 2, none⟩)) rfl rfl (by kernel_rfl) (by kernel_rfl) (by kernel_rfl) (fun _ _ _ h => h) (by kernel_rfl) (by (intro w hSw; go_simp)) (by assumption) ?_
          simp only [List.set_cons_zero, List.set_cons_succ]
          refine takeW 8 43 (.int .i64 idj) rfl rfl (by kernel_rfl) (by kernel_rfl) (by kernel_rfl) (fun _ _ _ h => h) (by kernel_rfl) (by (intro Y hSw; have X0 := hcj Y hSw; go_simp)) (by assumption) ?_
          simp only [List.set_cons_zero, List.set_cons_succ]
          refine takeW 9 44 (.pointer (some ⟨w.heap.size, 0, none⟩)) rfl rfl (by kernel_rfl) (by kernel_rfl) (by kernel_rfl) (fun _ _ _ h => h) (by kernel_rfl) (by (intro w hSw; go_simp)) (by assumption) ?_
          simp only [List.set_cons_zero, List.set_cons_succ]
          refine takeW 10 45 (.slice (some ⟨b, off, none⟩) Bs.length capB) rfl rfl (by kernel_rfl) (by kernel_rfl) (by kernel_rfl) (fun _ _ _ h => h) (by kernel_rfl) (by (intro Y hSw; obtain ⟨X0, X1⟩ := A2.below hSw A2.lt; go_simp)) (by assumption) ?_
          simp only [List.set_cons_zero, List.set_cons_succ]
          refine takeW 11 46 (.slice (some ⟨bR, oR, none⟩) R.length cR) rfl rfl (by kernel_rfl) (by kernel_rfl) (by kernel_rfl) (fun _ _ _ h => h) (by kernel_rfl) (by (intro w hSw; go_simp)) (by assumption) ?_
          simp only [List.set_cons_zero, List.set_cons_succ]
          refine takeW 12 47 (.int .i64 (k : Int)) rfl rfl (by kernel_rfl) (by kernel_rfl) (by kernel_rfl) (fun _ _ _ h => h) (by kernel_rfl) (by (intro w hSw; go_simp)) (by assumption) ?_
          simp only [List.set_cons_zero, List.set_cons_succ]
          refine takeW 13 48 (.pointer (some ⟨bR, oR + k, none⟩)) rfl rfl (by kernel_rfl) (by kernel_rfl) (by kernel_rfl) (fun _ _ _ h => h) (by kernel_rfl) (by (intro Y hSw; go_simp; try omega)) (by assumption) ?_
          simp only [List.set_cons_zero, List.set_cons_succ]
          refine takeW 14 49 (.int .i64 (f : Int)) rfl rfl (by kernel_rfl) (by kernel_rfl) (by kernel_rfl) (fun _ _ _ h => h) (by kernel_rfl) (by (intro Y hSw; have X0 := hRc Y hSw; go_simp)) (by assumption) ?_
          simp only [List.set_cons_zero, List.set_cons_succ]
          refine takeW 15 50 (.pointer (some ⟨b, off + f * 2, none⟩)) rfl rfl (by kernel_rfl) (by kernel_rfl) (by kernel_rfl) (fun _ _ _ h => h) (by kernel_rfl) (by (intro Y hSw; go_simp; try omega)) (by assumption) ?_
          simp only [List.set_cons_zero, List.set_cons_succ]
          refine takeW 16 51 (.pointer (some ⟨b, off + f * 2, none⟩)) rfl rfl (by kernel_rfl) (by kernel_rfl) (by kernel_rfl) (fun _ _ _ h => h) (by kernel_rfl) (by (intro w hSw; go_simp)) (by assumption) ?_
          simp only [List.set_cons_zero, List.set_cons_succ]
          refine takeW 17 52 (.int .i64 idf) rfl rfl (by kernel_rfl) (by kernel_rfl) (by kernel_rfl) (fun _ _ _ h => h) (by kernel_rfl) (by (intro Y hSw; have X0 := hcf Y hSw; go_simp)) (by assumption) ?_
          simp only [List.set_cons_zero, List.set_cons_succ]
          refine takeW 18 53 (.bool o) rfl rfl (by kernel_rfl) (by kernel_rfl) (by kernel_rfl) (fun _ _ _ h => h) (by kernel_rfl) (by (intro w hSw; go_simp)) (by assumption) ?_
          simp only [List.set_cons_zero, List.set_cons_succ]
          refine wpAnyH_done (by kernel_rfl) ?_ _
          have bv := kv.trans (hb0.mono kv.size)
          clear hb0 hcj hcf ho ckL hLc hRc
          cases o
          · have hno : Hid (Fine (dB Bs) (j : Int) f) := hoF.out rfl
            go_wp2
            go_roundw
            case rel => exact ⟨q + 1, by omega, by go_num, hGn.out hno.out, bv⟩
            case measure => simp [intOf]; omega
          · have hyes : Hid (¬ Fine (dB Bs) (j : Int) f) := hoT.out rfl
            have BZ := B1.trans ((bz.trans (bv.mono bz.size)).mono B1.size)
            go_wp2
            go_ret
            exact ⟨YN.no (hQk.out (hGb.out hyes.out)), BZ⟩
        · obtain rfl : q = L.length := by omega
          have bv := bz.trans (kv.mono bz.size)
          have hgood : Hid (Good (dB Bs) K f) := hGd.out.2 hG.out
          go_wp2
          go_roundw
          case rel => exact ⟨k + 1, by omega, by go_num, hFk.out hF.out hgood.out, bv⟩
          case measure => simp [intOf]; omega
    · obtain rfl : k = R.length := by omega
      have BZ := B1.trans (kb.mono B1.size)
      go_wp2
      go_ret
      exact ⟨YN.yes (hQ.out.2 hF.out), BZ⟩

end Go.Proofs.Ytdfjfodfnildiaa
