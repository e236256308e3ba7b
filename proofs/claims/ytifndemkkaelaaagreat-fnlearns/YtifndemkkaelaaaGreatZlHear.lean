/- spec.Hear, walked: what it answers is a list of its own, longer by one at most. -/
import Derived.Test.YtifndemkkaelaaaGreatRows
import Derived.WalkKit
import Derived.ProofKit
import Derived.OpenShut
import Derived.ShutString
import Derived.ChangeOld
import Derived.Below
import Derived.Deep.QuietTactic
import Derived.BigQuiet
import Derived.WalkSmall
import Derived.Laws.OwnMore
import Derived.WalkSpells
import Derived.Maps.AppendAt
import Derived.Laws.AppendOwnNone
import Derived.Test.YtifndemkkaelaaaGreatZlHeard7
import Derived.Test.YtifndemkkaelaaaGreatZl11
namespace Go.Proofs.YtifndemkkaelaaaGreat
open Go.ChangeShapes Go.WideShapes Go.ChangeAt Go.RowKit
open Go.ChangeMaps (open_string shut_string)
set_option linter.unusedVariables false
set_option maxRecDepth 100000

theorem hcells_oneD : ∀ (L : List Hd), ∀ u ∈ hcells L, u.oneCell' = true
  | [], u, hu => by simp [hcells] at hu
  | h :: t, u, hu => by
    simp [hcells] at hu
    rcases hu with rfl | rfl | rfl | rfl | hu
    · rfl
    · rfl
    · rfl
    · rfl
    · exact hcells_oneD t u hu
theorem S1.appD {w : World} {h : Hd} {Y Z : World} {o : Obj} {n : Nat} {v : Value} {xs : List Value} (s : S1 w w.heap.size h Y) (own : Y.ownsRow (w.heap.size + 1) 97 4 v n xs) (g : (Y.alloc o).grownBy Z v.ownBlock) : S1 w w.heap.size h Z := by
  have s2 := s.2.2
  have gs := g.size
  have hne := Go.row_ne_low own (b := w.heap.size) (by omega)
  have e1 : Z.heap[w.heap.size]? = Y.heap[w.heap.size]? := (g.block _ (by simp; omega) hne).trans ((below_box Y o).block _ s2)
  refine ⟨s.1.of_block e1, (s.2.1.alloc (by omega) o).grown g (by simp; omega) (fun j e => by have := own_ge own j e; omega), by simp at gs; omega⟩
set_option maxHeartbeats 8000000 in
theorem hearS (base0 : Nat) (v0 : Value) (L : List Hd) (a v p : Int) (w : World) (h0 : HOwn w base0 v0 L) (hm : L.length ≤ 1000) :
    Calls Tryz.prog 48 #[v0, .int .i64 a, .int .i64 v, .int .i64 p] w fun e w' => ∃ vv M, e = .returned vv ∧ HOwn w' w.heap.size vv M ∧ M.length ≤ L.length + 1 ∧ Below w.heap.size w w' := by
  obtain ⟨i1, hj, hy0, hy1, hy2⟩ := info_parts Tryz.info97'
  obtain ⟨ad, cap, rfl, hv, _, hB0⟩ := hown_view h0
  have hB : HIs ad L (· < w.heap.size) := fun a e _ => (hB0 a e).2.1
  clear hB0
  obtain ⟨x1, hx1⟩ : ∃ x, x = w.alloc (Obj.cells #[.int .i64 a, .int .i64 v, .int .i64 p, .int .i64 20] 97) := ⟨_, rfl⟩
  have hS1 : S1 w w.heap.size ⟨a, v, p, 20⟩ x1 := by
    rw [hx1]
    refine ⟨?_, below_box w _, by simp⟩
    refine ⟨?_, ?_, ?_, ?_⟩ <;> simp [go_sem]
  have hs1 : x1.heap.size = w.heap.size + 1 := by rw [hx1]; simp
  have hS2 : S1 w w.heap.size ⟨a, v, p, 20⟩ (x1.alloc (Obj.cells #[] 97)) := hS1.below (below_box x1 _)
  have hE2 : HOwn (x1.alloc (Obj.cells #[] 97)) (w.heap.size + 1) (.slice (some ⟨w.heap.size + 1, 0, none⟩) 0 0) [] := by have := hown_empty x1; rw [hs1] at this; exact this
  clear hS1 hs1
  go_enter Tryz.func48, Tryz.ntmps48
  go_wp2
  rw [← hx1]
  clear hx1
  go_loopw [10, 11, 12] (fun o pt i wr => ∃ (k : Nat) (M : List Hd) (b : Bool), i = .int .i64 (k : Int) ∧ k ≤ L.length ∧ pt = .bool b ∧ HOwn wr (w.heap.size + 1) o M ∧ Hid (M.length ≤ k + (if b then 1 else 0)) ∧ S1 w w.heap.size ⟨a, v, p, 20⟩ wr) (fun _ _ i _ => L.length - (intOf i).toNat)
  case atStart => exact ⟨0, [], false, rfl, Nat.zero_le _, rfl, hE2, by simp [Hid], hS2⟩
  case round =>
    obtain ⟨k, M, b, rfl, hk, rfl, hl, hMk, hS⟩ := hrel
    clear hE2 hS2
    have hMl : Hid (M.length ≤ 1000 + 1) := by have := hMk.out; unfold Hid; split at this <;> omega
    by_cases hlt : k < L.length
    · have hMl : Hid (M.length ≤ 1000) := by have := hMk.out; unfold Hid; split at this <;> omega
      obtain ⟨bb, off, rfl, hc0⟩ := hv (by omega)
      obtain ⟨h, hh⟩ : ∃ h, L.getD k Hd.nil = h := ⟨_, rfl⟩
      have hc : ∀ Y, Below w.heap.size w Y → HAt Y bb (off + k * 4) h := fun Y hY => by rw [← hh]; exact (hc0 k hlt).of_block (hY.block _ (hB ⟨bb, off, none⟩ rfl (by omega)))
      clear hc0 hh hv
      cases b with
      | true =>
        by_cases ka : h.a = a
        · have ka' : (h.a != a) = false := by simp [ka]
          by_cases kv : h.v = v
          · have kv' : (h.v != v) = false := by simp [kv]
            clear ka kv
            go_wp2_with fail
            refine wp_region_held (S := S1 w w.heap.size ⟨a, v, p, 20⟩) (by kernel_rfl) ?_
            change wpAnyH _ _ _ _ _ _ _ _ (World.drew _)
            have hS0 : S1 w w.heap.size ⟨a, v, p, 20⟩ wr.drew := hS.drew
            have hl0 : HOwn wr.drew (w.heap.size + 1) u10 M := hl
            refine takeW 0 24 (.bool true) rfl rfl (by kernel_rfl) (by kernel_rfl) (by kernel_rfl) (fun _ _ _ h => h) (by kernel_rfl) (by (intro w hSw; go_simp)) (by assumption) ?_
            simp only [List.set_cons_zero, List.set_cons_succ]
            refine takeW 1 25 (.bool false) rfl rfl (by kernel_rfl) (by kernel_rfl) (by kernel_rfl) (fun _ _ _ h => h) (by kernel_rfl) (by (intro w hSw; go_simp)) (by assumption) ?_
            simp only [List.set_cons_zero, List.set_cons_succ]
            refine takeW 2 26 (.bool false) rfl rfl (by kernel_rfl) (by kernel_rfl) (by kernel_rfl) (fun _ _ _ h => h) (by kernel_rfl) (by (intro w hSw; go_simp)) (by assumption) ?_
            simp only [List.set_cons_zero, List.set_cons_succ]
            refine takeS 3 27 rfl rfl (by kernel_rfl) (by kernel_rfl) (by kernel_rfl) (fun _ _ _ h => h) (by kernel_rfl) (by assumption) ?_
            simp only [List.set_cons_zero, List.set_cons_succ]
            refine takeS 4 28 rfl rfl (by kernel_rfl) (by kernel_rfl) (by kernel_rfl) (fun _ _ _ h => h) (by kernel_rfl) (by assumption) ?_
            simp only [List.set_cons_zero, List.set_cons_succ]
            refine takeS 5 29 rfl rfl (by kernel_rfl) (by kernel_rfl) (by kernel_rfl) (fun _ _ _ h => h) (by kernel_rfl) (by assumption) ?_
            simp only [List.set_cons_zero, List.set_cons_succ]
            refine takeS 6 30 rfl rfl (by kernel_rfl) (by kernel_rfl) (by kernel_rfl) (fun _ _ _ h => h) (by kernel_rfl) (by assumption) ?_
            simp only [List.set_cons_zero, List.set_cons_succ]
            refine takeS 7 31 rfl rfl (by kernel_rfl) (by kernel_rfl) (by kernel_rfl) (fun _ _ _ h => h) (by kernel_rfl) (by assumption) ?_
            simp only [List.set_cons_zero, List.set_cons_succ]
            refine takeS 8 32 rfl rfl (by kernel_rfl) (by kernel_rfl) (by kernel_rfl) (fun _ _ _ h => h) (by kernel_rfl) (by assumption) ?_
            simp only [List.set_cons_zero, List.set_cons_succ]
            refine takeS 9 33 rfl rfl (by kernel_rfl) (by kernel_rfl) (by kernel_rfl) (fun _ _ _ h => h) (by kernel_rfl) (by assumption) ?_
            simp only [List.set_cons_zero, List.set_cons_succ]
            refine takeW 10 34 (.bool false) rfl rfl (by kernel_rfl) (by kernel_rfl) (by kernel_rfl) (fun _ _ _ h => h) (by kernel_rfl) (by (intro w hSw; go_simp)) (by assumption) ?_
            simp only [List.set_cons_zero, List.set_cons_succ]
            refine wpAnyH_done (by kernel_rfl) ?_ _
            obtain ⟨y0, hy0'⟩ : ∃ y, y = wr.drew := ⟨_, rfl⟩
            rw [← hy0'] at hl0 hS0 ⊢
            clear hy0'
            obtain ⟨c1, c2, c3, c4⟩ := hc y0 hS0.2.1
            go_wp2
            go_roundw
            case rel => exact ⟨k + 1, M, true, by go_num, by omega, rfl, hl0, (by have h1 := hMk.out; unfold Hid; simp at h1 ⊢; omega), hS0⟩
            case measure => simp [intOf]; omega
          · have kv' : (h.v != v) = true := by simp [kv]
            clear ka kv
            go_wp2_with fail
            refine wp_region_held (S := S1 w w.heap.size ⟨a, v, p, 20⟩) (by kernel_rfl) ?_
            change wpAnyH _ _ _ _ _ _ _ _ (World.drew _)
            have hS0 : S1 w w.heap.size ⟨a, v, p, 20⟩ wr.drew := hS.drew
            have hl0 : HOwn wr.drew (w.heap.size + 1) u10 M := hl
            refine takeW 0 24 (.bool true) rfl rfl (by kernel_rfl) (by kernel_rfl) (by kernel_rfl) (fun _ _ _ h => h) (by kernel_rfl) (by (intro w hSw; go_simp)) (by assumption) ?_
            simp only [List.set_cons_zero, List.set_cons_succ]
            refine takeW 1 25 (.bool false) rfl rfl (by kernel_rfl) (by kernel_rfl) (by kernel_rfl) (fun _ _ _ h => h) (by kernel_rfl) (by (intro w hSw; go_simp)) (by assumption) ?_
            simp only [List.set_cons_zero, List.set_cons_succ]
            refine takeW 2 26 (.bool false) rfl rfl (by kernel_rfl) (by kernel_rfl) (by kernel_rfl) (fun _ _ _ h => h) (by kernel_rfl) (by (intro w hSw; go_simp)) (by assumption) ?_
            simp only [List.set_cons_zero, List.set_cons_succ]
            refine takeS 3 27 rfl rfl (by kernel_rfl) (by kernel_rfl) (by kernel_rfl) (fun _ _ _ h => h) (by kernel_rfl) (by assumption) ?_
            simp only [List.set_cons_zero, List.set_cons_succ]
            refine takeS 4 28 rfl rfl (by kernel_rfl) (by kernel_rfl) (by kernel_rfl) (fun _ _ _ h => h) (by kernel_rfl) (by assumption) ?_
            simp only [List.set_cons_zero, List.set_cons_succ]
            refine takeS 5 29 rfl rfl (by kernel_rfl) (by kernel_rfl) (by kernel_rfl) (fun _ _ _ h => h) (by kernel_rfl) (by assumption) ?_
            simp only [List.set_cons_zero, List.set_cons_succ]
            refine takeS 6 30 rfl rfl (by kernel_rfl) (by kernel_rfl) (by kernel_rfl) (fun _ _ _ h => h) (by kernel_rfl) (by assumption) ?_
            simp only [List.set_cons_zero, List.set_cons_succ]
            refine takeS 7 31 rfl rfl (by kernel_rfl) (by kernel_rfl) (by kernel_rfl) (fun _ _ _ h => h) (by kernel_rfl) (by assumption) ?_
            simp only [List.set_cons_zero, List.set_cons_succ]
            refine takeS 8 32 rfl rfl (by kernel_rfl) (by kernel_rfl) (by kernel_rfl) (fun _ _ _ h => h) (by kernel_rfl) (by assumption) ?_
            simp only [List.set_cons_zero, List.set_cons_succ]
            refine takeS 9 33 rfl rfl (by kernel_rfl) (by kernel_rfl) (by kernel_rfl) (fun _ _ _ h => h) (by kernel_rfl) (by assumption) ?_
            simp only [List.set_cons_zero, List.set_cons_succ]
            refine takeW 10 34 (.bool false) rfl rfl (by kernel_rfl) (by kernel_rfl) (by kernel_rfl) (fun _ _ _ h => h) (by kernel_rfl) (by (intro w hSw; go_simp)) (by assumption) ?_
            simp only [List.set_cons_zero, List.set_cons_succ]
            refine wpAnyH_done (by kernel_rfl) ?_ _
            obtain ⟨y0, hy0'⟩ : ∃ y, y = wr.drew := ⟨_, rfl⟩
            rw [← hy0'] at hl0 hS0 ⊢
            clear hy0'
            obtain ⟨c1, c2, c3, c4⟩ := hc y0 hS0.2.1
            go_wp2_with (first | (at_builtin; refine wpList_append_own_at _ rfl _ _ 26 rfl (w.heap.size + 1) 97 i1 (.agg #[.int .i64 0, .int .i64 0, .int .i64 0, .int .i64 0]) 4 32 Tryz.underlying26 hj hy0 hy1 hy2 rfl (by decide) _ _ _ rfl (hl0.alloc _) ⟨y0.heap.size, 0, none⟩ 1 1 [.int .i64 h.a, .int .i64 h.v, .int .i64 h.p, .int .i64 h.l] rfl rfl ?r1 ?r2 ?r3 ?r4 ?r5 ?_) | go_in)
            case r1 => exact cells4 y0 h _
            case r2 => intro u hu; simp at hu; rcases hu with rfl | rfl | rfl | rfl <;> rfl
            case r3 => have := hMl.out; unfold maxLen; omega
            case r4 => have := hMl.out; omega
            case r5 => have := hS0.2.2; simp; omega
            intro vB wB hownB hgrowB _ _
            have ownB : HOwn wB (w.heap.size + 1) vB (M ++ [h]) := by unfold HOwn; rw [hcells_app, List.length_append]; exact hownB
            have SB : S1 w w.heap.size ⟨a, v, p, 20⟩ wB := hS0.appD hl0 hgrowB
            clear hownB hgrowB
            clear c1 c2 c3 c4
            go_wp2
            go_roundw
            case rel => exact ⟨k + 1, (M ++ [h]), true, by go_num, by omega, rfl, ownB, (by have h1 := hMk.out; unfold Hid; simp at h1 ⊢; omega), SB⟩
            case measure => simp [intOf]; omega
        · have ka' : (h.a != a) = true := by simp [ka]
          clear ka
          go_wp2_with fail
          refine wp_region_held (S := S1 w w.heap.size ⟨a, v, p, 20⟩) (by kernel_rfl) ?_
          change wpAnyH _ _ _ _ _ _ _ _ (World.drew _)
          have hS0 : S1 w w.heap.size ⟨a, v, p, 20⟩ wr.drew := hS.drew
          have hl0 : HOwn wr.drew (w.heap.size + 1) u10 M := hl
          refine takeW 0 24 (.bool true) rfl rfl (by kernel_rfl) (by kernel_rfl) (by kernel_rfl) (fun _ _ _ h => h) (by kernel_rfl) (by (intro w hSw; go_simp)) (by assumption) ?_
          simp only [List.set_cons_zero, List.set_cons_succ]
          refine takeW 1 25 (.bool false) rfl rfl (by kernel_rfl) (by kernel_rfl) (by kernel_rfl) (fun _ _ _ h => h) (by kernel_rfl) (by (intro w hSw; go_simp)) (by assumption) ?_
          simp only [List.set_cons_zero, List.set_cons_succ]
          refine takeW 2 26 (.bool false) rfl rfl (by kernel_rfl) (by kernel_rfl) (by kernel_rfl) (fun _ _ _ h => h) (by kernel_rfl) (by (intro w hSw; go_simp)) (by assumption) ?_
          simp only [List.set_cons_zero, List.set_cons_succ]
          refine takeS 3 27 rfl rfl (by kernel_rfl) (by kernel_rfl) (by kernel_rfl) (fun _ _ _ h => h) (by kernel_rfl) (by assumption) ?_
          simp only [List.set_cons_zero, List.set_cons_succ]
          refine takeS 4 28 rfl rfl (by kernel_rfl) (by kernel_rfl) (by kernel_rfl) (fun _ _ _ h => h) (by kernel_rfl) (by assumption) ?_
          simp only [List.set_cons_zero, List.set_cons_succ]
          refine takeS 5 29 rfl rfl (by kernel_rfl) (by kernel_rfl) (by kernel_rfl) (fun _ _ _ h => h) (by kernel_rfl) (by assumption) ?_
          simp only [List.set_cons_zero, List.set_cons_succ]
          refine takeS 6 30 rfl rfl (by kernel_rfl) (by kernel_rfl) (by kernel_rfl) (fun _ _ _ h => h) (by kernel_rfl) (by assumption) ?_
          simp only [List.set_cons_zero, List.set_cons_succ]
          refine takeS 7 31 rfl rfl (by kernel_rfl) (by kernel_rfl) (by kernel_rfl) (fun _ _ _ h => h) (by kernel_rfl) (by assumption) ?_
          simp only [List.set_cons_zero, List.set_cons_succ]
          refine takeS 8 32 rfl rfl (by kernel_rfl) (by kernel_rfl) (by kernel_rfl) (fun _ _ _ h => h) (by kernel_rfl) (by assumption) ?_
          simp only [List.set_cons_zero, List.set_cons_succ]
          refine takeS 9 33 rfl rfl (by kernel_rfl) (by kernel_rfl) (by kernel_rfl) (fun _ _ _ h => h) (by kernel_rfl) (by assumption) ?_
          simp only [List.set_cons_zero, List.set_cons_succ]
          refine takeW 10 34 (.bool false) rfl rfl (by kernel_rfl) (by kernel_rfl) (by kernel_rfl) (fun _ _ _ h => h) (by kernel_rfl) (by (intro w hSw; go_simp)) (by assumption) ?_
          simp only [List.set_cons_zero, List.set_cons_succ]
          refine wpAnyH_done (by kernel_rfl) ?_ _
          obtain ⟨y0, hy0'⟩ : ∃ y, y = wr.drew := ⟨_, rfl⟩
          rw [← hy0'] at hl0 hS0 ⊢
          clear hy0'
          obtain ⟨c1, c2, c3, c4⟩ := hc y0 hS0.2.1
          go_wp2_with (first | (at_builtin; refine wpList_append_own_at _ rfl _ _ 26 rfl (w.heap.size + 1) 97 i1 (.agg #[.int .i64 0, .int .i64 0, .int .i64 0, .int .i64 0]) 4 32 Tryz.underlying26 hj hy0 hy1 hy2 rfl (by decide) _ _ _ rfl (hl0.alloc _) ⟨y0.heap.size, 0, none⟩ 1 1 [.int .i64 h.a, .int .i64 h.v, .int .i64 h.p, .int .i64 h.l] rfl rfl ?r1 ?r2 ?r3 ?r4 ?r5 ?_) | go_in)
          case r1 => exact cells4 y0 h _
          case r2 => intro u hu; simp at hu; rcases hu with rfl | rfl | rfl | rfl <;> rfl
          case r3 => have := hMl.out; unfold maxLen; omega
          case r4 => have := hMl.out; omega
          case r5 => have := hS0.2.2; simp; omega
          intro vB wB hownB hgrowB _ _
          have ownB : HOwn wB (w.heap.size + 1) vB (M ++ [h]) := by unfold HOwn; rw [hcells_app, List.length_append]; exact hownB
          have SB : S1 w w.heap.size ⟨a, v, p, 20⟩ wB := hS0.appD hl0 hgrowB
          clear hownB hgrowB
          clear c1 c2 c3 c4
          go_wp2
          go_roundw
          case rel => exact ⟨k + 1, (M ++ [h]), true, by go_num, by omega, rfl, ownB, (by have h1 := hMk.out; unfold Hid; simp at h1 ⊢; omega), SB⟩
          case measure => simp [intOf]; omega
      | false =>
        cases hq : h.bef ⟨a, v, p, 20⟩ with
        | true =>
          by_cases ka : h.a = a
          · have ka' : (h.a != a) = false := by simp [ka]
            by_cases kv : h.v = v
            · have kv' : (h.v != v) = false := by simp [kv]
              clear ka kv
              go_wp2_with fail
              refine wp_region_held (S := S1 w w.heap.size ⟨a, v, p, 20⟩) (by kernel_rfl) ?_
              change wpAnyH _ _ _ _ _ _ _ _ (World.drew _)
              have hS0 : S1 w w.heap.size ⟨a, v, p, 20⟩ wr.drew := hS.drew
              have hl0 : HOwn wr.drew (w.heap.size + 1) u10 M := hl
              refine takeW 0 24 (.bool false) rfl rfl (by kernel_rfl) (by kernel_rfl) (by kernel_rfl) (fun _ _ _ h => h) (by kernel_rfl) (by (intro w hSw; go_simp)) (by assumption) ?_
              simp only [List.set_cons_zero, List.set_cons_succ]
              refine takeW 1 25 (.bool true) rfl rfl (by kernel_rfl) (by kernel_rfl) (by kernel_rfl) (fun _ _ _ h => h) (by kernel_rfl) (by (intro w hSw; go_simp)) (by assumption) ?_
              simp only [List.set_cons_zero, List.set_cons_succ]
              refine takeW 2 26 (.bool true) rfl rfl (by kernel_rfl) (by kernel_rfl) (by kernel_rfl) (fun _ _ _ h => h) (by kernel_rfl) (by (intro w hSw; go_simp)) (by assumption) ?_
              simp only [List.set_cons_zero, List.set_cons_succ]
              refine takeW 3 27 (.slice (some ⟨bb, off, none⟩) L.length cap) rfl rfl (by kernel_rfl) (by kernel_rfl) (by kernel_rfl) (fun _ _ _ h => h) (by kernel_rfl) (by (intro w hSw; go_simp)) (by assumption) ?_
              simp only [List.set_cons_zero, List.set_cons_succ]
              refine takeW 4 28 (.int .i64 (k : Int)) rfl rfl (by kernel_rfl) (by kernel_rfl) (by kernel_rfl) (fun _ _ _ h => h) (by kernel_rfl) (by (intro w hSw; go_simp)) (by assumption) ?_
              simp only [List.set_cons_zero, List.set_cons_succ]
              refine takeW 5 29 (.pointer (some ⟨bb, off + k * 4, none⟩)) rfl rfl (by kernel_rfl) (by kernel_rfl) (by kernel_rfl) (fun _ _ _ h => h) (by kernel_rfl) (by (intro Y hSw; go_simp; try omega)) (by assumption) ?_
              simp only [List.set_cons_zero, List.set_cons_succ]
              refine takeW 6 30 (.agg #[.int .i64 h.a, .int .i64 h.v, .int .i64 h.p, .int .i64 h.l]) rfl rfl (by kernel_rfl) (by kernel_rfl) (by kernel_rfl) (fun _ _ _ h => h) (by kernel_rfl) (by (intro Y hSw; obtain ⟨X1, X2, X3, X4⟩ := hc Y hSw.2.1; go_simp)) (by assumption) ?_
              simp only [List.set_cons_zero, List.set_cons_succ]
              refine takeW 7 31 (.agg #[.int .i64 a, .int .i64 v, .int .i64 p, .int .i64 20]) rfl rfl (by kernel_rfl) (by kernel_rfl) (by kernel_rfl) (fun _ _ _ h => h) (by kernel_rfl) (by (intro Y hSw; obtain ⟨⟨X1, X2, X3, X4⟩, _⟩ := hSw; simp only [Nat.zero_add] at X1 X2 X3 X4; go_simp)) (by assumption) ?_
              simp only [List.set_cons_zero, List.set_cons_succ]
              refine wpAnyH_all (rs := [8]) (by kernel_rfl) (by simp) ?_
              intro i hi; obtain rfl : i = 8 := by simpa using hi
              refine wpOp_step rfl (fun K hK => ?_)
              rw [if_pos (by kernel_rfl)]
              go_simp
              go_at_call 100
              refine (befS h ⟨a, v, p, 20⟩ _).mono ?_
              rintro e y1 ⟨rfl, j1⟩
              rw [hq]
              have hS1 : S1 w w.heap.size ⟨a, v, p, 20⟩ y1 := hS0.below j1
              have hl1 : HOwn y1 (w.heap.size + 1) u10 M := own_grow hl0 (below_grown j1 none) (fun j e => by cases e)
              refine hK _ _ ⟨hS1, ?_⟩
              clear hK K hi
              refine takeW 9 33 (.bool false) rfl rfl (by kernel_rfl) (by kernel_rfl) (by kernel_rfl) (fun _ _ _ h => h) (by kernel_rfl) (by (intro w hSw; go_simp)) (by assumption) ?_
              simp only [List.set_cons_zero, List.set_cons_succ]
              refine takeW 10 34 (.bool false) rfl rfl (by kernel_rfl) (by kernel_rfl) (by kernel_rfl) (fun _ _ _ h => h) (by kernel_rfl) (by (intro w hSw; go_simp)) (by assumption) ?_
              simp only [List.set_cons_zero, List.set_cons_succ]
              refine wpAnyH_done (by kernel_rfl) ?_ _
              obtain ⟨c1, c2, c3, c4⟩ := hc y1 hS1.2.1
              go_wp2
              go_roundw
              case rel => exact ⟨k + 1, M, false, by go_num, by omega, rfl, hl1, (by have h1 := hMk.out; unfold Hid; simp at h1 ⊢; omega), hS1⟩
              case measure => simp [intOf]; omega
            · have kv' : (h.v != v) = true := by simp [kv]
              clear ka kv
              go_wp2_with fail
              refine wp_region_held (S := S1 w w.heap.size ⟨a, v, p, 20⟩) (by kernel_rfl) ?_
              change wpAnyH _ _ _ _ _ _ _ _ (World.drew _)
              have hS0 : S1 w w.heap.size ⟨a, v, p, 20⟩ wr.drew := hS.drew
              have hl0 : HOwn wr.drew (w.heap.size + 1) u10 M := hl
              refine takeW 0 24 (.bool false) rfl rfl (by kernel_rfl) (by kernel_rfl) (by kernel_rfl) (fun _ _ _ h => h) (by kernel_rfl) (by (intro w hSw; go_simp)) (by assumption) ?_
              simp only [List.set_cons_zero, List.set_cons_succ]
              refine takeW 1 25 (.bool true) rfl rfl (by kernel_rfl) (by kernel_rfl) (by kernel_rfl) (fun _ _ _ h => h) (by kernel_rfl) (by (intro w hSw; go_simp)) (by assumption) ?_
              simp only [List.set_cons_zero, List.set_cons_succ]
              refine takeW 2 26 (.bool true) rfl rfl (by kernel_rfl) (by kernel_rfl) (by kernel_rfl) (fun _ _ _ h => h) (by kernel_rfl) (by (intro w hSw; go_simp)) (by assumption) ?_
              simp only [List.set_cons_zero, List.set_cons_succ]
              refine takeW 3 27 (.slice (some ⟨bb, off, none⟩) L.length cap) rfl rfl (by kernel_rfl) (by kernel_rfl) (by kernel_rfl) (fun _ _ _ h => h) (by kernel_rfl) (by (intro w hSw; go_simp)) (by assumption) ?_
              simp only [List.set_cons_zero, List.set_cons_succ]
              refine takeW 4 28 (.int .i64 (k : Int)) rfl rfl (by kernel_rfl) (by kernel_rfl) (by kernel_rfl) (fun _ _ _ h => h) (by kernel_rfl) (by (intro w hSw; go_simp)) (by assumption) ?_
              simp only [List.set_cons_zero, List.set_cons_succ]
              refine takeW 5 29 (.pointer (some ⟨bb, off + k * 4, none⟩)) rfl rfl (by kernel_rfl) (by kernel_rfl) (by kernel_rfl) (fun _ _ _ h => h) (by kernel_rfl) (by (intro Y hSw; go_simp; try omega)) (by assumption) ?_
              simp only [List.set_cons_zero, List.set_cons_succ]
              refine takeW 6 30 (.agg #[.int .i64 h.a, .int .i64 h.v, .int .i64 h.p, .int .i64 h.l]) rfl rfl (by kernel_rfl) (by kernel_rfl) (by kernel_rfl) (fun _ _ _ h => h) (by kernel_rfl) (by (intro Y hSw; obtain ⟨X1, X2, X3, X4⟩ := hc Y hSw.2.1; go_simp)) (by assumption) ?_
              simp only [List.set_cons_zero, List.set_cons_succ]
              refine takeW 7 31 (.agg #[.int .i64 a, .int .i64 v, .int .i64 p, .int .i64 20]) rfl rfl (by kernel_rfl) (by kernel_rfl) (by kernel_rfl) (fun _ _ _ h => h) (by kernel_rfl) (by (intro Y hSw; obtain ⟨⟨X1, X2, X3, X4⟩, _⟩ := hSw; simp only [Nat.zero_add] at X1 X2 X3 X4; go_simp)) (by assumption) ?_
              simp only [List.set_cons_zero, List.set_cons_succ]
              refine wpAnyH_all (rs := [8]) (by kernel_rfl) (by simp) ?_
              intro i hi; obtain rfl : i = 8 := by simpa using hi
              refine wpOp_step rfl (fun K hK => ?_)
              rw [if_pos (by kernel_rfl)]
              go_simp
              go_at_call 100
              refine (befS h ⟨a, v, p, 20⟩ _).mono ?_
              rintro e y1 ⟨rfl, j1⟩
              rw [hq]
              have hS1 : S1 w w.heap.size ⟨a, v, p, 20⟩ y1 := hS0.below j1
              have hl1 : HOwn y1 (w.heap.size + 1) u10 M := own_grow hl0 (below_grown j1 none) (fun j e => by cases e)
              refine hK _ _ ⟨hS1, ?_⟩
              clear hK K hi
              refine takeW 9 33 (.bool false) rfl rfl (by kernel_rfl) (by kernel_rfl) (by kernel_rfl) (fun _ _ _ h => h) (by kernel_rfl) (by (intro w hSw; go_simp)) (by assumption) ?_
              simp only [List.set_cons_zero, List.set_cons_succ]
              refine takeW 10 34 (.bool false) rfl rfl (by kernel_rfl) (by kernel_rfl) (by kernel_rfl) (fun _ _ _ h => h) (by kernel_rfl) (by (intro w hSw; go_simp)) (by assumption) ?_
              simp only [List.set_cons_zero, List.set_cons_succ]
              refine wpAnyH_done (by kernel_rfl) ?_ _
              obtain ⟨c1, c2, c3, c4⟩ := hc y1 hS1.2.1
              go_wp2_with (first | (at_builtin; refine wpList_append_own_at _ rfl _ _ 26 rfl (w.heap.size + 1) 97 i1 (.agg #[.int .i64 0, .int .i64 0, .int .i64 0, .int .i64 0]) 4 32 Tryz.underlying26 hj hy0 hy1 hy2 rfl (by decide) _ _ _ rfl (hl1.alloc _) ⟨y1.heap.size, 0, none⟩ 1 1 [.int .i64 h.a, .int .i64 h.v, .int .i64 h.p, .int .i64 h.l] rfl rfl ?r1 ?r2 ?r3 ?r4 ?r5 ?_) | go_in)
              case r1 => exact cells4 y1 h _
              case r2 => intro u hu; simp at hu; rcases hu with rfl | rfl | rfl | rfl <;> rfl
              case r3 => have := hMl.out; unfold maxLen; omega
              case r4 => have := hMl.out; omega
              case r5 => have := hS1.2.2; simp; omega
              intro vB wB hownB hgrowB _ _
              have ownB : HOwn wB (w.heap.size + 1) vB (M ++ [h]) := by unfold HOwn; rw [hcells_app, List.length_append]; exact hownB
              have SB : S1 w w.heap.size ⟨a, v, p, 20⟩ wB := hS1.appD hl1 hgrowB
              clear hownB hgrowB
              clear c1 c2 c3 c4
              go_wp2
              go_roundw
              case rel => exact ⟨k + 1, (M ++ [h]), false, by go_num, by omega, rfl, ownB, (by have h1 := hMk.out; unfold Hid; simp at h1 ⊢; omega), SB⟩
              case measure => simp [intOf]; omega
          · have ka' : (h.a != a) = true := by simp [ka]
            clear ka
            go_wp2_with fail
            refine wp_region_held (S := S1 w w.heap.size ⟨a, v, p, 20⟩) (by kernel_rfl) ?_
            change wpAnyH _ _ _ _ _ _ _ _ (World.drew _)
            have hS0 : S1 w w.heap.size ⟨a, v, p, 20⟩ wr.drew := hS.drew
            have hl0 : HOwn wr.drew (w.heap.size + 1) u10 M := hl
            refine takeW 0 24 (.bool false) rfl rfl (by kernel_rfl) (by kernel_rfl) (by kernel_rfl) (fun _ _ _ h => h) (by kernel_rfl) (by (intro w hSw; go_simp)) (by assumption) ?_
            simp only [List.set_cons_zero, List.set_cons_succ]
            refine takeW 1 25 (.bool true) rfl rfl (by kernel_rfl) (by kernel_rfl) (by kernel_rfl) (fun _ _ _ h => h) (by kernel_rfl) (by (intro w hSw; go_simp)) (by assumption) ?_
            simp only [List.set_cons_zero, List.set_cons_succ]
            refine takeW 2 26 (.bool true) rfl rfl (by kernel_rfl) (by kernel_rfl) (by kernel_rfl) (fun _ _ _ h => h) (by kernel_rfl) (by (intro w hSw; go_simp)) (by assumption) ?_
            simp only [List.set_cons_zero, List.set_cons_succ]
            refine takeW 3 27 (.slice (some ⟨bb, off, none⟩) L.length cap) rfl rfl (by kernel_rfl) (by kernel_rfl) (by kernel_rfl) (fun _ _ _ h => h) (by kernel_rfl) (by (intro w hSw; go_simp)) (by assumption) ?_
            simp only [List.set_cons_zero, List.set_cons_succ]
            refine takeW 4 28 (.int .i64 (k : Int)) rfl rfl (by kernel_rfl) (by kernel_rfl) (by kernel_rfl) (fun _ _ _ h => h) (by kernel_rfl) (by (intro w hSw; go_simp)) (by assumption) ?_
            simp only [List.set_cons_zero, List.set_cons_succ]
            refine takeW 5 29 (.pointer (some ⟨bb, off + k * 4, none⟩)) rfl rfl (by kernel_rfl) (by kernel_rfl) (by kernel_rfl) (fun _ _ _ h => h) (by kernel_rfl) (by (intro Y hSw; go_simp; try omega)) (by assumption) ?_
            simp only [List.set_cons_zero, List.set_cons_succ]
            refine takeW 6 30 (.agg #[.int .i64 h.a, .int .i64 h.v, .int .i64 h.p, .int .i64 h.l]) rfl rfl (by kernel_rfl) (by kernel_rfl) (by kernel_rfl) (fun _ _ _ h => h) (by kernel_rfl) (by (intro Y hSw; obtain ⟨X1, X2, X3, X4⟩ := hc Y hSw.2.1; go_simp)) (by assumption) ?_
            simp only [List.set_cons_zero, List.set_cons_succ]
            refine takeW 7 31 (.agg #[.int .i64 a, .int .i64 v, .int .i64 p, .int .i64 20]) rfl rfl (by kernel_rfl) (by kernel_rfl) (by kernel_rfl) (fun _ _ _ h => h) (by kernel_rfl) (by (intro Y hSw; obtain ⟨⟨X1, X2, X3, X4⟩, _⟩ := hSw; simp only [Nat.zero_add] at X1 X2 X3 X4; go_simp)) (by assumption) ?_
            simp only [List.set_cons_zero, List.set_cons_succ]
            refine wpAnyH_all (rs := [8]) (by kernel_rfl) (by simp) ?_
            intro i hi; obtain rfl : i = 8 := by simpa using hi
            refine wpOp_step rfl (fun K hK => ?_)
            rw [if_pos (by kernel_rfl)]
            go_simp
            go_at_call 100
            refine (befS h ⟨a, v, p, 20⟩ _).mono ?_
            rintro e y1 ⟨rfl, j1⟩
            rw [hq]
            have hS1 : S1 w w.heap.size ⟨a, v, p, 20⟩ y1 := hS0.below j1
            have hl1 : HOwn y1 (w.heap.size + 1) u10 M := own_grow hl0 (below_grown j1 none) (fun j e => by cases e)
            refine hK _ _ ⟨hS1, ?_⟩
            clear hK K hi
            refine takeW 9 33 (.bool false) rfl rfl (by kernel_rfl) (by kernel_rfl) (by kernel_rfl) (fun _ _ _ h => h) (by kernel_rfl) (by (intro w hSw; go_simp)) (by assumption) ?_
            simp only [List.set_cons_zero, List.set_cons_succ]
            refine takeW 10 34 (.bool false) rfl rfl (by kernel_rfl) (by kernel_rfl) (by kernel_rfl) (fun _ _ _ h => h) (by kernel_rfl) (by (intro w hSw; go_simp)) (by assumption) ?_
            simp only [List.set_cons_zero, List.set_cons_succ]
            refine wpAnyH_done (by kernel_rfl) ?_ _
            obtain ⟨c1, c2, c3, c4⟩ := hc y1 hS1.2.1
            go_wp2_with (first | (at_builtin; refine wpList_append_own_at _ rfl _ _ 26 rfl (w.heap.size + 1) 97 i1 (.agg #[.int .i64 0, .int .i64 0, .int .i64 0, .int .i64 0]) 4 32 Tryz.underlying26 hj hy0 hy1 hy2 rfl (by decide) _ _ _ rfl (hl1.alloc _) ⟨y1.heap.size, 0, none⟩ 1 1 [.int .i64 h.a, .int .i64 h.v, .int .i64 h.p, .int .i64 h.l] rfl rfl ?r1 ?r2 ?r3 ?r4 ?r5 ?_) | go_in)
            case r1 => exact cells4 y1 h _
            case r2 => intro u hu; simp at hu; rcases hu with rfl | rfl | rfl | rfl <;> rfl
            case r3 => have := hMl.out; unfold maxLen; omega
            case r4 => have := hMl.out; omega
            case r5 => have := hS1.2.2; simp; omega
            intro vB wB hownB hgrowB _ _
            have ownB : HOwn wB (w.heap.size + 1) vB (M ++ [h]) := by unfold HOwn; rw [hcells_app, List.length_append]; exact hownB
            have SB : S1 w w.heap.size ⟨a, v, p, 20⟩ wB := hS1.appD hl1 hgrowB
            clear hownB hgrowB
            clear c1 c2 c3 c4
            go_wp2
            go_roundw
            case rel => exact ⟨k + 1, (M ++ [h]), false, by go_num, by omega, rfl, ownB, (by have h1 := hMk.out; unfold Hid; simp at h1 ⊢; omega), SB⟩
            case measure => simp [intOf]; omega
        | false =>
          by_cases ka : h.a = a
          · have ka' : (h.a != a) = false := by simp [ka]
            by_cases kv : h.v = v
            · have kv' : (h.v != v) = false := by simp [kv]
              clear ka kv
              go_wp2_with fail
              refine wp_region_held (S := S1 w w.heap.size ⟨a, v, p, 20⟩) (by kernel_rfl) ?_
              change wpAnyH _ _ _ _ _ _ _ _ (World.drew _)
              have hS0 : S1 w w.heap.size ⟨a, v, p, 20⟩ wr.drew := hS.drew
              have hl0 : HOwn wr.drew (w.heap.size + 1) u10 M := hl
              refine takeW 0 24 (.bool false) rfl rfl (by kernel_rfl) (by kernel_rfl) (by kernel_rfl) (fun _ _ _ h => h) (by kernel_rfl) (by (intro w hSw; go_simp)) (by assumption) ?_
              simp only [List.set_cons_zero, List.set_cons_succ]
              refine takeW 1 25 (.bool true) rfl rfl (by kernel_rfl) (by kernel_rfl) (by kernel_rfl) (fun _ _ _ h => h) (by kernel_rfl) (by (intro w hSw; go_simp)) (by assumption) ?_
              simp only [List.set_cons_zero, List.set_cons_succ]
              refine takeW 2 26 (.bool true) rfl rfl (by kernel_rfl) (by kernel_rfl) (by kernel_rfl) (fun _ _ _ h => h) (by kernel_rfl) (by (intro w hSw; go_simp)) (by assumption) ?_
              simp only [List.set_cons_zero, List.set_cons_succ]
              refine takeW 3 27 (.slice (some ⟨bb, off, none⟩) L.length cap) rfl rfl (by kernel_rfl) (by kernel_rfl) (by kernel_rfl) (fun _ _ _ h => h) (by kernel_rfl) (by (intro w hSw; go_simp)) (by assumption) ?_
              simp only [List.set_cons_zero, List.set_cons_succ]
              refine takeW 4 28 (.int .i64 (k : Int)) rfl rfl (by kernel_rfl) (by kernel_rfl) (by kernel_rfl) (fun _ _ _ h => h) (by kernel_rfl) (by (intro w hSw; go_simp)) (by assumption) ?_
              simp only [List.set_cons_zero, List.set_cons_succ]
              refine takeW 5 29 (.pointer (some ⟨bb, off + k * 4, none⟩)) rfl rfl (by kernel_rfl) (by kernel_rfl) (by kernel_rfl) (fun _ _ _ h => h) (by kernel_rfl) (by (intro Y hSw; go_simp; try omega)) (by assumption) ?_
              simp only [List.set_cons_zero, List.set_cons_succ]
              refine takeW 6 30 (.agg #[.int .i64 h.a, .int .i64 h.v, .int .i64 h.p, .int .i64 h.l]) rfl rfl (by kernel_rfl) (by kernel_rfl) (by kernel_rfl) (fun _ _ _ h => h) (by kernel_rfl) (by (intro Y hSw; obtain ⟨X1, X2, X3, X4⟩ := hc Y hSw.2.1; go_simp)) (by assumption) ?_
              simp only [List.set_cons_zero, List.set_cons_succ]
              refine takeW 7 31 (.agg #[.int .i64 a, .int .i64 v, .int .i64 p, .int .i64 20]) rfl rfl (by kernel_rfl) (by kernel_rfl) (by kernel_rfl) (fun _ _ _ h => h) (by kernel_rfl) (by (intro Y hSw; obtain ⟨⟨X1, X2, X3, X4⟩, _⟩ := hSw; simp only [Nat.zero_add] at X1 X2 X3 X4; go_simp)) (by assumption) ?_
              simp only [List.set_cons_zero, List.set_cons_succ]
              refine wpAnyH_all (rs := [8]) (by kernel_rfl) (by simp) ?_
              intro i hi; obtain rfl : i = 8 := by simpa using hi
              refine wpOp_step rfl (fun K hK => ?_)
              rw [if_pos (by kernel_rfl)]
              go_simp
              go_at_call 100
              refine (befS h ⟨a, v, p, 20⟩ _).mono ?_
              rintro e y1 ⟨rfl, j1⟩
              rw [hq]
              have hS1 : S1 w w.heap.size ⟨a, v, p, 20⟩ y1 := hS0.below j1
              have hl1 : HOwn y1 (w.heap.size + 1) u10 M := own_grow hl0 (below_grown j1 none) (fun j e => by cases e)
              refine hK _ _ ⟨hS1, ?_⟩
              clear hK K hi
              refine takeW 9 33 (.bool true) rfl rfl (by kernel_rfl) (by kernel_rfl) (by kernel_rfl) (fun _ _ _ h => h) (by kernel_rfl) (by (intro w hSw; go_simp)) (by assumption) ?_
              simp only [List.set_cons_zero, List.set_cons_succ]
              refine takeW 10 34 (.bool true) rfl rfl (by kernel_rfl) (by kernel_rfl) (by kernel_rfl) (fun _ _ _ h => h) (by kernel_rfl) (by (intro w hSw; go_simp)) (by assumption) ?_
              simp only [List.set_cons_zero, List.set_cons_succ]
              refine wpAnyH_done (by kernel_rfl) ?_ _
              obtain ⟨X1, X2, X3, X4⟩ := hS1.1
              simp only [Nat.zero_add] at X1 X2 X3 X4
              go_wp2_with (first | (at_builtin; refine wpList_append_own_at _ rfl _ _ 26 rfl (w.heap.size + 1) 97 i1 (.agg #[.int .i64 0, .int .i64 0, .int .i64 0, .int .i64 0]) 4 32 Tryz.underlying26 hj hy0 hy1 hy2 rfl (by decide) _ _ _ rfl (hl1.alloc _) ⟨y1.heap.size, 0, none⟩ 1 1 [.int .i64 a, .int .i64 v, .int .i64 p, .int .i64 20] rfl rfl ?p1 ?p2 ?p3 ?p4 ?p5 ?_) | go_in)
              case p1 => exact cells4 y1 ⟨a, v, p, 20⟩ _
              case p2 => intro u hu; simp at hu; rcases hu with rfl | rfl | rfl | rfl <;> rfl
              case p3 => have := hMl.out; unfold maxLen; omega
              case p4 => have := hMl.out; omega
              case p5 => have := hS1.2.2; simp; omega
              intro vA wA hownA hgrowA _ _
              have ownA : HOwn wA (w.heap.size + 1) vA (M ++ [⟨a, v, p, 20⟩]) := by unfold HOwn; rw [hcells_app, List.length_append]; exact hownA
              have SA : S1 w w.heap.size ⟨a, v, p, 20⟩ wA := hS1.appD hl1 hgrowA
              clear hownA hgrowA
              obtain ⟨M2, hM2⟩ : ∃ M2, M ++ [(⟨a, v, p, 20⟩ : Hd)] = M2 := ⟨_, rfl⟩
              rw [hM2] at ownA
              have hM2l : Hid (M2.length = M.length + 1) := by rw [← hM2]; simp [Hid]
              have hMl2 : Hid (M2.length ≤ 1002) := by have h1 := hM2l.out; have h2 := hMl.out; unfold Hid; omega
              clear hM2
              clear X1 X2 X3 X4
              obtain ⟨c1, c2, c3, c4⟩ := hc wA SA.2.1
              go_wp2
              go_roundw
              case rel => exact ⟨k + 1, M2, true, by go_num, by omega, rfl, ownA, (by have h1 := hMk.out; have h2 := hM2l.out; unfold Hid; simp at h1 ⊢; omega), SA⟩
              case measure => simp [intOf]; omega
            · have kv' : (h.v != v) = true := by simp [kv]
              clear ka kv
              go_wp2_with fail
              refine wp_region_held (S := S1 w w.heap.size ⟨a, v, p, 20⟩) (by kernel_rfl) ?_
              change wpAnyH _ _ _ _ _ _ _ _ (World.drew _)
              have hS0 : S1 w w.heap.size ⟨a, v, p, 20⟩ wr.drew := hS.drew
              have hl0 : HOwn wr.drew (w.heap.size + 1) u10 M := hl
              refine takeW 0 24 (.bool false) rfl rfl (by kernel_rfl) (by kernel_rfl) (by kernel_rfl) (fun _ _ _ h => h) (by kernel_rfl) (by (intro w hSw; go_simp)) (by assumption) ?_
              simp only [List.set_cons_zero, List.set_cons_succ]
              refine takeW 1 25 (.bool true) rfl rfl (by kernel_rfl) (by kernel_rfl) (by kernel_rfl) (fun _ _ _ h => h) (by kernel_rfl) (by (intro w hSw; go_simp)) (by assumption) ?_
              simp only [List.set_cons_zero, List.set_cons_succ]
              refine takeW 2 26 (.bool true) rfl rfl (by kernel_rfl) (by kernel_rfl) (by kernel_rfl) (fun _ _ _ h => h) (by kernel_rfl) (by (intro w hSw; go_simp)) (by assumption) ?_
              simp only [List.set_cons_zero, List.set_cons_succ]
              refine takeW 3 27 (.slice (some ⟨bb, off, none⟩) L.length cap) rfl rfl (by kernel_rfl) (by kernel_rfl) (by kernel_rfl) (fun _ _ _ h => h) (by kernel_rfl) (by (intro w hSw; go_simp)) (by assumption) ?_
              simp only [List.set_cons_zero, List.set_cons_succ]
              refine takeW 4 28 (.int .i64 (k : Int)) rfl rfl (by kernel_rfl) (by kernel_rfl) (by kernel_rfl) (fun _ _ _ h => h) (by kernel_rfl) (by (intro w hSw; go_simp)) (by assumption) ?_
              simp only [List.set_cons_zero, List.set_cons_succ]
              refine takeW 5 29 (.pointer (some ⟨bb, off + k * 4, none⟩)) rfl rfl (by kernel_rfl) (by kernel_rfl) (by kernel_rfl) (fun _ _ _ h => h) (by kernel_rfl) (by (intro Y hSw; go_simp; try omega)) (by assumption) ?_
              simp only [List.set_cons_zero, List.set_cons_succ]
              refine takeW 6 30 (.agg #[.int .i64 h.a, .int .i64 h.v, .int .i64 h.p, .int .i64 h.l]) rfl rfl (by kernel_rfl) (by kernel_rfl) (by kernel_rfl) (fun _ _ _ h => h) (by kernel_rfl) (by (intro Y hSw; obtain ⟨X1, X2, X3, X4⟩ := hc Y hSw.2.1; go_simp)) (by assumption) ?_
              simp only [List.set_cons_zero, List.set_cons_succ]
              refine takeW 7 31 (.agg #[.int .i64 a, .int .i64 v, .int .i64 p, .int .i64 20]) rfl rfl (by kernel_rfl) (by kernel_rfl) (by kernel_rfl) (fun _ _ _ h => h) (by kernel_rfl) (by (intro Y hSw; obtain ⟨⟨X1, X2, X3, X4⟩, _⟩ := hSw; simp only [Nat.zero_add] at X1 X2 X3 X4; go_simp)) (by assumption) ?_
              simp only [List.set_cons_zero, List.set_cons_succ]
              refine wpAnyH_all (rs := [8]) (by kernel_rfl) (by simp) ?_
              intro i hi; obtain rfl : i = 8 := by simpa using hi
              refine wpOp_step rfl (fun K hK => ?_)
              rw [if_pos (by kernel_rfl)]
              go_simp
              go_at_call 100
              refine (befS h ⟨a, v, p, 20⟩ _).mono ?_
              rintro e y1 ⟨rfl, j1⟩
              rw [hq]
              have hS1 : S1 w w.heap.size ⟨a, v, p, 20⟩ y1 := hS0.below j1
              have hl1 : HOwn y1 (w.heap.size + 1) u10 M := own_grow hl0 (below_grown j1 none) (fun j e => by cases e)
              refine hK _ _ ⟨hS1, ?_⟩
              clear hK K hi
              refine takeW 9 33 (.bool true) rfl rfl (by kernel_rfl) (by kernel_rfl) (by kernel_rfl) (fun _ _ _ h => h) (by kernel_rfl) (by (intro w hSw; go_simp)) (by assumption) ?_
              simp only [List.set_cons_zero, List.set_cons_succ]
              refine takeW 10 34 (.bool true) rfl rfl (by kernel_rfl) (by kernel_rfl) (by kernel_rfl) (fun _ _ _ h => h) (by kernel_rfl) (by (intro w hSw; go_simp)) (by assumption) ?_
              simp only [List.set_cons_zero, List.set_cons_succ]
              refine wpAnyH_done (by kernel_rfl) ?_ _
              obtain ⟨X1, X2, X3, X4⟩ := hS1.1
              simp only [Nat.zero_add] at X1 X2 X3 X4
              go_wp2_with (first | (at_builtin; refine wpList_append_own_at _ rfl _ _ 26 rfl (w.heap.size + 1) 97 i1 (.agg #[.int .i64 0, .int .i64 0, .int .i64 0, .int .i64 0]) 4 32 Tryz.underlying26 hj hy0 hy1 hy2 rfl (by decide) _ _ _ rfl (hl1.alloc _) ⟨y1.heap.size, 0, none⟩ 1 1 [.int .i64 a, .int .i64 v, .int .i64 p, .int .i64 20] rfl rfl ?p1 ?p2 ?p3 ?p4 ?p5 ?_) | go_in)
              case p1 => exact cells4 y1 ⟨a, v, p, 20⟩ _
              case p2 => intro u hu; simp at hu; rcases hu with rfl | rfl | rfl | rfl <;> rfl
              case p3 => have := hMl.out; unfold maxLen; omega
              case p4 => have := hMl.out; omega
              case p5 => have := hS1.2.2; simp; omega
              intro vA wA hownA hgrowA _ _
              have ownA : HOwn wA (w.heap.size + 1) vA (M ++ [⟨a, v, p, 20⟩]) := by unfold HOwn; rw [hcells_app, List.length_append]; exact hownA
              have SA : S1 w w.heap.size ⟨a, v, p, 20⟩ wA := hS1.appD hl1 hgrowA
              clear hownA hgrowA
              obtain ⟨M2, hM2⟩ : ∃ M2, M ++ [(⟨a, v, p, 20⟩ : Hd)] = M2 := ⟨_, rfl⟩
              rw [hM2] at ownA
              have hM2l : Hid (M2.length = M.length + 1) := by rw [← hM2]; simp [Hid]
              have hMl2 : Hid (M2.length ≤ 1002) := by have h1 := hM2l.out; have h2 := hMl.out; unfold Hid; omega
              clear hM2
              clear X1 X2 X3 X4
              obtain ⟨c1, c2, c3, c4⟩ := hc wA SA.2.1
              go_wp2_with (first | (at_builtin; refine wpList_append_own_at _ rfl _ _ 26 rfl (w.heap.size + 1) 97 i1 (.agg #[.int .i64 0, .int .i64 0, .int .i64 0, .int .i64 0]) 4 32 Tryz.underlying26 hj hy0 hy1 hy2 rfl (by decide) _ _ _ rfl (ownA.alloc _) ⟨wA.heap.size, 0, none⟩ 1 1 [.int .i64 h.a, .int .i64 h.v, .int .i64 h.p, .int .i64 h.l] rfl rfl ?r1 ?r2 ?r3 ?r4 ?r5 ?_) | go_in)
              case r1 => exact cells4 wA h _
              case r2 => intro u hu; simp at hu; rcases hu with rfl | rfl | rfl | rfl <;> rfl
              case r3 => have := hMl2.out; unfold maxLen; omega
              case r4 => have := hMl2.out; omega
              case r5 => have := SA.2.2; simp; omega
              intro vB wB hownB hgrowB _ _
              have ownB : HOwn wB (w.heap.size + 1) vB (M2 ++ [h]) := by unfold HOwn; rw [hcells_app, List.length_append]; exact hownB
              have SB : S1 w w.heap.size ⟨a, v, p, 20⟩ wB := SA.appD ownA hgrowB
              clear hownB hgrowB
              clear c1 c2 c3 c4
              go_wp2
              go_roundw
              case rel => exact ⟨k + 1, (M2 ++ [h]), true, by go_num, by omega, rfl, ownB, (by have h1 := hMk.out; have h2 := hM2l.out; unfold Hid; simp at h1 ⊢; omega), SB⟩
              case measure => simp [intOf]; omega
          · have ka' : (h.a != a) = true := by simp [ka]
            clear ka
            go_wp2_with fail
            refine wp_region_held (S := S1 w w.heap.size ⟨a, v, p, 20⟩) (by kernel_rfl) ?_
            change wpAnyH _ _ _ _ _ _ _ _ (World.drew _)
            have hS0 : S1 w w.heap.size ⟨a, v, p, 20⟩ wr.drew := hS.drew
            have hl0 : HOwn wr.drew (w.heap.size + 1) u10 M := hl
            refine takeW 0 24 (.bool false) rfl rfl (by kernel_rfl) (by kernel_rfl) (by kernel_rfl) (fun _ _ _ h => h) (by kernel_rfl) (by (intro w hSw; go_simp)) (by assumption) ?_
            simp only [List.set_cons_zero, List.set_cons_succ]
            refine takeW 1 25 (.bool true) rfl rfl (by kernel_rfl) (by kernel_rfl) (by kernel_rfl) (fun _ _ _ h => h) (by kernel_rfl) (by (intro w hSw; go_simp)) (by assumption) ?_
            simp only [List.set_cons_zero, List.set_cons_succ]
            refine takeW 2 26 (.bool true) rfl rfl (by kernel_rfl) (by kernel_rfl) (by kernel_rfl) (fun _ _ _ h => h) (by kernel_rfl) (by (intro w hSw; go_simp)) (by assumption) ?_
            simp only [List.set_cons_zero, List.set_cons_succ]
            refine takeW 3 27 (.slice (some ⟨bb, off, none⟩) L.length cap) rfl rfl (by kernel_rfl) (by kernel_rfl) (by kernel_rfl) (fun _ _ _ h => h) (by kernel_rfl) (by (intro w hSw; go_simp)) (by assumption) ?_
            simp only [List.set_cons_zero, List.set_cons_succ]
            refine takeW 4 28 (.int .i64 (k : Int)) rfl rfl (by kernel_rfl) (by kernel_rfl) (by kernel_rfl) (fun _ _ _ h => h) (by kernel_rfl) (by (intro w hSw; go_simp)) (by assumption) ?_
            simp only [List.set_cons_zero, List.set_cons_succ]
            refine takeW 5 29 (.pointer (some ⟨bb, off + k * 4, none⟩)) rfl rfl (by kernel_rfl) (by kernel_rfl) (by kernel_rfl) (fun _ _ _ h => h) (by kernel_rfl) (by (intro Y hSw; go_simp; try omega)) (by assumption) ?_
            simp only [List.set_cons_zero, List.set_cons_succ]
            refine takeW 6 30 (.agg #[.int .i64 h.a, .int .i64 h.v, .int .i64 h.p, .int .i64 h.l]) rfl rfl (by kernel_rfl) (by kernel_rfl) (by kernel_rfl) (fun _ _ _ h => h) (by kernel_rfl) (by (intro Y hSw; obtain ⟨X1, X2, X3, X4⟩ := hc Y hSw.2.1; go_simp)) (by assumption) ?_
            simp only [List.set_cons_zero, List.set_cons_succ]
            refine takeW 7 31 (.agg #[.int .i64 a, .int .i64 v, .int .i64 p, .int .i64 20]) rfl rfl (by kernel_rfl) (by kernel_rfl) (by kernel_rfl) (fun _ _ _ h => h) (by kernel_rfl) (by (intro Y hSw; obtain ⟨⟨X1, X2, X3, X4⟩, _⟩ := hSw; simp only [Nat.zero_add] at X1 X2 X3 X4; go_simp)) (by assumption) ?_
            simp only [List.set_cons_zero, List.set_cons_succ]
            refine wpAnyH_all (rs := [8]) (by kernel_rfl) (by simp) ?_
            intro i hi; obtain rfl : i = 8 := by simpa using hi
            refine wpOp_step rfl (fun K hK => ?_)
            rw [if_pos (by kernel_rfl)]
            go_simp
            go_at_call 100
            refine (befS h ⟨a, v, p, 20⟩ _).mono ?_
            rintro e y1 ⟨rfl, j1⟩
            rw [hq]
            have hS1 : S1 w w.heap.size ⟨a, v, p, 20⟩ y1 := hS0.below j1
            have hl1 : HOwn y1 (w.heap.size + 1) u10 M := own_grow hl0 (below_grown j1 none) (fun j e => by cases e)
            refine hK _ _ ⟨hS1, ?_⟩
            clear hK K hi
            refine takeW 9 33 (.bool true) rfl rfl (by kernel_rfl) (by kernel_rfl) (by kernel_rfl) (fun _ _ _ h => h) (by kernel_rfl) (by (intro w hSw; go_simp)) (by assumption) ?_
            simp only [List.set_cons_zero, List.set_cons_succ]
            refine takeW 10 34 (.bool true) rfl rfl (by kernel_rfl) (by kernel_rfl) (by kernel_rfl) (fun _ _ _ h => h) (by kernel_rfl) (by (intro w hSw; go_simp)) (by assumption) ?_
            simp only [List.set_cons_zero, List.set_cons_succ]
            refine wpAnyH_done (by kernel_rfl) ?_ _
            obtain ⟨X1, X2, X3, X4⟩ := hS1.1
            simp only [Nat.zero_add] at X1 X2 X3 X4
            go_wp2_with (first | (at_builtin; refine wpList_append_own_at _ rfl _ _ 26 rfl (w.heap.size + 1) 97 i1 (.agg #[.int .i64 0, .int .i64 0, .int .i64 0, .int .i64 0]) 4 32 Tryz.underlying26 hj hy0 hy1 hy2 rfl (by decide) _ _ _ rfl (hl1.alloc _) ⟨y1.heap.size, 0, none⟩ 1 1 [.int .i64 a, .int .i64 v, .int .i64 p, .int .i64 20] rfl rfl ?p1 ?p2 ?p3 ?p4 ?p5 ?_) | go_in)
            case p1 => exact cells4 y1 ⟨a, v, p, 20⟩ _
            case p2 => intro u hu; simp at hu; rcases hu with rfl | rfl | rfl | rfl <;> rfl
            case p3 => have := hMl.out; unfold maxLen; omega
            case p4 => have := hMl.out; omega
            case p5 => have := hS1.2.2; simp; omega
            intro vA wA hownA hgrowA _ _
            have ownA : HOwn wA (w.heap.size + 1) vA (M ++ [⟨a, v, p, 20⟩]) := by unfold HOwn; rw [hcells_app, List.length_append]; exact hownA
            have SA : S1 w w.heap.size ⟨a, v, p, 20⟩ wA := hS1.appD hl1 hgrowA
            clear hownA hgrowA
            obtain ⟨M2, hM2⟩ : ∃ M2, M ++ [(⟨a, v, p, 20⟩ : Hd)] = M2 := ⟨_, rfl⟩
            rw [hM2] at ownA
            have hM2l : Hid (M2.length = M.length + 1) := by rw [← hM2]; simp [Hid]
            have hMl2 : Hid (M2.length ≤ 1002) := by have h1 := hM2l.out; have h2 := hMl.out; unfold Hid; omega
            clear hM2
            clear X1 X2 X3 X4
            obtain ⟨c1, c2, c3, c4⟩ := hc wA SA.2.1
            go_wp2_with (first | (at_builtin; refine wpList_append_own_at _ rfl _ _ 26 rfl (w.heap.size + 1) 97 i1 (.agg #[.int .i64 0, .int .i64 0, .int .i64 0, .int .i64 0]) 4 32 Tryz.underlying26 hj hy0 hy1 hy2 rfl (by decide) _ _ _ rfl (ownA.alloc _) ⟨wA.heap.size, 0, none⟩ 1 1 [.int .i64 h.a, .int .i64 h.v, .int .i64 h.p, .int .i64 h.l] rfl rfl ?r1 ?r2 ?r3 ?r4 ?r5 ?_) | go_in)
            case r1 => exact cells4 wA h _
            case r2 => intro u hu; simp at hu; rcases hu with rfl | rfl | rfl | rfl <;> rfl
            case r3 => have := hMl2.out; unfold maxLen; omega
            case r4 => have := hMl2.out; omega
            case r5 => have := SA.2.2; simp; omega
            intro vB wB hownB hgrowB _ _
            have ownB : HOwn wB (w.heap.size + 1) vB (M2 ++ [h]) := by unfold HOwn; rw [hcells_app, List.length_append]; exact hownB
            have SB : S1 w w.heap.size ⟨a, v, p, 20⟩ wB := SA.appD ownA hgrowB
            clear hownB hgrowB
            clear c1 c2 c3 c4
            go_wp2
            go_roundw
            case rel => exact ⟨k + 1, (M2 ++ [h]), true, by go_num, by omega, rfl, ownB, (by have h1 := hMk.out; have h2 := hM2l.out; unfold Hid; simp at h1 ⊢; omega), SB⟩
            case measure => simp [intOf]; omega
    · obtain rfl : k = L.length := by omega
      have hMl : Hid (M.length ≤ 1001) := hMl
      cases b with
      | true =>
        obtain ⟨adO, capO, rfl, vO, _, mO⟩ := hown_view hl
        go_wp2_with fail
        go_at_call 55
        refine (okS _ _ M wr vO (by have := hMl.out; unfold maxLen; omega) (fun a e _ => (mO a e).2.1)).mono ?_
        rintro e w5 ⟨rfl, k5⟩
        have B5 : Below w.heap.size w w5 := hS.2.1.trans (k5.mono hS.2.1.size)
        have O5 := own_grow hl (below_grown k5 none) (fun j e => by cases e)
        cases hok : tokB M with
        | true =>
          clear hok
          go_wp2
          go_ret
          exact ⟨_, _, rfl, own_base' O5 (by omega), (by have h1 := hMk.out; simp at h1 ⊢; omega), B5⟩
        | false =>
          clear hok
          rcases h0.2 with ⟨e0, h00⟩ | ⟨g, cap', cur, e0, hgb, hgh, hnc, hcm, hcs, htk⟩
          · simp at e0
            obtain ⟨rfl, hl00, rfl⟩ := e0
            have hL0 : L = [] := by simpa using hl00
            subst hL0
            go_wp2_with (first | (at_builtin; refine wpList_append_own_none rfl _ _ 26 rfl w5.heap.size 97 i1 4 Tryz.underlying26 hj _ 0 [] rfl (hown_empty w5) rfl ?_) | go_in)
            go_ret
            exact ⟨_, [], rfl, own_base' (hown_empty w5) B5.size, by simp, B5.alloc B5.size _⟩
          · simp at e0
            obtain ⟨rfl, rfl⟩ := e0
            have hgl : g < w.heap.size := (Array.getElem?_eq_some_iff.1 hgh).1
            have e5 : (w5.alloc (Obj.cells #[] 97)).heap[g]? = w.heap[g]? := ((below_box w5 _).block g (by have := B5.size; omega)).trans (B5.block g hgl)
            have hnw : ∀ j u, (hcells L)[j]? = some u → (w5.alloc (Obj.cells #[] 97)).cell? ((⟨g, 0, none⟩ : Addr).add j) = some u := fun j u hj' => by
              have hjl : j < L.length * 4 := by have := (List.getElem?_eq_some_iff.1 hj').1; rw [hcells_len] at this; exact this
              have := h0.cellAt j hjl
              rw [hj'] at this
              rw [Go.WideShapes.add_plain, Nat.zero_add]
              exact (World.cell?_of_block (a := ⟨g, j, none⟩) e5).trans this
            have hLl := hcells_len L
            have hLh : Hid ((hcells L).length = L.length * 4) := hLl
            clear hLl e5
            go_wp2_with (first | (at_builtin; refine wpList_append_own_at _ rfl _ _ 26 rfl w5.heap.size 97 i1 (.agg #[.int .i64 0, .int .i64 0, .int .i64 0, .int .i64 0]) 4 32 Tryz.underlying26 hj hy0 hy1 hy2 rfl (by decide) _ _ _ rfl (hown_empty w5) ⟨g, 0, none⟩ L.length cap (hcells L) rfl ?z0 ?z1 ?z2 ?z3 ?z4 ?z5 ?_) | go_in)
            case z0 => exact hLh.out
            case z1 => exact hnw
            case z2 => exact hcells_oneD L
            case z3 => simp; unfold maxLen; omega
            case z4 => simp; omega
            case z5 => simp
            intro vZ wZ hownZ hgrowZ _ _
            have ownZ : HOwn wZ w5.heap.size vZ L := by simpa [HOwn, hcells] using hownZ
            have BZ : Below w.heap.size w wZ := (B5.alloc B5.size _).grown hgrowZ (by have := B5.size; simp; omega) (fun j e => by have := own_ge (hown_empty w5) j e; have := B5.size; omega)
            clear hownZ hgrowZ hnw
            go_wp2
            go_ret
            exact ⟨_, L, rfl, own_base' ownZ B5.size, by omega, BZ⟩
      | false =>
        obtain ⟨X1, X2, X3, X4⟩ := hS.1
        simp only [Nat.zero_add] at X1 X2 X3 X4
        go_wp2_with (first | (at_builtin; refine wpList_append_own_at _ rfl _ _ 26 rfl (w.heap.size + 1) 97 i1 (.agg #[.int .i64 0, .int .i64 0, .int .i64 0, .int .i64 0]) 4 32 Tryz.underlying26 hj hy0 hy1 hy2 rfl (by decide) _ _ _ rfl (hl.alloc _) ⟨wr.heap.size, 0, none⟩ 1 1 [.int .i64 a, .int .i64 v, .int .i64 p, .int .i64 20] rfl rfl ?p1 ?p2 ?p3 ?p4 ?p5 ?_) | go_in)
        case p1 => exact cells4 wr ⟨a, v, p, 20⟩ _
        case p2 => intro u hu; simp at hu; rcases hu with rfl | rfl | rfl | rfl <;> rfl
        case p3 => have := hMl.out; unfold maxLen; omega
        case p4 => have := hMl.out; omega
        case p5 => have := hS.2.2; simp; omega
        intro vA wA hownA hgrowA _ _
        have ownA : HOwn wA (w.heap.size + 1) vA (M ++ [⟨a, v, p, 20⟩]) := by unfold HOwn; rw [hcells_app, List.length_append]; exact hownA
        have SA : S1 w w.heap.size ⟨a, v, p, 20⟩ wA := hS.appD hl hgrowA
        clear hownA hgrowA
        clear X1 X2 X3 X4
        obtain ⟨M2, hM2⟩ : ∃ M2, M ++ [(⟨a, v, p, 20⟩ : Hd)] = M2 := ⟨_, rfl⟩
        rw [hM2] at ownA
        have hM2l : Hid (M2.length = M.length + 1) := by rw [← hM2]; simp [Hid]
        have hMl2 : Hid (M2.length ≤ 1002) := by have h1 := hM2l.out; have h2 := hMl.out; unfold Hid; omega
        clear hM2
        obtain ⟨adO, capO, rfl, vO, _, mO⟩ := hown_view ownA
        go_wp2_with fail
        go_at_call 55
        refine (okS _ _ M2 wA vO (by have := hMl2.out; unfold maxLen; omega) (fun a e _ => (mO a e).2.1)).mono ?_
        rintro e w5 ⟨rfl, k5⟩
        have B5 : Below w.heap.size w w5 := SA.2.1.trans (k5.mono SA.2.1.size)
        have O5 := own_grow ownA (below_grown k5 none) (fun j e => by cases e)
        cases hok : tokB M2 with
        | true =>
          clear hok
          go_wp2
          go_ret
          exact ⟨_, _, rfl, own_base' O5 (by omega), (by have h2 := hM2l.out; have h1 := hMk.out; simp at h1 ⊢; omega), B5⟩
        | false =>
          clear hok
          rcases h0.2 with ⟨e0, h00⟩ | ⟨g, cap', cur, e0, hgb, hgh, hnc, hcm, hcs, htk⟩
          · simp at e0
            obtain ⟨rfl, hl00, rfl⟩ := e0
            have hL0 : L = [] := by simpa using hl00
            subst hL0
            go_wp2_with (first | (at_builtin; refine wpList_append_own_none rfl _ _ 26 rfl w5.heap.size 97 i1 4 Tryz.underlying26 hj _ 0 [] rfl (hown_empty w5) rfl ?_) | go_in)
            go_ret
            exact ⟨_, [], rfl, own_base' (hown_empty w5) B5.size, by simp, B5.alloc B5.size _⟩
          · simp at e0
            obtain ⟨rfl, rfl⟩ := e0
            have hgl : g < w.heap.size := (Array.getElem?_eq_some_iff.1 hgh).1
            have e5 : (w5.alloc (Obj.cells #[] 97)).heap[g]? = w.heap[g]? := ((below_box w5 _).block g (by have := B5.size; omega)).trans (B5.block g hgl)
            have hnw : ∀ j u, (hcells L)[j]? = some u → (w5.alloc (Obj.cells #[] 97)).cell? ((⟨g, 0, none⟩ : Addr).add j) = some u := fun j u hj' => by
              have hjl : j < L.length * 4 := by have := (List.getElem?_eq_some_iff.1 hj').1; rw [hcells_len] at this; exact this
              have := h0.cellAt j hjl
              rw [hj'] at this
              rw [Go.WideShapes.add_plain, Nat.zero_add]
              exact (World.cell?_of_block (a := ⟨g, j, none⟩) e5).trans this
            have hLl := hcells_len L
            have hLh : Hid ((hcells L).length = L.length * 4) := hLl
            clear hLl e5
            go_wp2_with (first | (at_builtin; refine wpList_append_own_at _ rfl _ _ 26 rfl w5.heap.size 97 i1 (.agg #[.int .i64 0, .int .i64 0, .int .i64 0, .int .i64 0]) 4 32 Tryz.underlying26 hj hy0 hy1 hy2 rfl (by decide) _ _ _ rfl (hown_empty w5) ⟨g, 0, none⟩ L.length cap (hcells L) rfl ?z0 ?z1 ?z2 ?z3 ?z4 ?z5 ?_) | go_in)
            case z0 => exact hLh.out
            case z1 => exact hnw
            case z2 => exact hcells_oneD L
            case z3 => simp; unfold maxLen; omega
            case z4 => simp; omega
            case z5 => simp
            intro vZ wZ hownZ hgrowZ _ _
            have ownZ : HOwn wZ w5.heap.size vZ L := by simpa [HOwn, hcells] using hownZ
            have BZ : Below w.heap.size w wZ := (B5.alloc B5.size _).grown hgrowZ (by have := B5.size; simp; omega) (fun j e => by have := own_ge (hown_empty w5) j e; have := B5.size; omega)
            clear hownZ hgrowZ hnw
            go_wp2
            go_ret
            exact ⟨_, L, rfl, own_base' ownZ B5.size, by omega, BZ⟩

end Go.Proofs.YtifndemkkaelaaaGreat
