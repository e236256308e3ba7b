/- laws.sameBridge, walked. -/
import Derived.Test.YtbffdkjgadhdoaaRows
import Derived.WalkKit
import Derived.ProofKit
import Derived.OpenShut
import Derived.ShutString
import Derived.ChangeOld
import Derived.Below
import Derived.Deep.QuietTactic
import Derived.BigQuiet
import Derived.WalkSmall
import Derived.Laws.OwnMore
import Derived.WalkSpells
import Derived.WalkLawsBesides
import Derived.Deep.Cut
import Derived.Test.YtbffdkjgadhdoaaBr1
import Derived.Test.YtbffdkjgadhdoaaTakes
namespace Go.Proofs.Ytbffdkjgadhdoaa
open Go.ChangeShapes Go.WideShapes Go.ChangeAt Go.RowKit
open Go.ChangeMaps (open_string shut_string)
set_option linter.unusedVariables false
set_option maxRecDepth 100000

set_option maxHeartbeats 4000000 in
theorem brSame (id : Int) (ad ad' : Option Addr) (cap cap' : Nat) (L : List Pt) (w : World) (hv : FView ptEnc w ad L) (hv' : FView ptEnc w ad' L) (hl : L.length ≤ 1048576) :
    Calls Try.prog 19 #[.agg #[.int .i64 id, .slice ad L.length cap], .agg #[.int .i64 id, .slice ad' L.length cap']] w fun e w' => e = .returned (.bool true) ∧ Below w.heap.size w w' := by
  have hB := hv.lt ptEnc_len (by omega)
  have hB' := hv'.lt ptEnc_len (by omega)
  obtain ⟨y, hy⟩ : ∃ y, y = (w.alloc (Obj.cells #[.int .i64 id, .slice ad L.length cap] 26)).alloc (Obj.cells #[.int .i64 id, .slice ad' L.length cap'] 26) := ⟨_, rfl⟩
  have B0 : Below w.heap.size w y := by rw [hy]; exact ((Below.refl _ _).alloc (Nat.le_refl _) _).alloc (by simp) _
  have A0 : BrAt y w.heap.size id (.slice ad L.length cap) := by rw [hy]; constructor <;> simp [go_sem]
  have A1 : BrAt y (w.heap.size + 1) id (.slice ad' L.length cap') := by rw [hy]; constructor <;> simp [go_sem]
  have S0 := A1.lt
  have hv1 := hv.below B0 hB
  have hv1' := hv'.below B0 hB'
  clear hv hv' hB hB'
  go_enter Try.func19, Try.ntmps19
  go_upto_region 3 with fail
  rw [← hy]
  clear hy
  go_wp2
  go_loopw [5] (fun i wr => ∃ k : Nat, k ≤ L.length ∧ i = .int .i64 (k : Int) ∧ Below y.heap.size y wr) (fun i _ => L.length - (intOf i).toNat)
  case atStart => exact ⟨0, Nat.zero_le _, rfl, Below.refl _ _⟩
  case round =>
    obtain ⟨k, hk, rfl, K⟩ := hrel
    have A2 := A0.below K (by omega)
    have A3 := A1.below K S0
    have cc_ := A2
    obtain ⟨a0, a1⟩ := cc_
    by_cases hlt : k < L.length
    · have hv2 := hv1.below K (hv1.lt ptEnc_len (by omega))
      have hv2' := hv1'.below K (hv1'.lt ptEnc_len (by omega))
      obtain ⟨b, off, rfl, _⟩ := hv2 (by omega)
      obtain ⟨b', off', rfl, _⟩ := hv2' (by omega)
      obtain ⟨h, hh⟩ : ∃ h, L.getD k Pt.nil = h := ⟨_, rfl⟩
      have hc : ∀ Y, Below wr.heap.size wr Y → PtAtO Y b (off + k * 11) h := fun Y hY => by rw [← hh]; exact ptAtO_of ((hv2.below hY (hv2.lt ptEnc_len (by omega))).at_ ptEnc_len Pt.nil hlt)
      have hc' : ∀ Y, Below wr.heap.size wr Y → PtAtO Y b' (off' + k * 11) h := fun Y hY => by rw [← hh]; exact ptAtO_of ((hv2'.below hY (hv2'.lt ptEnc_len (by omega))).at_ ptEnc_len Pt.nil hlt)
      clear hh
      go_upto_region 6 with fail
      clear a0 a1 hv2 hv2'
      refine wp_region_held (S := fun Y => Below wr.heap.size wr Y) (by kernel_rfl) ?_
      change wpAnyH _ _ _ _ _ _ _ _ (World.drew _)
      have hb0 : Below wr.heap.size wr wr.drew := (Below.refl _ _).drew
      obtain ⟨u0, hy0⟩ : ∃ y_, y_ = wr.drew := ⟨_, rfl⟩
      rw [← hy0] at hb0 ⊢
      clear hy0
      refine takeW 0 27 (.pointer (some ⟨w.heap.size, 1, none⟩)) rfl rfl (by kernel_rfl) (by kernel_rfl) (by kernel_rfl) (fun _ _ _ h => h) (by kernel_rfl) (by (intro w hSw; go_simp)) (by assumption) ?_
      simp only [List.set_cons_zero, List.set_cons_succ]
      refine takeW 1 28 (.slice (some ⟨b, off, none⟩) L.length cap) rfl rfl (by kernel_rfl) (by kernel_rfl) (by kernel_rfl) (fun _ _ _ h => h) (by kernel_rfl) (by (intro Y hSw; obtain ⟨X0, X1⟩ := A2.below hSw A2.lt; go_simp)) (by assumption) ?_
      simp only [List.set_cons_zero, List.set_cons_succ]
      refine takeW 2 29 (.int .i64 (k : Int)) rfl rfl (by kernel_rfl) (by kernel_rfl) (by kernel_rfl) (fun _ _ _ h => h) (by kernel_rfl) (by (intro w hSw; go_simp)) (by assumption) ?_
      simp only [List.set_cons_zero, List.set_cons_succ]
      refine takeW 3 30 (.pointer (some ⟨b, off + k * 11, none⟩)) rfl rfl (by kernel_rfl) (by kernel_rfl) (by kernel_rfl) (fun _ _ _ h => h) (by kernel_rfl) (by (intro Y hSw; go_simp; try omega)) (by assumption) ?_
      simp only [List.set_cons_zero, List.set_cons_succ]
      refine takeW 4 31 (.agg #[.bool h.up, .bool h.has, .int .i64 h.r, .int .i64 h.c, .int .i64 h.b, .int .i64 h.p, .int .i64 h.h, .int .i64 h.l, .int .i64 h.ro, .int .i64 h.wa, .bool h.op]) rfl rfl (by kernel_rfl) (by kernel_rfl) (by kernel_rfl) (fun _ _ _ h => h) (by kernel_rfl) (by (intro Y hSw; obtain ⟨X0, X1, X2, X3, X4, X5, X6, X7, X8, X9, X10⟩ := hc Y hSw; go_simp)) (by assumption) ?_
      simp only [List.set_cons_zero, List.set_cons_succ]
      refine takeW 5 32 (.pointer (some ⟨w.heap.size + 1, 1, none⟩)) rfl rfl (by kernel_rfl) (by kernel_rfl) (by kernel_rfl) (fun _ _ _ h => h) (by kernel_rfl) (by (intro w hSw; go_simp)) (by assumption) ?_
      simp only [List.set_cons_zero, List.set_cons_succ]
      refine takeW 6 33 (.slice (some ⟨b', off', none⟩) L.length cap') rfl rfl (by kernel_rfl) (by kernel_rfl) (by kernel_rfl) (fun _ _ _ h => h) (by kernel_rfl) (by (intro Y hSw; obtain ⟨X0, X1⟩ := A3.below hSw A3.lt; go_simp)) (by assumption) ?_
      simp only [List.set_cons_zero, List.set_cons_succ]
      refine takeW 7 34 (.int .i64 (k : Int)) rfl rfl (by kernel_rfl) (by kernel_rfl) (by kernel_rfl) (fun _ _ _ h => h) (by kernel_rfl) (by (intro w hSw; go_simp)) (by assumption) ?_
      simp only [List.set_cons_zero, List.set_cons_succ]
      refine takeW 8 35 (.pointer (some ⟨b', off' + k * 11, none⟩)) rfl rfl (by kernel_rfl) (by kernel_rfl) (by kernel_rfl) (fun _ _ _ h => h) (by kernel_rfl) (by (intro Y hSw; go_simp; try omega)) (by assumption) ?_
      simp only [List.set_cons_zero, List.set_cons_succ]
      refine takeW 9 36 (.agg #[.bool h.up, .bool h.has, .int .i64 h.r, .int .i64 h.c, .int .i64 h.b, .int .i64 h.p, .int .i64 h.h, .int .i64 h.l, .int .i64 h.ro, .int .i64 h.wa, .bool h.op]) rfl rfl (by kernel_rfl) (by kernel_rfl) (by kernel_rfl) (fun _ _ _ h => h) (by kernel_rfl) (by (intro Y hSw; obtain ⟨X0, X1, X2, X3, X4, X5, X6, X7, X8, X9, X10⟩ := hc' Y hSw; go_simp)) (by assumption) ?_
      simp only [List.set_cons_zero, List.set_cons_succ]
      refine takeW 10 37 (.bool false) rfl rfl (by kernel_rfl) (by kernel_rfl) (by kernel_rfl) (fun _ _ _ h => h) (by kernel_rfl) (by (intro Y hSw; go_simp)) (by assumption) ?_
      simp only [List.set_cons_zero, List.set_cons_succ]
      refine wpAnyH_done (by kernel_rfl) ?_ _
      go_wp2
      go_roundw
      case rel => exact ⟨k + 1, by omega, by go_num, K.trans (hb0.mono K.size)⟩
      case measure => simp [intOf]; omega
    · obtain rfl : k = L.length := by omega
      have BZ := B0.trans (K.mono B0.size)
      go_wp2
      go_ret
      exact ⟨rfl, BZ⟩

end Go.Proofs.Ytbffdkjgadhdoaa
