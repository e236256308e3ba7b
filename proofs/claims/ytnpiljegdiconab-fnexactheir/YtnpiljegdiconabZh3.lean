/- (*minding).fits, walked. (*minding).fall, walked. impl.isFallen, impl.MinderOk, walked. impl.isNoMinder, isNoIn, loadFits, isNoWire, walked. slices.ContainsFunc of minders, wires and Ins, walked. impl.RegOk, walked. impl.BoxOk, walked. A region by its states; rows of different things. impl.judge. impl.Heir. -/
import Derived.Test.YtnpiljegdiconabZh2
import Derived.Test.YtnpiljegdiconabRows
import Derived.WalkKit
import Derived.ProofKit
import Derived.OpenShut
import Derived.ShutString
import Derived.ChangeOld
import Derived.Below
import Derived.Deep.QuietTactic
import Derived.BigQuiet
import Derived.WalkSmall
import Derived.Laws.OwnMore
import Derived.WalkSpells
import Derived.WalkLawsBesides
import Derived.Deep.Cut
import Derived.Test.YtnpiljegdiconabZh1
import Derived.Test.YtnpiljegdiconabTakes
import Derived.Lib.SliceRun
import Derived.Test.YtnpiljegdiconabMi1
import Derived.Test.YtnpiljegdiconabIs1
import Derived.Laws.StructEq
import Derived.Test.YtnpiljegdiconabIn2
import Derived.Test.YtnpiljegdiconabBxd1
import Derived.Test.YtnpiljegdiconabBr9
import Derived.Deep.RegionHeld
import Derived.Test.YtnpiljegdiconabFlatApp
import Derived.Defers
import Derived.Recover
import Derived.Shelf.Abstract
namespace Go.Proofs.Ytnpiljegdiconab
open Go.ChangeShapes Go.WideShapes Go.ChangeAt Go.RowKit
open Go.ChangeMaps (open_string shut_string)
set_option linter.unusedVariables false
set_option maxRecDepth 100000

/-- What fits asks. -/
def fitsM (m : Mi) : Bool :=
  numB m.li && (numB m.ep && (numB m.al && (decide ((m.lg.length : Int) ≤ 60) && (m.lg.all inOk && (decide (0 ≤ m.sd ∧ m.sd ≤ (m.lg.length : Int)) && decide (0 ≤ m.ac ∧ m.ac ≤ (m.lg.length : Int)))))))
set_option maxHeartbeats 4000000 in
theorem fitsI (m : Mi) (q : Nat) (ad : Option Addr) (cap : Nat) (w : World) (M : MgBox w q m (.slice ad m.lg.length cap)) (hv : FView ikEnc w ad m.lg) (hl : m.lg.length ≤ 1048577) :
    Calls Try.prog 72 #[.pointer (some ⟨q, 0, none⟩)] w fun e w' => e = .returned (.bool (fitsM m)) ∧ Below w.heap.size w w' := by
  obtain ⟨R, hR⟩ : ∃ R, R = fitsM m := ⟨_, rfl⟩
  rw [← hR]
  replace hR : Hid _ := hR
  go_enter Try.func72, Try.ntmps72
  go_upto_region 1 with fail
  refine wp_region_held (S := fun Y => Below w.heap.size w Y) (by kernel_rfl) ?_
  change wpAnyH _ _ _ _ _ _ _ _ (World.drew _)
  have hb0 : Below w.heap.size w w.drew := (Below.refl _ _).drew
  obtain ⟨u0, hy0⟩ : ∃ y_, y_ = w.drew := ⟨_, rfl⟩
  rw [← hy0] at hb0 ⊢
  clear hy0
  refine takeW 0 3 (.pointer (some ⟨q, 0, none⟩)) rfl rfl (by kernel_rfl) (by kernel_rfl) (by kernel_rfl) (fun _ _ _ h => h) (by kernel_rfl) (by (intro w hSw; go_simp)) (by assumption) ?_
  simp only [List.set_cons_zero, List.set_cons_succ]
  refine takeW 1 4 (.pointer (some ⟨q, 0, none⟩)) rfl rfl (by kernel_rfl) (by kernel_rfl) (by kernel_rfl) (fun _ _ _ h => h) (by kernel_rfl) (by (intro w hSw; go_simp)) (by assumption) ?_
  simp only [List.set_cons_zero, List.set_cons_succ]
  refine takeW 2 5 (.pointer (some ⟨q, 1, none⟩)) rfl rfl (by kernel_rfl) (by kernel_rfl) (by kernel_rfl) (fun _ _ _ h => h) (by kernel_rfl) (by (intro w hSw; go_simp)) (by assumption) ?_
  simp only [List.set_cons_zero, List.set_cons_succ]
  refine takeW 3 6 (.pointer (some ⟨q, 2, none⟩)) rfl rfl (by kernel_rfl) (by kernel_rfl) (by kernel_rfl) (fun _ _ _ h => h) (by kernel_rfl) (by (intro w hSw; go_simp)) (by assumption) ?_
  simp only [List.set_cons_zero, List.set_cons_succ]
  refine takeW 4 7 (.int .i64 m.li) rfl rfl (by kernel_rfl) (by kernel_rfl) (by kernel_rfl) (fun _ _ _ h => h) (by kernel_rfl) (by (intro Y hSw; obtain ⟨X0, X1, X2, X3, X4, X5, X6, XF⟩ := M.below hSw M.lt; go_simp)) (by assumption) ?_
  simp only [List.set_cons_zero, List.set_cons_succ]
  refine wpAnyH_all (rs := [5]) (by kernel_rfl) (by simp) ?_
  intro i hi; obtain rfl : i = 5 := by simpa using hi
  refine wpOp_step rfl (fun Kz hKz => ?_)
  rw [if_pos (by kernel_rfl)]
  go_simp
  go_at_call 62
  refine (numFitsI m.li u0).mono ?_
  rintro e u1 ⟨rfl, kq⟩
  replace kq : Below u0.heap.size u0 u1 := by rw [kq]; exact Below.refl _ _
  have hb1 : Below w.heap.size w u1 := hb0.trans (kq.mono hb0.size)
  clear kq
  refine hKz _ _ ⟨hb1, ?_⟩
  clear hKz Kz hi
  cases h_li : (numB m.li)
  · replace h_li : Hid _ := h_li
    refine takeW 6 9 (.bool false) rfl rfl (by kernel_rfl) (by kernel_rfl) (by kernel_rfl) (fun _ _ _ h => h) (by kernel_rfl) (by (intro w hSw; go_simp)) (by assumption) ?_
    simp only [List.set_cons_zero, List.set_cons_succ]
    refine takeS 7 10 rfl rfl (by kernel_rfl) (by kernel_rfl) (by kernel_rfl) (fun _ _ _ h => h) (by kernel_rfl) (by assumption) ?_
    simp only [List.set_cons_zero, List.set_cons_succ]
    refine takeS 8 11 rfl rfl (by kernel_rfl) (by kernel_rfl) (by kernel_rfl) (fun _ _ _ h => h) (by kernel_rfl) (by assumption) ?_
    simp only [List.set_cons_zero, List.set_cons_succ]
    refine takeS 9 12 rfl rfl (by kernel_rfl) (by kernel_rfl) (by kernel_rfl) (fun _ _ _ h => h) (by kernel_rfl) (by assumption) ?_
    simp only [List.set_cons_zero, List.set_cons_succ]
    refine takeS 10 13 rfl rfl (by kernel_rfl) (by kernel_rfl) (by kernel_rfl) (fun _ _ _ h => h) (by kernel_rfl) (by assumption) ?_
    simp only [List.set_cons_zero, List.set_cons_succ]
    refine takeS 11 14 rfl rfl (by kernel_rfl) (by kernel_rfl) (by kernel_rfl) (fun _ _ _ h => h) (by kernel_rfl) (by assumption) ?_
    simp only [List.set_cons_zero, List.set_cons_succ]
    refine takeS 12 15 rfl rfl (by kernel_rfl) (by kernel_rfl) (by kernel_rfl) (fun _ _ _ h => h) (by kernel_rfl) (by assumption) ?_
    simp only [List.set_cons_zero, List.set_cons_succ]
    refine takeW 13 16 (.bool false) rfl rfl (by kernel_rfl) (by kernel_rfl) (by kernel_rfl) (fun _ _ _ h => h) (by kernel_rfl) (by (intro w hSw; go_simp)) (by assumption) ?_
    simp only [List.set_cons_zero, List.set_cons_succ]
    refine takeW 14 17 (.bool false) rfl rfl (by kernel_rfl) (by kernel_rfl) (by kernel_rfl) (fun _ _ _ h => h) (by kernel_rfl) (by (intro w hSw; go_simp)) (by assumption) ?_
    simp only [List.set_cons_zero, List.set_cons_succ]
    refine takeS 15 18 rfl rfl (by kernel_rfl) (by kernel_rfl) (by kernel_rfl) (fun _ _ _ h => h) (by kernel_rfl) (by assumption) ?_
    simp only [List.set_cons_zero, List.set_cons_succ]
    refine takeS 16 19 rfl rfl (by kernel_rfl) (by kernel_rfl) (by kernel_rfl) (fun _ _ _ h => h) (by kernel_rfl) (by assumption) ?_
    simp only [List.set_cons_zero, List.set_cons_succ]
    refine takeS 17 20 rfl rfl (by kernel_rfl) (by kernel_rfl) (by kernel_rfl) (fun _ _ _ h => h) (by kernel_rfl) (by assumption) ?_
    simp only [List.set_cons_zero, List.set_cons_succ]
    refine takeS 18 21 rfl rfl (by kernel_rfl) (by kernel_rfl) (by kernel_rfl) (fun _ _ _ h => h) (by kernel_rfl) (by assumption) ?_
    simp only [List.set_cons_zero, List.set_cons_succ]
    refine takeS 19 22 rfl rfl (by kernel_rfl) (by kernel_rfl) (by kernel_rfl) (fun _ _ _ h => h) (by kernel_rfl) (by assumption) ?_
    simp only [List.set_cons_zero, List.set_cons_succ]
    refine takeS 20 23 rfl rfl (by kernel_rfl) (by kernel_rfl) (by kernel_rfl) (fun _ _ _ h => h) (by kernel_rfl) (by assumption) ?_
    simp only [List.set_cons_zero, List.set_cons_succ]
    refine takeW 21 24 (.bool false) rfl rfl (by kernel_rfl) (by kernel_rfl) (by kernel_rfl) (fun _ _ _ h => h) (by kernel_rfl) (by (intro w hSw; go_simp)) (by assumption) ?_
    simp only [List.set_cons_zero, List.set_cons_succ]
    refine takeW 22 25 (.bool false) rfl rfl (by kernel_rfl) (by kernel_rfl) (by kernel_rfl) (fun _ _ _ h => h) (by kernel_rfl) (by (intro w hSw; go_simp)) (by assumption) ?_
    simp only [List.set_cons_zero, List.set_cons_succ]
    refine takeS 23 26 rfl rfl (by kernel_rfl) (by kernel_rfl) (by kernel_rfl) (fun _ _ _ h => h) (by kernel_rfl) (by assumption) ?_
    simp only [List.set_cons_zero, List.set_cons_succ]
    refine takeS 24 27 rfl rfl (by kernel_rfl) (by kernel_rfl) (by kernel_rfl) (fun _ _ _ h => h) (by kernel_rfl) (by assumption) ?_
    simp only [List.set_cons_zero, List.set_cons_succ]
    refine takeS 25 28 rfl rfl (by kernel_rfl) (by kernel_rfl) (by kernel_rfl) (fun _ _ _ h => h) (by kernel_rfl) (by assumption) ?_
    simp only [List.set_cons_zero, List.set_cons_succ]
    refine takeS 26 29 rfl rfl (by kernel_rfl) (by kernel_rfl) (by kernel_rfl) (fun _ _ _ h => h) (by kernel_rfl) (by assumption) ?_
    simp only [List.set_cons_zero, List.set_cons_succ]
    refine takeS 27 30 rfl rfl (by kernel_rfl) (by kernel_rfl) (by kernel_rfl) (fun _ _ _ h => h) (by kernel_rfl) (by assumption) ?_
    simp only [List.set_cons_zero, List.set_cons_succ]
    refine takeW 28 31 (.bool false) rfl rfl (by kernel_rfl) (by kernel_rfl) (by kernel_rfl) (fun _ _ _ h => h) (by kernel_rfl) (by (intro w hSw; go_simp)) (by assumption) ?_
    simp only [List.set_cons_zero, List.set_cons_succ]
    refine takeW 29 32 (.bool false) rfl rfl (by kernel_rfl) (by kernel_rfl) (by kernel_rfl) (fun _ _ _ h => h) (by kernel_rfl) (by (intro w hSw; go_simp)) (by assumption) ?_
    simp only [List.set_cons_zero, List.set_cons_succ]
    refine takeS 30 33 rfl rfl (by kernel_rfl) (by kernel_rfl) (by kernel_rfl) (fun _ _ _ h => h) (by kernel_rfl) (by assumption) ?_
    simp only [List.set_cons_zero, List.set_cons_succ]
    refine takeS 31 34 rfl rfl (by kernel_rfl) (by kernel_rfl) (by kernel_rfl) (fun _ _ _ h => h) (by kernel_rfl) (by assumption) ?_
    simp only [List.set_cons_zero, List.set_cons_succ]
    refine takeS 32 35 rfl rfl (by kernel_rfl) (by kernel_rfl) (by kernel_rfl) (fun _ _ _ h => h) (by kernel_rfl) (by assumption) ?_
    simp only [List.set_cons_zero, List.set_cons_succ]
    refine takeS 33 36 rfl rfl (by kernel_rfl) (by kernel_rfl) (by kernel_rfl) (fun _ _ _ h => h) (by kernel_rfl) (by assumption) ?_
    simp only [List.set_cons_zero, List.set_cons_succ]
    refine takeW 34 37 (.bool false) rfl rfl (by kernel_rfl) (by kernel_rfl) (by kernel_rfl) (fun _ _ _ h => h) (by kernel_rfl) (by (intro w hSw; go_simp)) (by assumption) ?_
    simp only [List.set_cons_zero, List.set_cons_succ]
    refine takeW 35 38 (.bool false) rfl rfl (by kernel_rfl) (by kernel_rfl) (by kernel_rfl) (fun _ _ _ h => h) (by kernel_rfl) (by (intro w hSw; go_simp)) (by assumption) ?_
    simp only [List.set_cons_zero, List.set_cons_succ]
    refine takeS 36 39 rfl rfl (by kernel_rfl) (by kernel_rfl) (by kernel_rfl) (fun _ _ _ h => h) (by kernel_rfl) (by assumption) ?_
    simp only [List.set_cons_zero, List.set_cons_succ]
    refine takeS 37 40 rfl rfl (by kernel_rfl) (by kernel_rfl) (by kernel_rfl) (fun _ _ _ h => h) (by kernel_rfl) (by assumption) ?_
    simp only [List.set_cons_zero, List.set_cons_succ]
    refine takeS 38 41 rfl rfl (by kernel_rfl) (by kernel_rfl) (by kernel_rfl) (fun _ _ _ h => h) (by kernel_rfl) (by assumption) ?_
    simp only [List.set_cons_zero, List.set_cons_succ]
    refine takeS 39 42 rfl rfl (by kernel_rfl) (by kernel_rfl) (by kernel_rfl) (fun _ _ _ h => h) (by kernel_rfl) (by assumption) ?_
    simp only [List.set_cons_zero, List.set_cons_succ]
    refine takeS 40 43 rfl rfl (by kernel_rfl) (by kernel_rfl) (by kernel_rfl) (fun _ _ _ h => h) (by kernel_rfl) (by assumption) ?_
    simp only [List.set_cons_zero, List.set_cons_succ]
    refine takeS 41 44 rfl rfl (by kernel_rfl) (by kernel_rfl) (by kernel_rfl) (fun _ _ _ h => h) (by kernel_rfl) (by assumption) ?_
    simp only [List.set_cons_zero, List.set_cons_succ]
    refine takeS 42 45 rfl rfl (by kernel_rfl) (by kernel_rfl) (by kernel_rfl) (fun _ _ _ h => h) (by kernel_rfl) (by assumption) ?_
    simp only [List.set_cons_zero, List.set_cons_succ]
    refine takeS 43 46 rfl rfl (by kernel_rfl) (by kernel_rfl) (by kernel_rfl) (fun _ _ _ h => h) (by kernel_rfl) (by assumption) ?_
    simp only [List.set_cons_zero, List.set_cons_succ]
    refine takeS 44 47 rfl rfl (by kernel_rfl) (by kernel_rfl) (by kernel_rfl) (fun _ _ _ h => h) (by kernel_rfl) (by assumption) ?_
    simp only [List.set_cons_zero, List.set_cons_succ]
    refine takeW 45 48 (.bool false) rfl rfl (by kernel_rfl) (by kernel_rfl) (by kernel_rfl) (fun _ _ _ h => h) (by kernel_rfl) (by (intro w hSw; go_simp)) (by assumption) ?_
    simp only [List.set_cons_zero, List.set_cons_succ]
    refine takeW 46 49 (.bool false) rfl rfl (by kernel_rfl) (by kernel_rfl) (by kernel_rfl) (fun _ _ _ h => h) (by kernel_rfl) (by (intro w hSw; go_simp)) (by assumption) ?_
    simp only [List.set_cons_zero, List.set_cons_succ]
    refine takeS 47 50 rfl rfl (by kernel_rfl) (by kernel_rfl) (by kernel_rfl) (fun _ _ _ h => h) (by kernel_rfl) (by assumption) ?_
    simp only [List.set_cons_zero, List.set_cons_succ]
    refine takeS 48 51 rfl rfl (by kernel_rfl) (by kernel_rfl) (by kernel_rfl) (fun _ _ _ h => h) (by kernel_rfl) (by assumption) ?_
    simp only [List.set_cons_zero, List.set_cons_succ]
    refine takeS 49 52 rfl rfl (by kernel_rfl) (by kernel_rfl) (by kernel_rfl) (fun _ _ _ h => h) (by kernel_rfl) (by assumption) ?_
    simp only [List.set_cons_zero, List.set_cons_succ]
    refine takeS 50 53 rfl rfl (by kernel_rfl) (by kernel_rfl) (by kernel_rfl) (fun _ _ _ h => h) (by kernel_rfl) (by assumption) ?_
    simp only [List.set_cons_zero, List.set_cons_succ]
    refine takeS 51 54 rfl rfl (by kernel_rfl) (by kernel_rfl) (by kernel_rfl) (fun _ _ _ h => h) (by kernel_rfl) (by assumption) ?_
    simp only [List.set_cons_zero, List.set_cons_succ]
    refine takeS 52 55 rfl rfl (by kernel_rfl) (by kernel_rfl) (by kernel_rfl) (fun _ _ _ h => h) (by kernel_rfl) (by assumption) ?_
    simp only [List.set_cons_zero, List.set_cons_succ]
    refine takeS 53 56 rfl rfl (by kernel_rfl) (by kernel_rfl) (by kernel_rfl) (fun _ _ _ h => h) (by kernel_rfl) (by assumption) ?_
    simp only [List.set_cons_zero, List.set_cons_succ]
    refine takeS 54 57 rfl rfl (by kernel_rfl) (by kernel_rfl) (by kernel_rfl) (fun _ _ _ h => h) (by kernel_rfl) (by assumption) ?_
    simp only [List.set_cons_zero, List.set_cons_succ]
    refine takeS 55 58 rfl rfl (by kernel_rfl) (by kernel_rfl) (by kernel_rfl) (fun _ _ _ h => h) (by kernel_rfl) (by assumption) ?_
    simp only [List.set_cons_zero, List.set_cons_succ]
    refine takeW 56 59 (.bool false) rfl rfl (by kernel_rfl) (by kernel_rfl) (by kernel_rfl) (fun _ _ _ h => h) (by kernel_rfl) (by (intro w hSw; go_simp)) (by assumption) ?_
    simp only [List.set_cons_zero, List.set_cons_succ]
    refine takeW 57 2 (.bool false) rfl rfl (by kernel_rfl) (by kernel_rfl) (by kernel_rfl) (fun _ _ _ h => h) (by kernel_rfl) (by (intro w hSw; go_simp)) (by assumption) ?_
    simp only [List.set_cons_zero, List.set_cons_succ]
    refine wpAnyH_done (by kernel_rfl) ?_ _
    have hN : Hid (R = false) := by unfold Hid; rw [hR.out]; unfold fitsM; rw [h_li.out]; rfl
    go_wp2
    go_ret
    exact ⟨by rw [hN.out]; rfl, hb1⟩
  · replace h_li : Hid _ := h_li
    refine takeW 6 9 (.bool true) rfl rfl (by kernel_rfl) (by kernel_rfl) (by kernel_rfl) (fun _ _ _ h => h) (by kernel_rfl) (by (intro w hSw; go_simp)) (by assumption) ?_
    simp only [List.set_cons_zero, List.set_cons_succ]
    refine takeW 7 10 (.pointer (some ⟨q, 0, none⟩)) rfl rfl (by kernel_rfl) (by kernel_rfl) (by kernel_rfl) (fun _ _ _ h => h) (by kernel_rfl) (by (intro w hSw; go_simp)) (by assumption) ?_
    simp only [List.set_cons_zero, List.set_cons_succ]
    refine takeW 8 11 (.pointer (some ⟨q, 0, none⟩)) rfl rfl (by kernel_rfl) (by kernel_rfl) (by kernel_rfl) (fun _ _ _ h => h) (by kernel_rfl) (by (intro w hSw; go_simp)) (by assumption) ?_
    simp only [List.set_cons_zero, List.set_cons_succ]
    refine takeW 9 12 (.pointer (some ⟨q, 1, none⟩)) rfl rfl (by kernel_rfl) (by kernel_rfl) (by kernel_rfl) (fun _ _ _ h => h) (by kernel_rfl) (by (intro w hSw; go_simp)) (by assumption) ?_
    simp only [List.set_cons_zero, List.set_cons_succ]
    refine takeW 10 13 (.pointer (some ⟨q, 3, none⟩)) rfl rfl (by kernel_rfl) (by kernel_rfl) (by kernel_rfl) (fun _ _ _ h => h) (by kernel_rfl) (by (intro w hSw; go_simp)) (by assumption) ?_
    simp only [List.set_cons_zero, List.set_cons_succ]
    refine takeW 11 14 (.int .i64 m.ep) rfl rfl (by kernel_rfl) (by kernel_rfl) (by kernel_rfl) (fun _ _ _ h => h) (by kernel_rfl) (by (intro Y hSw; obtain ⟨X0, X1, X2, X3, X4, X5, X6, XF⟩ := M.below hSw M.lt; go_simp)) (by assumption) ?_
    simp only [List.set_cons_zero, List.set_cons_succ]
    refine wpAnyH_all (rs := [12]) (by kernel_rfl) (by simp) ?_
    intro i hi; obtain rfl : i = 12 := by simpa using hi
    refine wpOp_step rfl (fun Kz hKz => ?_)
    rw [if_pos (by kernel_rfl)]
    go_simp
    go_at_call 62
    refine (numFitsI m.ep u1).mono ?_
    rintro e u2 ⟨rfl, kq⟩
    replace kq : Below u1.heap.size u1 u2 := by rw [kq]; exact Below.refl _ _
    have hb2 : Below w.heap.size w u2 := hb1.trans (kq.mono hb1.size)
    clear kq
    refine hKz _ _ ⟨hb2, ?_⟩
    clear hKz Kz hi
    cases h_ep : (numB m.ep)
    · replace h_ep : Hid _ := h_ep
      refine takeW 13 16 (.bool false) rfl rfl (by kernel_rfl) (by kernel_rfl) (by kernel_rfl) (fun _ _ _ h => h) (by kernel_rfl) (by (intro w hSw; go_simp)) (by assumption) ?_
      simp only [List.set_cons_zero, List.set_cons_succ]
      refine takeW 14 17 (.bool false) rfl rfl (by kernel_rfl) (by kernel_rfl) (by kernel_rfl) (fun _ _ _ h => h) (by kernel_rfl) (by (intro w hSw; go_simp)) (by assumption) ?_
      simp only [List.set_cons_zero, List.set_cons_succ]
      refine takeS 15 18 rfl rfl (by kernel_rfl) (by kernel_rfl) (by kernel_rfl) (fun _ _ _ h => h) (by kernel_rfl) (by assumption) ?_
      simp only [List.set_cons_zero, List.set_cons_succ]
      refine takeS 16 19 rfl rfl (by kernel_rfl) (by kernel_rfl) (by kernel_rfl) (fun _ _ _ h => h) (by kernel_rfl) (by assumption) ?_
      simp only [List.set_cons_zero, List.set_cons_succ]
      refine takeS 17 20 rfl rfl (by kernel_rfl) (by kernel_rfl) (by kernel_rfl) (fun _ _ _ h => h) (by kernel_rfl) (by assumption) ?_
      simp only [List.set_cons_zero, List.set_cons_succ]
      refine takeS 18 21 rfl rfl (by kernel_rfl) (by kernel_rfl) (by kernel_rfl) (fun _ _ _ h => h) (by kernel_rfl) (by assumption) ?_
      simp only [List.set_cons_zero, List.set_cons_succ]
      refine takeS 19 22 rfl rfl (by kernel_rfl) (by kernel_rfl) (by kernel_rfl) (fun _ _ _ h => h) (by kernel_rfl) (by assumption) ?_
      simp only [List.set_cons_zero, List.set_cons_succ]
      refine takeS 20 23 rfl rfl (by kernel_rfl) (by kernel_rfl) (by kernel_rfl) (fun _ _ _ h => h) (by kernel_rfl) (by assumption) ?_
      simp only [List.set_cons_zero, List.set_cons_succ]
      refine takeW 21 24 (.bool false) rfl rfl (by kernel_rfl) (by kernel_rfl) (by kernel_rfl) (fun _ _ _ h => h) (by kernel_rfl) (by (intro w hSw; go_simp)) (by assumption) ?_
      simp only [List.set_cons_zero, List.set_cons_succ]
      refine takeW 22 25 (.bool false) rfl rfl (by kernel_rfl) (by kernel_rfl) (by kernel_rfl) (fun _ _ _ h => h) (by kernel_rfl) (by (intro w hSw; go_simp)) (by assumption) ?_
      simp only [List.set_cons_zero, List.set_cons_succ]
      refine takeS 23 26 rfl rfl (by kernel_rfl) (by kernel_rfl) (by kernel_rfl) (fun _ _ _ h => h) (by kernel_rfl) (by assumption) ?_
      simp only [List.set_cons_zero, List.set_cons_succ]
      refine takeS 24 27 rfl rfl (by kernel_rfl) (by kernel_rfl) (by kernel_rfl) (fun _ _ _ h => h) (by kernel_rfl) (by assumption) ?_
      simp only [List.set_cons_zero, List.set_cons_succ]
      refine takeS 25 28 rfl rfl (by kernel_rfl) (by kernel_rfl) (by kernel_rfl) (fun _ _ _ h => h) (by kernel_rfl) (by assumption) ?_
      simp only [List.set_cons_zero, List.set_cons_succ]
      refine takeS 26 29 rfl rfl (by kernel_rfl) (by kernel_rfl) (by kernel_rfl) (fun _ _ _ h => h) (by kernel_rfl) (by assumption) ?_
      simp only [List.set_cons_zero, List.set_cons_succ]
      refine takeS 27 30 rfl rfl (by kernel_rfl) (by kernel_rfl) (by kernel_rfl) (fun _ _ _ h => h) (by kernel_rfl) (by assumption) ?_
      simp only [List.set_cons_zero, List.set_cons_succ]
      refine takeW 28 31 (.bool false) rfl rfl (by kernel_rfl) (by kernel_rfl) (by kernel_rfl) (fun _ _ _ h => h) (by kernel_rfl) (by (intro w hSw; go_simp)) (by assumption) ?_
      simp only [List.set_cons_zero, List.set_cons_succ]
      refine takeW 29 32 (.bool false) rfl rfl (by kernel_rfl) (by kernel_rfl) (by kernel_rfl) (fun _ _ _ h => h) (by kernel_rfl) (by (intro w hSw; go_simp)) (by assumption) ?_
      simp only [List.set_cons_zero, List.set_cons_succ]
      refine takeS 30 33 rfl rfl (by kernel_rfl) (by kernel_rfl) (by kernel_rfl) (fun _ _ _ h => h) (by kernel_rfl) (by assumption) ?_
      simp only [List.set_cons_zero, List.set_cons_succ]
      refine takeS 31 34 rfl rfl (by kernel_rfl) (by kernel_rfl) (by kernel_rfl) (fun _ _ _ h => h) (by kernel_rfl) (by assumption) ?_
      simp only [List.set_cons_zero, List.set_cons_succ]
      refine takeS 32 35 rfl rfl (by kernel_rfl) (by kernel_rfl) (by kernel_rfl) (fun _ _ _ h => h) (by kernel_rfl) (by assumption) ?_
      simp only [List.set_cons_zero, List.set_cons_succ]
      refine takeS 33 36 rfl rfl (by kernel_rfl) (by kernel_rfl) (by kernel_rfl) (fun _ _ _ h => h) (by kernel_rfl) (by assumption) ?_
      simp only [List.set_cons_zero, List.set_cons_succ]
      refine takeW 34 37 (.bool false) rfl rfl (by kernel_rfl) (by kernel_rfl) (by kernel_rfl) (fun _ _ _ h => h) (by kernel_rfl) (by (intro w hSw; go_simp)) (by assumption) ?_
      simp only [List.set_cons_zero, List.set_cons_succ]
      refine takeW 35 38 (.bool false) rfl rfl (by kernel_rfl) (by kernel_rfl) (by kernel_rfl) (fun _ _ _ h => h) (by kernel_rfl) (by (intro w hSw; go_simp)) (by assumption) ?_
      simp only [List.set_cons_zero, List.set_cons_succ]
      refine takeS 36 39 rfl rfl (by kernel_rfl) (by kernel_rfl) (by kernel_rfl) (fun _ _ _ h => h) (by kernel_rfl) (by assumption) ?_
      simp only [List.set_cons_zero, List.set_cons_succ]
      refine takeS 37 40 rfl rfl (by kernel_rfl) (by kernel_rfl) (by kernel_rfl) (fun _ _ _ h => h) (by kernel_rfl) (by assumption) ?_
      simp only [List.set_cons_zero, List.set_cons_succ]
      refine takeS 38 41 rfl rfl (by kernel_rfl) (by kernel_rfl) (by kernel_rfl) (fun _ _ _ h => h) (by kernel_rfl) (by assumption) ?_
      simp only [List.set_cons_zero, List.set_cons_succ]
      refine takeS 39 42 rfl rfl (by kernel_rfl) (by kernel_rfl) (by kernel_rfl) (fun _ _ _ h => h) (by kernel_rfl) (by assumption) ?_
      simp only [List.set_cons_zero, List.set_cons_succ]
      refine takeS 40 43 rfl rfl (by kernel_rfl) (by kernel_rfl) (by kernel_rfl) (fun _ _ _ h => h) (by kernel_rfl) (by assumption) ?_
      simp only [List.set_cons_zero, List.set_cons_succ]
      refine takeS 41 44 rfl rfl (by kernel_rfl) (by kernel_rfl) (by kernel_rfl) (fun _ _ _ h => h) (by kernel_rfl) (by assumption) ?_
      simp only [List.set_cons_zero, List.set_cons_succ]
      refine takeS 42 45 rfl rfl (by kernel_rfl) (by kernel_rfl) (by kernel_rfl) (fun _ _ _ h => h) (by kernel_rfl) (by assumption) ?_
      simp only [List.set_cons_zero, List.set_cons_succ]
      refine takeS 43 46 rfl rfl (by kernel_rfl) (by kernel_rfl) (by kernel_rfl) (fun _ _ _ h => h) (by kernel_rfl) (by assumption) ?_
      simp only [List.set_cons_zero, List.set_cons_succ]
      refine takeS 44 47 rfl rfl (by kernel_rfl) (by kernel_rfl) (by kernel_rfl) (fun _ _ _ h => h) (by kernel_rfl) (by assumption) ?_
      simp only [List.set_cons_zero, List.set_cons_succ]
      refine takeW 45 48 (.bool false) rfl rfl (by kernel_rfl) (by kernel_rfl) (by kernel_rfl) (fun _ _ _ h => h) (by kernel_rfl) (by (intro w hSw; go_simp)) (by assumption) ?_
      simp only [List.set_cons_zero, List.set_cons_succ]
      refine takeW 46 49 (.bool false) rfl rfl (by kernel_rfl) (by kernel_rfl) (by kernel_rfl) (fun _ _ _ h => h) (by kernel_rfl) (by (intro w hSw; go_simp)) (by assumption) ?_
      simp only [List.set_cons_zero, List.set_cons_succ]
      refine takeS 47 50 rfl rfl (by kernel_rfl) (by kernel_rfl) (by kernel_rfl) (fun _ _ _ h => h) (by kernel_rfl) (by assumption) ?_
      simp only [List.set_cons_zero, List.set_cons_succ]
      refine takeS 48 51 rfl rfl (by kernel_rfl) (by kernel_rfl) (by kernel_rfl) (fun _ _ _ h => h) (by kernel_rfl) (by assumption) ?_
      simp only [List.set_cons_zero, List.set_cons_succ]
      refine takeS 49 52 rfl rfl (by kernel_rfl) (by kernel_rfl) (by kernel_rfl) (fun _ _ _ h => h) (by kernel_rfl) (by assumption) ?_
      simp only [List.set_cons_zero, List.set_cons_succ]
      refine takeS 50 53 rfl rfl (by kernel_rfl) (by kernel_rfl) (by kernel_rfl) (fun _ _ _ h => h) (by kernel_rfl) (by assumption) ?_
      simp only [List.set_cons_zero, List.set_cons_succ]
      refine takeS 51 54 rfl rfl (by kernel_rfl) (by kernel_rfl) (by kernel_rfl) (fun _ _ _ h => h) (by kernel_rfl) (by assumption) ?_
      simp only [List.set_cons_zero, List.set_cons_succ]
      refine takeS 52 55 rfl rfl (by kernel_rfl) (by kernel_rfl) (by kernel_rfl) (fun _ _ _ h => h) (by kernel_rfl) (by assumption) ?_
      simp only [List.set_cons_zero, List.set_cons_succ]
      refine takeS 53 56 rfl rfl (by kernel_rfl) (by kernel_rfl) (by kernel_rfl) (fun _ _ _ h => h) (by kernel_rfl) (by assumption) ?_
      simp only [List.set_cons_zero, List.set_cons_succ]
      refine takeS 54 57 rfl rfl (by kernel_rfl) (by kernel_rfl) (by kernel_rfl) (fun _ _ _ h => h) (by kernel_rfl) (by assumption) ?_
      simp only [List.set_cons_zero, List.set_cons_succ]
      refine takeS 55 58 rfl rfl (by kernel_rfl) (by kernel_rfl) (by kernel_rfl) (fun _ _ _ h => h) (by kernel_rfl) (by assumption) ?_
      simp only [List.set_cons_zero, List.set_cons_succ]
      refine takeW 56 59 (.bool false) rfl rfl (by kernel_rfl) (by kernel_rfl) (by kernel_rfl) (fun _ _ _ h => h) (by kernel_rfl) (by (intro w hSw; go_simp)) (by assumption) ?_
      simp only [List.set_cons_zero, List.set_cons_succ]
      refine takeW 57 2 (.bool false) rfl rfl (by kernel_rfl) (by kernel_rfl) (by kernel_rfl) (fun _ _ _ h => h) (by kernel_rfl) (by (intro w hSw; go_simp)) (by assumption) ?_
      simp only [List.set_cons_zero, List.set_cons_succ]
      refine wpAnyH_done (by kernel_rfl) ?_ _
      have hN : Hid (R = false) := by unfold Hid; rw [hR.out]; unfold fitsM; rw [h_li.out, h_ep.out]; rfl
      go_wp2
      go_ret
      exact ⟨by rw [hN.out]; rfl, hb2⟩
    · replace h_ep : Hid _ := h_ep
      refine takeW 13 16 (.bool true) rfl rfl (by kernel_rfl) (by kernel_rfl) (by kernel_rfl) (fun _ _ _ h => h) (by kernel_rfl) (by (intro w hSw; go_simp)) (by assumption) ?_
      simp only [List.set_cons_zero, List.set_cons_succ]
      refine takeW 14 17 (.bool true) rfl rfl (by kernel_rfl) (by kernel_rfl) (by kernel_rfl) (fun _ _ _ h => h) (by kernel_rfl) (by (intro w hSw; go_simp)) (by assumption) ?_
      simp only [List.set_cons_zero, List.set_cons_succ]
      refine takeW 15 18 (.pointer (some ⟨q, 0, none⟩)) rfl rfl (by kernel_rfl) (by kernel_rfl) (by kernel_rfl) (fun _ _ _ h => h) (by kernel_rfl) (by (intro w hSw; go_simp)) (by assumption) ?_
      simp only [List.set_cons_zero, List.set_cons_succ]
      refine takeW 16 19 (.pointer (some ⟨q, 0, none⟩)) rfl rfl (by kernel_rfl) (by kernel_rfl) (by kernel_rfl) (fun _ _ _ h => h) (by kernel_rfl) (by (intro w hSw; go_simp)) (by assumption) ?_
      simp only [List.set_cons_zero, List.set_cons_succ]
      refine takeW 17 20 (.pointer (some ⟨q, 1, none⟩)) rfl rfl (by kernel_rfl) (by kernel_rfl) (by kernel_rfl) (fun _ _ _ h => h) (by kernel_rfl) (by (intro w hSw; go_simp)) (by assumption) ?_
      simp only [List.set_cons_zero, List.set_cons_succ]
      refine takeW 18 21 (.pointer (some ⟨q, 6, none⟩)) rfl rfl (by kernel_rfl) (by kernel_rfl) (by kernel_rfl) (fun _ _ _ h => h) (by kernel_rfl) (by (intro w hSw; go_simp)) (by assumption) ?_
      simp only [List.set_cons_zero, List.set_cons_succ]
      refine takeW 19 22 (.int .i64 m.al) rfl rfl (by kernel_rfl) (by kernel_rfl) (by kernel_rfl) (fun _ _ _ h => h) (by kernel_rfl) (by (intro Y hSw; obtain ⟨X0, X1, X2, X3, X4, X5, X6, XF⟩ := M.below hSw M.lt; go_simp)) (by assumption) ?_
      simp only [List.set_cons_zero, List.set_cons_succ]
      refine wpAnyH_all (rs := [20]) (by kernel_rfl) (by simp) ?_
      intro i hi; obtain rfl : i = 20 := by simpa using hi
      refine wpOp_step rfl (fun Kz hKz => ?_)
      rw [if_pos (by kernel_rfl)]
      go_simp
      go_at_call 62
      refine (numFitsI m.al u2).mono ?_
      rintro e u3 ⟨rfl, kq⟩
      replace kq : Below u2.heap.size u2 u3 := by rw [kq]; exact Below.refl _ _
      have hb3 : Below w.heap.size w u3 := hb2.trans (kq.mono hb2.size)
      clear kq
      refine hKz _ _ ⟨hb3, ?_⟩
      clear hKz Kz hi
      cases h_al : (numB m.al)
      · replace h_al : Hid _ := h_al
        refine takeW 21 24 (.bool false) rfl rfl (by kernel_rfl) (by kernel_rfl) (by kernel_rfl) (fun _ _ _ h => h) (by kernel_rfl) (by (intro w hSw; go_simp)) (by assumption) ?_
        simp only [List.set_cons_zero, List.set_cons_succ]
        refine takeW 22 25 (.bool false) rfl rfl (by kernel_rfl) (by kernel_rfl) (by kernel_rfl) (fun _ _ _ h => h) (by kernel_rfl) (by (intro w hSw; go_simp)) (by assumption) ?_
        simp only [List.set_cons_zero, List.set_cons_succ]
        refine takeS 23 26 rfl rfl (by kernel_rfl) (by kernel_rfl) (by kernel_rfl) (fun _ _ _ h => h) (by kernel_rfl) (by assumption) ?_
        simp only [List.set_cons_zero, List.set_cons_succ]
        refine takeS 24 27 rfl rfl (by kernel_rfl) (by kernel_rfl) (by kernel_rfl) (fun _ _ _ h => h) (by kernel_rfl) (by assumption) ?_
        simp only [List.set_cons_zero, List.set_cons_succ]
        refine takeS 25 28 rfl rfl (by kernel_rfl) (by kernel_rfl) (by kernel_rfl) (fun _ _ _ h => h) (by kernel_rfl) (by assumption) ?_
        simp only [List.set_cons_zero, List.set_cons_succ]
        refine takeS 26 29 rfl rfl (by kernel_rfl) (by kernel_rfl) (by kernel_rfl) (fun _ _ _ h => h) (by kernel_rfl) (by assumption) ?_
        simp only [List.set_cons_zero, List.set_cons_succ]
        refine takeS 27 30 rfl rfl (by kernel_rfl) (by kernel_rfl) (by kernel_rfl) (fun _ _ _ h => h) (by kernel_rfl) (by assumption) ?_
        simp only [List.set_cons_zero, List.set_cons_succ]
        refine takeW 28 31 (.bool false) rfl rfl (by kernel_rfl) (by kernel_rfl) (by kernel_rfl) (fun _ _ _ h => h) (by kernel_rfl) (by (intro w hSw; go_simp)) (by assumption) ?_
        simp only [List.set_cons_zero, List.set_cons_succ]
        refine takeW 29 32 (.bool false) rfl rfl (by kernel_rfl) (by kernel_rfl) (by kernel_rfl) (fun _ _ _ h => h) (by kernel_rfl) (by (intro w hSw; go_simp)) (by assumption) ?_
        simp only [List.set_cons_zero, List.set_cons_succ]
        refine takeS 30 33 rfl rfl (by kernel_rfl) (by kernel_rfl) (by kernel_rfl) (fun _ _ _ h => h) (by kernel_rfl) (by assumption) ?_
        simp only [List.set_cons_zero, List.set_cons_succ]
        refine takeS 31 34 rfl rfl (by kernel_rfl) (by kernel_rfl) (by kernel_rfl) (fun _ _ _ h => h) (by kernel_rfl) (by assumption) ?_
        simp only [List.set_cons_zero, List.set_cons_succ]
        refine takeS 32 35 rfl rfl (by kernel_rfl) (by kernel_rfl) (by kernel_rfl) (fun _ _ _ h => h) (by kernel_rfl) (by assumption) ?_
        simp only [List.set_cons_zero, List.set_cons_succ]
        refine takeS 33 36 rfl rfl (by kernel_rfl) (by kernel_rfl) (by kernel_rfl) (fun _ _ _ h => h) (by kernel_rfl) (by assumption) ?_
        simp only [List.set_cons_zero, List.set_cons_succ]
        refine takeW 34 37 (.bool false) rfl rfl (by kernel_rfl) (by kernel_rfl) (by kernel_rfl) (fun _ _ _ h => h) (by kernel_rfl) (by (intro w hSw; go_simp)) (by assumption) ?_
        simp only [List.set_cons_zero, List.set_cons_succ]
        refine takeW 35 38 (.bool false) rfl rfl (by kernel_rfl) (by kernel_rfl) (by kernel_rfl) (fun _ _ _ h => h) (by kernel_rfl) (by (intro w hSw; go_simp)) (by assumption) ?_
        simp only [List.set_cons_zero, List.set_cons_succ]
        refine takeS 36 39 rfl rfl (by kernel_rfl) (by kernel_rfl) (by kernel_rfl) (fun _ _ _ h => h) (by kernel_rfl) (by assumption) ?_
        simp only [List.set_cons_zero, List.set_cons_succ]
        refine takeS 37 40 rfl rfl (by kernel_rfl) (by kernel_rfl) (by kernel_rfl) (fun _ _ _ h => h) (by kernel_rfl) (by assumption) ?_
        simp only [List.set_cons_zero, List.set_cons_succ]
        refine takeS 38 41 rfl rfl (by kernel_rfl) (by kernel_rfl) (by kernel_rfl) (fun _ _ _ h => h) (by kernel_rfl) (by assumption) ?_
        simp only [List.set_cons_zero, List.set_cons_succ]
        refine takeS 39 42 rfl rfl (by kernel_rfl) (by kernel_rfl) (by kernel_rfl) (fun _ _ _ h => h) (by kernel_rfl) (by assumption) ?_
        simp only [List.set_cons_zero, List.set_cons_succ]
        refine takeS 40 43 rfl rfl (by kernel_rfl) (by kernel_rfl) (by kernel_rfl) (fun _ _ _ h => h) (by kernel_rfl) (by assumption) ?_
        simp only [List.set_cons_zero, List.set_cons_succ]
        refine takeS 41 44 rfl rfl (by kernel_rfl) (by kernel_rfl) (by kernel_rfl) (fun _ _ _ h => h) (by kernel_rfl) (by assumption) ?_
        simp only [List.set_cons_zero, List.set_cons_succ]
        refine takeS 42 45 rfl rfl (by kernel_rfl) (by kernel_rfl) (by kernel_rfl) (fun _ _ _ h => h) (by kernel_rfl) (by assumption) ?_
        simp only [List.set_cons_zero, List.set_cons_succ]
        refine takeS 43 46 rfl rfl (by kernel_rfl) (by kernel_rfl) (by kernel_rfl) (fun _ _ _ h => h) (by kernel_rfl) (by assumption) ?_
        simp only [List.set_cons_zero, List.set_cons_succ]
        refine takeS 44 47 rfl rfl (by kernel_rfl) (by kernel_rfl) (by kernel_rfl) (fun _ _ _ h => h) (by kernel_rfl) (by assumption) ?_
        simp only [List.set_cons_zero, List.set_cons_succ]
        refine takeW 45 48 (.bool false) rfl rfl (by kernel_rfl) (by kernel_rfl) (by kernel_rfl) (fun _ _ _ h => h) (by kernel_rfl) (by (intro w hSw; go_simp)) (by assumption) ?_
        simp only [List.set_cons_zero, List.set_cons_succ]
        refine takeW 46 49 (.bool false) rfl rfl (by kernel_rfl) (by kernel_rfl) (by kernel_rfl) (fun _ _ _ h => h) (by kernel_rfl) (by (intro w hSw; go_simp)) (by assumption) ?_
        simp only [List.set_cons_zero, List.set_cons_succ]
        refine takeS 47 50 rfl rfl (by kernel_rfl) (by kernel_rfl) (by kernel_rfl) (fun _ _ _ h => h) (by kernel_rfl) (by assumption) ?_
        simp only [List.set_cons_zero, List.set_cons_succ]
        refine takeS 48 51 rfl rfl (by kernel_rfl) (by kernel_rfl) (by kernel_rfl) (fun _ _ _ h => h) (by kernel_rfl) (by assumption) ?_
        simp only [List.set_cons_zero, List.set_cons_succ]
        refine takeS 49 52 rfl rfl (by kernel_rfl) (by kernel_rfl) (by kernel_rfl) (fun _ _ _ h => h) (by kernel_rfl) (by assumption) ?_
        simp only [List.set_cons_zero, List.set_cons_succ]
        refine takeS 50 53 rfl rfl (by kernel_rfl) (by kernel_rfl) (by kernel_rfl) (fun _ _ _ h => h) (by kernel_rfl) (by assumption) ?_
        simp only [List.set_cons_zero, List.set_cons_succ]
        refine takeS 51 54 rfl rfl (by kernel_rfl) (by kernel_rfl) (by kernel_rfl) (fun _ _ _ h => h) (by kernel_rfl) (by assumption) ?_
        simp only [List.set_cons_zero, List.set_cons_succ]
        refine takeS 52 55 rfl rfl (by kernel_rfl) (by kernel_rfl) (by kernel_rfl) (fun _ _ _ h => h) (by kernel_rfl) (by assumption) ?_
        simp only [List.set_cons_zero, List.set_cons_succ]
        refine takeS 53 56 rfl rfl (by kernel_rfl) (by kernel_rfl) (by kernel_rfl) (fun _ _ _ h => h) (by kernel_rfl) (by assumption) ?_
        simp only [List.set_cons_zero, List.set_cons_succ]
        refine takeS 54 57 rfl rfl (by kernel_rfl) (by kernel_rfl) (by kernel_rfl) (fun _ _ _ h => h) (by kernel_rfl) (by assumption) ?_
        simp only [List.set_cons_zero, List.set_cons_succ]
        refine takeS 55 58 rfl rfl (by kernel_rfl) (by kernel_rfl) (by kernel_rfl) (fun _ _ _ h => h) (by kernel_rfl) (by assumption) ?_
        simp only [List.set_cons_zero, List.set_cons_succ]
        refine takeW 56 59 (.bool false) rfl rfl (by kernel_rfl) (by kernel_rfl) (by kernel_rfl) (fun _ _ _ h => h) (by kernel_rfl) (by (intro w hSw; go_simp)) (by assumption) ?_
        simp only [List.set_cons_zero, List.set_cons_succ]
        refine takeW 57 2 (.bool false) rfl rfl (by kernel_rfl) (by kernel_rfl) (by kernel_rfl) (fun _ _ _ h => h) (by kernel_rfl) (by (intro w hSw; go_simp)) (by assumption) ?_
        simp only [List.set_cons_zero, List.set_cons_succ]
        refine wpAnyH_done (by kernel_rfl) ?_ _
        have hN : Hid (R = false) := by unfold Hid; rw [hR.out]; unfold fitsM; rw [h_li.out, h_ep.out, h_al.out]; rfl
        go_wp2
        go_ret
        exact ⟨by rw [hN.out]; rfl, hb3⟩
      · replace h_al : Hid _ := h_al
        refine takeW 21 24 (.bool true) rfl rfl (by kernel_rfl) (by kernel_rfl) (by kernel_rfl) (fun _ _ _ h => h) (by kernel_rfl) (by (intro w hSw; go_simp)) (by assumption) ?_
        simp only [List.set_cons_zero, List.set_cons_succ]
        refine takeW 22 25 (.bool true) rfl rfl (by kernel_rfl) (by kernel_rfl) (by kernel_rfl) (fun _ _ _ h => h) (by kernel_rfl) (by (intro w hSw; go_simp)) (by assumption) ?_
        simp only [List.set_cons_zero, List.set_cons_succ]
        refine takeW 23 26 (.pointer (some ⟨q, 0, none⟩)) rfl rfl (by kernel_rfl) (by kernel_rfl) (by kernel_rfl) (fun _ _ _ h => h) (by kernel_rfl) (by (intro w hSw; go_simp)) (by assumption) ?_
        simp only [List.set_cons_zero, List.set_cons_succ]
        refine takeW 24 27 (.pointer (some ⟨q, 0, none⟩)) rfl rfl (by kernel_rfl) (by kernel_rfl) (by kernel_rfl) (fun _ _ _ h => h) (by kernel_rfl) (by (intro w hSw; go_simp)) (by assumption) ?_
        simp only [List.set_cons_zero, List.set_cons_succ]
        refine takeW 25 28 (.pointer (some ⟨q, 0, none⟩)) rfl rfl (by kernel_rfl) (by kernel_rfl) (by kernel_rfl) (fun _ _ _ h => h) (by kernel_rfl) (by (intro w hSw; go_simp)) (by assumption) ?_
        simp only [List.set_cons_zero, List.set_cons_succ]
        refine wpAnyH_all (rs := [26]) (by kernel_rfl) (by simp) ?_
        intro i hi; obtain rfl : i = 26 := by simpa using hi
        refine wpOp_step rfl (fun Kz hKz => ?_)
        rw [if_pos (by kernel_rfl)]
        go_simp
        go_at_call 78
        refine (countI q m.lg.length ad cap u3 (M.below hb3 M.lt).c0).mono ?_
        rintro e u4 ⟨rfl, kq⟩
        replace kq : Below u3.heap.size u3 u4 := by rw [kq]; exact Below.refl _ _
        have hb4 : Below w.heap.size w u4 := hb3.trans (kq.mono hb3.size)
        clear kq
        refine hKz _ _ ⟨hb4, ?_⟩
        clear hKz Kz hi
        refine takeW 27 30 (.bool (decide ((m.lg.length : Int) ≤ 60))) rfl rfl (by kernel_rfl) (by kernel_rfl) (by kernel_rfl) (fun _ _ _ h => h) (by kernel_rfl) (by (intro w hSw; go_simp)) (by assumption) ?_
        simp only [List.set_cons_zero, List.set_cons_succ]
        cases h_len : (decide ((m.lg.length : Int) ≤ 60))
        · replace h_len : Hid _ := h_len
          refine takeW 28 31 (.bool false) rfl rfl (by kernel_rfl) (by kernel_rfl) (by kernel_rfl) (fun _ _ _ h => h) (by kernel_rfl) (by (intro w hSw; go_simp)) (by assumption) ?_
          simp only [List.set_cons_zero, List.set_cons_succ]
          refine takeW 29 32 (.bool false) rfl rfl (by kernel_rfl) (by kernel_rfl) (by kernel_rfl) (fun _ _ _ h => h) (by kernel_rfl) (by (intro w hSw; go_simp)) (by assumption) ?_
          simp only [List.set_cons_zero, List.set_cons_succ]
          refine takeS 30 33 rfl rfl (by kernel_rfl) (by kernel_rfl) (by kernel_rfl) (fun _ _ _ h => h) (by kernel_rfl) (by assumption) ?_
          simp only [List.set_cons_zero, List.set_cons_succ]
          refine takeS 31 34 rfl rfl (by kernel_rfl) (by kernel_rfl) (by kernel_rfl) (fun _ _ _ h => h) (by kernel_rfl) (by assumption) ?_
          simp only [List.set_cons_zero, List.set_cons_succ]
          refine takeS 32 35 rfl rfl (by kernel_rfl) (by kernel_rfl) (by kernel_rfl) (fun _ _ _ h => h) (by kernel_rfl) (by assumption) ?_
          simp only [List.set_cons_zero, List.set_cons_succ]
          refine takeS 33 36 rfl rfl (by kernel_rfl) (by kernel_rfl) (by kernel_rfl) (fun _ _ _ h => h) (by kernel_rfl) (by assumption) ?_
          simp only [List.set_cons_zero, List.set_cons_succ]
          refine takeW 34 37 (.bool false) rfl rfl (by kernel_rfl) (by kernel_rfl) (by kernel_rfl) (fun _ _ _ h => h) (by kernel_rfl) (by (intro w hSw; go_simp)) (by assumption) ?_
          simp only [List.set_cons_zero, List.set_cons_succ]
          refine takeW 35 38 (.bool false) rfl rfl (by kernel_rfl) (by kernel_rfl) (by kernel_rfl) (fun _ _ _ h => h) (by kernel_rfl) (by (intro w hSw; go_simp)) (by assumption) ?_
          simp only [List.set_cons_zero, List.set_cons_succ]
          refine takeS 36 39 rfl rfl (by kernel_rfl) (by kernel_rfl) (by kernel_rfl) (fun _ _ _ h => h) (by kernel_rfl) (by assumption) ?_
          simp only [List.set_cons_zero, List.set_cons_succ]
          refine takeS 37 40 rfl rfl (by kernel_rfl) (by kernel_rfl) (by kernel_rfl) (fun _ _ _ h => h) (by kernel_rfl) (by assumption) ?_
          simp only [List.set_cons_zero, List.set_cons_succ]
          refine takeS 38 41 rfl rfl (by kernel_rfl) (by kernel_rfl) (by kernel_rfl) (fun _ _ _ h => h) (by kernel_rfl) (by assumption) ?_
          simp only [List.set_cons_zero, List.set_cons_succ]
          refine takeS 39 42 rfl rfl (by kernel_rfl) (by kernel_rfl) (by kernel_rfl) (fun _ _ _ h => h) (by kernel_rfl) (by assumption) ?_
          simp only [List.set_cons_zero, List.set_cons_succ]
          refine takeS 40 43 rfl rfl (by kernel_rfl) (by kernel_rfl) (by kernel_rfl) (fun _ _ _ h => h) (by kernel_rfl) (by assumption) ?_
          simp only [List.set_cons_zero, List.set_cons_succ]
          refine takeS 41 44 rfl rfl (by kernel_rfl) (by kernel_rfl) (by kernel_rfl) (fun _ _ _ h => h) (by kernel_rfl) (by assumption) ?_
          simp only [List.set_cons_zero, List.set_cons_succ]
          refine takeS 42 45 rfl rfl (by kernel_rfl) (by kernel_rfl) (by kernel_rfl) (fun _ _ _ h => h) (by kernel_rfl) (by assumption) ?_
          simp only [List.set_cons_zero, List.set_cons_succ]
          refine takeS 43 46 rfl rfl (by kernel_rfl) (by kernel_rfl) (by kernel_rfl) (fun _ _ _ h => h) (by kernel_rfl) (by assumption) ?_
          simp only [List.set_cons_zero, List.set_cons_succ]
          refine takeS 44 47 rfl rfl (by kernel_rfl) (by kernel_rfl) (by kernel_rfl) (fun _ _ _ h => h) (by kernel_rfl) (by assumption) ?_
          simp only [List.set_cons_zero, List.set_cons_succ]
          refine takeW 45 48 (.bool false) rfl rfl (by kernel_rfl) (by kernel_rfl) (by kernel_rfl) (fun _ _ _ h => h) (by kernel_rfl) (by (intro w hSw; go_simp)) (by assumption) ?_
          simp only [List.set_cons_zero, List.set_cons_succ]
          refine takeW 46 49 (.bool false) rfl rfl (by kernel_rfl) (by kernel_rfl) (by kernel_rfl) (fun _ _ _ h => h) (by kernel_rfl) (by (intro w hSw; go_simp)) (by assumption) ?_
          simp only [List.set_cons_zero, List.set_cons_succ]
          refine takeS 47 50 rfl rfl (by kernel_rfl) (by kernel_rfl) (by kernel_rfl) (fun _ _ _ h => h) (by kernel_rfl) (by assumption) ?_
          simp only [List.set_cons_zero, List.set_cons_succ]
          refine takeS 48 51 rfl rfl (by kernel_rfl) (by kernel_rfl) (by kernel_rfl) (fun _ _ _ h => h) (by kernel_rfl) (by assumption) ?_
          simp only [List.set_cons_zero, List.set_cons_succ]
          refine takeS 49 52 rfl rfl (by kernel_rfl) (by kernel_rfl) (by kernel_rfl) (fun _ _ _ h => h) (by kernel_rfl) (by assumption) ?_
          simp only [List.set_cons_zero, List.set_cons_succ]
          refine takeS 50 53 rfl rfl (by kernel_rfl) (by kernel_rfl) (by kernel_rfl) (fun _ _ _ h => h) (by kernel_rfl) (by assumption) ?_
          simp only [List.set_cons_zero, List.set_cons_succ]
          refine takeS 51 54 rfl rfl (by kernel_rfl) (by kernel_rfl) (by kernel_rfl) (fun _ _ _ h => h) (by kernel_rfl) (by assumption) ?_
          simp only [List.set_cons_zero, List.set_cons_succ]
          refine takeS 52 55 rfl rfl (by kernel_rfl) (by kernel_rfl) (by kernel_rfl) (fun _ _ _ h => h) (by kernel_rfl) (by assumption) ?_
          simp only [List.set_cons_zero, List.set_cons_succ]
          refine takeS 53 56 rfl rfl (by kernel_rfl) (by kernel_rfl) (by kernel_rfl) (fun _ _ _ h => h) (by kernel_rfl) (by assumption) ?_
          simp only [List.set_cons_zero, List.set_cons_succ]
          refine takeS 54 57 rfl rfl (by kernel_rfl) (by kernel_rfl) (by kernel_rfl) (fun _ _ _ h => h) (by kernel_rfl) (by assumption) ?_
          simp only [List.set_cons_zero, List.set_cons_succ]
          refine takeS 55 58 rfl rfl (by kernel_rfl) (by kernel_rfl) (by kernel_rfl) (fun _ _ _ h => h) (by kernel_rfl) (by assumption) ?_
          simp only [List.set_cons_zero, List.set_cons_succ]
          refine takeW 56 59 (.bool false) rfl rfl (by kernel_rfl) (by kernel_rfl) (by kernel_rfl) (fun _ _ _ h => h) (by kernel_rfl) (by (intro w hSw; go_simp)) (by assumption) ?_
          simp only [List.set_cons_zero, List.set_cons_succ]
          refine takeW 57 2 (.bool false) rfl rfl (by kernel_rfl) (by kernel_rfl) (by kernel_rfl) (fun _ _ _ h => h) (by kernel_rfl) (by (intro w hSw; go_simp)) (by assumption) ?_
          simp only [List.set_cons_zero, List.set_cons_succ]
          refine wpAnyH_done (by kernel_rfl) ?_ _
          have hN : Hid (R = false) := by unfold Hid; rw [hR.out]; unfold fitsM; rw [h_li.out, h_ep.out, h_al.out, h_len.out]; rfl
          go_wp2
          go_ret
          exact ⟨by rw [hN.out]; rfl, hb4⟩
        · replace h_len : Hid _ := h_len
          refine takeW 28 31 (.bool true) rfl rfl (by kernel_rfl) (by kernel_rfl) (by kernel_rfl) (fun _ _ _ h => h) (by kernel_rfl) (by (intro w hSw; go_simp)) (by assumption) ?_
          simp only [List.set_cons_zero, List.set_cons_succ]
          refine takeW 29 32 (.bool true) rfl rfl (by kernel_rfl) (by kernel_rfl) (by kernel_rfl) (fun _ _ _ h => h) (by kernel_rfl) (by (intro w hSw; go_simp)) (by assumption) ?_
          simp only [List.set_cons_zero, List.set_cons_succ]
          refine takeW 30 33 (.pointer (some ⟨q, 0, none⟩)) rfl rfl (by kernel_rfl) (by kernel_rfl) (by kernel_rfl) (fun _ _ _ h => h) (by kernel_rfl) (by (intro w hSw; go_simp)) (by assumption) ?_
          simp only [List.set_cons_zero, List.set_cons_succ]
          refine takeW 31 34 (.pointer (some ⟨q, 0, none⟩)) rfl rfl (by kernel_rfl) (by kernel_rfl) (by kernel_rfl) (fun _ _ _ h => h) (by kernel_rfl) (by (intro w hSw; go_simp)) (by assumption) ?_
          simp only [List.set_cons_zero, List.set_cons_succ]
          refine takeW 32 35 (.pointer (some ⟨q, 0, none⟩)) rfl rfl (by kernel_rfl) (by kernel_rfl) (by kernel_rfl) (fun _ _ _ h => h) (by kernel_rfl) (by (intro w hSw; go_simp)) (by assumption) ?_
          simp only [List.set_cons_zero, List.set_cons_succ]
          refine wpAnyH_all (rs := [33]) (by kernel_rfl) (by simp) ?_
          intro i hi; obtain rfl : i = 33 := by simpa using hi
          refine wpOp_step rfl (fun Kz hKz => ?_)
          rw [if_pos (by kernel_rfl)]
          go_simp
          go_at_call 79
          refine (eachI q ad cap m.lg u4 (M.below hb4 M.lt).c0 (hv.below hb4 (hv.lt ikEnc_len (by omega))) hl).mono ?_
          rintro e u5 ⟨rfl, kq⟩
          have hb5 : Below w.heap.size w u5 := hb4.trans (kq.mono hb4.size)
          clear kq
          refine hKz _ _ ⟨hb5, ?_⟩
          clear hKz Kz hi
          cases h_all : (m.lg.all inOk)
          · replace h_all : Hid _ := h_all
            refine takeW 34 37 (.bool false) rfl rfl (by kernel_rfl) (by kernel_rfl) (by kernel_rfl) (fun _ _ _ h => h) (by kernel_rfl) (by (intro w hSw; go_simp)) (by assumption) ?_
            simp only [List.set_cons_zero, List.set_cons_succ]
            refine takeW 35 38 (.bool false) rfl rfl (by kernel_rfl) (by kernel_rfl) (by kernel_rfl) (fun _ _ _ h => h) (by kernel_rfl) (by (intro w hSw; go_simp)) (by assumption) ?_
            simp only [List.set_cons_zero, List.set_cons_succ]
            refine takeS 36 39 rfl rfl (by kernel_rfl) (by kernel_rfl) (by kernel_rfl) (fun _ _ _ h => h) (by kernel_rfl) (by assumption) ?_
            simp only [List.set_cons_zero, List.set_cons_succ]
            refine takeS 37 40 rfl rfl (by kernel_rfl) (by kernel_rfl) (by kernel_rfl) (fun _ _ _ h => h) (by kernel_rfl) (by assumption) ?_
            simp only [List.set_cons_zero, List.set_cons_succ]
            refine takeS 38 41 rfl rfl (by kernel_rfl) (by kernel_rfl) (by kernel_rfl) (fun _ _ _ h => h) (by kernel_rfl) (by assumption) ?_
            simp only [List.set_cons_zero, List.set_cons_succ]
            refine takeS 39 42 rfl rfl (by kernel_rfl) (by kernel_rfl) (by kernel_rfl) (fun _ _ _ h => h) (by kernel_rfl) (by assumption) ?_
            simp only [List.set_cons_zero, List.set_cons_succ]
            refine takeS 40 43 rfl rfl (by kernel_rfl) (by kernel_rfl) (by kernel_rfl) (fun _ _ _ h => h) (by kernel_rfl) (by assumption) ?_
            simp only [List.set_cons_zero, List.set_cons_succ]
            refine takeS 41 44 rfl rfl (by kernel_rfl) (by kernel_rfl) (by kernel_rfl) (fun _ _ _ h => h) (by kernel_rfl) (by assumption) ?_
            simp only [List.set_cons_zero, List.set_cons_succ]
            refine takeS 42 45 rfl rfl (by kernel_rfl) (by kernel_rfl) (by kernel_rfl) (fun _ _ _ h => h) (by kernel_rfl) (by assumption) ?_
            simp only [List.set_cons_zero, List.set_cons_succ]
            refine takeS 43 46 rfl rfl (by kernel_rfl) (by kernel_rfl) (by kernel_rfl) (fun _ _ _ h => h) (by kernel_rfl) (by assumption) ?_
            simp only [List.set_cons_zero, List.set_cons_succ]
            refine takeS 44 47 rfl rfl (by kernel_rfl) (by kernel_rfl) (by kernel_rfl) (fun _ _ _ h => h) (by kernel_rfl) (by assumption) ?_
            simp only [List.set_cons_zero, List.set_cons_succ]
            refine takeW 45 48 (.bool false) rfl rfl (by kernel_rfl) (by kernel_rfl) (by kernel_rfl) (fun _ _ _ h => h) (by kernel_rfl) (by (intro w hSw; go_simp)) (by assumption) ?_
            simp only [List.set_cons_zero, List.set_cons_succ]
            refine takeW 46 49 (.bool false) rfl rfl (by kernel_rfl) (by kernel_rfl) (by kernel_rfl) (fun _ _ _ h => h) (by kernel_rfl) (by (intro w hSw; go_simp)) (by assumption) ?_
            simp only [List.set_cons_zero, List.set_cons_succ]
            refine takeS 47 50 rfl rfl (by kernel_rfl) (by kernel_rfl) (by kernel_rfl) (fun _ _ _ h => h) (by kernel_rfl) (by assumption) ?_
            simp only [List.set_cons_zero, List.set_cons_succ]
            refine takeS 48 51 rfl rfl (by kernel_rfl) (by kernel_rfl) (by kernel_rfl) (fun _ _ _ h => h) (by kernel_rfl) (by assumption) ?_
            simp only [List.set_cons_zero, List.set_cons_succ]
            refine takeS 49 52 rfl rfl (by kernel_rfl) (by kernel_rfl) (by kernel_rfl) (fun _ _ _ h => h) (by kernel_rfl) (by assumption) ?_
            simp only [List.set_cons_zero, List.set_cons_succ]
            refine takeS 50 53 rfl rfl (by kernel_rfl) (by kernel_rfl) (by kernel_rfl) (fun _ _ _ h => h) (by kernel_rfl) (by assumption) ?_
            simp only [List.set_cons_zero, List.set_cons_succ]
            refine takeS 51 54 rfl rfl (by kernel_rfl) (by kernel_rfl) (by kernel_rfl) (fun _ _ _ h => h) (by kernel_rfl) (by assumption) ?_
            simp only [List.set_cons_zero, List.set_cons_succ]
            refine takeS 52 55 rfl rfl (by kernel_rfl) (by kernel_rfl) (by kernel_rfl) (fun _ _ _ h => h) (by kernel_rfl) (by assumption) ?_
            simp only [List.set_cons_zero, List.set_cons_succ]
            refine takeS 53 56 rfl rfl (by kernel_rfl) (by kernel_rfl) (by kernel_rfl) (fun _ _ _ h => h) (by kernel_rfl) (by assumption) ?_
            simp only [List.set_cons_zero, List.set_cons_succ]
            refine takeS 54 57 rfl rfl (by kernel_rfl) (by kernel_rfl) (by kernel_rfl) (fun _ _ _ h => h) (by kernel_rfl) (by assumption) ?_
            simp only [List.set_cons_zero, List.set_cons_succ]
            refine takeS 55 58 rfl rfl (by kernel_rfl) (by kernel_rfl) (by kernel_rfl) (fun _ _ _ h => h) (by kernel_rfl) (by assumption) ?_
            simp only [List.set_cons_zero, List.set_cons_succ]
            refine takeW 56 59 (.bool false) rfl rfl (by kernel_rfl) (by kernel_rfl) (by kernel_rfl) (fun _ _ _ h => h) (by kernel_rfl) (by (intro w hSw; go_simp)) (by assumption) ?_
            simp only [List.set_cons_zero, List.set_cons_succ]
            refine takeW 57 2 (.bool false) rfl rfl (by kernel_rfl) (by kernel_rfl) (by kernel_rfl) (fun _ _ _ h => h) (by kernel_rfl) (by (intro w hSw; go_simp)) (by assumption) ?_
            simp only [List.set_cons_zero, List.set_cons_succ]
            refine wpAnyH_done (by kernel_rfl) ?_ _
            have hN : Hid (R = false) := by unfold Hid; rw [hR.out]; unfold fitsM; rw [h_li.out, h_ep.out, h_al.out, h_len.out, h_all.out]; rfl
            go_wp2
            go_ret
            exact ⟨by rw [hN.out]; rfl, hb5⟩
          · replace h_all : Hid _ := h_all
            refine takeW 34 37 (.bool true) rfl rfl (by kernel_rfl) (by kernel_rfl) (by kernel_rfl) (fun _ _ _ h => h) (by kernel_rfl) (by (intro w hSw; go_simp)) (by assumption) ?_
            simp only [List.set_cons_zero, List.set_cons_succ]
            refine takeW 35 38 (.bool true) rfl rfl (by kernel_rfl) (by kernel_rfl) (by kernel_rfl) (fun _ _ _ h => h) (by kernel_rfl) (by (intro w hSw; go_simp)) (by assumption) ?_
            simp only [List.set_cons_zero, List.set_cons_succ]
            refine takeW 36 39 (.pointer (some ⟨q, 0, none⟩)) rfl rfl (by kernel_rfl) (by kernel_rfl) (by kernel_rfl) (fun _ _ _ h => h) (by kernel_rfl) (by (intro w hSw; go_simp)) (by assumption) ?_
            simp only [List.set_cons_zero, List.set_cons_succ]
            refine takeW 37 40 (.pointer (some ⟨q, 0, none⟩)) rfl rfl (by kernel_rfl) (by kernel_rfl) (by kernel_rfl) (fun _ _ _ h => h) (by kernel_rfl) (by (intro w hSw; go_simp)) (by assumption) ?_
            simp only [List.set_cons_zero, List.set_cons_succ]
            refine takeW 38 41 (.pointer (some ⟨q, 0, none⟩)) rfl rfl (by kernel_rfl) (by kernel_rfl) (by kernel_rfl) (fun _ _ _ h => h) (by kernel_rfl) (by (intro w hSw; go_simp)) (by assumption) ?_
            simp only [List.set_cons_zero, List.set_cons_succ]
            refine takeW 39 42 (.pointer (some ⟨q, 0, none⟩)) rfl rfl (by kernel_rfl) (by kernel_rfl) (by kernel_rfl) (fun _ _ _ h => h) (by kernel_rfl) (by (intro w hSw; go_simp)) (by assumption) ?_
            simp only [List.set_cons_zero, List.set_cons_succ]
            refine takeW 40 43 (.pointer (some ⟨q, 0, none⟩)) rfl rfl (by kernel_rfl) (by kernel_rfl) (by kernel_rfl) (fun _ _ _ h => h) (by kernel_rfl) (by (intro w hSw; go_simp)) (by assumption) ?_
            simp only [List.set_cons_zero, List.set_cons_succ]
            refine takeW 41 44 (.pointer (some ⟨q, 1, none⟩)) rfl rfl (by kernel_rfl) (by kernel_rfl) (by kernel_rfl) (fun _ _ _ h => h) (by kernel_rfl) (by (intro w hSw; go_simp)) (by assumption) ?_
            simp only [List.set_cons_zero, List.set_cons_succ]
            refine takeW 42 45 (.pointer (some ⟨q, 4, none⟩)) rfl rfl (by kernel_rfl) (by kernel_rfl) (by kernel_rfl) (fun _ _ _ h => h) (by kernel_rfl) (by (intro w hSw; go_simp)) (by assumption) ?_
            simp only [List.set_cons_zero, List.set_cons_succ]
            refine takeW 43 46 (.int .i64 m.sd) rfl rfl (by kernel_rfl) (by kernel_rfl) (by kernel_rfl) (fun _ _ _ h => h) (by kernel_rfl) (by (intro Y hSw; obtain ⟨X0, X1, X2, X3, X4, X5, X6, XF⟩ := M.below hSw M.lt; go_simp)) (by assumption) ?_
            simp only [List.set_cons_zero, List.set_cons_succ]
            refine wpAnyH_all (rs := [44]) (by kernel_rfl) (by simp) ?_
            intro i hi; obtain rfl : i = 44 := by simpa using hi
            refine wpOp_step rfl (fun Kz hKz => ?_)
            rw [if_pos (by kernel_rfl)]
            go_simp
            go_at_call 80
            refine (begI q m.lg.length ad cap m.sd u5 (M.below hb5 M.lt).c0).mono ?_
            rintro e u6 ⟨rfl, kq⟩
            replace kq : Below u5.heap.size u5 u6 := by rw [kq]; exact Below.refl _ _
            have hb6 : Below w.heap.size w u6 := hb5.trans (kq.mono hb5.size)
            clear kq
            refine hKz _ _ ⟨hb6, ?_⟩
            clear hKz Kz hi
            cases h_sd : (decide (0 ≤ m.sd ∧ m.sd ≤ (m.lg.length : Int)))
            · replace h_sd : Hid _ := h_sd
              refine takeW 45 48 (.bool false) rfl rfl (by kernel_rfl) (by kernel_rfl) (by kernel_rfl) (fun _ _ _ h => h) (by kernel_rfl) (by (intro w hSw; go_simp)) (by assumption) ?_
              simp only [List.set_cons_zero, List.set_cons_succ]
              refine takeW 46 49 (.bool false) rfl rfl (by kernel_rfl) (by kernel_rfl) (by kernel_rfl) (fun _ _ _ h => h) (by kernel_rfl) (by (intro w hSw; go_simp)) (by assumption) ?_
              simp only [List.set_cons_zero, List.set_cons_succ]
              refine takeS 47 50 rfl rfl (by kernel_rfl) (by kernel_rfl) (by kernel_rfl) (fun _ _ _ h => h) (by kernel_rfl) (by assumption) ?_
              simp only [List.set_cons_zero, List.set_cons_succ]
              refine takeS 48 51 rfl rfl (by kernel_rfl) (by kernel_rfl) (by kernel_rfl) (fun _ _ _ h => h) (by kernel_rfl) (by assumption) ?_
              simp only [List.set_cons_zero, List.set_cons_succ]
              refine takeS 49 52 rfl rfl (by kernel_rfl) (by kernel_rfl) (by kernel_rfl) (fun _ _ _ h => h) (by kernel_rfl) (by assumption) ?_
              simp only [List.set_cons_zero, List.set_cons_succ]
              refine takeS 50 53 rfl rfl (by kernel_rfl) (by kernel_rfl) (by kernel_rfl) (fun _ _ _ h => h) (by kernel_rfl) (by assumption) ?_
              simp only [List.set_cons_zero, List.set_cons_succ]
              refine takeS 51 54 rfl rfl (by kernel_rfl) (by kernel_rfl) (by kernel_rfl) (fun _ _ _ h => h) (by kernel_rfl) (by assumption) ?_
              simp only [List.set_cons_zero, List.set_cons_succ]
              refine takeS 52 55 rfl rfl (by kernel_rfl) (by kernel_rfl) (by kernel_rfl) (fun _ _ _ h => h) (by kernel_rfl) (by assumption) ?_
              simp only [List.set_cons_zero, List.set_cons_succ]
              refine takeS 53 56 rfl rfl (by kernel_rfl) (by kernel_rfl) (by kernel_rfl) (fun _ _ _ h => h) (by kernel_rfl) (by assumption) ?_
              simp only [List.set_cons_zero, List.set_cons_succ]
              refine takeS 54 57 rfl rfl (by kernel_rfl) (by kernel_rfl) (by kernel_rfl) (fun _ _ _ h => h) (by kernel_rfl) (by assumption) ?_
              simp only [List.set_cons_zero, List.set_cons_succ]
              refine takeS 55 58 rfl rfl (by kernel_rfl) (by kernel_rfl) (by kernel_rfl) (fun _ _ _ h => h) (by kernel_rfl) (by assumption) ?_
              simp only [List.set_cons_zero, List.set_cons_succ]
              refine takeW 56 59 (.bool false) rfl rfl (by kernel_rfl) (by kernel_rfl) (by kernel_rfl) (fun _ _ _ h => h) (by kernel_rfl) (by (intro w hSw; go_simp)) (by assumption) ?_
              simp only [List.set_cons_zero, List.set_cons_succ]
              refine takeW 57 2 (.bool false) rfl rfl (by kernel_rfl) (by kernel_rfl) (by kernel_rfl) (fun _ _ _ h => h) (by kernel_rfl) (by (intro w hSw; go_simp)) (by assumption) ?_
              simp only [List.set_cons_zero, List.set_cons_succ]
              refine wpAnyH_done (by kernel_rfl) ?_ _
              have hN : Hid (R = false) := by unfold Hid; rw [hR.out]; unfold fitsM; rw [h_li.out, h_ep.out, h_al.out, h_len.out, h_all.out, h_sd.out]; rfl
              go_wp2
              go_ret
              exact ⟨by rw [hN.out]; rfl, hb6⟩
            · replace h_sd : Hid _ := h_sd
              refine takeW 45 48 (.bool true) rfl rfl (by kernel_rfl) (by kernel_rfl) (by kernel_rfl) (fun _ _ _ h => h) (by kernel_rfl) (by (intro w hSw; go_simp)) (by assumption) ?_
              simp only [List.set_cons_zero, List.set_cons_succ]
              refine takeW 46 49 (.bool true) rfl rfl (by kernel_rfl) (by kernel_rfl) (by kernel_rfl) (fun _ _ _ h => h) (by kernel_rfl) (by (intro w hSw; go_simp)) (by assumption) ?_
              simp only [List.set_cons_zero, List.set_cons_succ]
              refine takeW 47 50 (.pointer (some ⟨q, 0, none⟩)) rfl rfl (by kernel_rfl) (by kernel_rfl) (by kernel_rfl) (fun _ _ _ h => h) (by kernel_rfl) (by (intro w hSw; go_simp)) (by assumption) ?_
              simp only [List.set_cons_zero, List.set_cons_succ]
              refine takeW 48 51 (.pointer (some ⟨q, 0, none⟩)) rfl rfl (by kernel_rfl) (by kernel_rfl) (by kernel_rfl) (fun _ _ _ h => h) (by kernel_rfl) (by (intro w hSw; go_simp)) (by assumption) ?_
              simp only [List.set_cons_zero, List.set_cons_succ]
              refine takeW 49 52 (.pointer (some ⟨q, 0, none⟩)) rfl rfl (by kernel_rfl) (by kernel_rfl) (by kernel_rfl) (fun _ _ _ h => h) (by kernel_rfl) (by (intro w hSw; go_simp)) (by assumption) ?_
              simp only [List.set_cons_zero, List.set_cons_succ]
              refine takeW 50 53 (.pointer (some ⟨q, 0, none⟩)) rfl rfl (by kernel_rfl) (by kernel_rfl) (by kernel_rfl) (fun _ _ _ h => h) (by kernel_rfl) (by (intro w hSw; go_simp)) (by assumption) ?_
              simp only [List.set_cons_zero, List.set_cons_succ]
              refine takeW 51 54 (.pointer (some ⟨q, 0, none⟩)) rfl rfl (by kernel_rfl) (by kernel_rfl) (by kernel_rfl) (fun _ _ _ h => h) (by kernel_rfl) (by (intro w hSw; go_simp)) (by assumption) ?_
              simp only [List.set_cons_zero, List.set_cons_succ]
              refine takeW 52 55 (.pointer (some ⟨q, 1, none⟩)) rfl rfl (by kernel_rfl) (by kernel_rfl) (by kernel_rfl) (fun _ _ _ h => h) (by kernel_rfl) (by (intro w hSw; go_simp)) (by assumption) ?_
              simp only [List.set_cons_zero, List.set_cons_succ]
              refine takeW 53 56 (.pointer (some ⟨q, 5, none⟩)) rfl rfl (by kernel_rfl) (by kernel_rfl) (by kernel_rfl) (fun _ _ _ h => h) (by kernel_rfl) (by (intro w hSw; go_simp)) (by assumption) ?_
              simp only [List.set_cons_zero, List.set_cons_succ]
              refine takeW 54 57 (.int .i64 m.ac) rfl rfl (by kernel_rfl) (by kernel_rfl) (by kernel_rfl) (fun _ _ _ h => h) (by kernel_rfl) (by (intro Y hSw; obtain ⟨X0, X1, X2, X3, X4, X5, X6, XF⟩ := M.below hSw M.lt; go_simp)) (by assumption) ?_
              simp only [List.set_cons_zero, List.set_cons_succ]
              refine wpAnyH_all (rs := [55]) (by kernel_rfl) (by simp) ?_
              intro i hi; obtain rfl : i = 55 := by simpa using hi
              refine wpOp_step rfl (fun Kz hKz => ?_)
              rw [if_pos (by kernel_rfl)]
              go_simp
              go_at_call 80
              refine (begI q m.lg.length ad cap m.ac u6 (M.below hb6 M.lt).c0).mono ?_
              rintro e u7 ⟨rfl, kq⟩
              replace kq : Below u6.heap.size u6 u7 := by rw [kq]; exact Below.refl _ _
              have hb7 : Below w.heap.size w u7 := hb6.trans (kq.mono hb6.size)
              clear kq
              refine hKz _ _ ⟨hb7, ?_⟩
              clear hKz Kz hi
              cases h_ac : (decide (0 ≤ m.ac ∧ m.ac ≤ (m.lg.length : Int)))
              · replace h_ac : Hid _ := h_ac
                refine takeW 56 59 (.bool false) rfl rfl (by kernel_rfl) (by kernel_rfl) (by kernel_rfl) (fun _ _ _ h => h) (by kernel_rfl) (by (intro w hSw; go_simp)) (by assumption) ?_
                simp only [List.set_cons_zero, List.set_cons_succ]
                refine takeW 57 2 (.bool false) rfl rfl (by kernel_rfl) (by kernel_rfl) (by kernel_rfl) (fun _ _ _ h => h) (by kernel_rfl) (by (intro w hSw; go_simp)) (by assumption) ?_
                simp only [List.set_cons_zero, List.set_cons_succ]
                refine wpAnyH_done (by kernel_rfl) ?_ _
                have hN : Hid (R = false) := by unfold Hid; rw [hR.out]; unfold fitsM; rw [h_li.out, h_ep.out, h_al.out, h_len.out, h_all.out, h_sd.out, h_ac.out]; rfl
                go_wp2
                go_ret
                exact ⟨by rw [hN.out]; rfl, hb7⟩
              · replace h_ac : Hid _ := h_ac
                refine takeW 56 59 (.bool true) rfl rfl (by kernel_rfl) (by kernel_rfl) (by kernel_rfl) (fun _ _ _ h => h) (by kernel_rfl) (by (intro w hSw; go_simp)) (by assumption) ?_
                simp only [List.set_cons_zero, List.set_cons_succ]
                refine takeW 57 2 (.bool true) rfl rfl (by kernel_rfl) (by kernel_rfl) (by kernel_rfl) (fun _ _ _ h => h) (by kernel_rfl) (by (intro w hSw; go_simp)) (by assumption) ?_
                simp only [List.set_cons_zero, List.set_cons_succ]
                refine wpAnyH_done (by kernel_rfl) ?_ _
                have hN : Hid (R = true) := by unfold Hid; rw [hR.out]; unfold fitsM; rw [h_li.out, h_ep.out, h_al.out, h_len.out, h_all.out, h_sd.out, h_ac.out]; rfl
                go_wp2
                go_ret
                exact ⟨by rw [hN.out]; rfl, hb7⟩

end Go.Proofs.Ytnpiljegdiconab
namespace Go.Proofs.Ytnpiljegdiconab
open Go.ChangeShapes Go.WideShapes Go.ChangeAt Go.RowKit
open Go.ChangeMaps (open_string shut_string)
set_option linter.unusedVariables false
set_option maxRecDepth 100000

theorem setCells_put (g : Nat) : ∀ (vs : List Value) (o : Nat) (w : World), w.setCells g o vs = putAll w g o vs
  | [], _, _ => rfl
  | v :: vs, o, w => setCells_put g vs (o + 1) (w.setCell ⟨g, o, none⟩ v)
/-- Only the blocks q and o have turned. -/
structure Turned (q : Nat) (o : Option Nat) (w w' : World) : Prop where
  os : w'.os = w.os
  tape : w'.tape = w.tape
  output : w'.output = w.output
  size : w.heap.size ≤ w'.heap.size
  block : ∀ k, k < w.heap.size → k ≠ q → o ≠ some k → w'.heap[k]? = w.heap[k]?
theorem Turned.below {q : Nat} {o : Option Nat} {w w' : World} (h : Turned q o w w') {B : Nat} (hB : B ≤ w.heap.size) (h1 : B ≤ q) (h2 : ∀ g, o = some g → B ≤ g) : Below B w w' :=
  ⟨h.os, h.tape, h.output, h.size, fun k hk => h.block k (by omega) (by omega) (fun e => by have := h2 k e; omega)⟩
theorem Turned.refl (q : Nat) (o : Option Nat) (w : World) : Turned q o w w := ⟨rfl, rfl, rfl, Nat.le_refl _, fun _ _ _ _ => rfl⟩
theorem Turned.set {q : Nat} {o : Option Nat} {w w' : World} (h : Turned q o w w') (i : Nat) (v : Value) : Turned q o w (w'.setCell ⟨q, i, none⟩ v) :=
  ⟨h.os, h.tape, h.output, by simpa using h.size, fun k hk h1 h2 => (Below.heap_setCell _ _ _ _ h1).trans (h.block k hk h1 h2)⟩
theorem Turned.put {q g : Nat} {w : World} (o : Nat) (vs : List Value) : Turned q (some g) w (putAll w g o vs) := by
  have hb := below_putAll (B := 0) (g := g) (a := w) (Nat.zero_le _) vs o (Below.refl 0 w)
  exact ⟨hb.os, hb.tape, hb.output, hb.size, fun k _ _ h2 => heap_putAll vs w o k (fun e => h2 (by rw [e]))⟩
theorem zeroIk (w : World) : (zeroValue 78).run Try.prog w = .ok (.agg #[.int .i64 0, .int .i64 0, .int .i64 0, .int .i64 0, .int .i64 0, .int .i64 0, .int .i64 0, .bool false]) w := by kernel_rfl
theorem clearIk (w : World) (ty : TypeId) (g n c : Nat) (hn : 0 < n) (hc : ∀ j, j < n * 8 → (w.cell? ⟨g, j, none⟩).isSome = true) (hf : ∀ j, w.frozen? ⟨g, j, none⟩ = false) :
    ∃ vs, (Builtin.clear_ #[36] ty #[.slice (some ⟨g, 0, none⟩) n c]).run Try.prog w = .ok (.tuple #[]) (putAll w g 0 vs) := by
  obtain ⟨z, hz⟩ : ∃ z, z = Value.agg #[.int .i64 0, .int .i64 0, .int .i64 0, .int .i64 0, .int .i64 0, .int .i64 0, .int .i64 0, .bool false] := ⟨_, rfl⟩
  have h8 : z.cells.size = 8 := by rw [hz]; rfl
  have hl : (Builtin.zeroCells z.cells n).toList.length = n * 8 := by simp [Builtin.zeroCells, h8]
  have h1 : ∀ v ∈ (Builtin.zeroCells z.cells n).toList, v.oneCell' = true := by
    intro v hv
    simp only [Builtin.zeroCells, h8, Array.toList_map, List.mem_map] at hv
    obtain ⟨i, _, rfl⟩ := hv
    have : i % 8 = 0 ∨ i % 8 = 1 ∨ i % 8 = 2 ∨ i % 8 = 3 ∨ i % 8 = 4 ∨ i % 8 = 5 ∨ i % 8 = 6 ∨ i % 8 = 7 := by omega
    rw [hz]
    rcases this with e | e | e | e | e | e | e | e <;> rw [e] <;> rfl
  have hst := run_storeCells_cells (P := Try.prog) g 0 (Builtin.zeroCells z.cells n).toList 0 w (by rw [hl]; simpa using hc) (fun j _ => by simpa using hf j) h1
  simp only [Nat.add_zero] at hst
  rw [setCells_put] at hst
  refine ⟨(Builtin.zeroCells z.cells n).toList, ?_⟩
  have hzv : ∀ w : World, (zeroValue 78).run Try.prog w = .ok z w := fun w => by rw [hz]; exact zeroIk w
  obtain ⟨k, rfl⟩ : ∃ k, n = k + 1 := ⟨n - 1, by omega⟩
  simp [Builtin.clear_, run_underlying Try.underlying36, hzv, hst]
set_option maxHeartbeats 2000000 in
theorem emptyI (m : Mi) (q base : Nat) (ad : Option Addr) (cap : Nat) (w : World) (M : MgBox w q m (.slice ad m.lg.length cap)) (O : FOwn ikEnc 8 78 base w (.slice ad m.lg.length cap) m.lg) (hq : ∀ g, (Value.slice ad m.lg.length cap).ownBlock = some g → g ≠ q) :
    Calls Try.prog 85 #[.pointer (some ⟨q, 0, none⟩)] w fun e w' => e = .returned (.tuple #[]) ∧ MgBox w' q m (.slice ad 0 cap) ∧ Turned q (Value.slice ad m.lg.length cap).ownBlock w w' := by
  have hcl : ∃ w1, (∀ ty, (Builtin.clear_ #[36] ty #[.slice ad m.lg.length cap]).run Try.prog w = .ok (.tuple #[]) w1) ∧ MgBox w1 q m (.slice ad m.lg.length cap) ∧ Turned q (Value.slice ad m.lg.length cap).ownBlock w w1 := by
    cases ad with
    | none =>
      refine ⟨w, fun ty => ?_, M, Turned.refl _ _ _⟩
      simp [Builtin.clear_, run_underlying Try.underlying36]
    | some a =>
      by_cases h0 : m.lg.length = 0
      · refine ⟨w, fun ty => ?_, M, Turned.refl _ _ _⟩
        rw [h0]
        simp [Builtin.clear_, run_underlying Try.underlying36]
      · have ha : ∃ g, a = ⟨g, 0, none⟩ := by
          rcases O.2 with ⟨e, _⟩ | ⟨g, c, cur, e, _⟩
          · cases e
          · simp only [Value.slice.injEq, Option.some.injEq] at e
            exact ⟨g, e.1⟩
        obtain ⟨g, rfl⟩ := ha
        have hc : ∀ j, j < m.lg.length * 8 → (w.cell? ⟨g, j, none⟩).isSome = true := fun j hj => by
          rw [World.ownsRow.cellAt O j hj]
          have hx : (fcells ikEnc m.lg).length = m.lg.length * 8 := fcells_len ikEnc_len _
          rw [List.getElem?_eq_getElem (by omega)]
          rfl
        have hne : q ≠ g := fun e => hq g rfl e.symm
        obtain ⟨vs, hvs⟩ := clearIk w 0 g m.lg.length cap (by omega) hc (fun j => O.frozen j)
        refine ⟨putAll w g 0 vs, fun ty => hvs, M.keep (heap_putAll vs w 0 q hne), Turned.put 0 vs⟩
  obtain ⟨w1, hcl, M1, T1⟩ := hcl
  have M2 := M1.log (.slice ad 0 cap)
  have T2 := T1.set 0 (.slice ad 0 cap)
  have c0 := M.c0
  have d0 := M1.c0
  have f0 := M1.fr 0
  clear M M1 T1 O hq
  cases ad with
  | none =>
    go_enter Try.func85, Try.ntmps85
    go_wp2_with (simp only [hcl])
    go_end0
    exact ⟨rfl, M2, T2⟩
  | some a =>
    go_enter Try.func85, Try.ntmps85
    go_wp2_with (simp only [hcl])
    go_end0
    exact ⟨rfl, M2, T2⟩
theorem MgBox.fallen {w : World} {q : Nat} {m : Mi} {v : Value} (h : MgBox w q m v) : MgBox ((((((w.setCell ⟨q, 1, none⟩ (.bool false)).setCell ⟨q, 2, none⟩ (.int .i64 m.li)).setCell ⟨q, 3, none⟩ (.int .i64 0)).setCell ⟨q, 4, none⟩ (.int .i64 0)).setCell ⟨q, 5, none⟩ (.int .i64 0)).setCell ⟨q, 6, none⟩ (.int .i64 0)) q ⟨false, m.li, 0, [], 0, 0, 0⟩ v := by
  obtain ⟨h0, h1, h2, h3, h4, h5, h6, hf⟩ := h
  have h0 : (w.setCell ⟨q, 1, none⟩ (.bool false)).cell? ⟨q, 0, none⟩ = _ := (pset_else (by decide)).trans h0
  have h1 : (w.setCell ⟨q, 1, none⟩ (.bool false)).cell? ⟨q, 1, none⟩ = some (.bool false) := pset_same h1
  have h2 : (w.setCell ⟨q, 1, none⟩ (.bool false)).cell? ⟨q, 2, none⟩ = _ := (pset_else (by decide)).trans h2
  have h3 : (w.setCell ⟨q, 1, none⟩ (.bool false)).cell? ⟨q, 3, none⟩ = _ := (pset_else (by decide)).trans h3
  have h4 : (w.setCell ⟨q, 1, none⟩ (.bool false)).cell? ⟨q, 4, none⟩ = _ := (pset_else (by decide)).trans h4
  have h5 : (w.setCell ⟨q, 1, none⟩ (.bool false)).cell? ⟨q, 5, none⟩ = _ := (pset_else (by decide)).trans h5
  have h6 : (w.setCell ⟨q, 1, none⟩ (.bool false)).cell? ⟨q, 6, none⟩ = _ := (pset_else (by decide)).trans h6
  have h0 : ((w.setCell ⟨q, 1, none⟩ (.bool false)).setCell ⟨q, 2, none⟩ (.int .i64 m.li)).cell? ⟨q, 0, none⟩ = _ := (pset_else (by decide)).trans h0
  have h1 : ((w.setCell ⟨q, 1, none⟩ (.bool false)).setCell ⟨q, 2, none⟩ (.int .i64 m.li)).cell? ⟨q, 1, none⟩ = _ := (pset_else (by decide)).trans h1
  have h2 : ((w.setCell ⟨q, 1, none⟩ (.bool false)).setCell ⟨q, 2, none⟩ (.int .i64 m.li)).cell? ⟨q, 2, none⟩ = some (.int .i64 m.li) := pset_same h2
  have h3 : ((w.setCell ⟨q, 1, none⟩ (.bool false)).setCell ⟨q, 2, none⟩ (.int .i64 m.li)).cell? ⟨q, 3, none⟩ = _ := (pset_else (by decide)).trans h3
  have h4 : ((w.setCell ⟨q, 1, none⟩ (.bool false)).setCell ⟨q, 2, none⟩ (.int .i64 m.li)).cell? ⟨q, 4, none⟩ = _ := (pset_else (by decide)).trans h4
  have h5 : ((w.setCell ⟨q, 1, none⟩ (.bool false)).setCell ⟨q, 2, none⟩ (.int .i64 m.li)).cell? ⟨q, 5, none⟩ = _ := (pset_else (by decide)).trans h5
  have h6 : ((w.setCell ⟨q, 1, none⟩ (.bool false)).setCell ⟨q, 2, none⟩ (.int .i64 m.li)).cell? ⟨q, 6, none⟩ = _ := (pset_else (by decide)).trans h6
  have h0 : (((w.setCell ⟨q, 1, none⟩ (.bool false)).setCell ⟨q, 2, none⟩ (.int .i64 m.li)).setCell ⟨q, 3, none⟩ (.int .i64 0)).cell? ⟨q, 0, none⟩ = _ := (pset_else (by decide)).trans h0
  have h1 : (((w.setCell ⟨q, 1, none⟩ (.bool false)).setCell ⟨q, 2, none⟩ (.int .i64 m.li)).setCell ⟨q, 3, none⟩ (.int .i64 0)).cell? ⟨q, 1, none⟩ = _ := (pset_else (by decide)).trans h1
  have h2 : (((w.setCell ⟨q, 1, none⟩ (.bool false)).setCell ⟨q, 2, none⟩ (.int .i64 m.li)).setCell ⟨q, 3, none⟩ (.int .i64 0)).cell? ⟨q, 2, none⟩ = _ := (pset_else (by decide)).trans h2
  have h3 : (((w.setCell ⟨q, 1, none⟩ (.bool false)).setCell ⟨q, 2, none⟩ (.int .i64 m.li)).setCell ⟨q, 3, none⟩ (.int .i64 0)).cell? ⟨q, 3, none⟩ = some (.int .i64 0) := pset_same h3
  have h4 : (((w.setCell ⟨q, 1, none⟩ (.bool false)).setCell ⟨q, 2, none⟩ (.int .i64 m.li)).setCell ⟨q, 3, none⟩ (.int .i64 0)).cell? ⟨q, 4, none⟩ = _ := (pset_else (by decide)).trans h4
  have h5 : (((w.setCell ⟨q, 1, none⟩ (.bool false)).setCell ⟨q, 2, none⟩ (.int .i64 m.li)).setCell ⟨q, 3, none⟩ (.int .i64 0)).cell? ⟨q, 5, none⟩ = _ := (pset_else (by decide)).trans h5
  have h6 : (((w.setCell ⟨q, 1, none⟩ (.bool false)).setCell ⟨q, 2, none⟩ (.int .i64 m.li)).setCell ⟨q, 3, none⟩ (.int .i64 0)).cell? ⟨q, 6, none⟩ = _ := (pset_else (by decide)).trans h6
  have h0 : ((((w.setCell ⟨q, 1, none⟩ (.bool false)).setCell ⟨q, 2, none⟩ (.int .i64 m.li)).setCell ⟨q, 3, none⟩ (.int .i64 0)).setCell ⟨q, 4, none⟩ (.int .i64 0)).cell? ⟨q, 0, none⟩ = _ := (pset_else (by decide)).trans h0
  have h1 : ((((w.setCell ⟨q, 1, none⟩ (.bool false)).setCell ⟨q, 2, none⟩ (.int .i64 m.li)).setCell ⟨q, 3, none⟩ (.int .i64 0)).setCell ⟨q, 4, none⟩ (.int .i64 0)).cell? ⟨q, 1, none⟩ = _ := (pset_else (by decide)).trans h1
  have h2 : ((((w.setCell ⟨q, 1, none⟩ (.bool false)).setCell ⟨q, 2, none⟩ (.int .i64 m.li)).setCell ⟨q, 3, none⟩ (.int .i64 0)).setCell ⟨q, 4, none⟩ (.int .i64 0)).cell? ⟨q, 2, none⟩ = _ := (pset_else (by decide)).trans h2
  have h3 : ((((w.setCell ⟨q, 1, none⟩ (.bool false)).setCell ⟨q, 2, none⟩ (.int .i64 m.li)).setCell ⟨q, 3, none⟩ (.int .i64 0)).setCell ⟨q, 4, none⟩ (.int .i64 0)).cell? ⟨q, 3, none⟩ = _ := (pset_else (by decide)).trans h3
  have h4 : ((((w.setCell ⟨q, 1, none⟩ (.bool false)).setCell ⟨q, 2, none⟩ (.int .i64 m.li)).setCell ⟨q, 3, none⟩ (.int .i64 0)).setCell ⟨q, 4, none⟩ (.int .i64 0)).cell? ⟨q, 4, none⟩ = some (.int .i64 0) := pset_same h4
  have h5 : ((((w.setCell ⟨q, 1, none⟩ (.bool false)).setCell ⟨q, 2, none⟩ (.int .i64 m.li)).setCell ⟨q, 3, none⟩ (.int .i64 0)).setCell ⟨q, 4, none⟩ (.int .i64 0)).cell? ⟨q, 5, none⟩ = _ := (pset_else (by decide)).trans h5
  have h6 : ((((w.setCell ⟨q, 1, none⟩ (.bool false)).setCell ⟨q, 2, none⟩ (.int .i64 m.li)).setCell ⟨q, 3, none⟩ (.int .i64 0)).setCell ⟨q, 4, none⟩ (.int .i64 0)).cell? ⟨q, 6, none⟩ = _ := (pset_else (by decide)).trans h6
  have h0 : (((((w.setCell ⟨q, 1, none⟩ (.bool false)).setCell ⟨q, 2, none⟩ (.int .i64 m.li)).setCell ⟨q, 3, none⟩ (.int .i64 0)).setCell ⟨q, 4, none⟩ (.int .i64 0)).setCell ⟨q, 5, none⟩ (.int .i64 0)).cell? ⟨q, 0, none⟩ = _ := (pset_else (by decide)).trans h0
  have h1 : (((((w.setCell ⟨q, 1, none⟩ (.bool false)).setCell ⟨q, 2, none⟩ (.int .i64 m.li)).setCell ⟨q, 3, none⟩ (.int .i64 0)).setCell ⟨q, 4, none⟩ (.int .i64 0)).setCell ⟨q, 5, none⟩ (.int .i64 0)).cell? ⟨q, 1, none⟩ = _ := (pset_else (by decide)).trans h1
  have h2 : (((((w.setCell ⟨q, 1, none⟩ (.bool false)).setCell ⟨q, 2, none⟩ (.int .i64 m.li)).setCell ⟨q, 3, none⟩ (.int .i64 0)).setCell ⟨q, 4, none⟩ (.int .i64 0)).setCell ⟨q, 5, none⟩ (.int .i64 0)).cell? ⟨q, 2, none⟩ = _ := (pset_else (by decide)).trans h2
  have h3 : (((((w.setCell ⟨q, 1, none⟩ (.bool false)).setCell ⟨q, 2, none⟩ (.int .i64 m.li)).setCell ⟨q, 3, none⟩ (.int .i64 0)).setCell ⟨q, 4, none⟩ (.int .i64 0)).setCell ⟨q, 5, none⟩ (.int .i64 0)).cell? ⟨q, 3, none⟩ = _ := (pset_else (by decide)).trans h3
  have h4 : (((((w.setCell ⟨q, 1, none⟩ (.bool false)).setCell ⟨q, 2, none⟩ (.int .i64 m.li)).setCell ⟨q, 3, none⟩ (.int .i64 0)).setCell ⟨q, 4, none⟩ (.int .i64 0)).setCell ⟨q, 5, none⟩ (.int .i64 0)).cell? ⟨q, 4, none⟩ = _ := (pset_else (by decide)).trans h4
  have h5 : (((((w.setCell ⟨q, 1, none⟩ (.bool false)).setCell ⟨q, 2, none⟩ (.int .i64 m.li)).setCell ⟨q, 3, none⟩ (.int .i64 0)).setCell ⟨q, 4, none⟩ (.int .i64 0)).setCell ⟨q, 5, none⟩ (.int .i64 0)).cell? ⟨q, 5, none⟩ = some (.int .i64 0) := pset_same h5
  have h6 : (((((w.setCell ⟨q, 1, none⟩ (.bool false)).setCell ⟨q, 2, none⟩ (.int .i64 m.li)).setCell ⟨q, 3, none⟩ (.int .i64 0)).setCell ⟨q, 4, none⟩ (.int .i64 0)).setCell ⟨q, 5, none⟩ (.int .i64 0)).cell? ⟨q, 6, none⟩ = _ := (pset_else (by decide)).trans h6
  have h0 : ((((((w.setCell ⟨q, 1, none⟩ (.bool false)).setCell ⟨q, 2, none⟩ (.int .i64 m.li)).setCell ⟨q, 3, none⟩ (.int .i64 0)).setCell ⟨q, 4, none⟩ (.int .i64 0)).setCell ⟨q, 5, none⟩ (.int .i64 0)).setCell ⟨q, 6, none⟩ (.int .i64 0)).cell? ⟨q, 0, none⟩ = _ := (pset_else (by decide)).trans h0
  have h1 : ((((((w.setCell ⟨q, 1, none⟩ (.bool false)).setCell ⟨q, 2, none⟩ (.int .i64 m.li)).setCell ⟨q, 3, none⟩ (.int .i64 0)).setCell ⟨q, 4, none⟩ (.int .i64 0)).setCell ⟨q, 5, none⟩ (.int .i64 0)).setCell ⟨q, 6, none⟩ (.int .i64 0)).cell? ⟨q, 1, none⟩ = _ := (pset_else (by decide)).trans h1
  have h2 : ((((((w.setCell ⟨q, 1, none⟩ (.bool false)).setCell ⟨q, 2, none⟩ (.int .i64 m.li)).setCell ⟨q, 3, none⟩ (.int .i64 0)).setCell ⟨q, 4, none⟩ (.int .i64 0)).setCell ⟨q, 5, none⟩ (.int .i64 0)).setCell ⟨q, 6, none⟩ (.int .i64 0)).cell? ⟨q, 2, none⟩ = _ := (pset_else (by decide)).trans h2
  have h3 : ((((((w.setCell ⟨q, 1, none⟩ (.bool false)).setCell ⟨q, 2, none⟩ (.int .i64 m.li)).setCell ⟨q, 3, none⟩ (.int .i64 0)).setCell ⟨q, 4, none⟩ (.int .i64 0)).setCell ⟨q, 5, none⟩ (.int .i64 0)).setCell ⟨q, 6, none⟩ (.int .i64 0)).cell? ⟨q, 3, none⟩ = _ := (pset_else (by decide)).trans h3
  have h4 : ((((((w.setCell ⟨q, 1, none⟩ (.bool false)).setCell ⟨q, 2, none⟩ (.int .i64 m.li)).setCell ⟨q, 3, none⟩ (.int .i64 0)).setCell ⟨q, 4, none⟩ (.int .i64 0)).setCell ⟨q, 5, none⟩ (.int .i64 0)).setCell ⟨q, 6, none⟩ (.int .i64 0)).cell? ⟨q, 4, none⟩ = _ := (pset_else (by decide)).trans h4
  have h5 : ((((((w.setCell ⟨q, 1, none⟩ (.bool false)).setCell ⟨q, 2, none⟩ (.int .i64 m.li)).setCell ⟨q, 3, none⟩ (.int .i64 0)).setCell ⟨q, 4, none⟩ (.int .i64 0)).setCell ⟨q, 5, none⟩ (.int .i64 0)).setCell ⟨q, 6, none⟩ (.int .i64 0)).cell? ⟨q, 5, none⟩ = _ := (pset_else (by decide)).trans h5
  have h6 : ((((((w.setCell ⟨q, 1, none⟩ (.bool false)).setCell ⟨q, 2, none⟩ (.int .i64 m.li)).setCell ⟨q, 3, none⟩ (.int .i64 0)).setCell ⟨q, 4, none⟩ (.int .i64 0)).setCell ⟨q, 5, none⟩ (.int .i64 0)).setCell ⟨q, 6, none⟩ (.int .i64 0)).cell? ⟨q, 6, none⟩ = some (.int .i64 0) := pset_same h6
  refine ⟨h0, h1, h2, h3, h4, h5, h6, fun i => ?_⟩
  rw [World.frozen?_setCell, World.frozen?_setCell, World.frozen?_setCell, World.frozen?_setCell, World.frozen?_setCell, World.frozen?_setCell]
  exact hf i
set_option maxHeartbeats 2000000 in
theorem fallI (m : Mi) (q base : Nat) (ad : Option Addr) (cap : Nat) (w : World) (M : MgBox w q m (.slice ad m.lg.length cap)) (O : FOwn ikEnc 8 78 base w (.slice ad m.lg.length cap) m.lg) (hq : ∀ g, (Value.slice ad m.lg.length cap).ownBlock = some g → g ≠ q) :
    Calls Try.prog 81 #[.pointer (some ⟨q, 0, none⟩)] w fun e w' => e = .returned (.tuple #[]) ∧ MgBox w' q ⟨false, m.li, 0, [], 0, 0, 0⟩ (.slice ad 0 cap) ∧ Turned q (Value.slice ad m.lg.length cap).ownBlock w w' := by
  go_enter Try.func81, Try.ntmps81
  go_wp2_with fail
  go_at_call 85
  refine (emptyI m q base ad cap w M O hq).mono ?_
  rintro e w1 ⟨rfl, M1, T1⟩
  have M2 := M1.fallen
  have T3 : Turned q (Value.slice ad m.lg.length cap).ownBlock w ((((((w1.setCell ⟨q, 1, none⟩ (.bool false)).setCell ⟨q, 2, none⟩ (.int .i64 m.li)).setCell ⟨q, 3, none⟩ (.int .i64 0)).setCell ⟨q, 4, none⟩ (.int .i64 0)).setCell ⟨q, 5, none⟩ (.int .i64 0)).setCell ⟨q, 6, none⟩ (.int .i64 0)) := ((((((T1.set 1 _).set 2 _).set 3 _).set 4 _).set 5 _).set 6 _)
  clear T1 O hq M
  obtain ⟨c0, c1, c2, c3, c4, c5, c6, fr⟩ := M1
  have f1 := fr 1
  have f2 := fr 2
  have f3 := fr 3
  have f4 := fr 4
  have f5 := fr 5
  have f6 := fr 6
  clear fr
  go_wp2
  go_end0
  exact ⟨rfl, M2, T3⟩

end Go.Proofs.Ytnpiljegdiconab
namespace Go.Proofs.Ytnpiljegdiconab
open Go.ChangeShapes Go.WideShapes Go.ChangeAt Go.RowKit
open Go.ChangeMaps (open_string shut_string)
set_option linter.unusedVariables false
set_option maxRecDepth 100000

/-- What isFallen answers. -/
def fallB (m : Mi) : Bool := decide (m.up = false ∧ m.ep = 0 ∧ m.sd = 0 ∧ m.ac = 0 ∧ m.al = 0) && decide (m.lg.length = 0)
theorem eqMarks (m : Mi) (w : World) : (binOp .eql 130 (.agg #[.bool m.up, .int .i64 m.li, .int .i64 m.ep, .int .i64 m.sd, .int .i64 m.ac, .int .i64 m.al]) (.agg #[.bool false, .int .i64 m.li, .int .i64 0, .int .i64 0, .int .i64 0, .int .i64 0])).run Try.prog w = .ok (.bool (decide (m.up = false ∧ m.ep = 0 ∧ m.sd = 0 ∧ m.ac = 0 ∧ m.al = 0))) w := by
  go_simp
  all_goals ((repeat' split) <;> first | (simp_all; done) | grind)
set_option maxHeartbeats 4000000 in
theorem fallenI (m : Mi) (ad : Option Addr) (cap : Nat) (w : World) (hv : FView ikEnc w ad m.lg) (hl : m.lg.length ≤ 1048577) :
    Calls Try.prog 73 #[.agg #[.bool m.up, .int .i64 m.li, .int .i64 m.ep, .slice ad m.lg.length cap, .int .i64 m.sd, .int .i64 m.ac, .int .i64 m.al]] w fun e w' => e = .returned (.bool (fallB m)) ∧ Below w.heap.size w w' := by
  have hB := hv.lt ikEnc_len (by omega)
  have eM := eqMarks m
  obtain ⟨R, hR⟩ : ∃ R, R = fallB m := ⟨_, rfl⟩
  rw [← hR]
  replace hR : Hid _ := hR
  obtain ⟨y, hy⟩ : ∃ y, y = w.alloc (Obj.cells #[.bool m.up, .int .i64 m.li, .int .i64 m.ep, .slice ad m.lg.length cap, .int .i64 m.sd, .int .i64 m.ac, .int .i64 m.al] 49) := ⟨_, rfl⟩
  have B0 : Below w.heap.size w y := by rw [hy]; exact below_new _
  have A : MiAt y w.heap.size m (.slice ad m.lg.length cap) := by rw [hy]; exact MiAt.new w _ _ _
  have S0 := A.lt
  have hv1 := hv.below B0 hB
  clear hv
  go_enter Try.func73, Try.ntmps73
  go_upto_region 1 with fail
  rw [← hy]
  clear hy
  refine wp_region_held (S := fun Y => Below y.heap.size y Y) (by kernel_rfl) ?_
  change wpAnyH _ _ _ _ _ _ _ _ (World.drew _)
  have hb0 : Below y.heap.size y y.drew := (Below.refl _ _).drew
  obtain ⟨u0, hy0⟩ : ∃ y_, y_ = y.drew := ⟨_, rfl⟩
  rw [← hy0] at hb0 ⊢
  clear hy0
  refine takeW 0 5 (.agg #[.bool m.up, .int .i64 m.li, .int .i64 m.ep, .slice ad m.lg.length cap, .int .i64 m.sd, .int .i64 m.ac, .int .i64 m.al]) rfl rfl (by kernel_rfl) (by kernel_rfl) (by kernel_rfl) (fun _ _ _ h => h) (by kernel_rfl) (by (intro Y hSw; obtain ⟨X0, X1, X2, X3, X4, X5, X6⟩ := A.below hSw A.lt; go_simp)) (by assumption) ?_
  simp only [List.set_cons_zero, List.set_cons_succ]
  refine takeW 2 7 (.agg #[.bool m.up, .int .i64 m.li, .int .i64 m.ep, .slice ad m.lg.length cap, .int .i64 m.sd, .int .i64 m.ac, .int .i64 m.al]) rfl rfl (by kernel_rfl) (by kernel_rfl) (by kernel_rfl) (fun _ _ _ h => h) (by kernel_rfl) (by (intro Y hSw; obtain ⟨X0, X1, X2, X3, X4, X5, X6⟩ := A.below hSw A.lt; go_simp)) (by assumption) ?_
  simp only [List.set_cons_zero, List.set_cons_succ]
  refine wpAnyH_all (rs := [1]) (by kernel_rfl) (by simp) ?_
  intro i hi; obtain rfl : i = 1 := by simpa using hi
  refine wpOp_step rfl (fun Kz hKz => ?_)
  rw [if_pos (by kernel_rfl)]
  go_simp
  go_at_call 71
  refine (mindOf m ad cap u0 (hv1.below hb0 (hv1.lt ikEnc_len (by omega))) hl).mono ?_
  rintro e u1 ⟨q1, a1, c1, rfl, M1, O1, lo1, lq1, kq⟩
  have hb1 : Below y.heap.size y u1 := hb0.trans (kq.mono hb0.size)
  have su1 := kq.size
  have sb0 := hb0.size
  have sq1 := M1.lt
  clear kq
  refine hKz _ _ ⟨hb1, ?_⟩
  clear hKz Kz hi
  refine wpAnyH_all (rs := [3]) (by kernel_rfl) (by simp) ?_
  intro i hi; obtain rfl : i = 3 := by simpa using hi
  refine wpOp_step rfl (fun Kz hKz => ?_)
  rw [if_pos (by kernel_rfl)]
  go_simp
  go_at_call 71
  refine (mindOf m ad cap u1 (hv1.below hb1 (hv1.lt ikEnc_len (by omega))) hl).mono ?_
  rintro e u2 ⟨q2, a2, c2, rfl, M2, O2, lo2, lq2, kq⟩
  have hb2 : Below y.heap.size y u2 := hb1.trans (kq.mono hb1.size)
  have su2 := kq.size
  have sb1 := hb1.size
  have sq2 := M2.lt
  have M1 := M1.below kq M1.lt
  clear kq
  refine hKz _ _ ⟨hb2, ?_⟩
  clear hKz Kz hi
  have hne1 : q1 ≠ q2 := by omega
  have hne2 : ∀ g, (Value.slice a2 m.lg.length c2).ownBlock = some g → g ≠ q1 := fun g e => by have := (O2.lt g e).1; omega
  have hne3 : ∀ g, (Value.slice a2 m.lg.length c2).ownBlock = some g → g ≠ q2 := fun g e => by have := lo2 g e; omega
  have hlo : y.heap.size ≤ q2 := by omega
  have hlo2 : ∀ g, (Value.slice a2 m.lg.length c2).ownBlock = some g → y.heap.size ≤ g := fun g e => by have := (O2.lt g e).1; omega
  clear lo2
  refine takeW 4 3 (.pointer (some ⟨q1, 0, none⟩)) rfl rfl (by kernel_rfl) (by kernel_rfl) (by kernel_rfl) (fun _ _ _ h => h) (by kernel_rfl) (by (intro w hSw; go_simp)) (by assumption) ?_
  simp only [List.set_cons_zero, List.set_cons_succ]
  refine takeW 5 4 (.pointer (some ⟨q2, 0, none⟩)) rfl rfl (by kernel_rfl) (by kernel_rfl) (by kernel_rfl) (fun _ _ _ h => h) (by kernel_rfl) (by (intro w hSw; go_simp)) (by assumption) ?_
  simp only [List.set_cons_zero, List.set_cons_succ]
  refine wpAnyH_done (by kernel_rfl) ?_ _
  clear lo1 O1 hv1 A
  go_wp2_with fail
  go_at_call 81
  refine (fallI m q2 _ a2 c2 u2 M2 O2 hne3).mono ?_
  rintro e v ⟨rfl, N2, T⟩
  have M1 := M1.keep (T.block q1 M1.lt hne1 (fun e => hne2 q1 e rfl))
  have hbv : Below y.heap.size y v := hb2.trans (T.below hb2.size hlo hlo2)
  clear T M2 O2 hb2 hb1 hb0 hne2 hne3 hlo2
  go_upto_region 3 with fail
  cases hF : decide (m.up = false ∧ m.ep = 0 ∧ m.sd = 0 ∧ m.ac = 0 ∧ m.al = 0)
  · rw [hF] at eM
    replace hF : Hid _ := hF
    refine wp_region_held (S := fun Y => Below v.heap.size v Y) (by kernel_rfl) ?_
    change wpAnyH _ _ _ _ _ _ _ _ (World.drew _)
    have hb0 : Below v.heap.size v v.drew := (Below.refl _ _).drew
    obtain ⟨u0, hy0⟩ : ∃ y_, y_ = v.drew := ⟨_, rfl⟩
    rw [← hy0] at hb0 ⊢
    clear hy0
    refine takeW 0 11 (.pointer (some ⟨q1, 0, none⟩)) rfl rfl (by kernel_rfl) (by kernel_rfl) (by kernel_rfl) (fun _ _ _ h => h) (by kernel_rfl) (by (intro w hSw; go_simp)) (by assumption) ?_
    simp only [List.set_cons_zero, List.set_cons_succ]
    refine takeW 1 12 (.pointer (some ⟨q1, 0, none⟩)) rfl rfl (by kernel_rfl) (by kernel_rfl) (by kernel_rfl) (fun _ _ _ h => h) (by kernel_rfl) (by (intro w hSw; go_simp)) (by assumption) ?_
    simp only [List.set_cons_zero, List.set_cons_succ]
    refine takeW 2 13 (.pointer (some ⟨q1, 1, none⟩)) rfl rfl (by kernel_rfl) (by kernel_rfl) (by kernel_rfl) (fun _ _ _ h => h) (by kernel_rfl) (by (intro w hSw; go_simp)) (by assumption) ?_
    simp only [List.set_cons_zero, List.set_cons_succ]
    refine takeW 3 14 (.agg #[.bool m.up, .int .i64 m.li, .int .i64 m.ep, .int .i64 m.sd, .int .i64 m.ac, .int .i64 m.al]) rfl rfl (by kernel_rfl) (by kernel_rfl) (by kernel_rfl) (fun _ _ _ h => h) (by kernel_rfl) (by (intro Y hSw; obtain ⟨X0, X1, X2, X3, X4, X5, X6, XF⟩ := M1.below hSw M1.lt; go_simp)) (by assumption) ?_
    simp only [List.set_cons_zero, List.set_cons_succ]
    refine takeW 4 15 (.pointer (some ⟨q2, 0, none⟩)) rfl rfl (by kernel_rfl) (by kernel_rfl) (by kernel_rfl) (fun _ _ _ h => h) (by kernel_rfl) (by (intro w hSw; go_simp)) (by assumption) ?_
    simp only [List.set_cons_zero, List.set_cons_succ]
    refine takeW 5 16 (.pointer (some ⟨q2, 0, none⟩)) rfl rfl (by kernel_rfl) (by kernel_rfl) (by kernel_rfl) (fun _ _ _ h => h) (by kernel_rfl) (by (intro w hSw; go_simp)) (by assumption) ?_
    simp only [List.set_cons_zero, List.set_cons_succ]
    refine takeW 6 17 (.pointer (some ⟨q2, 1, none⟩)) rfl rfl (by kernel_rfl) (by kernel_rfl) (by kernel_rfl) (fun _ _ _ h => h) (by kernel_rfl) (by (intro w hSw; go_simp)) (by assumption) ?_
    simp only [List.set_cons_zero, List.set_cons_succ]
    refine takeW 7 18 (.agg #[.bool false, .int .i64 m.li, .int .i64 0, .int .i64 0, .int .i64 0, .int .i64 0]) rfl rfl (by kernel_rfl) (by kernel_rfl) (by kernel_rfl) (fun _ _ _ h => h) (by kernel_rfl) (by (intro Y hSw; obtain ⟨X0, X1, X2, X3, X4, X5, X6, XF⟩ := N2.below hSw N2.lt; go_simp)) (by assumption) ?_
    simp only [List.set_cons_zero, List.set_cons_succ]
    refine takeW 8 19 (.bool false) rfl rfl (by kernel_rfl) (by kernel_rfl) (by kernel_rfl) (fun _ _ _ h => h) (by kernel_rfl) (by (intro w hSw; go_simp)) (by assumption) ?_
    simp only [List.set_cons_zero, List.set_cons_succ]
    refine takeW 9 20 (.bool false) rfl rfl (by kernel_rfl) (by kernel_rfl) (by kernel_rfl) (fun _ _ _ h => h) (by kernel_rfl) (by (intro w hSw; go_simp)) (by assumption) ?_
    simp only [List.set_cons_zero, List.set_cons_succ]
    refine takeS 10 21 rfl rfl (by kernel_rfl) (by kernel_rfl) (by kernel_rfl) (fun _ _ _ h => h) (by kernel_rfl) (by assumption) ?_
    simp only [List.set_cons_zero, List.set_cons_succ]
    refine takeS 11 22 rfl rfl (by kernel_rfl) (by kernel_rfl) (by kernel_rfl) (fun _ _ _ h => h) (by kernel_rfl) (by assumption) ?_
    simp only [List.set_cons_zero, List.set_cons_succ]
    refine takeS 12 23 rfl rfl (by kernel_rfl) (by kernel_rfl) (by kernel_rfl) (fun _ _ _ h => h) (by kernel_rfl) (by assumption) ?_
    simp only [List.set_cons_zero, List.set_cons_succ]
    refine takeS 13 24 rfl rfl (by kernel_rfl) (by kernel_rfl) (by kernel_rfl) (fun _ _ _ h => h) (by kernel_rfl) (by assumption) ?_
    simp only [List.set_cons_zero, List.set_cons_succ]
    refine takeS 14 25 rfl rfl (by kernel_rfl) (by kernel_rfl) (by kernel_rfl) (fun _ _ _ h => h) (by kernel_rfl) (by assumption) ?_
    simp only [List.set_cons_zero, List.set_cons_succ]
    refine takeS 15 26 rfl rfl (by kernel_rfl) (by kernel_rfl) (by kernel_rfl) (fun _ _ _ h => h) (by kernel_rfl) (by assumption) ?_
    simp only [List.set_cons_zero, List.set_cons_succ]
    refine takeS 16 27 rfl rfl (by kernel_rfl) (by kernel_rfl) (by kernel_rfl) (fun _ _ _ h => h) (by kernel_rfl) (by assumption) ?_
    simp only [List.set_cons_zero, List.set_cons_succ]
    refine takeS 17 28 rfl rfl (by kernel_rfl) (by kernel_rfl) (by kernel_rfl) (fun _ _ _ h => h) (by kernel_rfl) (by assumption) ?_
    simp only [List.set_cons_zero, List.set_cons_succ]
    refine takeS 18 29 rfl rfl (by kernel_rfl) (by kernel_rfl) (by kernel_rfl) (fun _ _ _ h => h) (by kernel_rfl) (by assumption) ?_
    simp only [List.set_cons_zero, List.set_cons_succ]
    refine takeW 19 30 (.bool false) rfl rfl (by kernel_rfl) (by kernel_rfl) (by kernel_rfl) (fun _ _ _ h => h) (by kernel_rfl) (by (intro w hSw; go_simp)) (by assumption) ?_
    simp only [List.set_cons_zero, List.set_cons_succ]
    refine takeW 20 2 (.bool false) rfl rfl (by kernel_rfl) (by kernel_rfl) (by kernel_rfl) (fun _ _ _ h => h) (by kernel_rfl) (by (intro w hSw; go_simp)) (by assumption) ?_
    simp only [List.set_cons_zero, List.set_cons_succ]
    refine wpAnyH_done (by kernel_rfl) ?_ _
    have hN : Hid (R = false) := by unfold Hid; rw [hR.out]; unfold fallB; rw [hF.out]; rfl
    go_wp2
    go_ret
    exact ⟨by rw [hN.out]; rfl, B0.trans ((hbv.trans (hb0.mono hbv.size)).mono B0.size)⟩
  · rw [hF] at eM
    replace hF : Hid _ := hF
    cases hG : decide (m.lg.length = 0)
    · have dG : ((m.lg.length : Int) == 0) = false := by rw [beq_eq_false_iff_ne]; have := of_decide_eq_false hG; omega
      replace hG : Hid _ := hG
      refine wp_region_held (S := fun Y => Below v.heap.size v Y) (by kernel_rfl) ?_
      change wpAnyH _ _ _ _ _ _ _ _ (World.drew _)
      have hb0 : Below v.heap.size v v.drew := (Below.refl _ _).drew
      obtain ⟨u0, hy0⟩ : ∃ y_, y_ = v.drew := ⟨_, rfl⟩
      rw [← hy0] at hb0 ⊢
      clear hy0
      refine takeW 0 11 (.pointer (some ⟨q1, 0, none⟩)) rfl rfl (by kernel_rfl) (by kernel_rfl) (by kernel_rfl) (fun _ _ _ h => h) (by kernel_rfl) (by (intro w hSw; go_simp)) (by assumption) ?_
      simp only [List.set_cons_zero, List.set_cons_succ]
      refine takeW 1 12 (.pointer (some ⟨q1, 0, none⟩)) rfl rfl (by kernel_rfl) (by kernel_rfl) (by kernel_rfl) (fun _ _ _ h => h) (by kernel_rfl) (by (intro w hSw; go_simp)) (by assumption) ?_
      simp only [List.set_cons_zero, List.set_cons_succ]
      refine takeW 2 13 (.pointer (some ⟨q1, 1, none⟩)) rfl rfl (by kernel_rfl) (by kernel_rfl) (by kernel_rfl) (fun _ _ _ h => h) (by kernel_rfl) (by (intro w hSw; go_simp)) (by assumption) ?_
      simp only [List.set_cons_zero, List.set_cons_succ]
      refine takeW 3 14 (.agg #[.bool m.up, .int .i64 m.li, .int .i64 m.ep, .int .i64 m.sd, .int .i64 m.ac, .int .i64 m.al]) rfl rfl (by kernel_rfl) (by kernel_rfl) (by kernel_rfl) (fun _ _ _ h => h) (by kernel_rfl) (by (intro Y hSw; obtain ⟨X0, X1, X2, X3, X4, X5, X6, XF⟩ := M1.below hSw M1.lt; go_simp)) (by assumption) ?_
      simp only [List.set_cons_zero, List.set_cons_succ]
      refine takeW 4 15 (.pointer (some ⟨q2, 0, none⟩)) rfl rfl (by kernel_rfl) (by kernel_rfl) (by kernel_rfl) (fun _ _ _ h => h) (by kernel_rfl) (by (intro w hSw; go_simp)) (by assumption) ?_
      simp only [List.set_cons_zero, List.set_cons_succ]
      refine takeW 5 16 (.pointer (some ⟨q2, 0, none⟩)) rfl rfl (by kernel_rfl) (by kernel_rfl) (by kernel_rfl) (fun _ _ _ h => h) (by kernel_rfl) (by (intro w hSw; go_simp)) (by assumption) ?_
      simp only [List.set_cons_zero, List.set_cons_succ]
      refine takeW 6 17 (.pointer (some ⟨q2, 1, none⟩)) rfl rfl (by kernel_rfl) (by kernel_rfl) (by kernel_rfl) (fun _ _ _ h => h) (by kernel_rfl) (by (intro w hSw; go_simp)) (by assumption) ?_
      simp only [List.set_cons_zero, List.set_cons_succ]
      refine takeW 7 18 (.agg #[.bool false, .int .i64 m.li, .int .i64 0, .int .i64 0, .int .i64 0, .int .i64 0]) rfl rfl (by kernel_rfl) (by kernel_rfl) (by kernel_rfl) (fun _ _ _ h => h) (by kernel_rfl) (by (intro Y hSw; obtain ⟨X0, X1, X2, X3, X4, X5, X6, XF⟩ := N2.below hSw N2.lt; go_simp)) (by assumption) ?_
      simp only [List.set_cons_zero, List.set_cons_succ]
      refine takeW 8 19 (.bool true) rfl rfl (by kernel_rfl) (by kernel_rfl) (by kernel_rfl) (fun _ _ _ h => h) (by kernel_rfl) (by (intro w hSw; go_simp)) (by assumption) ?_
      simp only [List.set_cons_zero, List.set_cons_succ]
      refine takeW 9 20 (.bool true) rfl rfl (by kernel_rfl) (by kernel_rfl) (by kernel_rfl) (fun _ _ _ h => h) (by kernel_rfl) (by (intro w hSw; go_simp)) (by assumption) ?_
      simp only [List.set_cons_zero, List.set_cons_succ]
      refine takeW 10 21 (.pointer (some ⟨q1, 0, none⟩)) rfl rfl (by kernel_rfl) (by kernel_rfl) (by kernel_rfl) (fun _ _ _ h => h) (by kernel_rfl) (by (intro w hSw; go_simp)) (by assumption) ?_
      simp only [List.set_cons_zero, List.set_cons_succ]
      refine takeW 11 22 (.pointer (some ⟨q1, 0, none⟩)) rfl rfl (by kernel_rfl) (by kernel_rfl) (by kernel_rfl) (fun _ _ _ h => h) (by kernel_rfl) (by (intro w hSw; go_simp)) (by assumption) ?_
      simp only [List.set_cons_zero, List.set_cons_succ]
      refine takeW 12 23 (.pointer (some ⟨q1, 0, none⟩)) rfl rfl (by kernel_rfl) (by kernel_rfl) (by kernel_rfl) (fun _ _ _ h => h) (by kernel_rfl) (by (intro w hSw; go_simp)) (by assumption) ?_
      simp only [List.set_cons_zero, List.set_cons_succ]
      refine takeW 14 25 (.pointer (some ⟨q2, 0, none⟩)) rfl rfl (by kernel_rfl) (by kernel_rfl) (by kernel_rfl) (fun _ _ _ h => h) (by kernel_rfl) (by (intro w hSw; go_simp)) (by assumption) ?_
      simp only [List.set_cons_zero, List.set_cons_succ]
      refine takeW 15 26 (.pointer (some ⟨q2, 0, none⟩)) rfl rfl (by kernel_rfl) (by kernel_rfl) (by kernel_rfl) (fun _ _ _ h => h) (by kernel_rfl) (by (intro w hSw; go_simp)) (by assumption) ?_
      simp only [List.set_cons_zero, List.set_cons_succ]
      refine takeW 16 27 (.pointer (some ⟨q2, 0, none⟩)) rfl rfl (by kernel_rfl) (by kernel_rfl) (by kernel_rfl) (fun _ _ _ h => h) (by kernel_rfl) (by (intro w hSw; go_simp)) (by assumption) ?_
      simp only [List.set_cons_zero, List.set_cons_succ]
      refine wpAnyH_all (rs := [13]) (by kernel_rfl) (by simp) ?_
      intro i hi; obtain rfl : i = 13 := by simpa using hi
      refine wpOp_step rfl (fun Kz hKz => ?_)
      rw [if_pos (by kernel_rfl)]
      go_simp
      go_at_call 78
      refine (countI q1 m.lg.length a1 c1 u0 (M1.below hb0 M1.lt).c0).mono ?_
      rintro e u1 ⟨rfl, kq⟩
      have hb1 : Below v.heap.size v u1 := by rw [kq]; exact hb0
      clear kq
      refine hKz _ _ ⟨hb1, ?_⟩
      clear hKz Kz hi
      refine wpAnyH_all (rs := [17]) (by kernel_rfl) (by simp) ?_
      intro i hi; obtain rfl : i = 17 := by simpa using hi
      refine wpOp_step rfl (fun Kz hKz => ?_)
      rw [if_pos (by kernel_rfl)]
      go_simp
      go_at_call 78
      refine (countI q2 0 a2 c2 u1 (N2.below hb1 N2.lt).c0).mono ?_
      rintro e u2 ⟨rfl, kq⟩
      have hb2 : Below v.heap.size v u2 := by rw [kq]; exact hb1
      clear kq
      refine hKz _ _ ⟨hb2, ?_⟩
      clear hKz Kz hi
      refine takeW 18 29 (.bool false) rfl rfl (by kernel_rfl) (by kernel_rfl) (by kernel_rfl) (fun _ _ _ h => h) (by kernel_rfl) (by (intro w hSw; go_simp)) (by assumption) ?_
      simp only [List.set_cons_zero, List.set_cons_succ]
      refine takeW 19 30 (.bool false) rfl rfl (by kernel_rfl) (by kernel_rfl) (by kernel_rfl) (fun _ _ _ h => h) (by kernel_rfl) (by (intro w hSw; go_simp)) (by assumption) ?_
      simp only [List.set_cons_zero, List.set_cons_succ]
      refine takeW 20 2 (.bool false) rfl rfl (by kernel_rfl) (by kernel_rfl) (by kernel_rfl) (fun _ _ _ h => h) (by kernel_rfl) (by (intro w hSw; go_simp)) (by assumption) ?_
      simp only [List.set_cons_zero, List.set_cons_succ]
      refine wpAnyH_done (by kernel_rfl) ?_ _
      have hN : Hid (R = false) := by unfold Hid; rw [hR.out]; unfold fallB; rw [hF.out, hG.out]; rfl
      go_wp2
      go_ret
      exact ⟨by rw [hN.out]; rfl, B0.trans ((hbv.trans (hb2.mono hbv.size)).mono B0.size)⟩
    · have dG : ((m.lg.length : Int) == 0) = true := by rw [beq_iff_eq]; have := of_decide_eq_true hG; omega
      replace hG : Hid _ := hG
      refine wp_region_held (S := fun Y => Below v.heap.size v Y) (by kernel_rfl) ?_
      change wpAnyH _ _ _ _ _ _ _ _ (World.drew _)
      have hb0 : Below v.heap.size v v.drew := (Below.refl _ _).drew
      obtain ⟨u0, hy0⟩ : ∃ y_, y_ = v.drew := ⟨_, rfl⟩
      rw [← hy0] at hb0 ⊢
      clear hy0
      refine takeW 0 11 (.pointer (some ⟨q1, 0, none⟩)) rfl rfl (by kernel_rfl) (by kernel_rfl) (by kernel_rfl) (fun _ _ _ h => h) (by kernel_rfl) (by (intro w hSw; go_simp)) (by assumption) ?_
      simp only [List.set_cons_zero, List.set_cons_succ]
      refine takeW 1 12 (.pointer (some ⟨q1, 0, none⟩)) rfl rfl (by kernel_rfl) (by kernel_rfl) (by kernel_rfl) (fun _ _ _ h => h) (by kernel_rfl) (by (intro w hSw; go_simp)) (by assumption) ?_
      simp only [List.set_cons_zero, List.set_cons_succ]
      refine takeW 2 13 (.pointer (some ⟨q1, 1, none⟩)) rfl rfl (by kernel_rfl) (by kernel_rfl) (by kernel_rfl) (fun _ _ _ h => h) (by kernel_rfl) (by (intro w hSw; go_simp)) (by assumption) ?_
      simp only [List.set_cons_zero, List.set_cons_succ]
      refine takeW 3 14 (.agg #[.bool m.up, .int .i64 m.li, .int .i64 m.ep, .int .i64 m.sd, .int .i64 m.ac, .int .i64 m.al]) rfl rfl (by kernel_rfl) (by kernel_rfl) (by kernel_rfl) (fun _ _ _ h => h) (by kernel_rfl) (by (intro Y hSw; obtain ⟨X0, X1, X2, X3, X4, X5, X6, XF⟩ := M1.below hSw M1.lt; go_simp)) (by assumption) ?_
      simp only [List.set_cons_zero, List.set_cons_succ]
      refine takeW 4 15 (.pointer (some ⟨q2, 0, none⟩)) rfl rfl (by kernel_rfl) (by kernel_rfl) (by kernel_rfl) (fun _ _ _ h => h) (by kernel_rfl) (by (intro w hSw; go_simp)) (by assumption) ?_
      simp only [List.set_cons_zero, List.set_cons_succ]
      refine takeW 5 16 (.pointer (some ⟨q2, 0, none⟩)) rfl rfl (by kernel_rfl) (by kernel_rfl) (by kernel_rfl) (fun _ _ _ h => h) (by kernel_rfl) (by (intro w hSw; go_simp)) (by assumption) ?_
      simp only [List.set_cons_zero, List.set_cons_succ]
      refine takeW 6 17 (.pointer (some ⟨q2, 1, none⟩)) rfl rfl (by kernel_rfl) (by kernel_rfl) (by kernel_rfl) (fun _ _ _ h => h) (by kernel_rfl) (by (intro w hSw; go_simp)) (by assumption) ?_
      simp only [List.set_cons_zero, List.set_cons_succ]
      refine takeW 7 18 (.agg #[.bool false, .int .i64 m.li, .int .i64 0, .int .i64 0, .int .i64 0, .int .i64 0]) rfl rfl (by kernel_rfl) (by kernel_rfl) (by kernel_rfl) (fun _ _ _ h => h) (by kernel_rfl) (by (intro Y hSw; obtain ⟨X0, X1, X2, X3, X4, X5, X6, XF⟩ := N2.below hSw N2.lt; go_simp)) (by assumption) ?_
      simp only [List.set_cons_zero, List.set_cons_succ]
      refine takeW 8 19 (.bool true) rfl rfl (by kernel_rfl) (by kernel_rfl) (by kernel_rfl) (fun _ _ _ h => h) (by kernel_rfl) (by (intro w hSw; go_simp)) (by assumption) ?_
      simp only [List.set_cons_zero, List.set_cons_succ]
      refine takeW 9 20 (.bool true) rfl rfl (by kernel_rfl) (by kernel_rfl) (by kernel_rfl) (fun _ _ _ h => h) (by kernel_rfl) (by (intro w hSw; go_simp)) (by assumption) ?_
      simp only [List.set_cons_zero, List.set_cons_succ]
      refine takeW 10 21 (.pointer (some ⟨q1, 0, none⟩)) rfl rfl (by kernel_rfl) (by kernel_rfl) (by kernel_rfl) (fun _ _ _ h => h) (by kernel_rfl) (by (intro w hSw; go_simp)) (by assumption) ?_
      simp only [List.set_cons_zero, List.set_cons_succ]
      refine takeW 11 22 (.pointer (some ⟨q1, 0, none⟩)) rfl rfl (by kernel_rfl) (by kernel_rfl) (by kernel_rfl) (fun _ _ _ h => h) (by kernel_rfl) (by (intro w hSw; go_simp)) (by assumption) ?_
      simp only [List.set_cons_zero, List.set_cons_succ]
      refine takeW 12 23 (.pointer (some ⟨q1, 0, none⟩)) rfl rfl (by kernel_rfl) (by kernel_rfl) (by kernel_rfl) (fun _ _ _ h => h) (by kernel_rfl) (by (intro w hSw; go_simp)) (by assumption) ?_
      simp only [List.set_cons_zero, List.set_cons_succ]
      refine takeW 14 25 (.pointer (some ⟨q2, 0, none⟩)) rfl rfl (by kernel_rfl) (by kernel_rfl) (by kernel_rfl) (fun _ _ _ h => h) (by kernel_rfl) (by (intro w hSw; go_simp)) (by assumption) ?_
      simp only [List.set_cons_zero, List.set_cons_succ]
      refine takeW 15 26 (.pointer (some ⟨q2, 0, none⟩)) rfl rfl (by kernel_rfl) (by kernel_rfl) (by kernel_rfl) (fun _ _ _ h => h) (by kernel_rfl) (by (intro w hSw; go_simp)) (by assumption) ?_
      simp only [List.set_cons_zero, List.set_cons_succ]
      refine takeW 16 27 (.pointer (some ⟨q2, 0, none⟩)) rfl rfl (by kernel_rfl) (by kernel_rfl) (by kernel_rfl) (fun _ _ _ h => h) (by kernel_rfl) (by (intro w hSw; go_simp)) (by assumption) ?_
      simp only [List.set_cons_zero, List.set_cons_succ]
      refine wpAnyH_all (rs := [13]) (by kernel_rfl) (by simp) ?_
      intro i hi; obtain rfl : i = 13 := by simpa using hi
      refine wpOp_step rfl (fun Kz hKz => ?_)
      rw [if_pos (by kernel_rfl)]
      go_simp
      go_at_call 78
      refine (countI q1 m.lg.length a1 c1 u0 (M1.below hb0 M1.lt).c0).mono ?_
      rintro e u1 ⟨rfl, kq⟩
      have hb1 : Below v.heap.size v u1 := by rw [kq]; exact hb0
      clear kq
      refine hKz _ _ ⟨hb1, ?_⟩
      clear hKz Kz hi
      refine wpAnyH_all (rs := [17]) (by kernel_rfl) (by simp) ?_
      intro i hi; obtain rfl : i = 17 := by simpa using hi
      refine wpOp_step rfl (fun Kz hKz => ?_)
      rw [if_pos (by kernel_rfl)]
      go_simp
      go_at_call 78
      refine (countI q2 0 a2 c2 u1 (N2.below hb1 N2.lt).c0).mono ?_
      rintro e u2 ⟨rfl, kq⟩
      have hb2 : Below v.heap.size v u2 := by rw [kq]; exact hb1
      clear kq
      refine hKz _ _ ⟨hb2, ?_⟩
      clear hKz Kz hi
      refine takeW 18 29 (.bool true) rfl rfl (by kernel_rfl) (by kernel_rfl) (by kernel_rfl) (fun _ _ _ h => h) (by kernel_rfl) (by (intro w hSw; go_simp)) (by assumption) ?_
      simp only [List.set_cons_zero, List.set_cons_succ]
      refine takeW 19 30 (.bool true) rfl rfl (by kernel_rfl) (by kernel_rfl) (by kernel_rfl) (fun _ _ _ h => h) (by kernel_rfl) (by (intro w hSw; go_simp)) (by assumption) ?_
      simp only [List.set_cons_zero, List.set_cons_succ]
      refine takeW 20 2 (.bool true) rfl rfl (by kernel_rfl) (by kernel_rfl) (by kernel_rfl) (fun _ _ _ h => h) (by kernel_rfl) (by (intro w hSw; go_simp)) (by assumption) ?_
      simp only [List.set_cons_zero, List.set_cons_succ]
      refine wpAnyH_done (by kernel_rfl) ?_ _
      have hN : Hid (R = true) := by unfold Hid; rw [hR.out]; unfold fallB; rw [hF.out, hG.out]; rfl
      go_wp2
      go_ret
      exact ⟨by rw [hN.out]; rfl, B0.trans ((hbv.trans (hb2.mono hbv.size)).mono B0.size)⟩
theorem miOk_is (m : Mi) : miOk m = (fitsM m && (m.up || fallB m)) := by
  obtain ⟨up, li, ep, L, sd, ac, al⟩ := m
  unfold miOk fitsM fallB insB
  dsimp only
  rw [Bool.eq_iff_iff]
  cases up
  · simp only [Bool.and_eq_true, Bool.or_eq_true, decide_eq_true_eq]
    constructor
    · rintro ⟨h1, h2, h3, ⟨h4, h5⟩, h6, h7, h8⟩
      rcases h8 with h8 | ⟨h8, h9, h10⟩
      · cases h8
      · exact ⟨⟨h1, h2, h3, by omega, h4, h6, h7⟩, .inr ⟨⟨trivial, h8, by omega, by omega, h10⟩, h9⟩⟩
    · rintro ⟨⟨h1, h2, h3, h4, h5, h6, h7⟩, h8⟩
      rcases h8 with h8 | ⟨⟨_, h8, h9, h10, h11⟩, h12⟩
      · cases h8
      · exact ⟨h1, h2, h3, ⟨h5, by omega⟩, h6, h7, .inr ⟨h8, h12, h11⟩⟩
  · simp only [Bool.and_eq_true, Bool.true_or, Bool.and_true, decide_eq_true_eq]
    constructor
    · rintro ⟨h1, h2, h3, ⟨h4, h5⟩, h6, h7⟩
      exact ⟨h1, h2, h3, by omega, h4, h6, h7⟩
    · rintro ⟨h1, h2, h3, h4, h5, h6, h7⟩
      exact ⟨h1, h2, h3, ⟨h5, by omega⟩, h6, h7⟩
set_option maxHeartbeats 2000000 in
theorem miOkI (m : Mi) (ad : Option Addr) (cap : Nat) (w : World) (hv : FView ikEnc w ad m.lg) (hl : m.lg.length ≤ 1048577) :
    Calls Try.prog 64 #[.agg #[.bool m.up, .int .i64 m.li, .int .i64 m.ep, .slice ad m.lg.length cap, .int .i64 m.sd, .int .i64 m.ac, .int .i64 m.al]] w fun e w' => e = .returned (.bool (miOk m)) ∧ Below w.heap.size w w' := by
  have hB := hv.lt ikEnc_len (by omega)
  obtain ⟨R, hR⟩ : ∃ R, R = miOk m := ⟨_, rfl⟩
  rw [← hR]
  rw [miOk_is] at hR
  replace hR : Hid _ := hR
  obtain ⟨y, hy⟩ : ∃ y, y = w.alloc (Obj.cells #[.bool m.up, .int .i64 m.li, .int .i64 m.ep, .slice ad m.lg.length cap, .int .i64 m.sd, .int .i64 m.ac, .int .i64 m.al] 49) := ⟨_, rfl⟩
  have B0 : Below w.heap.size w y := by rw [hy]; exact below_new _
  have A : MiAt y w.heap.size m (.slice ad m.lg.length cap) := by rw [hy]; exact MiAt.new w _ _ _
  have S0 := A.lt
  have hv1 := hv.below B0 hB
  clear hv
  go_enter Try.func64, Try.ntmps64
  go_wp2_with fail
  go_at_call 71
  rw [← hy]
  clear hy
  refine (mindOf m ad cap y hv1 hl).mono ?_
  rintro e u1 ⟨q, a1, c1, rfl, M1, O1, _, _, k1⟩
  have hb1 := B0.trans (k1.mono B0.size)
  have A := A.below k1 A.lt
  have hv1 := hv1.below k1 (hv1.lt ikEnc_len (by omega))
  clear k1
  go_wp2_with fail
  go_at_call 72
  refine (fitsI m q a1 c1 u1 M1 O1.view.2 hl).mono ?_
  rintro e u2 ⟨rfl, k2⟩
  have hb2 := hb1.trans (k2.mono hb1.size)
  have A := A.below k2 A.lt
  have hv1 := hv1.below k2 (hv1.lt ikEnc_len (by omega))
  clear k2 hb1 M1 O1
  cases hF : fitsM m
  · have hN : Hid (R = false) := by unfold Hid; rw [hR.out, hF]; rfl
    clear hF
    go_wp2
    go_ret
    exact ⟨by rw [hN.out]; rfl, hb2⟩
  · cases hU : m.up
    · have hN : Hid (R = fallB m) := by unfold Hid; rw [hR.out, hF, hU]; rfl
      clear hF
      have cc := A
      obtain ⟨x0, x1, x2, x3, x4, x5, x6⟩ := cc
      rw [hU] at x0
      go_wp2_with fail
      go_at_call 73
      clear x0 x1 x2 x3 x4 x5 x6
      rw [← hU]
      refine (fallenI m ad cap u2 hv1 hl).mono ?_
      rintro e u3 ⟨rfl, k3⟩
      have hb3 := hb2.trans (k3.mono hb2.size)
      rw [← hN.out]
      go_wp2
      go_ret
      exact ⟨rfl, hb3⟩
    · have hN : Hid (R = true) := by unfold Hid; rw [hR.out, hF, hU]; rfl
      clear hF
      obtain ⟨x0, x1, x2, x3, x4, x5, x6⟩ := A
      rw [hU] at x0
      go_wp2
      go_ret
      exact ⟨by rw [hN.out]; rfl, hb2⟩

end Go.Proofs.Ytnpiljegdiconab
namespace Go.Proofs.Ytnpiljegdiconab
open Go.ChangeShapes Go.WideShapes Go.ChangeAt Go.RowKit
open Go.ChangeMaps (open_string shut_string)
set_option linter.unusedVariables false
set_option maxRecDepth 100000

theorem noMiI (m : Mi) (ad : Option Addr) (cap : Nat) (w : World) (hv : FView ikEnc w ad m.lg) (hl : m.lg.length ≤ 1048577) : Calls Try.prog 53 #[.agg #[.bool m.up, .int .i64 m.li, .int .i64 m.ep, .slice ad m.lg.length cap, .int .i64 m.sd, .int .i64 m.ac, .int .i64 m.al]] w fun e w' => e = .returned (.bool (!miOk m)) ∧ Below w.heap.size w w' := by
  obtain ⟨y, hy⟩ : ∃ y, y = w.alloc (Obj.cells #[.bool m.up, .int .i64 m.li, .int .i64 m.ep, .slice ad m.lg.length cap, .int .i64 m.sd, .int .i64 m.ac, .int .i64 m.al] 49) := ⟨_, rfl⟩
  have B0 : Below w.heap.size w y := by rw [hy]; exact below_new _
  obtain ⟨o, ho⟩ : ∃ o, o = miOk m := ⟨_, rfl⟩
  rw [← ho]
  replace ho : Hid _ := ho
  go_enter Try.func53, Try.ntmps53
  go_wp2_with fail
  go_at_call 64
  rw [← hy]
  clear hy
  refine (miOkI m ad cap y (hv.below B0 (hv.lt ikEnc_len (by omega))) hl).mono ?_
  rintro e w1 ⟨rfl, k1⟩
  have B1 := B0.trans (k1.mono B0.size)
  rw [← ho.out]
  go_wp2
  go_ret
  exact ⟨rfl, B1⟩
theorem noInI (x : Ik) (w : World) : Calls Try.prog 57 #[.agg #[.int .i64 x.k, .int .i64 x.q, .int .i64 x.r, .int .i64 x.c, .int .i64 x.b, .int .i64 x.p, .int .i64 x.h, .bool x.up]] w fun e w' => e = .returned (.bool (!inOk x)) ∧ Below w.heap.size w w' := by
  obtain ⟨y, hy⟩ : ∃ y, y = w.alloc (Obj.cells #[.int .i64 x.k, .int .i64 x.q, .int .i64 x.r, .int .i64 x.c, .int .i64 x.b, .int .i64 x.p, .int .i64 x.h, .bool x.up] 78) := ⟨_, rfl⟩
  have B0 : Below w.heap.size w y := by rw [hy]; exact below_new _
  obtain ⟨o, ho⟩ : ∃ o, o = inOk x := ⟨_, rfl⟩
  rw [← ho]
  replace ho : Hid _ := ho
  go_enter Try.func57, Try.ntmps57
  go_wp2_with fail
  go_at_call 68
  rw [← hy]
  clear hy
  refine (inOkI x y).mono ?_
  rintro e w1 ⟨rfl, k1⟩
  have B1 := B0.trans (k1.mono B0.size)
  rw [← ho.out]
  go_wp2
  go_ret
  exact ⟨rfl, B1⟩
theorem eqInZ (x : Ik) (w : World) : (binOp .eql 78 (.agg #[.int .i64 x.k, .int .i64 x.q, .int .i64 x.r, .int .i64 x.c, .int .i64 x.b, .int .i64 x.p, .int .i64 x.h, .bool x.up]) (.agg #[.int .i64 0, .int .i64 0, .int .i64 0, .int .i64 0, .int .i64 0, .int .i64 0, .int .i64 0, .bool false])).run Try.prog w = .ok (.bool (inNil x)) w := by
  unfold inNil
  go_simp
  all_goals ((repeat' split) <;> first | (simp_all; done) | grind)
set_option maxHeartbeats 1000000 in
theorem loadFI (x : Wi) (w : World) : Calls Try.prog 66 #[.agg #[.int .i64 x.fr, .bool x.ak, .int .i64 x.li, .int .i64 x.n, .int .i64 x.x.k, .int .i64 x.x.q, .int .i64 x.x.r, .int .i64 x.x.c, .int .i64 x.x.b, .int .i64 x.x.p, .int .i64 x.x.h, .bool x.x.up]] w fun e w' => e = .returned (.bool (if x.ak then inNil x.x else inOk x.x)) ∧ Below w.heap.size w w' := by
  obtain ⟨y, hy⟩ : ∃ y, y = w.alloc (Obj.cells #[.int .i64 x.fr, .bool x.ak, .int .i64 x.li, .int .i64 x.n, .int .i64 x.x.k, .int .i64 x.x.q, .int .i64 x.x.r, .int .i64 x.x.c, .int .i64 x.x.b, .int .i64 x.x.p, .int .i64 x.x.h, .bool x.x.up] 80) := ⟨_, rfl⟩
  have B0 : Below w.heap.size w y := by rw [hy]; exact below_new _
  have U : WiAt y w.heap.size x := by rw [hy]; exact WiAt.new w _ x
  have eI := eqInZ x.x
  obtain ⟨R, hR⟩ : ∃ R, R = (if x.ak then inNil x.x else inOk x.x) := ⟨_, rfl⟩
  rw [← hR]
  replace hR : Hid _ := hR
  obtain ⟨c0, c1, c2, c3, c4, c5, c6, c7, c8, c9, c10, c11⟩ := U
  go_enter Try.func66, Try.ntmps66
  go_upto_region 1 with fail
  rw [← hy]
  clear hy
  cases h : x.ak
  · have hN : Hid (R = inOk x.x) := by unfold Hid; rw [hR.out, h]; rfl
    rw [h] at c1
    replace h : Hid _ := h
    go_wp2_with fail
    go_at_call 68
    refine (inOkI x.x y).mono ?_
    rintro e u1 ⟨rfl, k1⟩
    go_wp2
    go_ret
    exact ⟨by rw [hN.out]; rfl, B0.trans (k1.mono B0.size)⟩
  · have hN : Hid (R = inNil x.x) := by unfold Hid; rw [hR.out, h]; rfl
    rw [h] at c1
    replace h : Hid _ := h
    go_wp2
    go_ret
    exact ⟨by rw [hN.out]; rfl, B0⟩
set_option maxHeartbeats 2000000 in
theorem noWiI (x : Wi) (w : World) : Calls Try.prog 55 #[.agg #[.int .i64 x.fr, .bool x.ak, .int .i64 x.li, .int .i64 x.n, .int .i64 x.x.k, .int .i64 x.x.q, .int .i64 x.x.r, .int .i64 x.x.c, .int .i64 x.x.b, .int .i64 x.x.p, .int .i64 x.x.h, .bool x.x.up]] w fun e w' => e = .returned (.bool (!wiOk x)) ∧ Below w.heap.size w w' := by
  obtain ⟨y, hy⟩ : ∃ y, y = w.alloc (Obj.cells #[.int .i64 x.fr, .bool x.ak, .int .i64 x.li, .int .i64 x.n, .int .i64 x.x.k, .int .i64 x.x.q, .int .i64 x.x.r, .int .i64 x.x.c, .int .i64 x.x.b, .int .i64 x.x.p, .int .i64 x.x.h, .bool x.x.up] 80) := ⟨_, rfl⟩
  have B0 : Below w.heap.size w y := by rw [hy]; exact below_new _
  have U : WiAt y w.heap.size x := by rw [hy]; exact WiAt.new w _ x
  obtain ⟨R, hR⟩ : ∃ R, R = (!wiOk x) := ⟨_, rfl⟩
  rw [← hR]
  replace hR : Hid _ := hR
  obtain ⟨c0, c1, c2, c3, c4, c5, c6, c7, c8, c9, c10, c11⟩ := U
  go_enter Try.func55, Try.ntmps55
  go_upto_region 1 with fail
  rw [← hy]
  clear hy
  by_cases e1 : x.fr = 0
  · have d1 : (x.fr == 0) = true := by simpa using e1
    have b1 : (x.fr != 0) = false := by simpa using e1
    have hfr : Hid (decide (0 ≤ x.fr ∧ x.fr ≤ 1) = true) := decide_eq_true (by omega)
    replace e1 : Hid _ := e1
    go_wp2_with fail
    go_at_call 62
    refine (numFitsI x.li y).mono ?_
    rintro e w1 ⟨rfl, hw_⟩
    rw [hw_]
    clear hw_
    cases h1 : numB x.li
    · have hN : Hid (R = true) := by unfold Hid; rw [hR.out]; unfold wiOk; rw [hfr.out, h1]; rfl
      clear h1
      go_wp2
      go_ret
      exact ⟨by rw [hN.out]; rfl, B0⟩
    · replace h1 : Hid _ := h1
      go_wp2_with fail
      go_at_call 62
      refine (numFitsI x.n y).mono ?_
      rintro e w1 ⟨rfl, hw_⟩
      rw [hw_]
      clear hw_
      cases h2 : numB x.n
      · have hN : Hid (R = true) := by unfold Hid; rw [hR.out]; unfold wiOk; rw [hfr.out, h1.out, h2]; rfl
        clear h2
        go_wp2
        go_ret
        exact ⟨by rw [hN.out]; rfl, B0⟩
      · replace h2 : Hid _ := h2
        have hN : Hid (R = !(if x.ak then inNil x.x else inOk x.x)) := by unfold Hid; rw [hR.out]; unfold wiOk; rw [hfr.out, h1.out, h2.out]; rfl
        go_wp2_with fail
        go_at_call 66
        refine (loadFI x y).mono ?_
        rintro e u1 ⟨rfl, k1⟩
        obtain ⟨o, ho⟩ : ∃ o, o = (if x.ak then inNil x.x else inOk x.x) := ⟨_, rfl⟩
        rw [← ho] at hN ⊢
        clear ho
        go_wp2
        go_ret
        exact ⟨by rw [hN.out]; rfl, B0.trans (k1.mono B0.size)⟩
  · have d1 : (x.fr == 0) = false := by simpa using e1
    have b1 : (x.fr != 0) = true := by simpa using e1
    by_cases e2 : x.fr = 1
    · have d2 : (x.fr == 1) = true := by simpa using e2
      have b2 : (x.fr != 1) = false := by simpa using e2
      have hfr : Hid (decide (0 ≤ x.fr ∧ x.fr ≤ 1) = true) := decide_eq_true (by omega)
      replace e1 : Hid _ := e1
      replace e2 : Hid _ := e2
      go_wp2_with fail
      go_at_call 62
      refine (numFitsI x.li y).mono ?_
      rintro e w1 ⟨rfl, hw_⟩
      rw [hw_]
      clear hw_
      cases h1 : numB x.li
      · have hN : Hid (R = true) := by unfold Hid; rw [hR.out]; unfold wiOk; rw [hfr.out, h1]; rfl
        clear h1
        go_wp2
        go_ret
        exact ⟨by rw [hN.out]; rfl, B0⟩
      · replace h1 : Hid _ := h1
        go_wp2_with fail
        go_at_call 62
        refine (numFitsI x.n y).mono ?_
        rintro e w1 ⟨rfl, hw_⟩
        rw [hw_]
        clear hw_
        cases h2 : numB x.n
        · have hN : Hid (R = true) := by unfold Hid; rw [hR.out]; unfold wiOk; rw [hfr.out, h1.out, h2]; rfl
          clear h2
          go_wp2
          go_ret
          exact ⟨by rw [hN.out]; rfl, B0⟩
        · replace h2 : Hid _ := h2
          have hN : Hid (R = !(if x.ak then inNil x.x else inOk x.x)) := by unfold Hid; rw [hR.out]; unfold wiOk; rw [hfr.out, h1.out, h2.out]; rfl
          go_wp2_with fail
          go_at_call 66
          refine (loadFI x y).mono ?_
          rintro e u1 ⟨rfl, k1⟩
          obtain ⟨o, ho⟩ : ∃ o, o = (if x.ak then inNil x.x else inOk x.x) := ⟨_, rfl⟩
          rw [← ho] at hN ⊢
          clear ho
          go_wp2
          go_ret
          exact ⟨by rw [hN.out]; rfl, B0.trans (k1.mono B0.size)⟩
    · have d2 : (x.fr == 1) = false := by simpa using e2
      have b2 : (x.fr != 1) = true := by simpa using e2
      have hN : Hid (R = true) := by unfold Hid; rw [hR.out]; unfold wiOk; rw [decide_eq_false (show ¬ (0 ≤ x.fr ∧ x.fr ≤ 1) by omega)]; rfl
      replace e1 : Hid _ := e1
      replace e2 : Hid _ := e2
      go_wp2
      go_ret
      exact ⟨by rw [hN.out]; rfl, B0⟩

end Go.Proofs.Ytnpiljegdiconab
namespace Go.Proofs.Ytnpiljegdiconab
open Go.ChangeShapes Go.WideShapes Go.ChangeAt Go.RowKit
open Go.ChangeMaps (open_string shut_string)
set_option linter.unusedVariables false
set_option maxRecDepth 100000

theorem allK_no {X : Type} {p : X → Bool} {L : List X} (d : X) {k : Nat} (h : k < L.length) (hq : p (L.getD k d) = false) : L.all p = false := by
  rw [Bool.eq_false_iff]
  intro e
  have := List.all_eq_true.1 e (L.getD k d) (by simp [List.getD, h])
  rw [hq] at this
  cases this
theorem allK_yes {X : Type} {p : X → Bool} {L : List X} (d : X) (h : ∀ j, j < L.length → p (L.getD j d) = true) : L.all p = true := by
  rw [List.all_eq_true]
  intro x hx
  obtain ⟨i, hi, rfl⟩ := List.mem_iff_getElem.1 hx
  have := h i hi
  rwa [show L.getD i d = L[i] by simp [List.getD, hi]] at this
set_option maxHeartbeats 1000000 in
theorem idxMi (ad : Option Addr) (cap : Nat) (L : List MiD) (w : World) (hv : FView mdEnc w ad L) (hl : L.length ≤ 1048576) (hn : ∀ i, i < L.length → FView ikEnc w (L.getD i MiD.nil).ad (L.getD i MiD.nil).m.lg) (hm : ∀ i, i < L.length → (L.getD i MiD.nil).m.lg.length ≤ 1048576) :
    Calls Try.prog 63 #[.slice ad L.length cap, .func (Fn.func 53) #[] #[]] w fun e w' => (∃ r : Int, e = .returned (.int .i64 r) ∧ (decide (0 ≤ r) = !L.all (fun d => miOk d.m)) ∧ r ≤ 1048576 ∧ -1 ≤ r) ∧ Below w.heap.size w w' := by
  have hB := hv.lt mdEnc_len (by omega)
  go_enter Try.func63, Try.ntmps63
  go_wp2
  go_loopw [8] (fun i wr => ∃ k : Nat, i = .int .i64 (k : Int) ∧ k ≤ L.length ∧ Hid (∀ j, j < k → (fun d => miOk d.m) (L.getD j MiD.nil) = true) ∧ Below w.heap.size w wr) (fun i _ => L.length - (intOf i).toNat)
  case atStart => exact ⟨0, rfl, Nat.zero_le _, fun j hj => absurd hj (by omega), Below.refl _ _⟩
  case round =>
    obtain ⟨k, rfl, hk, hF, hb⟩ := hrel
    by_cases hlt : k < L.length
    · obtain ⟨b, off, rfl, _⟩ := hv (by omega)
      obtain ⟨h, hh⟩ : ∃ h, L.getD k MiD.nil = h := ⟨_, rfl⟩
      have hck : MdAtO wr b (off + k * 7) h := by
        rw [← hh]
        exact mdAtO_of ((hv.below hb hB).at_ mdEnc_len MiD.nil hlt)
      have hvw : FView ikEnc wr h.ad h.m.lg := by rw [← hh]; exact (hn k hlt).below hb ((hn k hlt).lt ikEnc_len (by omega))
      have hlw : h.m.lg.length ≤ 1048577 := by rw [← hh]; exact Nat.le_trans (hm k hlt) (by omega)
      clear hn hm
      obtain ⟨c0, c1, c2, c3, c4, c5, c6⟩ := hck
      replace hh : Hid _ := hh
      clear hB hv
      go_wp2_with fail
      go_at_call 53
      refine (noMiI h.m h.ad h.cap wr hvw hlw).mono ?_
      rintro e w3 ⟨rfl, k3⟩
      have b3 := hb.trans (k3.mono hb.size)
      by_cases hq : miOk h.m = true
      · rw [hq]
        go_wp2
        go_roundw
        case rel =>
          refine ⟨k + 1, by go_num, by omega, fun j hj => ?_, b3⟩
          by_cases e : j = k
          · rw [e, hh.out]; exact hq
          · exact hF.out j (by omega)
        case measure => simp [intOf]; omega
      · have hq' : miOk h.m = false := by simpa using hq
        rw [hq']
        go_wp2
        go_ret
        refine ⟨⟨k, rfl, ?_, by omega, by omega⟩, b3⟩
        rw [allK_no MiD.nil hlt (by rw [hh.out]; exact hq')]
        simp
    · obtain rfl : k = L.length := by omega
      go_wp2
      go_ret
      refine ⟨⟨-1, rfl, ?_, by omega, by omega⟩, hb⟩
      rw [allK_yes MiD.nil hF.out]
      rfl
theorem contMi (ad : Option Addr) (cap : Nat) (L : List MiD) (w : World) (hv : FView mdEnc w ad L) (hl : L.length ≤ 1048576) (hn : ∀ i, i < L.length → FView ikEnc w (L.getD i MiD.nil).ad (L.getD i MiD.nil).m.lg) (hm : ∀ i, i < L.length → (L.getD i MiD.nil).m.lg.length ≤ 1048576) :
    Calls Try.prog 52 #[.slice ad L.length cap, .func (Fn.func 53) #[] #[]] w fun e w' => e = .returned (.bool (!L.all (fun d => miOk d.m))) ∧ Below w.heap.size w w' := by
  have hI := idxMi ad cap L w hv hl hn hm
  generalize (!L.all (fun d => miOk d.m)) = B at *
  go_enter Try.func52, Try.ntmps52
  go_wp2_with fail
  go_at_call 63
  refine hI.mono ?_
  rintro e w1 ⟨⟨r, rfl, hr, r1, r2⟩, k1⟩
  go_wp2
  go_ret
  exact ⟨rfl, k1⟩
set_option maxHeartbeats 1000000 in
theorem idxWi (ad : Option Addr) (cap : Nat) (L : List Wi) (w : World) (hv : FView wiEnc w ad L) (hl : L.length ≤ 1048576) :
    Calls Try.prog 65 #[.slice ad L.length cap, .func (Fn.func 55) #[] #[]] w fun e w' => (∃ r : Int, e = .returned (.int .i64 r) ∧ (decide (0 ≤ r) = !L.all wiOk) ∧ r ≤ 1048576 ∧ -1 ≤ r) ∧ Below w.heap.size w w' := by
  have hB := hv.lt wiEnc_len (by omega)
  go_enter Try.func65, Try.ntmps65
  go_wp2
  go_loopw [8] (fun i wr => ∃ k : Nat, i = .int .i64 (k : Int) ∧ k ≤ L.length ∧ Hid (∀ j, j < k → wiOk (L.getD j Wi.nil) = true) ∧ Below w.heap.size w wr) (fun i _ => L.length - (intOf i).toNat)
  case atStart => exact ⟨0, rfl, Nat.zero_le _, fun j hj => absurd hj (by omega), Below.refl _ _⟩
  case round =>
    obtain ⟨k, rfl, hk, hF, hb⟩ := hrel
    by_cases hlt : k < L.length
    · obtain ⟨b, off, rfl, _⟩ := hv (by omega)
      obtain ⟨h, hh⟩ : ∃ h, L.getD k Wi.nil = h := ⟨_, rfl⟩
      have hck : WiAtO wr b (off + k * 12) h := by
        rw [← hh]
        exact wiAtO_of ((hv.below hb hB).at_ wiEnc_len Wi.nil hlt)
      obtain ⟨c0, c1, c2, c3, c4, c5, c6, c7, c8, c9, c10, c11⟩ := hck
      replace hh : Hid _ := hh
      clear hB hv
      go_wp2_with fail
      go_at_call 55
      refine (noWiI h wr).mono ?_
      rintro e w3 ⟨rfl, k3⟩
      have b3 := hb.trans (k3.mono hb.size)
      by_cases hq : wiOk h = true
      · rw [hq]
        go_wp2
        go_roundw
        case rel =>
          refine ⟨k + 1, by go_num, by omega, fun j hj => ?_, b3⟩
          by_cases e : j = k
          · rw [e, hh.out]; exact hq
          · exact hF.out j (by omega)
        case measure => simp [intOf]; omega
      · have hq' : wiOk h = false := by simpa using hq
        rw [hq']
        go_wp2
        go_ret
        refine ⟨⟨k, rfl, ?_, by omega, by omega⟩, b3⟩
        rw [allK_no Wi.nil hlt (by rw [hh.out]; exact hq')]
        simp
    · obtain rfl : k = L.length := by omega
      go_wp2
      go_ret
      refine ⟨⟨-1, rfl, ?_, by omega, by omega⟩, hb⟩
      rw [allK_yes Wi.nil hF.out]
      rfl
theorem contWi (ad : Option Addr) (cap : Nat) (L : List Wi) (w : World) (hv : FView wiEnc w ad L) (hl : L.length ≤ 1048576) :
    Calls Try.prog 54 #[.slice ad L.length cap, .func (Fn.func 55) #[] #[]] w fun e w' => e = .returned (.bool (!L.all wiOk)) ∧ Below w.heap.size w w' := by
  have hI := idxWi ad cap L w hv hl
  generalize (!L.all wiOk) = B at *
  go_enter Try.func54, Try.ntmps54
  go_wp2_with fail
  go_at_call 65
  refine hI.mono ?_
  rintro e w1 ⟨⟨r, rfl, hr, r1, r2⟩, k1⟩
  go_wp2
  go_ret
  exact ⟨rfl, k1⟩
set_option maxHeartbeats 1000000 in
theorem idxIn (ad : Option Addr) (cap : Nat) (L : List Ik) (w : World) (hv : FView ikEnc w ad L) (hl : L.length ≤ 1048576) :
    Calls Try.prog 67 #[.slice ad L.length cap, .func (Fn.func 57) #[] #[]] w fun e w' => (∃ r : Int, e = .returned (.int .i64 r) ∧ (decide (0 ≤ r) = !L.all inOk) ∧ r ≤ 1048576 ∧ -1 ≤ r) ∧ Below w.heap.size w w' := by
  have hB := hv.lt ikEnc_len (by omega)
  go_enter Try.func67, Try.ntmps67
  go_wp2
  go_loopw [8] (fun i wr => ∃ k : Nat, i = .int .i64 (k : Int) ∧ k ≤ L.length ∧ Hid (∀ j, j < k → inOk (L.getD j Ik.nil) = true) ∧ Below w.heap.size w wr) (fun i _ => L.length - (intOf i).toNat)
  case atStart => exact ⟨0, rfl, Nat.zero_le _, fun j hj => absurd hj (by omega), Below.refl _ _⟩
  case round =>
    obtain ⟨k, rfl, hk, hF, hb⟩ := hrel
    by_cases hlt : k < L.length
    · obtain ⟨b, off, rfl, _⟩ := hv (by omega)
      obtain ⟨h, hh⟩ : ∃ h, L.getD k Ik.nil = h := ⟨_, rfl⟩
      have hck : IkAtO wr b (off + k * 8) h := by
        rw [← hh]
        exact ikAtO_of ((hv.below hb hB).at_ ikEnc_len Ik.nil hlt)
      obtain ⟨c0, c1, c2, c3, c4, c5, c6, c7⟩ := hck
      replace hh : Hid _ := hh
      clear hB hv
      go_wp2_with fail
      go_at_call 57
      refine (noInI h wr).mono ?_
      rintro e w3 ⟨rfl, k3⟩
      have b3 := hb.trans (k3.mono hb.size)
      by_cases hq : inOk h = true
      · rw [hq]
        go_wp2
        go_roundw
        case rel =>
          refine ⟨k + 1, by go_num, by omega, fun j hj => ?_, b3⟩
          by_cases e : j = k
          · rw [e, hh.out]; exact hq
          · exact hF.out j (by omega)
        case measure => simp [intOf]; omega
      · have hq' : inOk h = false := by simpa using hq
        rw [hq']
        go_wp2
        go_ret
        refine ⟨⟨k, rfl, ?_, by omega, by omega⟩, b3⟩
        rw [allK_no Ik.nil hlt (by rw [hh.out]; exact hq')]
        simp
    · obtain rfl : k = L.length := by omega
      go_wp2
      go_ret
      refine ⟨⟨-1, rfl, ?_, by omega, by omega⟩, hb⟩
      rw [allK_yes Ik.nil hF.out]
      rfl
theorem contIn (ad : Option Addr) (cap : Nat) (L : List Ik) (w : World) (hv : FView ikEnc w ad L) (hl : L.length ≤ 1048576) :
    Calls Try.prog 56 #[.slice ad L.length cap, .func (Fn.func 57) #[] #[]] w fun e w' => e = .returned (.bool (!L.all inOk)) ∧ Below w.heap.size w w' := by
  have hI := idxIn ad cap L w hv hl
  generalize (!L.all inOk) = B at *
  go_enter Try.func56, Try.ntmps56
  go_wp2_with fail
  go_at_call 67
  refine hI.mono ?_
  rintro e w1 ⟨⟨r, rfl, hr, r1, r2⟩, k1⟩
  go_wp2
  go_ret
  exact ⟨rfl, k1⟩

end Go.Proofs.Ytnpiljegdiconab
namespace Go.Proofs.Ytnpiljegdiconab
open Go.ChangeShapes Go.WideShapes Go.ChangeAt Go.RowKit
open Go.ChangeMaps (open_string shut_string)
set_option linter.unusedVariables false
set_option maxRecDepth 100000

set_option maxHeartbeats 2000000 in
theorem regOkI (r : Rg) (w : World) : Calls Try.prog 51 #[.agg #[.int .i64 r.ep, .int .i64 r.ow, .int .i64 r.pa]] w fun e w' => e = .returned (.bool (rgOk r)) ∧ Below w.heap.size w w' := by
  obtain ⟨R, hR⟩ : ∃ R, R = rgOk r := ⟨_, rfl⟩
  rw [← hR]
  replace hR : Hid _ := hR
  obtain ⟨y, hy⟩ : ∃ y, y = w.alloc (Obj.cells #[.int .i64 r.ep, .int .i64 r.ow, .int .i64 r.pa] 33) := ⟨_, rfl⟩
  have B0 : Below w.heap.size w y := by rw [hy]; exact below_new _
  have A : RgAt y w.heap.size r := by rw [hy]; exact RgAt.new w _ r
  go_enter Try.func51, Try.ntmps51
  go_upto_region 1 with fail
  rw [← hy]
  clear hy
  obtain ⟨a0, a1, a2⟩ := A
  by_cases e1 : 1 ≤ r.ep
  · have d1 : decide (1 ≤ r.ep) = true := decide_eq_true e1
    by_cases e2 : r.ep ≤ 100000
    · have d2 : decide (r.ep ≤ 100000) = true := decide_eq_true e2
      by_cases e3 : r.ow = 0
      · have d3 : decide (r.ow = 0) = true := decide_eq_true e3
        have b3 : (r.ow == 0) = true := by simpa using e3
        have hN : Hid (R = numB r.pa) := by unfold Hid; rw [hR.out]; unfold rgOk; rw [decide_eq_true (⟨e1, e2⟩ : 1 ≤ r.ep ∧ r.ep ≤ 100000), decide_eq_true (show 0 ≤ r.ow ∧ r.ow ≤ 1 by omega)]; rfl
        replace e1 : Hid _ := e1
        replace e2 : Hid _ := e2
        replace e3 : Hid _ := e3
        go_wp2_with fail
        go_at_call 62
        refine (numFitsI r.pa y).mono ?_
        rintro e w' ⟨rfl, rfl⟩
        go_wp2
        go_ret
        exact ⟨by rw [hN.out]; rfl, B0⟩
      · have d3 : decide (r.ow = 0) = false := decide_eq_false e3
        have b3 : (r.ow == 0) = false := by simpa using e3
        by_cases e4 : r.ow = 1
        · have d4 : decide (r.ow = 1) = true := decide_eq_true e4
          have b4 : (r.ow == 1) = true := by simpa using e4
          have hN : Hid (R = numB r.pa) := by unfold Hid; rw [hR.out]; unfold rgOk; rw [decide_eq_true (⟨e1, e2⟩ : 1 ≤ r.ep ∧ r.ep ≤ 100000), decide_eq_true (show 0 ≤ r.ow ∧ r.ow ≤ 1 by omega)]; rfl
          replace e1 : Hid _ := e1
          replace e2 : Hid _ := e2
          replace e3 : Hid _ := e3
          replace e4 : Hid _ := e4
          go_wp2_with fail
          go_at_call 62
          refine (numFitsI r.pa y).mono ?_
          rintro e w' ⟨rfl, rfl⟩
          go_wp2
          go_ret
          exact ⟨by rw [hN.out]; rfl, B0⟩
        · have d4 : decide (r.ow = 1) = false := decide_eq_false e4
          have b4 : (r.ow == 1) = false := by simpa using e4
          have hN : Hid (R = false) := by unfold Hid; rw [hR.out]; unfold rgOk; rw [decide_eq_true (⟨e1, e2⟩ : 1 ≤ r.ep ∧ r.ep ≤ 100000), decide_eq_false (show ¬ (0 ≤ r.ow ∧ r.ow ≤ 1) by omega)]; rfl
          replace e1 : Hid _ := e1
          replace e2 : Hid _ := e2
          replace e3 : Hid _ := e3
          replace e4 : Hid _ := e4
          go_wp2
          go_ret
          exact ⟨by rw [hN.out]; rfl, B0⟩
    · have d2 : decide (r.ep ≤ 100000) = false := decide_eq_false e2
      have hN : Hid (R = false) := by unfold Hid; rw [hR.out]; unfold rgOk; rw [decide_eq_false (show ¬ (1 ≤ r.ep ∧ r.ep ≤ 100000) by omega)]; rfl
      replace e1 : Hid _ := e1
      replace e2 : Hid _ := e2
      go_wp2
      go_ret
      exact ⟨by rw [hN.out]; rfl, B0⟩
  · have d1 : decide (1 ≤ r.ep) = false := decide_eq_false e1
    have hN : Hid (R = false) := by unfold Hid; rw [hR.out]; unfold rgOk; rw [decide_eq_false (show ¬ (1 ≤ r.ep ∧ r.ep ≤ 100000) by omega)]; rfl
    replace e1 : Hid _ := e1
    go_wp2
    go_ret
    exact ⟨by rw [hN.out]; rfl, B0⟩

end Go.Proofs.Ytnpiljegdiconab
namespace Go.Proofs.Ytnpiljegdiconab
open Go.ChangeShapes Go.WideShapes Go.ChangeAt Go.RowKit
open Go.ChangeMaps (open_string shut_string)
set_option linter.unusedVariables false
set_option maxRecDepth 100000

theorem bxOk_seq (x : BxD) : bxOk x.p = (nOk x.id x.po && (rgOk x.rg && (decide (x.two.length = 2) && (x.two.all (fun d => miOk d.m) && (decide (x.net.length ≤ 20) && (x.net.all wiOk && (decide ((x.ga.length : Int) = x.po) && (decide (x.ln.length ≤ 60) && (x.ln.all inOk && (decide (x.sd.length ≤ 40))))))))))) := by
  rw [Bool.eq_iff_iff, bxOk_is]
  simp only [Bool.and_eq_true, decide_eq_true_eq]
  have hl : x.p.two.length = x.two.length := by unfold BxD.p; simp
  have h2 : x.two.length = 2 → (x.two.all (fun d => miOk d.m) = true ↔ miOk (mOf x.p 0) = true ∧ miOk (mOf x.p 1) = true) := by
    intro h
    obtain ⟨a, b, e⟩ : ∃ a b, x.two = [a, b] := by
      match hx : x.two, h with
      | [a, b], _ => exact ⟨a, b, rfl⟩
    rw [mOf_p, mOf_p, e]
    simp
  have hi : insB x.p.ln = true ↔ x.ln.length ≤ 60 ∧ x.ln.all inOk = true := by
    show insB x.ln = true ↔ _
    unfold insB
    simp only [Bool.and_eq_true, decide_eq_true_eq]
    exact And.comm
  rw [hl, hi]
  constructor
  · rintro ⟨a1, a2, a3, a4, a5, a6, a7, a8, ⟨a9, b9⟩, a10⟩
    exact ⟨a1, a2, a3, (h2 a3).2 ⟨a4, a5⟩, a7, a6, a8, a9, b9, a10⟩
  · rintro ⟨a1, a2, a3, a4, a7, a6, a8, a9, b9, a10⟩
    exact ⟨a1, a2, a3, ((h2 a3).1 a4).1, ((h2 a3).1 a4).2, a6, a7, a8, ⟨a9, b9⟩, a10⟩
set_option maxHeartbeats 8000000 in
theorem boxOkI (x : BxD) (w : World) (hV : BxV w x) :
    Calls Try.prog 40 #[.agg #[.int .i64 x.id, .int .i64 x.po, .int .i64 x.rg.ep, .int .i64 x.rg.ow, .int .i64 x.rg.pa, .slice x.aT x.two.length x.cT, .slice x.aN x.net.length x.cN, .slice x.aG x.ga.length x.cG, .slice x.aL x.ln.length x.cL, .slice x.aS x.sd.length x.cS]] w fun e w' => e = .returned (.bool (bxOk x.p)) ∧ Below w.heap.size w w' := by
  obtain ⟨R, hR⟩ : ∃ R, R = bxOk x.p := ⟨_, rfl⟩
  rw [← hR]
  replace hR : Hid _ := hR
  obtain ⟨y, hy⟩ : ∃ y, y = w.alloc (Obj.cells #[.int .i64 x.id, .int .i64 x.po, .int .i64 x.rg.ep, .int .i64 x.rg.ow, .int .i64 x.rg.pa, .slice x.aT x.two.length x.cT, .slice x.aN x.net.length x.cN, .slice x.aG x.ga.length x.cG, .slice x.aL x.ln.length x.cL, .slice x.aS x.sd.length x.cS] 39) := ⟨_, rfl⟩
  have B0 : Below w.heap.size w y := by rw [hy]; exact below_new _
  have A : BxAt y w.heap.size x := by rw [hy]; exact BxAt.new w _ x
  have V := hV.later B0
  clear hV
  go_enter Try.func40, Try.ntmps40
  have cc := A
  obtain ⟨a0, a1, a2, a3, a4, a5, a6, a7, a8, a9⟩ := cc
  go_wp2_with fail
  go_at_call 50
  rw [← hy]
  clear a0 a1 a2 a3 a4 a5 a6 a7 a8 a9 hy
  refine (newBI x.id x.po y).mono ?_
  rintro e u0 ⟨ad', cap', rfl, O', k0⟩
  have A := A.below k0 A.lt
  have V := V.later k0
  have B1 := B0.trans (k0.mono B0.size)
  clear k0 O'
  obtain ⟨u1, hu1⟩ : ∃ y_, y_ = u0.alloc (Obj.cells #[.int .i64 (newI x.id x.po), .slice ad' (newL x.id x.po).length cap'] 68) := ⟨_, rfl⟩
  have kk : Below u0.heap.size u0 u1 := by rw [hu1]; exact below_new _
  have A := A.below kk A.lt
  have V := V.later kk
  have B2 := B1.trans (kk.mono B1.size)
  clear kk B1
  go_upto_region 2 with fail
  rw [← hu1]
  clear hu1
  cases h1 : nOk x.id x.po
  · have hN : Hid (R = false) := by unfold Hid; rw [hR.out, bxOk_seq, h1]; rfl
    replace h1 : Hid _ := h1
    have cc := A
    obtain ⟨a0, a1, a2, a3, a4, a5, a6, a7, a8, a9⟩ := cc
    go_wp2
    go_ret
    exact ⟨by rw [hN.out]; rfl, B2⟩
  · replace h1 : Hid _ := h1
    have cc := A
    obtain ⟨a0, a1, a2, a3, a4, a5, a6, a7, a8, a9⟩ := cc
    go_wp2_with fail
    go_at_call 51
    clear a0 a1 a2 a3 a4 a5 a6 a7 a8 a9
    refine (regOkI x.rg u1).mono ?_
    rintro e u2 ⟨rfl, kk⟩
    have A := A.below kk A.lt
    have V := V.later kk
    have B2' := B2.trans (kk.mono B2.size)
    clear kk
    cases h2 : rgOk x.rg
    · have hN : Hid (R = false) := by unfold Hid; rw [hR.out, bxOk_seq, h1.out, h2]; rfl
      replace h2 : Hid _ := h2
      have cc := A
      obtain ⟨a0, a1, a2, a3, a4, a5, a6, a7, a8, a9⟩ := cc
      go_wp2
      go_ret
      exact ⟨by rw [hN.out]; rfl, B2'⟩
    · replace h2 : Hid _ := h2
      by_cases e3 : x.two.length = 2
      · have d3 : ((x.two.length : Int) == 2) = true := by rw [beq_iff_eq]; omega
        have h3 : Hid (decide (x.two.length = 2) = true) := decide_eq_true e3
        replace e3 : Hid _ := e3
        have cc := A
        obtain ⟨a0, a1, a2, a3, a4, a5, a6, a7, a8, a9⟩ := cc
        go_wp2_with fail
        go_at_call 52
        clear a0 a1 a2 a3 a4 a5 a6 a7 a8 a9
        refine (contMi x.aT x.cT x.two u2 V.t V.bt V.l V.bl).mono ?_
        rintro e u4 ⟨rfl, kk⟩
        have A := A.below kk A.lt
        have V := V.later kk
        have B2'' := B2'.trans (kk.mono B2'.size)
        clear kk
        cases h4 : x.two.all (fun d => miOk d.m)
        · have hN : Hid (R = false) := by unfold Hid; rw [hR.out, bxOk_seq, h1.out, h2.out, h3.out, h4]; rfl
          replace h4 : Hid _ := h4
          have cc := A
          obtain ⟨a0, a1, a2, a3, a4, a5, a6, a7, a8, a9⟩ := cc
          go_wp2
          go_ret
          exact ⟨by rw [hN.out]; rfl, B2''⟩
        · replace h4 : Hid _ := h4
          by_cases e5 : x.net.length ≤ 20
          · have d5 : decide ((x.net.length : Int) ≤ 20) = true := decide_eq_true (by omega)
            have h5 : Hid (decide (x.net.length ≤ 20) = true) := decide_eq_true e5
            replace e5 : Hid _ := e5
            have cc := A
            obtain ⟨a0, a1, a2, a3, a4, a5, a6, a7, a8, a9⟩ := cc
            go_wp2_with fail
            go_at_call 54
            clear a0 a1 a2 a3 a4 a5 a6 a7 a8 a9
            refine (contWi x.aN x.cN x.net u4 V.n V.bn).mono ?_
            rintro e u6 ⟨rfl, kk⟩
            have A := A.below kk A.lt
            have V := V.later kk
            have B2''' := B2''.trans (kk.mono B2''.size)
            clear kk
            cases h6 : x.net.all wiOk
            · have hN : Hid (R = false) := by unfold Hid; rw [hR.out, bxOk_seq, h1.out, h2.out, h3.out, h4.out, h5.out, h6]; rfl
              replace h6 : Hid _ := h6
              have cc := A
              obtain ⟨a0, a1, a2, a3, a4, a5, a6, a7, a8, a9⟩ := cc
              go_wp2
              go_ret
              exact ⟨by rw [hN.out]; rfl, B2'''⟩
            · replace h6 : Hid _ := h6
              by_cases e7 : (x.ga.length : Int) = x.po
              · have d7 : ((x.ga.length : Int) == x.po) = true := by simpa using e7
                have h7 : Hid (decide ((x.ga.length : Int) = x.po) = true) := decide_eq_true e7
                replace e7 : Hid _ := e7
                by_cases e8 : x.ln.length ≤ 60
                · have d8 : decide ((x.ln.length : Int) ≤ 60) = true := decide_eq_true (by omega)
                  have h8 : Hid (decide (x.ln.length ≤ 60) = true) := decide_eq_true e8
                  replace e8 : Hid _ := e8
                  have cc := A
                  obtain ⟨a0, a1, a2, a3, a4, a5, a6, a7, a8, a9⟩ := cc
                  go_wp2_with fail
                  go_at_call 56
                  clear a0 a1 a2 a3 a4 a5 a6 a7 a8 a9
                  refine (contIn x.aL x.cL x.ln u6 V.i V.bi).mono ?_
                  rintro e u9 ⟨rfl, kk⟩
                  have A := A.below kk A.lt
                  have V := V.later kk
                  have B2'''' := B2'''.trans (kk.mono B2'''.size)
                  clear kk
                  cases h9 : x.ln.all inOk
                  · have hN : Hid (R = false) := by unfold Hid; rw [hR.out, bxOk_seq, h1.out, h2.out, h3.out, h4.out, h5.out, h6.out, h7.out, h8.out, h9]; rfl
                    replace h9 : Hid _ := h9
                    have cc := A
                    obtain ⟨a0, a1, a2, a3, a4, a5, a6, a7, a8, a9⟩ := cc
                    go_wp2
                    go_ret
                    exact ⟨by rw [hN.out]; rfl, B2''''⟩
                  · replace h9 : Hid _ := h9
                    by_cases e10 : x.sd.length ≤ 40
                    · have d10 : decide ((x.sd.length : Int) ≤ 40) = true := decide_eq_true (by omega)
                      have h10 : Hid (decide (x.sd.length ≤ 40) = true) := decide_eq_true e10
                      replace e10 : Hid _ := e10
                      have hN : Hid (R = true) := by unfold Hid; rw [hR.out, bxOk_seq, h1.out, h2.out, h3.out, h4.out, h5.out, h6.out, h7.out, h8.out, h9.out, h10.out]; rfl
                      have cc := A
                      obtain ⟨a0, a1, a2, a3, a4, a5, a6, a7, a8, a9⟩ := cc
                      go_wp2
                      go_ret
                      exact ⟨by rw [hN.out]; rfl, B2''''⟩
                    · have d10 : decide ((x.sd.length : Int) ≤ 40) = false := decide_eq_false (by omega)
                      have h10 : decide (x.sd.length ≤ 40) = false := decide_eq_false e10
                      replace e10 : Hid _ := e10
                      have hN : Hid (R = false) := by unfold Hid; rw [hR.out, bxOk_seq, h1.out, h2.out, h3.out, h4.out, h5.out, h6.out, h7.out, h8.out, h9.out, h10]; rfl
                      replace h10 : Hid _ := h10
                      have cc := A
                      obtain ⟨a0, a1, a2, a3, a4, a5, a6, a7, a8, a9⟩ := cc
                      go_wp2
                      go_ret
                      exact ⟨by rw [hN.out]; rfl, B2''''⟩
                · have d8 : decide ((x.ln.length : Int) ≤ 60) = false := decide_eq_false (by omega)
                  have h8 : decide (x.ln.length ≤ 60) = false := decide_eq_false e8
                  replace e8 : Hid _ := e8
                  have hN : Hid (R = false) := by unfold Hid; rw [hR.out, bxOk_seq, h1.out, h2.out, h3.out, h4.out, h5.out, h6.out, h7.out, h8]; rfl
                  replace h8 : Hid _ := h8
                  have cc := A
                  obtain ⟨a0, a1, a2, a3, a4, a5, a6, a7, a8, a9⟩ := cc
                  go_wp2
                  go_ret
                  exact ⟨by rw [hN.out]; rfl, B2'''⟩
              · have d7 : ((x.ga.length : Int) == x.po) = false := by simpa using e7
                have h7 : decide ((x.ga.length : Int) = x.po) = false := decide_eq_false e7
                replace e7 : Hid _ := e7
                have hN : Hid (R = false) := by unfold Hid; rw [hR.out, bxOk_seq, h1.out, h2.out, h3.out, h4.out, h5.out, h6.out, h7]; rfl
                replace h7 : Hid _ := h7
                have cc := A
                obtain ⟨a0, a1, a2, a3, a4, a5, a6, a7, a8, a9⟩ := cc
                go_wp2
                go_ret
                exact ⟨by rw [hN.out]; rfl, B2'''⟩
          · have d5 : decide ((x.net.length : Int) ≤ 20) = false := decide_eq_false (by omega)
            have h5 : decide (x.net.length ≤ 20) = false := decide_eq_false e5
            replace e5 : Hid _ := e5
            have hN : Hid (R = false) := by unfold Hid; rw [hR.out, bxOk_seq, h1.out, h2.out, h3.out, h4.out, h5]; rfl
            replace h5 : Hid _ := h5
            have cc := A
            obtain ⟨a0, a1, a2, a3, a4, a5, a6, a7, a8, a9⟩ := cc
            go_wp2
            go_ret
            exact ⟨by rw [hN.out]; rfl, B2''⟩
      · have d3 : ((x.two.length : Int) == 2) = false := by rw [beq_eq_false_iff_ne]; omega
        have h3 : decide (x.two.length = 2) = false := decide_eq_false e3
        replace e3 : Hid _ := e3
        have hN : Hid (R = false) := by unfold Hid; rw [hR.out, bxOk_seq, h1.out, h2.out, h3]; rfl
        replace h3 : Hid _ := h3
        have cc := A
        obtain ⟨a0, a1, a2, a3, a4, a5, a6, a7, a8, a9⟩ := cc
        go_wp2
        go_ret
        exact ⟨by rw [hN.out]; rfl, B2'⟩

end Go.Proofs.Ytnpiljegdiconab
namespace Go.Proofs.Ytnpiljegdiconab
open Go.ChangeShapes Go.WideShapes Go.ChangeAt Go.RowKit
open Go.ChangeMaps (open_string shut_string)
set_option linter.unusedVariables false
set_option maxRecDepth 100000

/-- A region by its states: whatever of those that may come up comes up. -/
theorem region_by {P : Program} {md : Region.Mode} {ops : Array Oper} {Q : Exit → Act → World → Prop} {S : World → Prop} {ds : List Deferred} {k : Nat} (I : Nat → Array Bool → List Value → World → Prop)
    (step : ∀ n listed l W, I (n + 1) listed l W → ∃ rs, Region.ready md ops listed = rs ∧ rs ≠ [] ∧ ∀ i, i ∈ rs → ∀ K : Act → World → Prop, (∀ l' W', S W' → I n (listed.setIfInBounds i true) l' W' → K ⟨l'.toArray, ds⟩ W') → wpOp P ops Q i K ⟨l.toArray, ds⟩ W)
    (fin : ∀ listed l W, I 0 listed l W → wpAnyH P md ops Q S k listed ⟨l.toArray, ds⟩ W) :
    ∀ n listed l W, I n listed l W → wpAnyH P md ops Q S (n + k) listed ⟨l.toArray, ds⟩ W
  | 0, listed, l, W, h => by rw [Nat.zero_add]; exact fin listed l W h
  | n + 1, listed, l, W, h => by
    obtain ⟨rs, hr, hne, hs⟩ := step n listed l W h
    rw [show n + 1 + k = (n + k) + 1 by omega]
    exact wpAnyH_all hr hne (fun i hi => hs i hi _ (fun l' W' hS hI => ⟨hS, region_by I step fin n _ l' W' hI⟩))
/-- Rows of different things lie in different blocks. -/
theorem FOwn.apart {X Y : Type} {e1 : X → List Value} {e2 : Y → List Value} {n1 n2 : Nat} {T1 T2 : TypeId} {b1 b2 : Nat} {w : World} {v1 v2 : Value} {L1 : List X} {L2 : List Y} (h1 : FOwn e1 n1 T1 b1 w v1 L1) (h2 : FOwn e2 n2 T2 b2 w v2 L2) (hT : T1 ≠ T2) {g : Nat} (e : v1.ownBlock = some g) : v2.ownBlock ≠ some g := by
  intro e2'
  rcases h1.2 with ⟨q, _⟩ | ⟨g1, c1, u1, q1, _, o1, _⟩
  · rw [q] at e; cases e
  · rcases h2.2 with ⟨q, _⟩ | ⟨g2, c2, u2, q2, _, o2, _⟩
    · rw [q] at e2'; cases e2'
    · rw [q1] at e
      rw [q2] at e2'
      cases e
      cases e2'
      rw [o1] at o2
      simp only [Option.some.injEq, Obj.cells.injEq] at o2
      exact hT o2.2.1

end Go.Proofs.Ytnpiljegdiconab
namespace Go.Proofs.Ytnpiljegdiconab
open Go.ChangeShapes Go.WideShapes Go.ChangeAt Go.RowKit
open Go.ChangeMaps (open_string shut_string)
set_option linter.unusedVariables false
set_option maxRecDepth 100000

def fnEnc (f : Nat) : List Value := [.func (.func f) #[] #[]]
theorem fnEnc_len (f : Nat) : (fnEnc f).length = 1 := rfl
/-- What stands ahead of the judge's answer: failed, and what it hands back. -/
theorem judge1 (p5 p4 : Nat) (b c : Bool) (u : FrameMode) (w : World) (h5 : w.cell? ⟨p5, 0, none⟩ = some (.bool b)) (h4 : w.cell? ⟨p4, 0, none⟩ = some (.bool c)) (hf : w.frozen? ⟨p4, 0, none⟩ = false) :
    CallsD Try.prog 39 #[.pointer (some ⟨p5, 0, none⟩), .pointer (some ⟨p4, 0, none⟩)] u w fun e u' w' => u' = u ∧ (e = .returned (.tuple #[]) ∧ w' = w.setCell ⟨p4, 0, none⟩ (.bool (!b))) := by
  go_enter_d Try.func39, Try.ntmps39
  go_wp2
  go_end0
  first | exact ⟨rfl, rfl⟩ | simp
/-- A flag that is kept in memory. -/
structure FlB (w : World) (q : Nat) (b : Bool) : Prop where
  c : w.cell? ⟨q, 0, none⟩ = some (.bool b)
  f : w.frozen? ⟨q, 0, none⟩ = false
theorem FlB.keep {w w' : World} {q : Nat} {b : Bool} (h : FlB w q b) (k : w'.heap[q]? = w.heap[q]?) : FlB w' q b := ⟨(World.cell?_of_block (a := ⟨q, 0, none⟩) k).trans h.c, (World.frozen?_of_block (a := ⟨q, 0, none⟩) k).trans h.f⟩
theorem FlB.lt {w : World} {q : Nat} {b : Bool} (h : FlB w q b) : q < w.heap.size := World.block_lt_of_cell? w _ h.c
theorem FlB.below {w w' : World} {q n : Nat} {b : Bool} (h : FlB w q b) (k : Below n w w') (hq : q < n) : FlB w' q b := h.keep (k.block q hq)
theorem FlB.put {w : World} {q : Nat} {b : Bool} (h : FlB w q b) (c : Bool) : FlB (w.setCell ⟨q, 0, none⟩ (.bool c)) q c := ⟨pset_same h.c, by rw [World.frozen?_setCell]; exact h.f⟩
theorem FlB.new (w : World) (b : Bool) : FlB (w.alloc (Obj.cells #[.bool b] 4)) w.heap.size b := ⟨by simp [go_sem], by simp [go_sem]⟩
set_option linter.unusedSimpArgs false in
set_option maxHeartbeats 8000000 in
theorem judgeI (x : BxD) (Fs : List Nat) (Q : Nat → Prop) (aF : Option Addr) (cF : Nat) (w : World) (hJ : BxJ w x) (hF : FView fnEnc w aF Fs) (hl : Fs.length ≤ 8)
    (hE : ∀ k, k < Fs.length → Enters Try.prog (Fs.getD k 0))
    (hc : bxOk x.p = true → ∀ k, k < Fs.length → ∀ w', BxJ w' x → Calls Try.prog (Fs.getD k 0) #[.agg #[.int .i64 x.id, .int .i64 x.po, .int .i64 x.rg.ep, .int .i64 x.rg.ow, .int .i64 x.rg.pa, .slice x.aT x.two.length x.cT, .slice x.aN x.net.length x.cN, .slice x.aG x.ga.length x.cG, .slice x.aL x.ln.length x.cL, .slice x.aS x.sd.length x.cS]] w' fun e w2 => YN e (Q k) ∧ Below w'.heap.size w' w2) :
    Calls Try.prog 21 #[.agg #[.int .i64 x.id, .int .i64 x.po, .int .i64 x.rg.ep, .int .i64 x.rg.ow, .int .i64 x.rg.pa, .slice x.aT x.two.length x.cT, .slice x.aN x.net.length x.cN, .slice x.aG x.ga.length x.cG, .slice x.aL x.ln.length x.cL, .slice x.aS x.sd.length x.cS], .slice aF Fs.length cF] w fun e w' => YN e (bxOk x.p = true ∧ ∀ k, k < Fs.length → Q k) ∧ Below w.heap.size w w' := by
  have hmf : ∀ (fn : Fn) (first cap : Array Value) (w : World), (Instr.makeFunc fn first cap).run Try.prog w = .ok (.func fn first cap) w := fun _ _ _ _ => rfl
  obtain ⟨R, hR⟩ : ∃ R : Prop, R = (bxOk x.p = true ∧ ∀ k, k < Fs.length → Q k) := ⟨_, rfl⟩
  rw [← hR]
  replace hR : Hid _ := hR
  obtain ⟨y, hy⟩ : ∃ y, y = ((w.alloc (Obj.cells #[.int .i64 x.id, .int .i64 x.po, .int .i64 x.rg.ep, .int .i64 x.rg.ow, .int .i64 x.rg.pa, .slice x.aT x.two.length x.cT, .slice x.aN x.net.length x.cN, .slice x.aG x.ga.length x.cG, .slice x.aL x.ln.length x.cL, .slice x.aS x.sd.length x.cS] 39)).alloc (Obj.cells #[.bool false] 4)).alloc (Obj.cells #[.bool false] 4) := ⟨_, rfl⟩
  obtain ⟨w1, h1⟩ : ∃ v, v = w.alloc (Obj.cells #[.int .i64 x.id, .int .i64 x.po, .int .i64 x.rg.ep, .int .i64 x.rg.ow, .int .i64 x.rg.pa, .slice x.aT x.two.length x.cT, .slice x.aN x.net.length x.cN, .slice x.aG x.ga.length x.cG, .slice x.aL x.ln.length x.cL, .slice x.aS x.sd.length x.cS] 39) := ⟨_, rfl⟩
  obtain ⟨w2, h2⟩ : ∃ v, v = w1.alloc (Obj.cells #[.bool false] 4) := ⟨_, rfl⟩
  have A : BxAt w1 w.heap.size x := by rw [h1]; exact BxAt.new w _ x
  have C1 : FlB w2 w1.heap.size false := by rw [h2]; exact FlB.new w1 false
  have C2 : FlB y w2.heap.size false := by rw [hy, ← h1, ← h2]; exact FlB.new w2 false
  have k1 : Below w.heap.size w w1 := by rw [h1]; exact below_new _
  have k2 : Below w1.heap.size w1 w2 := by rw [h2]; exact below_new _
  have k3 : Below w2.heap.size w2 y := by rw [hy, ← h1, ← h2]; exact below_new _
  have s1 : w1.heap.size = w.heap.size + 1 := by rw [h1]; simp
  have s2 : w2.heap.size = w.heap.size + 1 + 1 := by rw [h2]; simp [s1]
  have A := (A.below k2 A.lt).below k3 (by have := A.lt; have := k2.size; omega)
  have C1 := C1.below k3 C1.lt
  have B : Below w.heap.size w y := (k1.trans (k2.mono k1.size)).trans (k3.mono (by omega))
  rw [s1] at C1
  rw [s2] at C2
  have A := A
  replace k1 : True := trivial
  clear k1 k2 k3 s1 s2
  have J := hJ.later B
  have F := hF.below B (hF.lt fnEnc_len (by omega))
  clear hJ hF
  go_enter_defers Try.func21, Try.ntmps21
  go_wp2_with fail
  go_at_call 40
  rw [← hy]
  clear hy
  obtain ⟨qh, hqh⟩ : ∃ q, q = w.heap.size + 1 := ⟨_, rfl⟩
  obtain ⟨qf, hqf⟩ : ∃ q, q = w.heap.size + 1 + 1 := ⟨_, rfl⟩
  rw [← hqf] at C2 ⊢
  rw [← hqh] at C1 ⊢
  replace hqh : w.heap.size ≤ qh ∧ qh < qf ∧ w.heap.size < qh := by omega
  clear hqf
  refine (boxOkI x y J.v).mono ?_
  rintro e u1 ⟨rfl, kq⟩
  have J := J.later kq
  have F := F.below kq (F.lt fnEnc_len (by omega))
  have B1 := B.trans (kq.mono B.size)
  have A := A.below kq A.lt
  have C1 := C1.below kq C1.lt
  have C2 := C2.below kq C2.lt
  clear kq B
  have B := B1
  clear B1
  obtain ⟨ob, hob⟩ : ∃ b, bxOk x.p = b := ⟨_, rfl⟩
  rw [hob]
  cases ob
  · replace hob : Hid _ := hob
    obtain ⟨c2, f2⟩ := C2
    go_wp2
    have C2 := (FlB.mk c2 f2).put true
    have C1 := C1.keep (w' := u1.setCell ⟨qf, 0, none⟩ (.bool true)) (Below.heap_setCell _ _ _ _ (by show qh ≠ qf; omega))
    have B := B.setCell (p := ⟨qf, 0, none⟩) (by show w.heap.size ≤ qf; omega) (.bool true)
    refine leaves_cons (f := 39) (args := #[.pointer (some ⟨qf, 0, none⟩), .pointer (some ⟨qh, 0, none⟩)]) (by simp) (by simp [go_sem]) ?_
    refine (judge1 qf qh true false .returning _ C2.c C1.c C1.f).mono ?_
    rintro e u' w'' ⟨rfl, rfl, rfl⟩
    have C9 := (C1.put false).c
    have B9 : Below w.heap.size w ((u1.setCell ⟨qf, 0, none⟩ (.bool true)).setCell ⟨qh, 0, none⟩ (.bool (!true))) := B.setCell (p := ⟨qh, 0, none⟩) (by show w.heap.size ≤ qh; omega) _
    simp only [Bool.not_true, Bool.not_false] at B9
    simp [Leaves, settle, results, Try.results21, go_sem, C9]
    exact ⟨YN.no (by rw [hR.out, hob.out]; rintro ⟨h, _⟩; cases h), B9⟩
  have hc := hc hob
  replace hob : Hid _ := hob
  go_upto_region 6 with fail
  go_loopw [14] (fun i wr => ∃ k : Nat, k ≤ Fs.length ∧ i = .int .i64 (k : Int) ∧ Hid (∀ j, j < k → Q j) ∧ BxAt wr w.heap.size x ∧ FlB wr qh false ∧ FlB wr qf false ∧ BxJ wr x ∧ FView fnEnc wr aF Fs ∧ Below w.heap.size w wr) (fun i _ => Fs.length - (intOf i).toNat)
  case atStart => exact ⟨0, Nat.zero_le _, rfl, fun j hj => absurd hj (by omega), A, C1, C2, J, F, B⟩
  case round =>
    clear A C1 C2 J F B
    obtain ⟨k, hk, rfl, hQ, A, C1, C2, J, F, B⟩ := hrel
    by_cases hlt : k < Fs.length
    · obtain ⟨g, off, rfl, _⟩ := F (by omega)
      obtain ⟨f, hf⟩ : ∃ f, Fs.getD k 0 = f := ⟨_, rfl⟩
      have cF : wr.cell? ⟨g, off + k, none⟩ = some (.func (.func f) #[] #[]) := by have h1 := F.at_ fnEnc_len 0 hlt 0 (.func (.func (Fs.getD k 0)) #[] #[]) rfl; rw [hf] at h1; simpa using h1
      have ef : ∀ (args : Array Value) (w : World), (callFunc (Fs.getD k 0) args).run Try.prog w = .ok (.enter (Fs.getD k 0) args) w := hE k hlt
      have hcf := hc k hlt wr J
      rw [hf] at ef hcf
      replace hf : Hid _ := hf
      have cc := A
      obtain ⟨a0, a1, a2, a3, a4, a5, a6, a7, a8, a9⟩ := cc
      go_wp2_with fail
      clear a0 a1 a2 a3 a4 a5 a6 a7 a8 a9
      refine hcf.mono ?_
      rintro e u2 ⟨⟨rb, rfl, hrb⟩, kq⟩
      clear hcf ef cF
      have A := A.below kq A.lt
      have C1 := C1.below kq C1.lt
      have C2 := C2.below kq C2.lt
      have J := J.later kq
      have F := F.below kq (F.lt fnEnc_len (by omega))
      have B := B.trans (kq.mono B.size)
      replace hrb : Hid _ := hrb
      cases rb
      · obtain ⟨c2, f2⟩ := C2
        go_wp2
        have C2 := (FlB.mk c2 f2).put true
        have C1 := C1.keep (w' := u2.setCell ⟨qf, 0, none⟩ (.bool true)) (Below.heap_setCell _ _ _ _ (by show qh ≠ qf; omega))
        have B := B.setCell (p := ⟨qf, 0, none⟩) (by show w.heap.size ≤ qf; omega) (.bool true)
        refine leaves_cons (f := 39) (args := #[.pointer (some ⟨qf, 0, none⟩), .pointer (some ⟨qh, 0, none⟩)]) (by simp) (by simp [go_sem]) ?_
        refine (judge1 qf qh true false .returning _ C2.c C1.c C1.f).mono ?_
        rintro e u' w'' ⟨rfl, rfl, rfl⟩
        have C9 := (C1.put false).c
        have B9 : Below w.heap.size w ((u2.setCell ⟨qf, 0, none⟩ (.bool true)).setCell ⟨qh, 0, none⟩ (.bool (!true))) := B.setCell (p := ⟨qh, 0, none⟩) (by show w.heap.size ≤ qh; omega) _
        simp only [Bool.not_true, Bool.not_false] at B9
        simp [Leaves, settle, results, Try.results21, go_sem, C9]
        exact ⟨YN.no (by rw [hR.out]; rintro ⟨_, h⟩; have h1 := hrb.out.2 (h k hlt); cases h1), B9⟩
      · go_wp2
        go_roundw
        case rel =>
          refine ⟨k + 1, by omega, by go_num, fun j hj => ?_, A, C1, C2, J, F, B⟩
          by_cases ej : j = k
          · rw [ej]; first | exact hrb.out.1 rfl | exact hrb.out.1 trivial
          · exact hQ.out j (by omega)
        case measure => simp [intOf]; omega
    · obtain rfl : k = Fs.length := by omega
      go_wp2
      refine leaves_cons (f := 39) (args := #[.pointer (some ⟨qf, 0, none⟩), .pointer (some ⟨qh, 0, none⟩)]) (by simp) (by simp [go_sem]) ?_
      refine (judge1 qf qh false false .returning _ C2.c C1.c C1.f).mono ?_
      rintro e u' w'' ⟨rfl, rfl, rfl⟩
      have C9 := (C1.put true).c
      have B9 : Below w.heap.size w (wr.setCell ⟨qh, 0, none⟩ (.bool (!false))) := B.setCell (p := ⟨qh, 0, none⟩) (by show w.heap.size ≤ qh; omega) _
      simp only [Bool.not_true, Bool.not_false] at B9
      simp [Leaves, settle, results, Try.results21, go_sem, C9]
      exact ⟨YN.yes (by rw [hR.out]; exact ⟨hob.out, hQ.out⟩), B9⟩

end Go.Proofs.Ytnpiljegdiconab
namespace Go.Proofs.Ytnpiljegdiconab
open Go.ChangeShapes Go.WideShapes Go.ChangeAt Go.RowKit
open Go.ChangeMaps (open_string shut_string)
set_option linter.unusedVariables false
set_option maxRecDepth 100000

set_option linter.unusedSimpArgs false in
set_option maxHeartbeats 4000000 in
theorem heirImp (x : BxD) (w : World) (hJ : BxJ w x) :
    Calls Try.prog 7 #[.agg #[.int .i64 x.id, .int .i64 x.po, .int .i64 x.rg.ep, .int .i64 x.rg.ow, .int .i64 x.rg.pa, .slice x.aT x.two.length x.cT, .slice x.aN x.net.length x.cN, .slice x.aG x.ga.length x.cG, .slice x.aL x.ln.length x.cL, .slice x.aS x.sd.length x.cS]] w fun e w' => YN e (bxOk x.p = true ∧ pairJ x.p) ∧ Below w.heap.size w w' := by
  obtain ⟨Q, hQ⟩ : ∃ Q : Prop, Q = (bxOk x.p = true ∧ pairJ x.p) := ⟨_, rfl⟩
  rw [← hQ]
  have hQ2 : Hid ((bxOk x.p = true ∧ ∀ k, k < 1 → ([pairJ x.p] : List Prop).getD k True) ↔ Q) := by
    unfold Hid
    rw [hQ]
    constructor
    · rintro ⟨h0, h⟩
      exact ⟨h0, h 0 (by decide)⟩
    · rintro ⟨h0, q0⟩
      refine ⟨h0, fun k hk => ?_⟩
      rcases (by omega : k = 0) with rfl
      · exact q0
  clear hQ
  obtain ⟨y, hy⟩ : ∃ y, y = w.alloc (Obj.cells #[.int .i64 x.id, .int .i64 x.po, .int .i64 x.rg.ep, .int .i64 x.rg.ow, .int .i64 x.rg.pa, .slice x.aT x.two.length x.cT, .slice x.aN x.net.length x.cN, .slice x.aG x.ga.length x.cG, .slice x.aL x.ln.length x.cL, .slice x.aS x.sd.length x.cS] 39) := ⟨_, rfl⟩
  have B : Below w.heap.size w y := by rw [hy]; exact below_new _
  have A : BxAt y w.heap.size x := by rw [hy]; exact BxAt.new w _ x
  have J := hJ.later B
  go_enter Try.func7, Try.ntmps7
  go_upto_region 1 with fail
  rw [← hy]
  clear hy
  have cc := A
  obtain ⟨a0, a1, a2, a3, a4, a5, a6, a7, a8, a9⟩ := cc
  go_wp2_with fail
  go_at_call 21
  clear a0 a1 a2 a3 a4 a5 a6 a7 a8 a9
  obtain ⟨y2, hy2⟩ : ∃ y_, y_ = y.alloc (Obj.cells #[.func (.func 22) #[] #[]] 94) := ⟨_, rfl⟩
  have V2 : FView fnEnc y2 (some ⟨y.heap.size, 0, none⟩) [22] := by
    rw [hy2]
    intro _
    refine ⟨y.heap.size, 0, rfl, fun j v hv => ?_⟩
    simp only [fcells, fnEnc, List.append_nil, List.cons_append, List.nil_append] at hv
    have hj : j < 1 := (List.getElem?_eq_some_iff.1 hv).1
    rcases (by omega : j = 0) with rfl <;> (cases hv; simp [go_sem])
  have kq : Below y.heap.size y y2 := by rw [hy2]; exact below_new _
  rw [← hy2]
  have J := J.later kq
  have B := B.trans (kq.mono B.size)
  clear hy2 kq A
  refine (judgeI x [22] (fun k => ([pairJ x.p] : List Prop).getD k True) (some ⟨y.heap.size, 0, none⟩) 1 y2 J V2 (by decide) (fun k hk => ?_) (fun h0 k hk w' hj => ?_)).mono ?_
  · have hk : k < 1 := hk
    rcases (by omega : k = 0) with rfl
    · exact enters_of Try.func22 (by kernel_rfl) rfl
  · have hk : k < 1 := hk
    rcases (by omega : k = 0) with rfl
    · exact pairedI x w' hj h0
  · rintro e u9 ⟨⟨rb, rfl, hrb⟩, kq⟩
    have B := B.trans (kq.mono B.size)
    have hrb : Hid (rb = true ↔ Q) := by unfold Hid; rw [← hQ2.out]; exact hrb
    clear kq J V2
    go_wp2
    go_ret
    exact ⟨YN.is hrb.out, B⟩

end Go.Proofs.Ytnpiljegdiconab
