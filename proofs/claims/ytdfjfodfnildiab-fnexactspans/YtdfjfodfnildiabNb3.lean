/- Lists of bridges, compared. -/
import Derived.Test.YtdfjfodfnildiabRows
import Derived.WalkKit
import Derived.ProofKit
import Derived.OpenShut
import Derived.ShutString
import Derived.ChangeOld
import Derived.Below
import Derived.Deep.QuietTactic
import Derived.BigQuiet
import Derived.WalkSmall
import Derived.Laws.OwnMore
import Derived.WalkSpells
import Derived.WalkLawsBesides
import Derived.Test.YtdfjfodfnildiabNb0
import Derived.Test.YtdfjfodfnildiabBr2
import Derived.Test.YtdfjfodfnildiabTakes
namespace Go.Proofs.Ytdfjfodfnildiab
open Go.ChangeShapes Go.WideShapes Go.ChangeAt Go.RowKit
open Go.ChangeMaps (open_string shut_string)
set_option linter.unusedVariables false
set_option maxRecDepth 100000

set_option maxHeartbeats 1000000 in
theorem bdEq (ad ad' : Option Addr) (cap cap' : Nat) (Bs Bs' : List Bd) (w : World) (hv : NV w ad Bs) (hv' : NV w ad' Bs') (hd : Bs'.map Bd.d = Bs.map Bd.d) (hl : Bs.length ≤ 1048576) (hls : ∀ i, i < Bs.length → (Bs.getD i Bd.nil).L.length ≤ 1048576) :
    Calls Try.prog 28 #[.slice ad Bs.length cap, .slice ad' Bs'.length cap'] w fun e w' => e = .returned (.bool true) ∧ Below w.heap.size w w' := by
  have hlen : Bs'.length = Bs.length := by have := congrArg List.length hd; simpa using this
  have hsame : ∀ i, (Bs'.getD i Bd.nil).id = (Bs.getD i Bd.nil).id ∧ (Bs'.getD i Bd.nil).L = (Bs.getD i Bd.nil).L := fun i => by
    have := congrArg (fun D => D.getD i Bg.nil) hd
    simp only [bd_get] at this
    simpa [Bd.d] using this
  rw [hlen]
  go_enter Try.func28, Try.ntmps28
  go_wp2
  go_loopw [5] (fun i wr => ∃ k : Nat, k ≤ Bs.length ∧ i = .int .i64 k ∧ Below w.heap.size w wr) (fun i _ => Bs.length - (intOf i).toNat)
  case atStart => exact ⟨0, Nat.zero_le _, rfl, Below.refl _ _⟩
  case round =>
    obtain ⟨k, hk, rfl, hb⟩ := hrel
    by_cases hlt : k < Bs.length
    · obtain ⟨b, off, rfl⟩ := hv.ad_ (by omega)
      obtain ⟨b', off', rfl⟩ := hv'.ad_ (by omega)
      have hlk := hls k hlt
      have hn : ∀ Y, Below w.heap.size w Y → FView ptEnc Y (Bs.getD k Bd.nil).ad (Bs.getD k Bd.nil).L := fun Y hY => (hv.below hY (Nat.le_refl _)).nest k hlt
      have hn' : ∀ Y, Below w.heap.size w Y → FView ptEnc Y (Bs'.getD k Bd.nil).ad (Bs'.getD k Bd.nil).L := fun Y hY => (hv'.below hY (Nat.le_refl _)).nest k (by omega)
      have hc : ∀ Y, Below w.heap.size w Y → BdAtO Y b (off + k * 2) (Bs.getD k Bd.nil) := fun Y hY => (hv.below hY (Nat.le_refl _)).at_ hlt
      have hc' : ∀ Y, Below w.heap.size w Y → BdAtO Y b' (off' + k * 2) (Bs'.getD k Bd.nil) := fun Y hY => (hv'.below hY (Nat.le_refl _)).at_ (by omega)
      obtain ⟨e1, e2⟩ := hsame k
      obtain ⟨⟨id, a1, c1, L1⟩, hh⟩ : ∃ m, Bs.getD k Bd.nil = m := ⟨_, rfl⟩
      obtain ⟨⟨id', a2, c2, L2⟩, hh'⟩ : ∃ m, Bs'.getD k Bd.nil = m := ⟨_, rfl⟩
      rw [hh] at e1 e2 hlk
      rw [hh'] at e1 e2
      simp only [hh] at hn hc
      simp only [hh'] at hn' hc'
      dsimp only at e1 e2 hlk hn hn'
      subst e1 e2
      clear hh hh' hv hv' hsame hls hd hlen
      go_wp2_with fail
      refine wp_region_held (S := fun Y => Below w.heap.size w Y) (by kernel_rfl) ?_
      change wpAnyH _ _ _ _ _ _ _ _ (World.drew _)
      have hb0 : Below w.heap.size w wr.drew := hb.drew
      refine takeW 0 17 (.slice (some ⟨b, off, none⟩) Bs.length cap) rfl rfl (by kernel_rfl) (by kernel_rfl) (by kernel_rfl) (fun _ _ _ h => h) (by kernel_rfl) (by (intro w hSw; go_simp)) (by assumption) ?_
      simp only [List.set_cons_zero, List.set_cons_succ]
      refine takeW 1 18 (.int .i64 k) rfl rfl (by kernel_rfl) (by kernel_rfl) (by kernel_rfl) (fun _ _ _ h => h) (by kernel_rfl) (by (intro w hSw; go_simp)) (by assumption) ?_
      simp only [List.set_cons_zero, List.set_cons_succ]
      refine takeW 2 19 (.pointer (some ⟨b, off + k * 2, none⟩)) rfl rfl (by kernel_rfl) (by kernel_rfl) (by kernel_rfl) (fun _ _ _ h => h) (by kernel_rfl) (by (intro Y hSw; go_simp; try omega)) (by assumption) ?_
      simp only [List.set_cons_zero, List.set_cons_succ]
      refine takeW 3 20 (.agg #[.int .i64 id', .slice a1 L2.length c1]) rfl rfl (by kernel_rfl) (by kernel_rfl) (by kernel_rfl) (fun _ _ _ h => h) (by kernel_rfl) (by (intro Y hSw; obtain ⟨X1, X2⟩ := hc Y hSw; go_simp)) (by assumption) ?_
      simp only [List.set_cons_zero, List.set_cons_succ]
      refine takeW 4 21 (.slice (some ⟨b', off', none⟩) Bs.length cap') rfl rfl (by kernel_rfl) (by kernel_rfl) (by kernel_rfl) (fun _ _ _ h => h) (by kernel_rfl) (by (intro w hSw; go_simp)) (by assumption) ?_
      simp only [List.set_cons_zero, List.set_cons_succ]
      refine takeW 5 22 (.int .i64 k) rfl rfl (by kernel_rfl) (by kernel_rfl) (by kernel_rfl) (fun _ _ _ h => h) (by kernel_rfl) (by (intro w hSw; go_simp)) (by assumption) ?_
      simp only [List.set_cons_zero, List.set_cons_succ]
      refine takeW 6 23 (.pointer (some ⟨b', off' + k * 2, none⟩)) rfl rfl (by kernel_rfl) (by kernel_rfl) (by kernel_rfl) (fun _ _ _ h => h) (by kernel_rfl) (by (intro Y hSw; go_simp; try omega)) (by assumption) ?_
      simp only [List.set_cons_zero, List.set_cons_succ]
      refine takeW 7 24 (.agg #[.int .i64 id', .slice a2 L2.length c2]) rfl rfl (by kernel_rfl) (by kernel_rfl) (by kernel_rfl) (fun _ _ _ h => h) (by kernel_rfl) (by (intro Y hSw; obtain ⟨X1, X2⟩ := hc' Y hSw; go_simp)) (by assumption) ?_
      simp only [List.set_cons_zero, List.set_cons_succ]
      refine wpAnyH_all (rs := [8]) (by kernel_rfl) (by simp) ?_
      intro i hi; obtain rfl : i = 8 := by simpa using hi
      refine wpOp_step rfl (fun K hK => ?_)
      rw [if_pos (by kernel_rfl)]
      go_simp
      go_at_call 51
      refine (brEq id' a1 a2 c1 c2 L2 _ (hn _ hb0) (hn' _ hb0) hlk).mono ?_
      rintro e y1 ⟨rfl, j1⟩
      have hb1 : Below w.heap.size w y1 := hb0.trans (j1.mono hb0.size)
      refine hK _ _ ⟨hb1, ?_⟩
      clear hK K hi
      refine takeW 9 26 (.bool false) rfl rfl (by kernel_rfl) (by kernel_rfl) (by kernel_rfl) (fun _ _ _ h => h) (by kernel_rfl) (by (intro w hSw; go_simp)) (by assumption) ?_
      simp only [List.set_cons_zero, List.set_cons_succ]
      refine wpAnyH_done (by kernel_rfl) ?_ _
      go_wp2
      go_roundw
      case rel => exact ⟨k + 1, by omega, by go_num, hb1⟩
      case measure => simp [intOf]; omega
    · obtain rfl : k = Bs.length := by omega
      go_wp2
      go_ret
      exact ⟨rfl, hb⟩

end Go.Proofs.Ytdfjfodfnildiab
