/- A row of bytes: how it comes in. -/
import Derived.Test.YtlgcjhebbmejaaaRows
import Derived.WalkKit
import Derived.ProofKit
import Derived.OpenShut
import Derived.ShutString
import Derived.ChangeOld
import Derived.Below
import Derived.Deep.QuietTactic
import Derived.BigQuiet
import Derived.WalkSmall
import Derived.Laws.OwnMore
import Derived.WalkSpells
import Derived.WalkLawsBesides
import Derived.Deep.Cut
import Derived.Test.YtlgcjhebbmejaaaBOwn19
namespace Go.Proofs.Ytlgcjhebbmejaaa
open Go.ChangeShapes Go.WideShapes Go.ChangeAt Go.RowKit
open Go.ChangeMaps (open_string shut_string)
set_option linter.unusedVariables false
set_option maxRecDepth 100000

theorem view_list {w : World} {ad : Option Addr} {len : Nat} {f : Nat → Int} (hv : View w ad len f) (hf : ∀ i, 0 ≤ f i ∧ f i ≤ 255) : ∃ L : List Int, len = L.length ∧ View w ad L.length (fun i => L.getD i 0) ∧ ∀ x ∈ L, 0 ≤ x ∧ x ≤ 255 := by
  refine ⟨(List.range len).map f, by simp, ?_, ?_⟩
  · rw [List.length_map, List.length_range]
    refine hv.congr fun i hi => ?_
    simp [List.getD, hi]
  · intro x hx
    obtain ⟨i, _, rfl⟩ := List.mem_map.1 hx
    exact hf i

set_option maxHeartbeats 2000000 in
theorem bToS (ad : Option Addr) (cap : Nat) (L : List Int) (w : World) (hv : FView bEnc w ad L) (hl : L.length ≤ 1048576) :
    Calls Try.prog 30 #[.slice ad L.length cap] w fun e w' => e = .returned (.slice (some ⟨w.heap.size, 0, none⟩) L.length L.length) ∧ FOwn bEnc 1 5 w.heap.size w' (.slice (some ⟨w.heap.size, 0, none⟩) L.length L.length) L ∧ Below w.heap.size w w' := by
  obtain ⟨i0, hi, hz0, hz1, hz2⟩ := info_parts bInfo
  have hB := hv.lt bEnc_len (by omega)
  go_enter Try.func30, Try.ntmps30
  go_wp2_with (first | (refine wpList_make_full _ rfl _ _ 22 rfl w.heap.size 5 i0 (.int .u8 0) 1 Try.underlying22 hi hz0 hz1 .i64 .i64 _ _ L.length rfl rfl rfl rfl ?c1 ?c2 ?c3 ?_))
  case c1 => rw [hz2]; omega
  case c2 => unfold maxLen; omega
  case c3 => exact Nat.le_refl _
  intro w1 hown hgrow
  have F0 : FFill bEnc 1 5 w.heap.size w1 w.heap.size L 0 := FFill.start hown
  have B0 : Below w.heap.size w w1 := (Below.refl _ _).grown hgrow (Nat.le_refl _) (by simp)
  clear hown hgrow
  go_wp2
  go_loopw [4] (fun i wr => ∃ k : Nat, k ≤ L.length ∧ i = .int .i64 k ∧ FFill bEnc 1 5 w.heap.size wr w.heap.size L k ∧ Below w.heap.size w wr) (fun i _ => L.length - (intOf i).toNat)
  case atStart => exact ⟨0, Nat.zero_le _, rfl, F0, B0⟩
  case round =>
    obtain ⟨k, hk, rfl, F, B⟩ := hrel
    clear F0 B0
    by_cases hlt : k < L.length
    · obtain ⟨b, off, rfl, _⟩ := hv (by omega)
      have hck := (hv.below B hB).at_ bEnc_len 0 hlt 0 _ rfl
      rw [Nat.mul_one, Nat.add_zero] at hck
      obtain ⟨u, hu⟩ := F.cell k (by omega)
      have ff := F.frozen k
      have F1 := F.step bEnc_len 0 hlt
      have B1 := below_putAll (Nat.le_refl _) (bEnc (L.getD k 0)) k B
      rw [Nat.mul_one] at F1
      have e1 : putAll wr w.heap.size k (bEnc (L.getD k 0)) = wr.setCell ⟨w.heap.size, k, none⟩ (.int .u8 (L.getD k 0)) := rfl
      rw [e1] at F1 B1
      generalize L.getD k 0 = n at hck F1 B1
      clear F B e1
      go_wp2
      go_roundw
      case rel => exact ⟨k + 1, by omega, by go_num, F1, B1⟩
      case measure => simp [intOf]; omega
    · obtain rfl : k = L.length := by omega
      go_wp2
      go_ret
      exact ⟨rfl, F.done bEnc_len, B⟩

end Go.Proofs.Ytlgcjhebbmejaaa
