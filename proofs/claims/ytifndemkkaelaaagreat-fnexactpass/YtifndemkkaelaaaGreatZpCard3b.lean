/- slices.ContainsFunc at members, walked. -/
import Derived.Test.YtifndemkkaelaaaGreatRows
import Derived.WalkKit
import Derived.ProofKit
import Derived.OpenShut
import Derived.ShutString
import Derived.ChangeOld
import Derived.Below
import Derived.Deep.QuietTactic
import Derived.BigQuiet
import Derived.WalkSmall
import Derived.Laws.OwnMore
import Derived.WalkSpells
import Derived.WalkLawsBesides
import Derived.Test.YtifndemkkaelaaaGreatZp20
namespace Go.Proofs.YtifndemkkaelaaaGreat
open Go.ChangeShapes Go.WideShapes Go.ChangeAt Go.RowKit
open Go.ChangeMaps (open_string shut_string)
set_option linter.unusedVariables false
set_option maxRecDepth 100000

theorem noMem (own : Int) (ad : Option Addr) (len cap : Nat) (f : Nat → Int) (w : World) (hv : ViewI w ad len f) (hm : len ≤ maxLen) :
    Calls Tryz.prog 92 #[.agg #[.int .i64 own, .slice ad len cap]] w fun e w' => e = .returned (.bool (!mOk own f len)) ∧ Below w.heap.size w w' := by
  go_enter Tryz.func92, Tryz.ntmps92
  go_wp2_with fail
  go_at_call 121
  obtain ⟨x0, hx⟩ : ∃ x, x = w.alloc (Obj.cells #[.int .i64 own, .slice ad len cap] 50) := ⟨_, rfl⟩
  have B0 : Below w.heap.size w x0 := by rw [hx]; exact below_box w _
  rw [← hx]
  clear hx
  refine (memberOkI own ad len cap f x0 (hv.below B0 (Nat.le_refl _)) hm).mono ?_
  rintro e w1 ⟨rfl, k1⟩
  go_wp2
  go_ret
  exact ⟨rfl, B0.trans (k1.mono B0.size)⟩
set_option maxHeartbeats 1000000 in
theorem idxF (ad : Option Addr) (cap : Nat) (Ms : List Mb) (w : World) (hv : MbV w ad Ms) (hl : Ms.length ≤ 1048576) (hmx : ∀ i, i < Ms.length → (Ms.getD i Mb.nil).L.length ≤ maxLen) :
    Calls Tryz.prog 120 #[.slice ad Ms.length cap, .func (Fn.func 92) #[] #[]] w fun e w' => (∃ r : Int, e = .returned (.int .i64 r) ∧ (decide (0 ≤ r) = !(Ms.map Mb.d).all okMem) ∧ r ≤ 1048576 ∧ -1 ≤ r) ∧ Below w.heap.size w w' := by
  have hget : ∀ i, (Ms.map Mb.d).getD i (0, []) = (Ms.getD i Mb.nil).d := d_get Ms
  go_enter Tryz.func120, Tryz.ntmps120
  go_wp2
  go_loopw [8] (fun i wr => ∃ k : Nat, i = .int .i64 (k : Int) ∧ k ≤ Ms.length ∧ Hid (∀ j, j < k → okMem ((Ms.map Mb.d).getD j (0, [])) = true) ∧ Below w.heap.size w wr) (fun i _ => Ms.length - (intOf i).toNat)
  case atStart => exact ⟨0, rfl, Nat.zero_le _, fun j hj => absurd hj (by omega), Below.refl _ _⟩
  case round =>
    obtain ⟨k, rfl, hk, hF, hb⟩ := hrel
    by_cases hlt : k < Ms.length
    · obtain ⟨b, off, rfl, hc⟩ := hv.row (by omega)
      have hck := (hc k hlt).same (hb.block _ (hv.lt ⟨b, off, none⟩ rfl (by omega)))
      have hnk := ViewI.below (hv.nest k hlt) hb (Nat.le_refl _)
      have hmk := hmx k hlt
      have hgk := hget k
      obtain ⟨m, hh⟩ : ∃ m, Ms.getD k Mb.nil = m := ⟨_, rfl⟩
      rw [hh] at hck hnk hmk hgk
      obtain ⟨c1, c2⟩ := hck
      have hgk' : Hid (okMem ((Ms.map Mb.d).getD k (0, [])) = mOk m.o (fun i => m.L.getD i 0) m.L.length) := by unfold Hid; rw [hgk]; rfl
      clear hc hh hgk hget hv hmx
      go_wp2_with fail
      go_at_call 92
      refine (noMem m.o m.ad m.L.length m.cap (fun i => m.L.getD i 0) wr hnk hmk).mono ?_
      rintro e w3 ⟨rfl, k3⟩
      have b3 := hb.trans (k3.mono hb.size)
      by_cases hq : mOk m.o (fun i => m.L.getD i 0) m.L.length = true
      · rw [hq]
        go_wp2
        go_roundw
        case rel =>
          refine ⟨k + 1, by go_num, by omega, fun j hj => ?_, b3⟩
          by_cases e : j = k
          · rw [e, hgk'.out]; exact hq
          · exact hF.out j (by omega)
        case measure => simp [intOf]; omega
      · have hq' : mOk m.o (fun i => m.L.getD i 0) m.L.length = false := by simpa using hq
        rw [hq']
        go_wp2
        go_ret
        refine ⟨⟨k, rfl, ?_, by omega, by omega⟩, b3⟩
        rw [all_no (D := Ms.map Mb.d) (k := k) (by rw [List.length_map]; omega) (by rw [hgk'.out]; exact hq')]
        simp
    · obtain rfl : k = Ms.length := by omega
      go_wp2
      go_ret
      refine ⟨⟨-1, rfl, ?_, by omega, by omega⟩, hb⟩
      rw [all_yes (D := Ms.map Mb.d) (fun j hj => hF.out j (by rw [List.length_map] at hj; omega))]
      rfl
theorem contF (ad : Option Addr) (cap : Nat) (Ms : List Mb) (w : World) (hv : MbV w ad Ms) (hl : Ms.length ≤ 1048576) (hmx : ∀ i, i < Ms.length → (Ms.getD i Mb.nil).L.length ≤ maxLen) :
    Calls Tryz.prog 91 #[.slice ad Ms.length cap, .func (Fn.func 92) #[] #[]] w fun e w' => e = .returned (.bool (!(Ms.map Mb.d).all okMem)) ∧ Below w.heap.size w w' := by
  have hI := idxF ad cap Ms w hv hl hmx
  generalize (!(Ms.map Mb.d).all okMem) = B at *
  go_enter Tryz.func91, Tryz.ntmps91
  go_wp2_with fail
  go_at_call 120
  refine hI.mono ?_
  rintro e w1 ⟨⟨r, rfl, hr, r1, r2⟩, k1⟩
  go_wp2
  go_ret
  exact ⟨rfl, k1⟩

end Go.Proofs.YtifndemkkaelaaaGreat
