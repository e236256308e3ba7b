/- Both BridgeOk, portIsOf, canFollow, walked. -/
import Derived.Test.YtijhpfccjaaalaaGreatRows
import Derived.WalkKit
import Derived.ProofKit
import Derived.OpenShut
import Derived.ShutString
import Derived.ChangeOld
import Derived.Below
import Derived.Deep.QuietTactic
import Derived.BigQuiet
import Derived.WalkSmall
import Derived.Laws.OwnMore
import Derived.WalkSpells
import Derived.WalkLawsBesides
import Derived.Test.YtijhpfccjaaalaaGreatBr1
namespace Go.Proofs.YtijhpfccjaaalaaGreat
open Go.ChangeShapes Go.WideShapes Go.ChangeAt Go.RowKit
open Go.ChangeMaps (open_string shut_string)
set_option linter.unusedVariables false
set_option maxRecDepth 100000

theorem pall_no {L : List Pt} {k : Nat} (h : k < L.length) (hq : pOk (L.getD k Pt.nil) = false) : L.all pOk = false := by
  rw [List.all_eq_false]
  exact ⟨L[k], List.getElem_mem h, by rw [show L.getD k Pt.nil = L[k] by simp [List.getD, h]] at hq; simp [hq]⟩
theorem pall_yes {L : List Pt} (h : ∀ j, j < L.length → pOk (L.getD j Pt.nil) = true) : L.all pOk = true := by
  rw [List.all_eq_true]
  intro x hx
  obtain ⟨i, hi, rfl⟩ := List.getElem_of_mem hx
  have := h i hi
  rwa [show L.getD i Pt.nil = L[i] by simp [List.getD, hi]] at this
set_option maxHeartbeats 1000000 in
theorem bOkS (id : Int) (ad : Option Addr) (cap : Nat) (L : List Pt) (w : World) (hv : FView ptEnc w ad L) (hl : L.length ≤ 1048576) :
    Calls Tryz.prog 160 #[.agg #[.int .i64 id, .slice ad L.length cap]] w fun e w' => e = .returned (.bool (bOk id L)) ∧ Below w.heap.size w w' := by
  have hB := hv.lt ptEnc_len (by omega)
  obtain ⟨y, hy⟩ : ∃ y, y = w.alloc (Obj.cells #[.int .i64 id, .slice ad L.length cap] 207) := ⟨_, rfl⟩
  have B0 : Below w.heap.size w y := by rw [hy]; exact below_new _
  have A0 : BrAt y w.heap.size id (.slice ad L.length cap) := by rw [hy]; exact BrAt.new w _ _ _
  have S0 := A0.lt
  have hv := hv.below B0 hB
  have hB := hv.lt ptEnc_len (by omega)
  obtain ⟨R, hR⟩ : ∃ R, R = bOk id L := ⟨_, rfl⟩
  rw [← hR]
  replace hR : Hid _ := hR
  go_enter Tryz.func160, Tryz.ntmps160
  go_wp2
  rw [← hy]
  clear hy
  go_loopw [3] (fun i wr => ∃ k : Nat, i = .int .i64 (k : Int) ∧ k ≤ L.length ∧ Hid (∀ j, j < k → pOk (L.getD j Pt.nil) = true) ∧ Below y.heap.size y wr) (fun i _ => L.length - (intOf i).toNat)
  case atStart => exact ⟨0, rfl, Nat.zero_le _, fun j hj => absurd hj (by omega), Below.refl _ _⟩
  case round =>
    obtain ⟨k, rfl, hk, hF, hb⟩ := hrel
    obtain ⟨a0, a1⟩ := A0.below hb S0
    by_cases hlt : k < L.length
    · obtain ⟨b, off, rfl, _⟩ := hv (by omega)
      obtain ⟨h, hh⟩ : ∃ h, L.getD k Pt.nil = h := ⟨_, rfl⟩
      have hck : PtAtO wr b (off + k * 11) h := by
        rw [← hh]
        exact ptAtO_of ((hv.below hb hB).at_ ptEnc_len Pt.nil hlt)
      obtain ⟨c0, c1, c2, c3, c4, c5, c6, c7, c8, c9, c10⟩ := hck
      replace hh : Hid _ := hh
      clear hB hv
      go_wp2_with fail
      go_at_call 167
      refine (pOkS h wr).mono ?_
      rintro e w3 ⟨rfl, k3⟩
      have b3 := hb.trans (k3.mono hb.size)
      by_cases hq : pOk h = true
      · rw [hq]
        go_wp2
        go_roundw
        case rel =>
          refine ⟨k + 1, by go_num, by omega, fun j hj => ?_, b3⟩
          by_cases e : j = k
          · rw [e, hh.out]; exact hq
          · exact hF.out j (by omega)
        case measure => simp [intOf]; omega
      · have hq' : pOk h = false := by simpa using hq
        rw [hq']
        have hC : Hid (R = false) := by
          unfold Hid; rw [hR.out, bOk, pall_no hlt (by rw [hh.out]; exact hq')]; simp
        clear hR
        go_wp2
        go_ret
        exact ⟨by rw [hC.out]; rfl, B0.trans (b3.mono B0.size)⟩
    · obtain rfl : k = L.length := by omega
      have hP := pall_yes hF.out
      have B1 := B0.trans (hb.mono B0.size)
      by_cases h1 : 1 ≤ id ∧ id ≤ 9
      · have d1 : decide (1 ≤ id ∧ id ≤ 9) = true := decide_eq_true h1
        have hC : Hid (R = decide (1 ≤ (L.length : Int) ∧ (L.length : Int) ≤ 4)) := by
          unfold Hid; rw [hR.out, bOk, hP, d1, Bool.true_and, Bool.and_true]; exact decide_eq_decide.2 (by omega)
        clear hR hP h1
        go_wp2_with fail
        go_at_call 43
        refine (inB id 1 9 wr).mono ?_
        rintro e w4 ⟨rfl, rfl⟩
        rw [d1]
        go_wp2_with fail
        go_at_call 43
        refine (inB L.length 1 4 w4).mono ?_
        rintro e w5 ⟨rfl, rfl⟩
        rw [← hC.out]
        go_wp2
        go_ret
        exact ⟨rfl, B1⟩
      · have d1 : decide (1 ≤ id ∧ id ≤ 9) = false := decide_eq_false h1
        have hC : Hid (R = false) := by
          unfold Hid; rw [hR.out, bOk, d1]; simp
        clear hR hP h1
        go_wp2_with fail
        go_at_call 43
        refine (inB id 1 9 wr).mono ?_
        rintro e w4 ⟨rfl, rfl⟩
        rw [d1]
        go_wp2
        go_ret
        exact ⟨by rw [hC.out]; rfl, B1⟩
theorem cand_up {id : Int} {x : Pt} (h : pOk x = true) : (x.up && cand id x) = cand id x := by
  cases hh : x.has
  · simp [cand, hh]
  · rw [(pOk_has h hh).1]; rfl
end Go.Proofs.YtijhpfccjaaalaaGreat
