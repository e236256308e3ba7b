/- impl.TableOk, walked. -/
import Derived.Test.YtifndemkkaelaaaRows
import Derived.WalkKit
import Derived.ProofKit
import Derived.OpenShut
import Derived.ShutString
import Derived.ChangeOld
import Derived.Below
import Derived.Deep.QuietTactic
import Derived.BigQuiet
import Derived.WalkSmall
import Derived.Laws.OwnMore
import Derived.WalkSpells
import Derived.Test.YtifndemkkaelaaaHeard4
namespace Go.Proofs.Ytifndemkkaelaaa
open Go.ChangeShapes Go.WideShapes Go.ChangeAt Go.RowKit
open Go.ChangeMaps (open_string shut_string)
set_option linter.unusedVariables false

def whereR : List Hd → Int → Int → Int × Bool
  | [], _, _ => (0, false)
  | h :: t, a, v => if h.a = a ∧ h.v = v then (h.p, true) else whereR t a v
theorem drop_cons {L : List Hd} {k : Nat} {h : Hd} (hk : k < L.length) (hh : L.getD k Hd.nil = h) : L.drop k = h :: L.drop (k + 1) := by
  rw [List.drop_eq_getElem_cons hk]
  simp [List.getD, List.getElem?_eq_getElem hk] at hh
  rw [hh]
set_option maxHeartbeats 1000000 in
theorem okI (ad : Option Addr) (cap : Nat) (L : List Hd) (w : World) (hv : HView w ad L) (hm : L.length ≤ maxLen) (hB : HIs ad L (· < w.heap.size)) :
    Calls Try.prog 59 #[.slice ad L.length cap] w fun e w' => e = .returned (.bool (tokB L)) ∧ Below w.heap.size w w' := by
  have hm0 := hm
  unfold maxLen at hm
  by_cases hbig : 12 < L.length
  · have hbig' : (12 : Int) < (L.length : Int) := by omega
    have hO : Hid (tokB L = false) := tokB_no fun q => by have := q.1; omega
    go_enter Try.func59, Try.ntmps59
    go_wp2
    go_ret
    exact ⟨by rw [hO.out]; rfl, Below.refl _ _⟩
  have hbig' : (L.length : Int) ≤ 12 := by omega
  go_enter Try.func59, Try.ntmps59
  go_wp2
  go_loopw [10] (fun i wr => ∃ k : Nat, i = .int .i64 (k : Int) ∧ k ≤ L.length ∧ Hid (∀ i, i < k → (L.getD i Hd.nil).fits = true) ∧ Below w.heap.size w wr) (fun i _ => L.length - (intOf i).toNat)
  case atStart => exact ⟨0, rfl, Nat.zero_le _, fun i hi => absurd hi (by omega), Below.refl _ _⟩
  case round =>
    obtain ⟨k, rfl, hk, hF, hb⟩ := hrel
    by_cases hlt : k < L.length
    · obtain ⟨b, off, rfl, hc0⟩ := hv (by omega)
      obtain ⟨h, hh⟩ : ∃ h, L.getD k Hd.nil = h := ⟨_, rfl⟩
      have hck : HAt wr b (off + k * 4) h := by rw [← hh]; exact (hc0 k hlt).of_block (hb.block _ (hB ⟨b, off, none⟩ rfl (by omega)))
      obtain ⟨c1, c2, c3, c4⟩ := hck
      clear hc0
      have hb1 : Below w.heap.size w (wr.alloc (Obj.cells #[.int .i64 h.a, .int .i64 h.v, .int .i64 h.p, .int .i64 h.l] 60)) := hb.trans ((below_box wr _).mono hb.size)
      cases hf : h.fits with
      | false =>
        have hO : Hid (tokB L = false) := tokB_no fun q => by have := q.2.1 k hlt; rw [hh, hf] at this; cases this
        clear hh hF
        go_wp2_with fail
        go_at_call 79
        refine (fitsH h _).mono ?_
        rintro e w1 ⟨rfl, k1⟩
        rw [hf]
        clear hf
        go_wp2
        go_ret
        exact ⟨by rw [hO.out]; rfl, hb1.trans (k1.mono hb1.size)⟩
      | true =>
        have hF1 : Hid (∀ i, i < k + 1 → (L.getD i Hd.nil).fits = true) := fun i hi => by
          by_cases e : i = k
          · subst e; rw [hh]; exact hf
          · exact hF.out i (by omega)
        clear hh hF
        go_wp2_with fail
        go_at_call 79
        refine (fitsH h _).mono ?_
        rintro e w1 ⟨rfl, k1⟩
        rw [hf]
        clear hf
        go_wp2
        go_roundw
        case rel => exact ⟨k + 1, by go_num, by omega, hF1, hb1.trans (k1.mono hb1.size)⟩
        case measure => simp [intOf]; omega
    · obtain rfl : k = L.length := by omega
      have hO : Hid (tokB L = ordB L) := by
        have hF' := hF.out
        unfold Hid
        by_cases q : Ord L
        · rw [ordB_yes q, tokB_yes (show TOk L from ⟨by omega, hF', q⟩)]
        · rw [ordB_no q, tokB_no (show ¬ TOk L from fun t => q t.2.2)]
      clear hF
      go_wp2_with fail
      go_at_call 80
      refine (inOrd ad cap L wr (hv.below hB hb) hm0 (fun a e p => by have := hB a e p; have := hb.size; omega)).mono ?_
      rintro e w1 ⟨rfl, k1⟩
      go_wp2
      go_ret
      exact ⟨by rw [hO.out]; rfl, hb.trans (k1.mono hb.size)⟩

end Go.Proofs.Ytifndemkkaelaaa
