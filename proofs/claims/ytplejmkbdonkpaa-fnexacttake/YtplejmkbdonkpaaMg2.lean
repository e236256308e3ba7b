/- count, begins, eachIs of a journal, walked. -/
import Derived.Test.YtplejmkbdonkpaaRows
import Derived.WalkKit
import Derived.ProofKit
import Derived.OpenShut
import Derived.ShutString
import Derived.ChangeOld
import Derived.Below
import Derived.Deep.QuietTactic
import Derived.BigQuiet
import Derived.WalkSmall
import Derived.Laws.OwnMore
import Derived.WalkSpells
import Derived.WalkLawsBesides
import Derived.Deep.Cut
import Derived.Test.YtplejmkbdonkpaaMi1
import Derived.Test.YtplejmkbdonkpaaIs1
import Derived.Test.YtplejmkbdonkpaaIn2
namespace Go.Proofs.Ytplejmkbdonkpaa
open Go.ChangeShapes Go.WideShapes Go.ChangeAt Go.RowKit
open Go.ChangeMaps (open_string shut_string)
set_option linter.unusedVariables false
set_option maxRecDepth 100000

theorem countI (q len : Nat) (ad : Option Addr) (cap : Nat) (w : World) (h : w.cell? ⟨q, 0, none⟩ = some (.slice ad len cap)) :
    Calls Try.prog 66 #[.pointer (some ⟨q, 0, none⟩)] w fun e w' => e = .returned (.int .i64 (len : Int)) ∧ w' = w := by
  go_enter Try.func66, Try.ntmps66
  go_wp2
  go_ret
  exact ⟨rfl, rfl⟩
theorem begI (q len : Nat) (ad : Option Addr) (cap : Nat) (n : Int) (w : World) (h : w.cell? ⟨q, 0, none⟩ = some (.slice ad len cap)) :
    Calls Try.prog 69 #[.pointer (some ⟨q, 0, none⟩), .int .i64 n] w fun e w' => e = .returned (.bool (decide (0 ≤ n ∧ n ≤ (len : Int)))) ∧ w' = w := by
  obtain ⟨R, hR⟩ : ∃ R, R = decide (0 ≤ n ∧ n ≤ (len : Int)) := ⟨_, rfl⟩
  rw [← hR]
  replace hR : Hid _ := hR
  by_cases h1 : 0 ≤ n
  · have d1 : decide (0 ≤ n) = true := decide_eq_true h1
    have hN : Hid (R = decide (n ≤ (len : Int))) := by unfold Hid; rw [hR.out]; by_cases h2 : n ≤ (len : Int) <;> simp [h1, h2]
    clear hR
    go_enter Try.func69, Try.ntmps69
    go_wp2_with fail
    go_at_call 66
    refine (countI q len ad cap w h).mono ?_
    rintro e w1 ⟨rfl, rfl⟩
    go_wp2
    go_ret
    exact ⟨by rw [hN.out]; rfl, rfl⟩
  · have d1 : decide (0 ≤ n) = false := decide_eq_false h1
    have hN : Hid (R = false) := by unfold Hid; rw [hR.out]; simp [h1]
    clear hR
    go_enter Try.func69, Try.ntmps69
    go_wp2
    go_ret
    exact ⟨by rw [hN.out]; rfl, rfl⟩
theorem all_take {X : Type} (f : X → Bool) (L : List X) (d : X) {k : Nat} (hk : k < L.length) : (L.take (k + 1)).all f = ((L.take k).all f && f (L.getD k d)) := by
  rw [List.take_add_one, List.all_append]
  have e : L[k]?.toList = [L.getD k d] := by simp [List.getD, hk]
  rw [e]; simp
theorem all_no {X : Type} (f : X → Bool) (L : List X) (d : X) {k : Nat} (hk : k < L.length) (h : f (L.getD k d) = false) : L.all f = false := by
  rw [List.all_eq_false]
  refine ⟨L.getD k d, ?_, by rw [h]; exact Bool.false_ne_true⟩
  simp [List.getD, hk]
set_option maxHeartbeats 2000000 in
theorem eachI (q : Nat) (ad : Option Addr) (cap : Nat) (L : List Ik) (w : World) (h : w.cell? ⟨q, 0, none⟩ = some (.slice ad L.length cap)) (hv : FView ikEnc w ad L) (hl : L.length ≤ 1048577) :
    Calls Try.prog 67 #[.pointer (some ⟨q, 0, none⟩), .func (Fn.func 68) #[] #[]] w fun e w' => e = .returned (.bool (L.all inOk)) ∧ Below w.heap.size w w' := by
  have hB := hv.lt ikEnc_len (by omega)
  obtain ⟨R, hR⟩ : ∃ R, R = L.all inOk := ⟨_, rfl⟩
  rw [← hR]
  replace hR : Hid _ := hR
  go_enter Try.func67, Try.ntmps67
  go_wp2
  go_loopw [12] (fun i wr => ∃ k : Nat, k ≤ L.length ∧ i = .int .i64 k ∧ (L.take k).all inOk = true ∧ Below w.heap.size w wr) (fun i _ => L.length - (intOf i).toNat)
  case atStart => exact ⟨0, Nat.zero_le _, rfl, rfl, Below.refl _ _⟩
  case round =>
    obtain ⟨k, hk, rfl, T, B⟩ := hrel
    replace T : Hid _ := T
    by_cases hlt : k < L.length
    · obtain ⟨b, off, rfl, _⟩ := hv (by omega)
      obtain ⟨x, hh⟩ : ∃ x, L.getD k Ik.nil = x := ⟨_, rfl⟩
      have hck : IkAtO wr b (off + k * 8) x := by
        rw [← hh]
        exact ikAtO_of ((hv.below B hB).at_ ikEnc_len Ik.nil hlt)
      have hT := all_take inOk L Ik.nil hlt
      rw [T.out, hh, Bool.true_and] at hT
      have hNo : inOk x = false → L.all inOk = false := fun e => all_no inOk L Ik.nil hlt (by rw [hh]; exact e)
      replace hT : Hid _ := hT
      replace hh : Hid _ := hh
      obtain ⟨c0, c1, c2, c3, c4, c5, c6, c7⟩ := hck
      obtain ⟨u, hu⟩ : ∃ u, u = wr.alloc (Obj.cells #[.int .i64 x.k, .int .i64 x.q, .int .i64 x.r, .int .i64 x.c, .int .i64 x.b, .int .i64 x.p, .int .i64 x.h, .bool x.up] 30) := ⟨_, rfl⟩
      have ku : Below wr.heap.size wr u := by rw [hu]; exact below_new _
      have U : InAt u wr.heap.size x := by rw [hu]; exact InAt.new wr _ x
      have B2 := B.trans (ku.mono B.size)
      go_upto_region 4 with fail
      rw [← hu]
      clear hu c0 c1 c2 c3 c4 c5 c6 c7 ku
      obtain ⟨c0, c1, c2, c3, c4, c5, c6, c7⟩ := U
      go_wp2_with fail
      go_at_call 68
      clear c0 c1 c2 c3 c4 c5 c6 c7
      refine (inOkI x u).mono ?_
      rintro e u2 ⟨rfl, k2⟩
      have B3 := B2.trans (k2.mono B2.size)
      clear k2 B2 B
      cases hx : inOk x with
      | false =>
        have hN : Hid (R = false) := by unfold Hid; rw [hR.out]; exact hNo hx
        clear hNo hx
        go_wp2
        go_ret
        exact ⟨by rw [hN.out]; rfl, B3⟩
      | true =>
        have hT2 : Hid ((L.take (k + 1)).all inOk = true) := by unfold Hid; rw [hT.out, hx]
        clear hNo hx
        go_wp2
        go_roundw
        case rel => exact ⟨k + 1, by omega, by go_num, hT2.out, B3⟩
        case measure => simp [intOf]; omega
    · obtain rfl : k = L.length := by omega
      have hN : Hid (R = true) := by unfold Hid; rw [hR.out]; have := T.out; rwa [List.take_length] at this
      go_wp2
      go_ret
      exact ⟨by rw [hN.out]; rfl, B⟩

end Go.Proofs.Ytplejmkbdonkpaa
