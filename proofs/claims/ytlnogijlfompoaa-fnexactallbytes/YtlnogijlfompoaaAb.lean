/- Both AllBytes, walked. -/
import Derived.Test.YtlnogijlfompoaaRows
import Derived.WalkKit
import Derived.ProofKit
import Derived.OpenShut
import Derived.ShutString
import Derived.ChangeOld
import Derived.Below
import Derived.Deep.QuietTactic
import Derived.BigQuiet
import Derived.WalkSmall
import Derived.Laws.OwnMore
import Derived.WalkSpells
import Derived.WalkLawsBesides
import Derived.Deep.Cut
import Derived.Test.YtlnogijlfompoaaBOwn
import Derived.Test.YtlnogijlfompoaaIns1
namespace Go.Proofs.Ytlnogijlfompoaa
open Go.ChangeShapes Go.WideShapes Go.ChangeAt Go.RowKit
open Go.ChangeMaps (open_string shut_string)
set_option linter.unusedVariables false
set_option maxRecDepth 100000

theorem allB_next {L : List Ik} {k : Nat} (hk : k < L.length) : allB (L.take k) ++ inBy (L.getD k Ik.nil) = allB (L.take (k + 1)) := by
  have e : L.getD k Ik.nil = L[k] := by simp [List.getD, List.getElem?_eq_getElem hk]
  rw [e, List.take_add_one, List.getElem?_eq_getElem hk, allB, allB, List.map_append, List.flatten_append]
  simp only [Option.toList_some, List.map_cons, List.map_nil, List.flatten_cons, List.flatten_nil, List.append_nil]
theorem allB_len (L : List Ik) : (allB L).length ≤ 11 * L.length := by
  induction L with
  | nil => simp [allB]
  | cons x L ih =>
    have h := inBy_len x
    simp only [allB, List.map_cons, List.flatten_cons, List.length_append, List.length_cons] at ih ⊢
    omega
set_option maxHeartbeats 4000000 in
theorem allBI (ad : Option Addr) (cap : Nat) (L : List Ik) (w : World) (hv : FView ikEnc w ad L) (hl : L.length ≤ 1048576) :
    Calls Try.prog 14 #[.slice ad L.length cap] w fun e w' => ∃ a c, e = .returned (.slice a (allB L).length c) ∧ FOwn bEnc 1 5 w.heap.size w' (.slice a (allB L).length c) (allB L) ∧ Below w.heap.size w w' := by
  have hB := hv.lt ikEnc_len (by omega)
  go_enter Try.func14, Try.ntmps14
  go_wp2
  go_loopw [3, 8] (fun v i wr => ∃ k : Nat, k ≤ L.length ∧ i = .int .i64 k ∧ FOwn bEnc 1 5 w.heap.size wr v (allB (L.take k)) ∧ Below w.heap.size w wr) (fun _ i _ => L.length - (intOf i).toNat)
  case atStart => exact ⟨0, Nat.zero_le _, rfl, FOwn.nil, Below.refl _ _⟩
  case round =>
    obtain ⟨k, hk, rfl, O, B⟩ := hrel
    by_cases hlt : k < L.length
    · obtain ⟨b, off, rfl, _⟩ := hv (by omega)
      have HT : Hid (allB (L.take k) ++ inBy (L.getD k Ik.nil) = allB (L.take (k + 1))) := allB_next hlt
      have hml : (allB (L.take k)).length ≤ 11534336 := by have := allB_len (L.take k); simp at this; omega
      obtain ⟨h, hh⟩ : ∃ h, L.getD k Ik.nil = h := ⟨_, rfl⟩
      have hck : IkAtO wr b (off + k * 8) h := by
        rw [← hh]
        exact ikAtO_of ((hv.below B hB).at_ ikEnc_len Ik.nil hlt)
      rw [hh] at HT
      have hbl : b < wr.heap.size := World.block_lt_of_cell? wr _ hck.c0
      obtain ⟨c0, c1, c2, c3, c4, c5, c6, c7⟩ := hck
      obtain ⟨M, hM⟩ : ∃ M, allB (L.take k) = M := ⟨_, rfl⟩
      rw [hM] at O HT hml
      clear hM hh
      have hih := inBy_len h
      obtain ⟨w1, hw1⟩ : ∃ y, y = wr.alloc (Obj.cells #[.int .i64 h.k, .int .i64 h.q, .int .i64 h.r, .int .i64 h.c, .int .i64 h.b, .int .i64 h.p, .int .i64 h.h, .bool h.up] 30) := ⟨_, rfl⟩
      have j1 : Below wr.heap.size wr w1 := by rw [hw1]; exact below_new _
      have N1 : InAt w1 wr.heap.size h := by rw [hw1]; exact InAt.new wr _ h
      have O := O.later j1
      have B1 := B.trans (j1.mono B.size)
      go_wp2_with fail
      go_at_call 7
      rw [← hw1]
      clear hw1 N1 c0 c1 c2 c3 c4 c5 c6 c7
      refine (inBIo h w1).mono ?_
      rintro e w2 ⟨a2, c2, rfl, O2, k2⟩
      have B2 := B1.trans (k2.mono B1.size)
      have O := O.later k2
      have V2 := bV O2.view.2
      have hc2 := O2.capn
      clear O2
      generalize inBy h = X at V2 HT hih ⊢
      have S2 := B2.size
      go_wp2_with (first | (at_builtin; refine app_view rfl _ _ rfl w.heap.size _ M rfl (bTo_ O) a2 c2 X rfl V2 ?n1 ?n2 ?n3 ?_))
      case n1 => exact fun _ e => hc2 e
      try case n2 => omega
      try case n3 => omega
      intro v3 w3 o3 k3
      have B3 := B2.trans k3
      have O3 : FOwn bEnc 1 5 w.heap.size w3 v3 (M ++ X) := bOf (by simpa using o3)
      rw [HT.out] at O3
      go_wp2
      go_roundw
      case rel => exact ⟨k + 1, by omega, by go_num, O3, B3⟩
      case measure => simp [intOf]; omega
    · obtain rfl : k = L.length := by omega
      rw [List.take_length] at O
      obtain ⟨a, c, rfl⟩ := O.open_
      go_wp2
      go_ret
      exact ⟨a, c, rfl, O, B⟩
set_option maxHeartbeats 4000000 in
theorem allBS (ad : Option Addr) (cap : Nat) (L : List Ik) (w : World) (hv : FView ikEnc w ad L) (hl : L.length ≤ 1048576) :
    Calls Try.prog 12 #[.slice ad L.length cap] w fun e w' => ∃ a c, e = .returned (.slice a (allB L).length c) ∧ FOwn bEnc 1 5 w.heap.size w' (.slice a (allB L).length c) (allB L) ∧ Below w.heap.size w w' := by
  have hB := hv.lt ikEnc_len (by omega)
  go_enter Try.func12, Try.ntmps12
  go_wp2
  go_loopw [3, 4] (fun v i wr => ∃ k : Nat, k ≤ L.length ∧ i = .int .i64 k ∧ FOwn bEnc 1 5 w.heap.size wr v (allB (L.take k)) ∧ Below w.heap.size w wr) (fun _ i _ => L.length - (intOf i).toNat)
  case atStart => exact ⟨0, Nat.zero_le _, rfl, FOwn.empty w, (Below.refl _ _).alloc (Nat.le_refl _) _⟩
  case round =>
    obtain ⟨k, hk, rfl, O, B⟩ := hrel
    by_cases hlt : k < L.length
    · obtain ⟨b, off, rfl, _⟩ := hv (by omega)
      have HT : Hid (allB (L.take k) ++ inBy (L.getD k Ik.nil) = allB (L.take (k + 1))) := allB_next hlt
      have hml : (allB (L.take k)).length ≤ 11534336 := by have := allB_len (L.take k); simp at this; omega
      obtain ⟨h, hh⟩ : ∃ h, L.getD k Ik.nil = h := ⟨_, rfl⟩
      have hck : IkAtO wr b (off + k * 8) h := by
        rw [← hh]
        exact ikAtO_of ((hv.below B hB).at_ ikEnc_len Ik.nil hlt)
      rw [hh] at HT
      have hbl : b < wr.heap.size := World.block_lt_of_cell? wr _ hck.c0
      obtain ⟨c0, c1, c2, c3, c4, c5, c6, c7⟩ := hck
      obtain ⟨M, hM⟩ : ∃ M, allB (L.take k) = M := ⟨_, rfl⟩
      rw [hM] at O HT hml
      clear hM hh
      have hih := inBy_len h
      have w1e : wr = wr := rfl
      have B1 := B
      go_wp2_with fail
      go_at_call 5
      clear c0 c1 c2 c3 c4 c5 c6 c7 w1e
      refine (inBSo h wr).mono ?_
      rintro e w2 ⟨a2, c2, rfl, O2, k2⟩
      have B2 := B1.trans (k2.mono B1.size)
      have O := O.later k2
      have V2 := bV O2.view.2
      have hc2 := O2.capn
      clear O2
      generalize inBy h = X at V2 HT hih ⊢
      have S2 := B2.size
      go_wp2_with (first | (at_builtin; refine app_view rfl _ _ rfl w.heap.size _ M rfl (bTo_ O) a2 c2 X rfl V2 ?n1 ?n2 ?n3 ?_))
      case n1 => exact fun _ e => hc2 e
      try case n2 => omega
      try case n3 => omega
      intro v3 w3 o3 k3
      have B3 := B2.trans k3
      have O3 : FOwn bEnc 1 5 w.heap.size w3 v3 (M ++ X) := bOf (by simpa using o3)
      rw [HT.out] at O3
      go_wp2
      go_roundw
      case rel => exact ⟨k + 1, by omega, by go_num, O3, B3⟩
      case measure => simp [intOf]; omega
    · obtain rfl : k = L.length := by omega
      rw [List.take_length] at O
      obtain ⟨a, c, rfl⟩ := O.open_
      go_wp2
      go_ret
      exact ⟨a, c, rfl, O, B⟩

end Go.Proofs.Ytlnogijlfompoaa
