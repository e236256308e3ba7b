/- Tables that are drawn, right or not. -/
import Derived.Test.YtifndemkkaelaaaRows
import Derived.WalkKit
import Derived.ProofKit
import Derived.OpenShut
import Derived.ShutString
import Derived.ChangeOld
import Derived.Below
import Derived.Deep.QuietTactic
import Derived.BigQuiet
import Derived.WalkSmall
import Derived.Laws.OwnMore
import Derived.WalkSpells
import Derived.Maps.AppendAt
import Derived.Test.YtifndemkkaelaaaDrawT
namespace Go.Proofs.Ytifndemkkaelaaa
open Go.ChangeShapes Go.WideShapes Go.ChangeAt Go.RowKit
open Go.ChangeMaps (open_string shut_string)
set_option linter.unusedVariables false

set_option maxHeartbeats 4000000 in
theorem drawT {cb : Nat} {ad : Option Addr} {len cap : Nat} {f : Nat → Int} (w : World) (hs : Src w cb ad len cap f) (hcb : cb < w.heap.size) (hadl : ∀ x, ad = some x → 0 < len → x.block < w.heap.size) :
    Calls Try.prog 55 #[.pointer (some ⟨cb, 0, none⟩)] w fun e w' => ∃ vv M, e = .returned vv ∧ HOwn w' w.heap.size vv M ∧ M.length ≤ 20 ∧ DT w cb ad len cap f w' := by
  obtain ⟨i1, hj, hy0, hy1, hy2⟩ := info_parts Try.info60'
  go_enter Try.func55, Try.ntmps55
  go_wp2_with fail
  go_at_call 74
  refine (drawRightT w hs hcb).mono ?_
  rintro e y1 ⟨v1, M, rfl, o1, m1, D1⟩
  go_wp2_with fail
  go_at_call 23
  refine (drawBelow D1.src 8 (by omega) (by omega)).mono ?_
  rintro e y2 ⟨n, rfl, a2, b2, s2, g2⟩
  have D2 := D1.step s2 g2
  have o2 := own_cb o1 g2 hcb
  clear D1 o1 g2
  by_cases hn0 : n = 0
  · have hn0' : (n == 0) = true := by simp [hn0]
    clear hn0
    go_wp2_with fail
    go_at_call 23
    refine (drawBelow s2 11 (by omega) (by omega)).mono ?_
    rintro e y3 ⟨n3, rfl, a3, b3, s3, g3⟩
    have D3 := D2.step s3 g3
    have o3 := own_cb o2 g3 hcb
    clear D2 o2 s2 g3
    go_wp2_with fail
    go_at_call 23
    refine (drawBelow s3 6 (by omega) (by omega)).mono ?_
    rintro e y4 ⟨n4, rfl, a4, b4, s4, g4⟩
    have D4 := D3.step s4 g4
    have o4 := own_cb o3 g4 hcb
    clear D3 o3 s3 g4
    go_wp2_with fail
    go_at_call 23
    refine (drawBelow s4 6 (by omega) (by omega)).mono ?_
    rintro e y5 ⟨n5, rfl, a5, b5, s5, g5⟩
    have D5 := D4.step s5 g5
    have o5 := own_cb o4 g5 hcb
    clear D4 o4 s4 g5
    have z5 := D5.gr.size
    obtain ⟨y6, hy6⟩ : ∃ y, y = y5.alloc (Obj.cells #[.int .i64 0, .int .i64 1, .int .i64 20, .int .i64 21] 3) := ⟨_, rfl⟩
    have k6 : Below y5.heap.size y5 y6 := by rw [hy6]; exact below_box y5 _
    have c6 : ∀ i, i < 4 → ∃ y, y6.cell? ⟨y5.heap.size, i, none⟩ = some (.int .i64 y) ∧ True := by
      intro i hi
      rw [hy6]
      match i, hi with
      | 0, _ => exact ⟨0, by simp [go_sem], trivial⟩
      | 1, _ => exact ⟨1, by simp [go_sem], trivial⟩
      | 2, _ => exact ⟨20, by simp [go_sem], trivial⟩
      | 3, _ => exact ⟨21, by simp [go_sem], trivial⟩
    have D6 := D5.below k6
    have o6 : HOwn y6 w.heap.size v1 M := own_grow o5 (below_grown k6 none) (fun j e => by cases e)
    clear k6 D5 o5
    go_wp2_with fail
    go_at_call 75
    rw [← hy6]
    clear hy6
    refine (pickIntP D6.src (fun _ => True) y5.heap.size 4 4 (by omega) (by omega) (by omega) c6).mono ?_
    rintro e y7 ⟨n7, rfl, _, s7, g7⟩
    have D7 := D6.step s7 g7
    have o7 := own_cb o6 g7 hcb
    have z7 := D7.gr.size
    clear D6 o6 s7 g7 c6
    go_wp2_with (first | (at_builtin; refine wpList_append_own_at _ rfl _ _ 26 rfl w.heap.size 60 i1 (.agg #[.int .i64 0, .int .i64 0, .int .i64 0, .int .i64 0]) 4 32 Try.underlying26 hj hy0 hy1 hy2 rfl (by decide) _ _ _ rfl (o7.alloc _) ⟨y7.heap.size, 0, none⟩ 1 1 [.int .i64 n3, .int .i64 n4, .int .i64 (n5 - 1), .int .i64 n7] rfl rfl ?d1 ?d2 ?d3 ?d4 ?d5 ?_) | go_in)
    case d1 => exact cells4 y7 ⟨n3, n4, n5 - 1, n7⟩ _
    case d2 => intro u hu; simp at hu; rcases hu with rfl | rfl | rfl | rfl <;> rfl
    case d3 => unfold maxLen; omega
    case d4 => omega
    case d5 => simp; omega
    intro v8 y8 hown8 hgrow8 _ _
    have o8 : HOwn y8 w.heap.size v8 (M ++ [⟨n3, n4, n5 - 1, n7⟩]) := by
      unfold HOwn
      rw [hcells_app, List.length_append]
      exact hown8
    have hge := own_ge o7
    have hne : cb ≠ y7.heap.size := by omega
    have D8 : DT w cb ad len cap f y8 := by
      have e1 : ∀ j, j < w.heap.size → y8.heap[j]? = y7.heap[j]? := fun j hj' => (hgrow8.block j (by simp; omega) (fun e => by have := hge j e.symm; omega)).trans ((below_box y7 _).block j (by omega))
      have b8 : Below w.heap.size y7 y8 := ⟨hgrow8.os, hgrow8.tape, hgrow8.output, by have := hgrow8.size; simp at this; omega, e1⟩
      refine ⟨⟨D7.src.cur.carry (e1 cb hcb), D7.src.view.carry (fun a e hp => e1 _ ?_), D7.src.ne, D7.src.small, D7.src.bytes⟩, ⟨b8.os.trans D7.gr.os, b8.tape.trans D7.gr.tape, b8.output.trans D7.gr.output, Nat.le_trans D7.gr.size b8.size, fun j hj' hn' => (e1 j hj').trans (D7.gr.block j hj' hn')⟩⟩
      exact hadl a e hp
    clear hown8 hgrow8
    go_wp2
    go_ret
    exact ⟨_, _, rfl, o8, by simp; omega, D8⟩
  · have hn0' : (n == 0) = false := by simp [hn0]
    by_cases hn1 : n = 1
    · have hn1' : (n == 1) = true := by simp [hn1]
      clear hn0 hn1
      go_wp2
      go_loopw [3, 4] (fun l i wr => ∃ (k : Nat) (M : List Hd), i = .int .i64 ((k : Int) + 1) ∧ k ≤ 9 ∧ HOwn wr w.heap.size l M ∧ M.length ≤ 10 + k ∧ DT w cb ad len cap f wr) (fun _ i _ => 11 - (intOf i).toNat)
      case atStart => exact ⟨0, M, rfl, by omega, o2, by omega, D2⟩
      case round =>
        obtain ⟨k, M, rfl, hk, hl, hM, hD⟩ := hrel
        clear D2 o2 s2
        by_cases hlt : k < 9
        · have hlt' : (k : Int) + 1 ≤ 9 := by omega
          go_wp2_with fail
          go_at_call 76
          refine (hearS w.heap.size _ M _ _ _ wr hl (by omega)).mono ?_
          rintro e y5 ⟨v5, M5, rfl, o5, m5, k5⟩
          have D5 := hD.below k5
          have z4 := hD.gr.size
          have o5 := own_base' o5 (show w.heap.size ≤ wr.heap.size from z4)
          clear hD hl k5
          go_wp2
          go_roundw
          case rel => exact ⟨k + 1, M5, by go_num, by omega, o5, by omega, D5⟩
          case measure => simp [intOf]; omega
        · have hlt' : decide ((k : Int) + 1 ≤ 9) = false := decide_eq_false (by omega)
          go_wp2
          go_ret
          exact ⟨_, M, rfl, hl, by omega, hD⟩
    · have hn1' : (n == 1) = false := by simp [hn1]
      clear hn0 hn1
      go_wp2
      go_ret
      exact ⟨_, M, rfl, o2, by omega, D2⟩

end Go.Proofs.Ytifndemkkaelaaa
