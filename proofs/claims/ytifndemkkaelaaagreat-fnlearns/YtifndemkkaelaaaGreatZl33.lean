/- Tables that are drawn. Tables that are drawn, right or not. -/
import Derived.Test.YtifndemkkaelaaaGreatRows
import Derived.WalkKit
import Derived.ProofKit
import Derived.OpenShut
import Derived.ShutString
import Derived.ChangeOld
import Derived.Below
import Derived.Deep.QuietTactic
import Derived.BigQuiet
import Derived.WalkSmall
import Derived.Laws.OwnMore
import Derived.WalkSpells
import Derived.Maps.AppendAt
import Derived.Test.YtifndemkkaelaaaGreatZlHear
import Derived.Test.YtifndemkkaelaaaGreatZl29
namespace Go.Proofs.YtifndemkkaelaaaGreat
open Go.ChangeShapes Go.WideShapes Go.ChangeAt Go.RowKit
open Go.ChangeMaps (open_string shut_string)
set_option linter.unusedVariables false
set_option maxRecDepth 100000

set_option maxHeartbeats 2000000 in
theorem ageS0 (ad : Option Addr) (cap : Nat) (L : List Hd) (w : World) (hv : HView w ad L) (hm : L.length ≤ 1048576) (hB : HIs ad L (· < w.heap.size)) :
    Calls Tryz.prog 133 #[.slice ad L.length cap] w fun e w' => (∃ vv, e = .returned vv ∧ HOwn w' w.heap.size vv (aged L)) ∧ Below w.heap.size w w' := by
  obtain ⟨i1, hj, hy0, hy1, hy2⟩ := info_parts Tryz.info97'
  go_enter Tryz.func133, Tryz.ntmps133
  go_wp2
  go_loopw [3, 4] (fun l i wr => ∃ k : Nat, i = .int .i64 (k : Int) ∧ k ≤ L.length ∧ HOwn wr w.heap.size l (aged (L.take k)) ∧ Below w.heap.size w wr) (fun _ i _ => L.length - (intOf i).toNat)
  case atStart => exact ⟨0, rfl, Nat.zero_le _, hown_empty w, below_box w _⟩
  case round =>
    obtain ⟨k, rfl, hk, hl, hb⟩ := hrel
    by_cases hlt : k < L.length
    · obtain ⟨b, off, rfl, hc0⟩ := hv (by omega)
      obtain ⟨h, hh⟩ : ∃ h, L.getD k Hd.nil = h := ⟨_, rfl⟩
      have hck : HAt wr b (off + k * 4) h := by rw [← hh]; exact (hc0 k hlt).of_block (hb.block _ (hB ⟨b, off, none⟩ rfl (by omega)))
      obtain ⟨c1, c2, c3, c4⟩ := hck
      have hts := take_step hlt hh
      have hbs := hb.size
      obtain ⟨P, hP⟩ : ∃ P, aged (L.take k) = P := ⟨_, rfl⟩
      have hpl : Hid (P.length ≤ 1048576) := by rw [← hP]; have := aged_len (L.take k); unfold Hid; simp at this; omega
      rw [hP] at hl
      have hge := own_ge hl
      by_cases hg : 1 < h.l
      · have hnx : aged (L.take (k + 1)) = P ++ [h.older] := by
          rw [hts, aged_app, hP]
          have e : goneA h = false := decide_eq_false (by omega)
          simp [aged, e]
        have hnX : Hid (aged (L.take (k + 1)) = P ++ [h.older]) := hnx
        clear hh hc0 hts hP hnx
        go_wp2_with (first | (at_builtin; refine wpList_append_own_at _ rfl _ _ 26 rfl w.heap.size 97 i1 (.agg #[.int .i64 0, .int .i64 0, .int .i64 0, .int .i64 0]) 4 32 Tryz.underlying26 hj hy0 hy1 hy2 rfl (by decide) _ _ _ rfl ((hl.alloc _).alloc _) ⟨wr.heap.size + 1, 0, none⟩ 1 1 [.int .i64 h.a, .int .i64 h.v, .int .i64 h.p, .int .i64 (wrap64 (h.l - 1))] rfl rfl ?d1 ?d2 ?d3 ?d4 ?d5 ?_) | go_in)
        case d1 => exact cells4' (wr.alloc _) h.older _ _ (by simp)
        case d2 => intro u hu; simp at hu; rcases hu with rfl | rfl | rfl | rfl <;> rfl
        case d3 => have := hpl.out; unfold maxLen; omega
        case d4 => have := hpl.out; omega
        case d5 => simp; omega
        intro v' w3 hown3 hgrow3 _ _
        have hown4 : HOwn w3 w.heap.size v' (aged (L.take (k + 1))) := by
          rw [hnX.out]
          unfold HOwn
          rw [hcells_app, List.length_append]
          exact hown3
        have hb4 : Below w.heap.size w w3 := ((hb.alloc hbs _).alloc (by simp; omega) _).grown hgrow3 (by simp; omega) hge
        clear hown3 hgrow3
        go_wp2
        go_roundw
        case rel => exact ⟨k + 1, by go_num, by omega, hown4, hb4⟩
        case measure => simp [intOf]; omega
      · have hg' : decide (1 < h.l) = false := decide_eq_false hg
        have hnx : aged (L.take (k + 1)) = P := by
          rw [hts, aged_app, hP]
          have e : goneA h = true := decide_eq_true (by omega)
          simp [aged, e]
        have hl4 : HOwn (wr.alloc (Obj.cells #[.int .i64 h.a, .int .i64 h.v, .int .i64 h.p, .int .i64 h.l] 97)) w.heap.size u3 (aged (L.take (k + 1))) := by
          rw [hnx]
          exact hl.alloc _
        clear hh hc0 hts hP hnx hg
        go_wp2
        go_roundw
        case rel => exact ⟨k + 1, by go_num, by omega, hl4, hb.alloc hbs _⟩
        case measure => simp [intOf]; omega
    · obtain rfl : k = L.length := by omega
      rw [List.take_length] at hl
      go_wp2
      go_ret
      exact ⟨⟨_, rfl, hl⟩, hb⟩

structure DT (w : World) (cb : Nat) (ad : Option Addr) (len cap : Nat) (f : Nat → Int) (y : World) : Prop where
  src : Src y cb ad len cap f
  gr : w.grownBy y (some cb)
theorem DT.step {w : World} {cb : Nat} {ad : Option Addr} {len cap : Nat} {f : Nat → Int} {y z : World} (h : DT w cb ad len cap f y) (hs : Src z cb ad len cap f) (g : y.grownBy z (some cb)) : DT w cb ad len cap f z := ⟨hs, grown_trans h.gr g⟩
theorem DT.below {w : World} {cb : Nat} {ad : Option Addr} {len cap : Nat} {f : Nat → Int} {y z : World} (h : DT w cb ad len cap f y) (b : Below y.heap.size y z) : DT w cb ad len cap f z :=
  ⟨h.src.later b, grown_trans h.gr (below_grown b _)⟩
theorem own_cb {w w' : World} {base cb : Nat} {v : Value} {M : List Hd} (h : HOwn w base v M) (g : w.grownBy w' (some cb)) (hc : cb < base) : HOwn w' base v M := own_grow h g (fun j e => by cases e; exact hc)
theorem ageO (base0 : Nat) (v0 : Value) (L : List Hd) (w : World) (h0 : HOwn w base0 v0 L) (hm : L.length ≤ 1000) :
    Calls Tryz.prog 133 #[v0] w fun e w' => ∃ vv M, e = .returned vv ∧ HOwn w' w.heap.size vv M ∧ M.length ≤ L.length ∧ Below w.heap.size w w' := by
  obtain ⟨ad, cap, rfl, hv, _, hB⟩ := hown_view h0
  refine (ageS0 ad cap L w hv (by omega) (fun a e _ => (hB a e).2.1)).mono ?_
  rintro e w' ⟨⟨vv, rfl, o⟩, b⟩
  exact ⟨vv, _, rfl, o, aged_len L, b⟩
set_option maxHeartbeats 2000000 in
theorem drawRightT {cb : Nat} {ad : Option Addr} {len cap : Nat} {f : Nat → Int} (w : World) (hs : Src w cb ad len cap f) (hcb : cb < w.heap.size) :
    Calls Tryz.prog 118 #[.pointer (some ⟨cb, 0, none⟩)] w fun e w' => ∃ vv M, e = .returned vv ∧ HOwn w' w.heap.size vv M ∧ M.length ≤ 10 ∧ DT w cb ad len cap f w' := by
  have hE := hown_empty w
  have hD0 : DT w cb ad len cap f (w.alloc (Obj.cells #[] 97)) := DT.below ⟨hs, grown_refl w _⟩ (below_box w _)
  go_enter Tryz.func118, Tryz.ntmps118
  go_wp2
  go_loopw [3, 4] (fun l i wr => ∃ (k : Nat) (M : List Hd), i = .int .i64 (k : Int) ∧ k ≤ 9 ∧ HOwn wr w.heap.size l M ∧ M.length ≤ k ∧ DT w cb ad len cap f wr) (fun _ i _ => 10 - (intOf i).toNat)
  case atStart => exact ⟨0, [], rfl, by omega, hE, by simp, hD0⟩
  case round =>
    obtain ⟨k, M, rfl, hk, hl, hM, hD⟩ := hrel
    clear hE hD0
    go_wp2_with fail
    go_at_call 35
    refine (drawBelow hD.src 9 (by omega) (by omega)).mono ?_
    rintro e y1 ⟨n1, rfl, a1, b1, s1, g1⟩
    have D1 := hD.step s1 g1
    have l1 := own_cb hl g1 hcb
    clear hD hl
    by_cases hlt : (k : Int) < n1
    · go_wp2_with fail
      go_at_call 35
      refine (drawBelow s1 4 (by omega) (by omega)).mono ?_
      rintro e y2 ⟨n2, rfl, a2, b2, s2, g2⟩
      have D2 := D1.step s2 g2
      have l2 := own_cb l1 g2 hcb
      clear D1 l1 s1 g1
      go_wp2_with fail
      go_at_call 35
      refine (drawBelow s2 3 (by omega) (by omega)).mono ?_
      rintro e y3 ⟨n3, rfl, a3, b3, s3, g3⟩
      have D3 := D2.step s3 g3
      have l3 := own_cb l2 g3 hcb
      clear D2 l2 s2 g2
      go_wp2_with fail
      go_at_call 35
      refine (drawBelow s3 4 (by omega) (by omega)).mono ?_
      rintro e y4 ⟨n4, rfl, a4, b4, s4, g4⟩
      have D4 := D3.step s4 g4
      have l4 := own_cb l3 g4 hcb
      clear D3 l3 s3 g3
      go_wp2_with fail
      go_at_call 48
      refine (hearS w.heap.size _ M _ _ _ y4 l4 (by omega)).mono ?_
      rintro e y5 ⟨v5, M5, rfl, o5, m5, k5⟩
      have D5 := D4.below k5
      have z4 := D4.gr.size
      have o5 := own_base' o5 (show w.heap.size ≤ y4.heap.size from z4)
      clear D4 l4 s4 g4 k5
      go_wp2_with fail
      go_at_call 36
      refine (drawOnce D5.src 4 (by omega) (by omega)).mono ?_
      rintro e y6 ⟨b6, rfl, s6, g6⟩
      have D6 := D5.step s6 g6
      have o6 := own_cb o5 g6 hcb
      clear D5 o5 s6 g6
      cases b6 with
      | true =>
        go_wp2_with fail
        go_at_call 133
        refine (ageO w.heap.size _ M5 y6 o6 (by omega)).mono ?_
        rintro e y7 ⟨v7, M7, rfl, o7, m7, k7⟩
        have D7 := D6.below k7
        have z6 := D6.gr.size
        have o7 := own_base' o7 (show w.heap.size ≤ y6.heap.size from z6)
        clear D6 o6 k7
        go_wp2
        go_roundw
        case rel => exact ⟨k + 1, M7, by go_num, by omega, o7, by omega, D7⟩
        case measure => simp [intOf]; omega
      | false =>
        go_wp2
        go_roundw
        case rel => exact ⟨k + 1, M5, by go_num, by omega, o6, by omega, D6⟩
        case measure => simp [intOf]; omega
    · have hlt' : decide ((k : Int) < n1) = false := decide_eq_false hlt
      go_wp2
      go_ret
      exact ⟨_, M, rfl, l1, by omega, D1⟩

end Go.Proofs.YtifndemkkaelaaaGreat
namespace Go.Proofs.YtifndemkkaelaaaGreat
open Go.ChangeShapes Go.WideShapes Go.ChangeAt Go.RowKit
open Go.ChangeMaps (open_string shut_string)
set_option linter.unusedVariables false
set_option maxRecDepth 100000

set_option maxHeartbeats 4000000 in
theorem drawT {cb : Nat} {ad : Option Addr} {len cap : Nat} {f : Nat → Int} (w : World) (hs : Src w cb ad len cap f) (hcb : cb < w.heap.size) (hadl : ∀ x, ad = some x → 0 < len → x.block < w.heap.size) :
    Calls Tryz.prog 85 #[.pointer (some ⟨cb, 0, none⟩)] w fun e w' => ∃ vv M, e = .returned vv ∧ HOwn w' w.heap.size vv M ∧ M.length ≤ 20 ∧ DT w cb ad len cap f w' := by
  obtain ⟨i1, hj, hy0, hy1, hy2⟩ := info_parts Tryz.info97'
  go_enter Tryz.func85, Tryz.ntmps85
  go_wp2_with fail
  go_at_call 118
  refine (drawRightT w hs hcb).mono ?_
  rintro e y1 ⟨v1, M, rfl, o1, m1, D1⟩
  go_wp2_with fail
  go_at_call 35
  refine (drawBelow D1.src 8 (by omega) (by omega)).mono ?_
  rintro e y2 ⟨n, rfl, a2, b2, s2, g2⟩
  have D2 := D1.step s2 g2
  have o2 := own_cb o1 g2 hcb
  clear D1 o1 g2
  by_cases hn0 : n = 0
  · have hn0' : (n == 0) = true := by simp [hn0]
    clear hn0
    go_wp2_with fail
    go_at_call 35
    refine (drawBelow s2 11 (by omega) (by omega)).mono ?_
    rintro e y3 ⟨n3, rfl, a3, b3, s3, g3⟩
    have D3 := D2.step s3 g3
    have o3 := own_cb o2 g3 hcb
    clear D2 o2 s2 g3
    go_wp2_with fail
    go_at_call 35
    refine (drawBelow s3 6 (by omega) (by omega)).mono ?_
    rintro e y4 ⟨n4, rfl, a4, b4, s4, g4⟩
    have D4 := D3.step s4 g4
    have o4 := own_cb o3 g4 hcb
    clear D3 o3 s3 g4
    go_wp2_with fail
    go_at_call 35
    refine (drawBelow s4 6 (by omega) (by omega)).mono ?_
    rintro e y5 ⟨n5, rfl, a5, b5, s5, g5⟩
    have D5 := D4.step s5 g5
    have o5 := own_cb o4 g5 hcb
    clear D4 o4 s4 g5
    have z5 := D5.gr.size
    obtain ⟨y6, hy6⟩ : ∃ y, y = y5.alloc (Obj.cells #[.int .i64 0, .int .i64 1, .int .i64 20, .int .i64 21] 3) := ⟨_, rfl⟩
    have k6 : Below y5.heap.size y5 y6 := by rw [hy6]; exact below_box y5 _
    have c6 : ∀ i, i < 4 → ∃ y, y6.cell? ⟨y5.heap.size, i, none⟩ = some (.int .i64 y) ∧ True := by
      intro i hi
      rw [hy6]
      match i, hi with
      | 0, _ => exact ⟨0, by simp [go_sem], trivial⟩
      | 1, _ => exact ⟨1, by simp [go_sem], trivial⟩
      | 2, _ => exact ⟨20, by simp [go_sem], trivial⟩
      | 3, _ => exact ⟨21, by simp [go_sem], trivial⟩
    have D6 := D5.below k6
    have o6 : HOwn y6 w.heap.size v1 M := own_grow o5 (below_grown k6 none) (fun j e => by cases e)
    clear k6 D5 o5
    go_wp2_with fail
    go_at_call 37
    rw [← hy6]
    clear hy6
    refine (pickIntP D6.src (fun _ => True) y5.heap.size 4 4 (by omega) (by omega) (by omega) c6).mono ?_
    rintro e y7 ⟨n7, rfl, _, s7, g7⟩
    have D7 := D6.step s7 g7
    have o7 := own_cb o6 g7 hcb
    have z7 := D7.gr.size
    clear D6 o6 s7 g7 c6
    go_wp2_with (first | (at_builtin; refine wpList_append_own_at _ rfl _ _ 26 rfl w.heap.size 97 i1 (.agg #[.int .i64 0, .int .i64 0, .int .i64 0, .int .i64 0]) 4 32 Tryz.underlying26 hj hy0 hy1 hy2 rfl (by decide) _ _ _ rfl (o7.alloc _) ⟨y7.heap.size, 0, none⟩ 1 1 [.int .i64 n3, .int .i64 n4, .int .i64 (n5 - 1), .int .i64 n7] rfl rfl ?d1 ?d2 ?d3 ?d4 ?d5 ?_) | go_in)
    case d1 => exact cells4 y7 ⟨n3, n4, n5 - 1, n7⟩ _
    case d2 => intro u hu; simp at hu; rcases hu with rfl | rfl | rfl | rfl <;> rfl
    case d3 => unfold maxLen; omega
    case d4 => omega
    case d5 => simp; omega
    intro v8 y8 hown8 hgrow8 _ _
    have o8 : HOwn y8 w.heap.size v8 (M ++ [⟨n3, n4, n5 - 1, n7⟩]) := by
      unfold HOwn
      rw [hcells_app, List.length_append]
      exact hown8
    have hge := own_ge o7
    have hne : cb ≠ y7.heap.size := by omega
    have D8 : DT w cb ad len cap f y8 := by
      have e1 : ∀ j, j < w.heap.size → y8.heap[j]? = y7.heap[j]? := fun j hj' => (hgrow8.block j (by simp; omega) (fun e => by have := hge j e.symm; omega)).trans ((below_box y7 _).block j (by omega))
      have b8 : Below w.heap.size y7 y8 := ⟨hgrow8.os, hgrow8.tape, hgrow8.output, by have := hgrow8.size; simp at this; omega, e1⟩
      refine ⟨⟨D7.src.cur.carry (e1 cb hcb), D7.src.view.carry (fun a e hp => e1 _ ?_), D7.src.ne, D7.src.small, D7.src.bytes⟩, ⟨b8.os.trans D7.gr.os, b8.tape.trans D7.gr.tape, b8.output.trans D7.gr.output, Nat.le_trans D7.gr.size b8.size, fun j hj' hn' => (e1 j hj').trans (D7.gr.block j hj' hn')⟩⟩
      exact hadl a e hp
    clear hown8 hgrow8
    go_wp2
    go_ret
    exact ⟨_, _, rfl, o8, by simp; omega, D8⟩
  · have hn0' : (n == 0) = false := by simp [hn0]
    by_cases hn1 : n = 1
    · have hn1' : (n == 1) = true := by simp [hn1]
      clear hn0 hn1
      go_wp2
      go_loopw [3, 4] (fun l i wr => ∃ (k : Nat) (M : List Hd), i = .int .i64 ((k : Int) + 1) ∧ k ≤ 9 ∧ HOwn wr w.heap.size l M ∧ M.length ≤ 10 + k ∧ DT w cb ad len cap f wr) (fun _ i _ => 11 - (intOf i).toNat)
      case atStart => exact ⟨0, M, rfl, by omega, o2, by omega, D2⟩
      case round =>
        obtain ⟨k, M, rfl, hk, hl, hM, hD⟩ := hrel
        clear D2 o2 s2
        by_cases hlt : k < 9
        · have hlt' : (k : Int) + 1 ≤ 9 := by omega
          go_wp2_with fail
          go_at_call 48
          refine (hearS w.heap.size _ M _ _ _ wr hl (by omega)).mono ?_
          rintro e y5 ⟨v5, M5, rfl, o5, m5, k5⟩
          have D5 := hD.below k5
          have z4 := hD.gr.size
          have o5 := own_base' o5 (show w.heap.size ≤ wr.heap.size from z4)
          clear hD hl k5
          go_wp2
          go_roundw
          case rel => exact ⟨k + 1, M5, by go_num, by omega, o5, by omega, D5⟩
          case measure => simp [intOf]; omega
        · have hlt' : decide ((k : Int) + 1 ≤ 9) = false := decide_eq_false (by omega)
          go_wp2
          go_ret
          exact ⟨_, M, rfl, hl, by omega, hD⟩
    · have hn1' : (n == 1) = false := by simp [hn1]
      clear hn0 hn1
      go_wp2
      go_ret
      exact ⟨_, M, rfl, o2, by omega, D2⟩

end Go.Proofs.YtifndemkkaelaaaGreat
