/- Tables that are drawn. -/
import Derived.Test.YtifndemkkaelaaaRows
import Derived.WalkKit
import Derived.ProofKit
import Derived.OpenShut
import Derived.ShutString
import Derived.ChangeOld
import Derived.Below
import Derived.Deep.QuietTactic
import Derived.BigQuiet
import Derived.WalkSmall
import Derived.Laws.OwnMore
import Derived.WalkSpells
import Derived.Maps.AppendAt
import Derived.Test.YtifndemkkaelaaaHear
import Derived.Test.YtifndemkkaelaaaCur
namespace Go.Proofs.Ytifndemkkaelaaa
open Go.ChangeShapes Go.WideShapes Go.ChangeAt Go.RowKit
open Go.ChangeMaps (open_string shut_string)
set_option linter.unusedVariables false

set_option maxHeartbeats 2000000 in
theorem ageS0 (ad : Option Addr) (cap : Nat) (L : List Hd) (w : World) (hv : HView w ad L) (hm : L.length ≤ 1048576) (hB : HIs ad L (· < w.heap.size)) :
    Calls Try.prog 87 #[.slice ad L.length cap] w fun e w' => (∃ vv, e = .returned vv ∧ HOwn w' w.heap.size vv (aged L)) ∧ Below w.heap.size w w' := by
  obtain ⟨i1, hj, hy0, hy1, hy2⟩ := info_parts Try.info60'
  go_enter Try.func87, Try.ntmps87
  go_wp2
  go_loopw [3, 4] (fun l i wr => ∃ k : Nat, i = .int .i64 (k : Int) ∧ k ≤ L.length ∧ HOwn wr w.heap.size l (aged (L.take k)) ∧ Below w.heap.size w wr) (fun _ i _ => L.length - (intOf i).toNat)
  case atStart => exact ⟨0, rfl, Nat.zero_le _, hown_empty w, below_box w _⟩
  case round =>
    obtain ⟨k, rfl, hk, hl, hb⟩ := hrel
    by_cases hlt : k < L.length
    · obtain ⟨b, off, rfl, hc0⟩ := hv (by omega)
      obtain ⟨h, hh⟩ : ∃ h, L.getD k Hd.nil = h := ⟨_, rfl⟩
      have hck : HAt wr b (off + k * 4) h := by rw [← hh]; exact (hc0 k hlt).of_block (hb.block _ (hB ⟨b, off, none⟩ rfl (by omega)))
      obtain ⟨c1, c2, c3, c4⟩ := hck
      have hts := take_step hlt hh
      have hbs := hb.size
      obtain ⟨P, hP⟩ : ∃ P, aged (L.take k) = P := ⟨_, rfl⟩
      have hpl : Hid (P.length ≤ 1048576) := by rw [← hP]; have := aged_len (L.take k); unfold Hid; simp at this; omega
      rw [hP] at hl
      have hge := own_ge hl
      by_cases hg : 1 < h.l
      · have hnx : aged (L.take (k + 1)) = P ++ [h.older] := by
          rw [hts, aged_app, hP]
          have e : goneA h = false := decide_eq_false (by omega)
          simp [aged, e]
        have hnX : Hid (aged (L.take (k + 1)) = P ++ [h.older]) := hnx
        clear hh hc0 hts hP hnx
        go_wp2_with (first | (at_builtin; refine wpList_append_own_at _ rfl _ _ 26 rfl w.heap.size 60 i1 (.agg #[.int .i64 0, .int .i64 0, .int .i64 0, .int .i64 0]) 4 32 Try.underlying26 hj hy0 hy1 hy2 rfl (by decide) _ _ _ rfl ((hl.alloc _).alloc _) ⟨wr.heap.size + 1, 0, none⟩ 1 1 [.int .i64 h.a, .int .i64 h.v, .int .i64 h.p, .int .i64 (wrap64 (h.l - 1))] rfl rfl ?d1 ?d2 ?d3 ?d4 ?d5 ?_) | go_in)
        case d1 => exact cells4' (wr.alloc _) h.older _ _ (by simp)
        case d2 => intro u hu; simp at hu; rcases hu with rfl | rfl | rfl | rfl <;> rfl
        case d3 => have := hpl.out; unfold maxLen; omega
        case d4 => have := hpl.out; omega
        case d5 => simp; omega
        intro v' w3 hown3 hgrow3 _ _
        have hown4 : HOwn w3 w.heap.size v' (aged (L.take (k + 1))) := by
          rw [hnX.out]
          unfold HOwn
          rw [hcells_app, List.length_append]
          exact hown3
        have hb4 : Below w.heap.size w w3 := ((hb.alloc hbs _).alloc (by simp; omega) _).grown hgrow3 (by simp; omega) hge
        clear hown3 hgrow3
        go_wp2
        go_roundw
        case rel => exact ⟨k + 1, by go_num, by omega, hown4, hb4⟩
        case measure => simp [intOf]; omega
      · have hg' : decide (1 < h.l) = false := decide_eq_false hg
        have hnx : aged (L.take (k + 1)) = P := by
          rw [hts, aged_app, hP]
          have e : goneA h = true := decide_eq_true (by omega)
          simp [aged, e]
        have hl4 : HOwn (wr.alloc (Obj.cells #[.int .i64 h.a, .int .i64 h.v, .int .i64 h.p, .int .i64 h.l] 60)) w.heap.size u3 (aged (L.take (k + 1))) := by
          rw [hnx]
          exact hl.alloc _
        clear hh hc0 hts hP hnx hg
        go_wp2
        go_roundw
        case rel => exact ⟨k + 1, by go_num, by omega, hl4, hb.alloc hbs _⟩
        case measure => simp [intOf]; omega
    · obtain rfl : k = L.length := by omega
      rw [List.take_length] at hl
      go_wp2
      go_ret
      exact ⟨⟨_, rfl, hl⟩, hb⟩

/-- Where a table is being drawn, in the world y: the cursor goes on, what was there below stays but for it. -/
structure DT (w : World) (cb : Nat) (ad : Option Addr) (len cap : Nat) (f : Nat → Int) (y : World) : Prop where
  src : Src y cb ad len cap f
  gr : w.grownBy y (some cb)
theorem DT.step {w : World} {cb : Nat} {ad : Option Addr} {len cap : Nat} {f : Nat → Int} {y z : World} (h : DT w cb ad len cap f y) (hs : Src z cb ad len cap f) (g : y.grownBy z (some cb)) : DT w cb ad len cap f z := ⟨hs, grown_trans h.gr g⟩
theorem DT.below {w : World} {cb : Nat} {ad : Option Addr} {len cap : Nat} {f : Nat → Int} {y z : World} (h : DT w cb ad len cap f y) (b : Below y.heap.size y z) : DT w cb ad len cap f z :=
  ⟨h.src.later b, grown_trans h.gr (below_grown b _)⟩
theorem own_cb {w w' : World} {base cb : Nat} {v : Value} {M : List Hd} (h : HOwn w base v M) (g : w.grownBy w' (some cb)) (hc : cb < base) : HOwn w' base v M := own_grow h g (fun j e => by cases e; exact hc)
/-- spec.Age, once more: the answer is a row of its own. -/
theorem ageO (base0 : Nat) (v0 : Value) (L : List Hd) (w : World) (h0 : HOwn w base0 v0 L) (hm : L.length ≤ 1000) :
    Calls Try.prog 87 #[v0] w fun e w' => ∃ vv M, e = .returned vv ∧ HOwn w' w.heap.size vv M ∧ M.length ≤ L.length ∧ Below w.heap.size w w' := by
  obtain ⟨ad, cap, rfl, hv, _, hB⟩ := hown_view h0
  refine (ageS0 ad cap L w hv (by omega) (fun a e _ => (hB a e).2.1)).mono ?_
  rintro e w' ⟨⟨vv, rfl, o⟩, b⟩
  exact ⟨vv, _, rfl, o, aged_len L, b⟩
set_option maxHeartbeats 2000000 in
theorem drawRightT {cb : Nat} {ad : Option Addr} {len cap : Nat} {f : Nat → Int} (w : World) (hs : Src w cb ad len cap f) (hcb : cb < w.heap.size) :
    Calls Try.prog 74 #[.pointer (some ⟨cb, 0, none⟩)] w fun e w' => ∃ vv M, e = .returned vv ∧ HOwn w' w.heap.size vv M ∧ M.length ≤ 10 ∧ DT w cb ad len cap f w' := by
  have hE := hown_empty w
  have hD0 : DT w cb ad len cap f (w.alloc (Obj.cells #[] 60)) := DT.below ⟨hs, grown_refl w _⟩ (below_box w _)
  go_enter Try.func74, Try.ntmps74
  go_wp2
  go_loopw [3, 4] (fun l i wr => ∃ (k : Nat) (M : List Hd), i = .int .i64 (k : Int) ∧ k ≤ 9 ∧ HOwn wr w.heap.size l M ∧ M.length ≤ k ∧ DT w cb ad len cap f wr) (fun _ i _ => 10 - (intOf i).toNat)
  case atStart => exact ⟨0, [], rfl, by omega, hE, by simp, hD0⟩
  case round =>
    obtain ⟨k, M, rfl, hk, hl, hM, hD⟩ := hrel
    clear hE hD0
    go_wp2_with fail
    go_at_call 23
    refine (drawBelow hD.src 9 (by omega) (by omega)).mono ?_
    rintro e y1 ⟨n1, rfl, a1, b1, s1, g1⟩
    have D1 := hD.step s1 g1
    have l1 := own_cb hl g1 hcb
    clear hD hl
    by_cases hlt : (k : Int) < n1
    · go_wp2_with fail
      go_at_call 23
      refine (drawBelow s1 4 (by omega) (by omega)).mono ?_
      rintro e y2 ⟨n2, rfl, a2, b2, s2, g2⟩
      have D2 := D1.step s2 g2
      have l2 := own_cb l1 g2 hcb
      clear D1 l1 s1 g1
      go_wp2_with fail
      go_at_call 23
      refine (drawBelow s2 3 (by omega) (by omega)).mono ?_
      rintro e y3 ⟨n3, rfl, a3, b3, s3, g3⟩
      have D3 := D2.step s3 g3
      have l3 := own_cb l2 g3 hcb
      clear D2 l2 s2 g2
      go_wp2_with fail
      go_at_call 23
      refine (drawBelow s3 4 (by omega) (by omega)).mono ?_
      rintro e y4 ⟨n4, rfl, a4, b4, s4, g4⟩
      have D4 := D3.step s4 g4
      have l4 := own_cb l3 g4 hcb
      clear D3 l3 s3 g3
      go_wp2_with fail
      go_at_call 76
      refine (hearS w.heap.size _ M _ _ _ y4 l4 (by omega)).mono ?_
      rintro e y5 ⟨v5, M5, rfl, o5, m5, k5⟩
      have D5 := D4.below k5
      have z4 := D4.gr.size
      have o5 := own_base' o5 (show w.heap.size ≤ y4.heap.size from z4)
      clear D4 l4 s4 g4 k5
      go_wp2_with fail
      go_at_call 24
      refine (drawOnce D5.src 4 (by omega) (by omega)).mono ?_
      rintro e y6 ⟨b6, rfl, s6, g6⟩
      have D6 := D5.step s6 g6
      have o6 := own_cb o5 g6 hcb
      clear D5 o5 s6 g6
      cases b6 with
      | true =>
        go_wp2_with fail
        go_at_call 87
        refine (ageO w.heap.size _ M5 y6 o6 (by omega)).mono ?_
        rintro e y7 ⟨v7, M7, rfl, o7, m7, k7⟩
        have D7 := D6.below k7
        have z6 := D6.gr.size
        have o7 := own_base' o7 (show w.heap.size ≤ y6.heap.size from z6)
        clear D6 o6 k7
        go_wp2
        go_roundw
        case rel => exact ⟨k + 1, M7, by go_num, by omega, o7, by omega, D7⟩
        case measure => simp [intOf]; omega
      | false =>
        go_wp2
        go_roundw
        case rel => exact ⟨k + 1, M5, by go_num, by omega, o6, by omega, D6⟩
        case measure => simp [intOf]; omega
    · have hlt' : decide ((k : Int) < n1) = false := decide_eq_false hlt
      go_wp2
      go_ret
      exact ⟨_, M, rfl, l1, by omega, D1⟩

end Go.Proofs.Ytifndemkkaelaaa
