/- Lists drawn. -/
import Derived.Test.YtghmmcenjdbfgaaRows
import Derived.WalkKit
import Derived.ProofKit
import Derived.OpenShut
import Derived.ShutString
import Derived.ChangeOld
import Derived.Below
import Derived.Deep.QuietTactic
import Derived.BigQuiet
import Derived.WalkSmall
import Derived.Laws.OwnMore
import Derived.WalkSpells
import Derived.WalkLawsBesides
import Derived.Deep.Cut
import Derived.Maps.AppendAt
import Derived.Test.YtghmmcenjdbfgaaBDraw9
import Derived.Test.YtghmmcenjdbfgaaIs2
import Derived.Test.YtghmmcenjdbfgaaFlatApp
import Derived.Test.YtghmmcenjdbfgaaCur
namespace Go.Proofs.Ytghmmcenjdbfgaa
open Go.ChangeShapes Go.WideShapes Go.ChangeAt Go.RowKit
open Go.ChangeMaps (open_string shut_string)
set_option linter.unusedVariables false
set_option maxRecDepth 100000

theorem FView.oneJ (w : World) (t : TypeId) (x : Ik) : FView ikEnc (w.alloc (Obj.cells #[.int .i64 x.k, .int .i64 x.q, .int .i64 x.r, .int .i64 x.c, .int .i64 x.b, .int .i64 x.p, .int .i64 x.h, .bool x.up] t)) (some ⟨w.heap.size, 0, none⟩) [x] := by
  intro _
  refine ⟨w.heap.size, 0, rfl, fun j v hv => ?_⟩
  simp only [fcells, ikEnc, List.append_nil] at hv
  have hj : j < 8 := (List.getElem?_eq_some_iff.1 hv).1
  rcases (by omega : j = 0 ∨ j = 1 ∨ j = 2 ∨ j = 3 ∨ j = 4 ∨ j = 5 ∨ j = 6 ∨ j = 7) with rfl | rfl | rfl | rfl | rfl | rfl | rfl | rfl <;> (cases hv; simp [go_sem])
theorem FOwn.block_ {X : Type} {enc : X → List Value} {n : Nat} {T : TypeId} {base : Nat} {w : World} {ad : Option Addr} {len cap : Nat} {L : List X} (h : FOwn enc n T base w (.slice ad len cap) L) (hs : (Value.slice ad len cap).ownBlock.isSome = true) : ∃ g, ad = some ⟨g, 0, none⟩ := by
  rcases h.2 with ⟨e, h0⟩ | ⟨g, c, cur, e, _⟩
  · rw [e] at hs; cases hs
  · simp only [Value.slice.injEq] at e
    exact ⟨g, e.1⟩
theorem FOwn.cap {X : Type} {enc : X → List Value} {n : Nat} {T : TypeId} {base : Nat} {w : World} {ad : Option Addr} {cap : Nat} {L : List X} (h : FOwn enc n T base w (.slice ad L.length cap) L) : L.length ≤ cap := by
  rcases h.2 with ⟨e, h0⟩ | ⟨g, c, cur, e, _, _, hc, _⟩
  · omega
  · simp only [Value.slice.injEq] at e
    omega
/-- A row that the call owns was written: all that was there before is as it was, but for the cursor. -/
theorem grown_row {w y z : World} {cb : Nat} {v : Value} (h : w.grownBy y (some cb)) (g : y.grownBy z v.ownBlock) (ho : ∀ k, v.ownBlock = some k → w.heap.size ≤ k) : w.grownBy z (some cb) :=
  ⟨g.os.trans h.os, g.tape.trans h.tape, g.output.trans h.output, Nat.le_trans h.size g.size, fun j hj hne => (g.block j (Nat.lt_of_lt_of_le hj h.size) (fun e => by have := ho j e.symm; omega)).trans (h.block j hj hne)⟩
set_option maxHeartbeats 4000000 in
theorem drawLs {cb : Nat} {ad : Option Addr} {len cap : Nat} {f : Nat → Int} (w : World) (hs : Src w cb ad len cap f) (hcb : cb < w.heap.size) : Calls Try.prog 68 #[.pointer (some ⟨cb, 0, none⟩)] w fun e w' => ∃ a c L, e = .returned (.slice a (List.length L) c) ∧ FOwn ikEnc 8 30 w.heap.size w' (.slice a (List.length L) c) L ∧ List.length L ≤ 6 ∧ (Value.slice a (List.length L) c).ownBlock.isSome = true ∧ Src w' cb ad len cap f ∧ w.grownBy w' (some cb) := by
  obtain ⟨i0, hi, hz0, hz1, hz2⟩ := info_parts ikInfo
  have D0 : DV w cb ad len cap (w.alloc (Obj.cells #[] 30)) := (DV.start hs).alloc _
  go_enter Try.func68, Try.ntmps68
  go_wp2
  go_loopw [3, 4] (fun v i wr => ∃ (k : Nat) (P : List Ik), k ≤ 6 ∧ P.length = k ∧ i = .int .i64 k ∧ FOwn ikEnc 8 30 w.heap.size wr v P ∧ DV w cb ad len cap wr ∧ v.ownBlock.isSome = true) (fun _ i _ => 6 - (intOf i).toNat)
  case atStart => exact ⟨0, [], by omega, rfl, rfl, FOwn.empty w, D0, rfl⟩
  case round =>
    obtain ⟨k, P, hk, hPl, rfl, O, D, hso⟩ := hrel
    replace hso : Hid _ := hso
    clear D0
    go_wp2_with fail
    go_at_call 67
    refine (drawBelow (D.src hs) 6 (by decide) (by decide)).mono ?_
    rintro e y1 ⟨x, rfl, x0, x1, s1, g1⟩
    have D1 := D.step s1 g1
    have O1 := O.grown g1 hcb
    clear O D s1 g1
    by_cases hlt : (k : Int) < x
    · go_wp2_with fail
      go_at_call 91
      refine (drawI8 y1 (D1.src hs) D1.cur.lt).mono ?_
      rintro e y2 ⟨xx, rfl, s2, g2⟩
      have D2 := D1.step s2 g2
      have O2 := O1.grown g2 hcb
      clear D1 O1 s2 g2
      obtain ⟨y3, hy3⟩ : ∃ y_, y_ = y2.alloc (Obj.cells #[.int .i64 xx.k, .int .i64 xx.q, .int .i64 xx.r, .int .i64 xx.c, .int .i64 xx.b, .int .i64 xx.p, .int .i64 xx.h, .bool xx.up] 30) := ⟨_, rfl⟩
      have V3 : FView ikEnc y3 (some ⟨y2.heap.size, 0, none⟩) [xx] := by rw [hy3]; exact FView.oneJ y2 _ xx
      have k3 : Below y2.heap.size y2 y3 := by rw [hy3]; exact below_new _
      have D3 := D2.later8 k3
      have O3 := O2.later k3
      have S3 := D3.gr.size
      have ho : ∀ g, u3.ownBlock = some g → w.heap.size ≤ g := fun g e => (O3.lt g e).1
      replace hPl : Hid _ := hPl
      clear D2 O2 k3
      go_wp2_with (first | (at_builtin; refine fappL ikEnc_len ikEnc_ones rfl _ _ 44 rfl w.heap.size 30 i0 (.agg #[.int .i64 0, .int .i64 0, .int .i64 0, .int .i64 0, .int .i64 0, .int .i64 0, .int .i64 0, .bool false]) 64 Try.underlying44 hi hz0 hz1 hz2 rfl (by decide) (by decide) _ P rfl ?z0 (some ⟨y2.heap.size, 0, none⟩) 1 [xx] rfl (fun e => by cases e) ?z1 ?z2 ?z3 ?_))
      case z0 => rw [← hy3]; exact O3
      case z1 => rw [← hy3]; exact V3
      try case z2 => have := hPl.out; simp; omega
      case z3 => rw [← hy3]; exact S3
      rw [← hy3]
      clear hy3
      intro v4 y4 O4 g4 hob
      have hso4 : v4.ownBlock.isSome = true := by rcases hob with h | h <;> rw [h]; exact hso.out; rfl
      clear hob
      replace hso4 : Hid _ := hso4
      have D4 : DV w cb ad len cap y4 := ⟨D3.cur.carry (g4.block _ D3.cur.lt (fun e => by have := ho _ e.symm; omega)), grown_row D3.gr g4 ho⟩
      go_wp2
      go_roundw
      case rel => exact ⟨k + 1, P ++ [xx], by omega, by have := hPl.out; simp; omega, by go_num, O4, D4, hso4.out⟩
      case measure => simp [intOf]; omega
    · obtain ⟨aP, cP, rfl⟩ := O1.open_
      have hl6 : P.length ≤ 6 := by omega
      clear hPl
      go_wp2
      go_ret
      exact ⟨aP, cP, P, rfl, O1, hl6, hso.out, D1.src hs, D1.gr⟩

end Go.Proofs.Ytghmmcenjdbfgaa
