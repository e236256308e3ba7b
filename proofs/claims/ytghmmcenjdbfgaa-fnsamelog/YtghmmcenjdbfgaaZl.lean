/- spec.InOk, walked. spec.React, walked. impl.BridgeNew, walked. spec.BridgeNew, walked. Bridges drawn: right ones. Bridges drawn. Chapter 12's logs and gates drawn. What React leaves, in plain lists. Minders, in plain words. Logs, in plain lists. How much is said. What a log makes and says. impl.BridgeOf, walked. impl.Saying, walked. spec.BridgeOf, walked. spec.Saying, walked. Rows of bools: how great, copied, alike, marked. Lists of flags that a call owns. impl.Gates, walked. spec.Gates, walked. laws.sameBridge, walked. How a code comes in. laws.at, laws.sameFlags, walked. Gates that turn; how many lead to the least. -/
import Derived.Test.YtghmmcenjdbfgaaRows
import Derived.WalkKit
import Derived.ProofKit
import Derived.OpenShut
import Derived.ShutString
import Derived.ChangeOld
import Derived.Below
import Derived.Deep.QuietTactic
import Derived.BigQuiet
import Derived.WalkSmall
import Derived.Laws.OwnMore
import Derived.WalkSpells
import Derived.WalkLawsBesides
import Derived.Deep.Cut
import Derived.Test.YtghmmcenjdbfgaaIn1
import Derived.Test.YtghmmcenjdbfgaaPort3
import Derived.Maps.AppendAt
import Derived.Test.YtghmmcenjdbfgaaRe3
import Derived.Test.YtghmmcenjdbfgaaRe4
import Derived.Test.YtghmmcenjdbfgaaRe4t
import Derived.Test.YtghmmcenjdbfgaaRe4l
import Derived.Test.YtghmmcenjdbfgaaBr4
import Derived.Test.YtghmmcenjdbfgaaBDraw
import Derived.Test.YtghmmcenjdbfgaaDw0
import Derived.Test.YtghmmcenjdbfgaaNd1b
import Derived.Test.YtghmmcenjdbfgaaIs1
import Derived.Test.YtghmmcenjdbfgaaTakes
import Derived.Test.YtghmmcenjdbfgaaBase
import Derived.Test.YtghmmcenjdbfgaaFlatApp
import Derived.Test.YtghmmcenjdbfgaaBridgeMath
import Derived.Test.YtghmmcenjdbfgaaBr1
import Derived.Test.YtghmmcenjdbfgaaCur
import Derived.Test.YtghmmcenjdbfgaaVecDraw
namespace Go.Proofs.Ytghmmcenjdbfgaa
open Go.ChangeShapes Go.WideShapes Go.ChangeAt Go.RowKit
open Go.ChangeMaps (open_string shut_string)
set_option linter.unusedVariables false
set_option maxRecDepth 100000

set_option maxHeartbeats 4000000 in
theorem inOkS (x : Ik) (w : World) : Calls Try.prog 60 #[.agg #[.int .i64 x.k, .int .i64 x.q, .int .i64 x.r, .int .i64 x.c, .int .i64 x.b, .int .i64 x.p, .int .i64 x.h, .bool x.up]] w fun e w' => e = .returned (.bool (inOk x)) ∧ Below w.heap.size w w' := by
  obtain ⟨k, q, r, c, b, p, h, up⟩ := x
  dsimp only
  obtain ⟨R, hR⟩ : ∃ R, R = inOk ⟨k, q, r, c, b, p, h, up⟩ := ⟨_, rfl⟩
  rw [← hR]
  by_cases h1 : k = 1
  · subst h1
    have hR1 : Hid (R = (decide (0 ≤ q ∧ q ≤ 3) && (vOk r c b p && (decide (0 ≤ h ∧ h ≤ 8) && !up)))) := hR
    clear hR
    have B0 := below_new (w := w) (Obj.cells #[.int .i64 1, .int .i64 q, .int .i64 r, .int .i64 c, .int .i64 b, .int .i64 p, .int .i64 h, .bool up] 30)
    obtain ⟨y, hy⟩ : ∃ y, y = w.alloc (Obj.cells #[.int .i64 1, .int .i64 q, .int .i64 r, .int .i64 c, .int .i64 b, .int .i64 p, .int .i64 h, .bool up] 30) := ⟨_, rfl⟩
    rw [← hy] at B0
    have A0 : InAt y w.heap.size ⟨1, q, r, c, b, p, h, up⟩ := by rw [hy]; exact InAt.new w _ ⟨1, q, r, c, b, p, h, up⟩
    have S0 := A0.lt
    go_enter Try.func60, Try.ntmps60
    go_wp2_with fail
    go_at_call 72
    rw [← hy]
    clear hy
    refine (inB q 0 3 y).mono ?_
    rintro e y1 ⟨rfl, rfl⟩
    obtain ⟨a0, a1, a2, a3, a4, a5, a6, a7⟩ := A0
    have A0 : InAt y1 w.heap.size ⟨1, q, r, c, b, p, h, up⟩ := ⟨a0, a1, a2, a3, a4, a5, a6, a7⟩
    cases hF : decide (0 ≤ q ∧ q ≤ 3) with
    | false =>
      have hN : Hid (R = false) := by unfold Hid; rw [hR1.out, hF]; rfl
      clear hR1 hF
      go_wp2
      go_ret
      exact ⟨by rw [hN.out]; rfl, B0⟩
    | true =>
      have hR2 : Hid (R = (vOk r c b p && (decide (0 ≤ h ∧ h ≤ 8) && !up))) := by unfold Hid; rw [hR1.out, hF]; rfl
      clear hR1 hF
      go_wp2_with fail
      go_at_call 101
      refine (vOkS r c b p y1).mono ?_
      rintro e y2 ⟨rfl, k2⟩
      have B2 := B0.trans (k2.mono B0.size)
      have A2 := A0.below k2 S0
      clear a0 a1 a2 a3 a4 a5 a6 a7 A0 k2
      obtain ⟨a0, a1, a2, a3, a4, a5, a6, a7⟩ := A2
      cases hF : vOk r c b p with
      | false =>
        have hN : Hid (R = false) := by unfold Hid; rw [hR2.out, hF]; rfl
        clear hR2 hF
        go_wp2
        go_ret
        exact ⟨by rw [hN.out]; rfl, B2⟩
      | true =>
        have hR3 : Hid (R = (decide (0 ≤ h ∧ h ≤ 8) && !up)) := by unfold Hid; rw [hR2.out, hF]; rfl
        clear hR2 hF
        go_wp2_with fail
        go_at_call 72
        refine (inB h 0 8 y2).mono ?_
        rintro e y3 ⟨rfl, rfl⟩
        cases hF : decide (0 ≤ h ∧ h ≤ 8) with
        | false =>
          have hN : Hid (R = false) := by unfold Hid; rw [hR3.out, hF]; rfl
          clear hR3 hF
          go_wp2
          go_ret
          exact ⟨by rw [hN.out]; rfl, B2⟩
        | true =>
          have hN : Hid (R = !up) := by unfold Hid; rw [hR3.out, hF]; rfl
          clear hR3 hF
          go_wp2
          go_ret
          exact ⟨by rw [hN.out]; rfl, B2⟩
  have d1 : (k == 1) = false := by simpa using h1
  by_cases h3 : k = 3
  · subst h3
    have hR1 : Hid (R = (decide (0 ≤ q ∧ q ≤ 3) && (decide (r = 0 ∧ c = 0 ∧ b = 0 ∧ p = 0) && (h == 0)))) := hR
    clear hR h1 d1
    have B0 := below_new (w := w) (Obj.cells #[.int .i64 3, .int .i64 q, .int .i64 r, .int .i64 c, .int .i64 b, .int .i64 p, .int .i64 h, .bool up] 30)
    obtain ⟨y, hy⟩ : ∃ y, y = w.alloc (Obj.cells #[.int .i64 3, .int .i64 q, .int .i64 r, .int .i64 c, .int .i64 b, .int .i64 p, .int .i64 h, .bool up] 30) := ⟨_, rfl⟩
    rw [← hy] at B0
    have A0 : InAt y w.heap.size ⟨3, q, r, c, b, p, h, up⟩ := by rw [hy]; exact InAt.new w _ ⟨3, q, r, c, b, p, h, up⟩
    have S0 := A0.lt
    go_enter Try.func60, Try.ntmps60
    go_wp2_with fail
    go_at_call 72
    rw [← hy]
    clear hy
    refine (inB q 0 3 y).mono ?_
    rintro e y1 ⟨rfl, rfl⟩
    obtain ⟨a0, a1, a2, a3, a4, a5, a6, a7⟩ := A0
    cases hF : decide (0 ≤ q ∧ q ≤ 3) with
    | false =>
      have hN : Hid (R = false) := by unfold Hid; rw [hR1.out, hF]; rfl
      clear hR1 hF
      go_wp2
      go_ret
      exact ⟨by rw [hN.out]; rfl, B0⟩
    | true =>
      have hR2 : Hid (R = (decide (r = 0 ∧ c = 0 ∧ b = 0 ∧ p = 0) && (h == 0))) := by unfold Hid; rw [hR1.out, hF]; rfl
      clear hR1 hF
      have eV : ∀ w_ : World, (binOp .eql 28 (.agg #[.int .i64 r, .int .i64 c, .int .i64 b, .int .i64 p]) (.agg #[.int .i64 0, .int .i64 0, .int .i64 0, .int .i64 0])).run Try.prog w_ = .ok (.bool (decide (r = 0 ∧ c = 0 ∧ b = 0 ∧ p = 0))) w_ := fun w_ => by
        have := eqV r c b p 0 0 0 0 w_
        go_simp
      cases hF : decide (r = 0 ∧ c = 0 ∧ b = 0 ∧ p = 0) with
      | false =>
        have hN : Hid (R = false) := by unfold Hid; rw [hR2.out, hF]; rfl
        rw [hF] at eV
        clear hR2 hF
        go_wp2
        go_ret
        exact ⟨by rw [hN.out]; rfl, B0⟩
      | true =>
        have hN : Hid (R = (h == 0)) := by unfold Hid; rw [hR2.out, hF]; rfl
        rw [hF] at eV
        clear hR2 hF
        go_wp2
        go_ret
        exact ⟨by rw [hN.out]; rfl, B0⟩
  have d3 : (k == 3) = false := by simpa using h3
  by_cases h2 : k = 2
  · subst h2
    have hN : Hid (R = decide (q = 0 ∧ r = 0 ∧ c = 0 ∧ b = 0 ∧ p = 0 ∧ h = 0 ∧ up = false)) := hR
    clear hR h1 d1 h3 d3
    have eI : ∀ w_ : World, (binOp .eql 30 (.agg #[.int .i64 2, .int .i64 q, .int .i64 r, .int .i64 c, .int .i64 b, .int .i64 p, .int .i64 h, .bool up]) (.agg #[.int .i64 2, .int .i64 0, .int .i64 0, .int .i64 0, .int .i64 0, .int .i64 0, .int .i64 0, .bool false])).run Try.prog w_ = .ok (.bool R) w_ := fun w_ => by
      rw [hN.out]
      go_simp
      all_goals ((repeat' split) <;> first | (simp_all; done) | grind)
    clear hN
    have B0 := below_new (w := w) (Obj.cells #[.int .i64 2, .int .i64 q, .int .i64 r, .int .i64 c, .int .i64 b, .int .i64 p, .int .i64 h, .bool up] 30)
    obtain ⟨y, hy⟩ : ∃ y, y = w.alloc (Obj.cells #[.int .i64 2, .int .i64 q, .int .i64 r, .int .i64 c, .int .i64 b, .int .i64 p, .int .i64 h, .bool up] 30) := ⟨_, rfl⟩
    rw [← hy] at B0
    have A0 : InAt y w.heap.size ⟨2, q, r, c, b, p, h, up⟩ := by rw [hy]; exact InAt.new w _ ⟨2, q, r, c, b, p, h, up⟩
    have S0 := A0.lt
    go_enter Try.func60, Try.ntmps60
    go_upto_region 7 with fail
    rw [← hy]
    clear hy
    obtain ⟨a0, a1, a2, a3, a4, a5, a6, a7⟩ := A0
    go_wp2
    go_ret
    exact ⟨rfl, B0⟩
  have d2 : (k == 2) = false := by simpa using h2
  have hN : Hid (R = false) := by unfold Hid; rw [hR]; unfold inOk; rw [if_neg h1, if_neg h3, if_neg h2]
  clear hR h1 h2 h3
  have B0 := below_new (w := w) (Obj.cells #[.int .i64 k, .int .i64 q, .int .i64 r, .int .i64 c, .int .i64 b, .int .i64 p, .int .i64 h, .bool up] 30)
  obtain ⟨y, hy⟩ : ∃ y, y = w.alloc (Obj.cells #[.int .i64 k, .int .i64 q, .int .i64 r, .int .i64 c, .int .i64 b, .int .i64 p, .int .i64 h, .bool up] 30) := ⟨_, rfl⟩
  rw [← hy] at B0
  have A0 : InAt y w.heap.size ⟨k, q, r, c, b, p, h, up⟩ := by rw [hy]; exact InAt.new w _ ⟨k, q, r, c, b, p, h, up⟩
  have S0 := A0.lt
  go_enter Try.func60, Try.ntmps60
  go_wp2
  go_ret
  rw [← hy]
  exact ⟨by rw [hN.out]; rfl, B0⟩

end Go.Proofs.Ytghmmcenjdbfgaa
namespace Go.Proofs.Ytghmmcenjdbfgaa
open Go.ChangeShapes Go.WideShapes Go.ChangeAt Go.RowKit
open Go.ChangeMaps (open_string shut_string)
set_option linter.unusedVariables false
set_option maxRecDepth 100000

theorem inS (id : Int) (cap : Nat) (L : List Pt) (x : Ik) (base g : Nat) (w : World) (hr : FOwn ptEnc 11 43 base w (.slice (some ⟨g, 0, none⟩) L.length cap) L) (hg : goes id L x = true) :
    Calls Try.prog 62 #[.agg #[.int .i64 id, .slice (some ⟨g, 0, none⟩) L.length cap], .agg #[.int .i64 x.k, .int .i64 x.q, .int .i64 x.r, .int .i64 x.c, .int .i64 x.b, .int .i64 x.p, .int .i64 x.h, .bool x.up]] w fun e w' => ∃ ad' cap', e = .returned (.agg #[.int .i64 id, .slice ad' (afterL id L x).length cap']) ∧ FOwn ptEnc 11 43 base w' (.slice ad' (afterL id L x).length cap') (afterL id L x) ∧ (∀ g_, (Value.slice ad' (afterL id L x).length cap').ownBlock = some g_ → g_ = g ∨ w.heap.size ≤ g_) ∧ Bar g w.heap.size w w' ∧ Below base w w' := by
  have hx0 := hg
  unfold goes at hg
  simp only [Bool.and_eq_true, decide_eq_true_eq] at hg
  obtain ⟨hb, hx, hq⟩ := hg
  have hl := (bOk_all hb).2.1.2
  obtain ⟨k, q, r, c, b, p, h, up⟩ := x
  dsimp only at hq ⊢
  obtain ⟨kq, rfl⟩ : ∃ kq : Nat, q = (kq : Int) := ⟨q.toNat, by omega⟩
  have hkl : kq < L.length := by omega
  rcases inOk_k hx with e | e | e
  · dsimp only at e
    subst e
    have hu : up = false := by
      unfold inOk at hx
      simp only [if_true, Bool.and_eq_true, Bool.not_eq_true'] at hx
      exact hx.2.2.2
    subst hu
    exact inSC id cap L kq r c b p h base g w hr hl hkl
  · dsimp only at e
    subst e
    unfold inOk at hx
    simp only [show ¬ ((2 : Int) = 1) by decide, show ¬ ((2 : Int) = 3) by decide, if_false, if_true, decide_eq_true_eq] at hx
    obtain ⟨e1, e2, e3, e4, e5, e6, e7⟩ := hx
    rw [e1, e2, e3, e4, e5, e6, e7]
    exact inST id cap L base g w hr hl hb
  · dsimp only at e
    subst e
    unfold inOk at hx
    simp only [show ¬ ((3 : Int) = 1) by decide, if_false, if_true, Bool.and_eq_true, decide_eq_true_eq, beq_iff_eq] at hx
    obtain ⟨_, ⟨e2, e3, e4, e5⟩, e6⟩ := hx
    rw [e2, e3, e4, e5, e6]
    exact inSL id cap L kq up base g w hr hl hkl
set_option maxHeartbeats 8000000 in
theorem reactS (id : Int) (ad : Option Addr) (cap : Nat) (L : List Pt) (x : Ik) (w : World) (hv : FView ptEnc w ad L) (hl : L.length ≤ 1048576) (hn : ad = none → cap = 0) :
    Calls Try.prog 12 #[.agg #[.int .i64 id, .slice ad L.length cap], .agg #[.int .i64 x.k, .int .i64 x.q, .int .i64 x.r, .int .i64 x.c, .int .i64 x.b, .int .i64 x.p, .int .i64 x.h, .bool x.up]] w fun e w' => ∃ ad' cap' ao co, e = .returned (.tuple #[.agg #[.int .i64 id, .slice ad' (reactL id L x).length cap'], .slice ao (reactO id L x).length co]) ∧ FOwn ptEnc 11 43 w.heap.size w' (.slice ad' (reactL id L x).length cap') (reactL id L x) ∧ FOwn ouEnc 8 38 w.heap.size w' (.slice ao (reactO id L x).length co) (reactO id L x) ∧ (∀ g_, (Value.slice ao (reactO id L x).length co).ownBlock = some g_ → (Value.slice ad' (reactL id L x).length cap').ownBlock ≠ some g_) ∧ Below w.heap.size w w' := by
  obtain ⟨i0, hi, hz0, hz1, hz2⟩ := info_parts ouInfo
  have hB := hv.lt ptEnc_len (by omega)
  obtain ⟨y, hy⟩ : ∃ y, y = ((w.alloc (Obj.cells #[.int .i64 id, .slice ad L.length cap] 26)).alloc (Obj.cells #[.int .i64 x.k, .int .i64 x.q, .int .i64 x.r, .int .i64 x.c, .int .i64 x.b, .int .i64 x.p, .int .i64 x.h, .bool x.up] 30)).alloc (Obj.cells #[.int .i64 0, .slice none 0 0] 26) := ⟨_, rfl⟩
  have B0 : Below w.heap.size w y := by rw [hy]; exact (((Below.refl _ _).alloc (Nat.le_refl _) _).alloc (by simp) _).alloc (by simp; omega) _
  have A0 : BrAt y w.heap.size id (.slice ad L.length cap) := by rw [hy]; constructor <;> simp [go_sem]
  have X0 : InAt y (w.heap.size + 1) x := by rw [hy]; constructor <;> simp [go_sem]
  have R0 : BBox y (w.heap.size + 1 + 1) 0 (.slice none 0 0) := by rw [hy]; refine ⟨?_, fun i => ?_⟩; constructor <;> simp [go_sem]; simp [go_sem]
  have S0 := R0.lt
  have hv1 := hv.below B0 hB
  have hB1 := hv1.lt ptEnc_len (by omega)
  have hvb0 : ∀ a, ad = some a → 0 < L.length → a.block < w.heap.size := hB
  clear hv hB
  obtain ⟨D, hD⟩ : ∃ D, reactL id L x = D := ⟨_, rfl⟩
  obtain ⟨OO, hO⟩ : ∃ D, reactO id L x = D := ⟨_, rfl⟩
  rw [hD, hO]
  replace hD : Hid _ := hD
  replace hO : Hid _ := hO
  go_enter Try.func12, Try.ntmps12
  go_upto_region 1 with fail
  rw [← hy]
  clear hy
  have hvb := hvb0
  have BY := B0
  obtain ⟨ye, hye⟩ : ∃ y_, y_ = y.alloc (Obj.cells #[] 38) := ⟨_, rfl⟩
  have oE : FOwn ouEnc 8 38 y.heap.size ye (.slice (some ⟨y.heap.size, 0, none⟩) 0 0) ([] : List Ou) := by rw [hye]; exact FOwn.empty y
  have ke : Below y.heap.size y ye := by rw [hye]; exact below_new _
  have ze := ke.size
  have A0 := A0.below ke A0.lt
  have X0 := X0.below ke X0.lt
  have R0 := R0.below ke R0.lt
  have hv1 := hv1.below ke (hv1.lt ptEnc_len (by omega))
  have BY := BY.trans (ke.mono BY.size)
  clear ke
  go_upto_region 2 with fail
  rw [← hye]
  clear hye
  generalize hE : y.heap.size = E at oE S0 ⊢
  replace hE : Hid _ := hE
  have wE : w.heap.size + 1 + 1 < E := S0
  have eE0 : E < ye.heap.size := (oE.lt E rfl).2
  have cc_ := A0
  obtain ⟨a0, a1⟩ := cc_
  go_wp2_with fail
  go_at_call 59
  clear a0 a1
  refine (bOkS id ad cap L ye hv1 hl).mono ?_
  rintro e Y1 ⟨rfl, k1⟩
  have z1 := k1.size
  have A0 := A0.below k1 A0.lt
  have X0 := X0.below k1 X0.lt
  have R0 := R0.below k1 R0.lt
  have hv1 := hv1.below k1 (hv1.lt ptEnc_len (by omega))
  have oE := oE.later k1
  have BY := BY.trans (k1.mono BY.size)
  clear k1
  cases hb : bOk id L with
  | false =>
    have hgo : goes id L x = false := by unfold goes; rw [hb]; rfl
    have hN : Hid (D = L ∧ OO = []) := by
      unfold Hid
      rw [← hD.out, ← hO.out]
      unfold reactL reactO
      rw [hgo]
      exact ⟨rfl, rfl⟩
    clear hD hO
    have cc_ := A0
    obtain ⟨a0, a1⟩ := cc_
    go_wp2_with fail
    go_at_call 61
    clear a0 a1
    have z9 := BY.size
    refine (copS id ad cap L Y1 hv1 hl hn).mono ?_
    rintro e w9 ⟨adN, capN, rfl, oN, k9⟩
    have S9 : w.heap.size + 1 + 1 < Y1.heap.size := R0.lt
    have jN : ∀ g_, (Value.slice (some ⟨E, 0, none⟩) 0 0).ownBlock = some g_ → (Value.slice adN L.length capN).ownBlock ≠ some g_ := fun g_ e e2 => by have h1 := (oN.lt g_ e2).1; have h2 := (oE.lt g_ e).2; omega
    have oE := oE.later k9
    have R0 := R0.below k9 R0.lt
    have BY := BY.trans (k9.mono BY.size)
    have RP := R0.put id (.slice adN L.length capN)
    obtain ⟨⟨r0, r1⟩, rf⟩ := R0
    have BZ := (BY.setCell (p := ⟨w.heap.size + 1 + 1, 0, none⟩) (by show _ ≤ w.heap.size + 1 + 1; omega) (.int .i64 id)).setCell (p := ⟨w.heap.size + 1 + 1, 1, none⟩) (by show _ ≤ w.heap.size + 1 + 1; omega) (.slice adN L.length capN)
    have OZ : FOwn ptEnc 11 43 w.heap.size ((w9.setCell ⟨w.heap.size + 1 + 1, 0, none⟩ (.int .i64 id)).setCell ⟨w.heap.size + 1 + 1, 1, none⟩ (.slice adN L.length capN)) (.slice adN L.length capN) L := (oN.base (by omega)).keep fun g' e => by
      have := (oN.lt g' e).1
      rw [Below.heap_setCell _ _ _ _ (by show g' ≠ w.heap.size + 1 + 1; omega), Below.heap_setCell _ _ _ _ (by show g' ≠ w.heap.size + 1 + 1; omega)]
    obtain ⟨⟨p0, p1⟩, _⟩ := RP
    have OQ : FOwn ouEnc 8 38 w.heap.size ((w9.setCell ⟨w.heap.size + 1 + 1, 0, none⟩ (.int .i64 id)).setCell ⟨w.heap.size + 1 + 1, 1, none⟩ (.slice adN L.length capN)) (.slice (some ⟨E, 0, none⟩) 0 0) [] := (oE.base (by omega)).keep fun g' e => by
      have := (oE.lt g' e).1
      rw [Below.heap_setCell _ _ _ _ (by show g' ≠ w.heap.size + 1 + 1; omega), Below.heap_setCell _ _ _ _ (by show g' ≠ w.heap.size + 1 + 1; omega)]
    go_wp2
    obtain ⟨rfl, rfl⟩ := hN.out
    refine bodyPost_ret (v := .tuple #[.agg #[.int .i64 id, .slice adN D.length capN], .slice (some ⟨E, 0, none⟩) 0 0]) (by simp [results, Try.results12, go_sem, *]) rfl ⟨adN, capN, some ⟨E, 0, none⟩, 0, rfl, OZ, OQ, jN, BZ⟩
  | true =>
    have hl4 := (bOk_all hb).2.1
    have X1 := X0
    obtain ⟨x0, x1, x2, x3, x4, x5, x6, x7⟩ := X1
    go_wp2_with fail
    go_at_call 60
    clear x0 x1 x2 x3 x4 x5 x6 x7
    refine (inOkS x Y1).mono ?_
    rintro e Y2 ⟨rfl, k2⟩
    have z2 := k2.size
    have A0 := A0.below k2 A0.lt
    have X0 := X0.below k2 X0.lt
    have R0 := R0.below k2 R0.lt
    have hv1 := hv1.below k2 (hv1.lt ptEnc_len (by omega))
    have oE := oE.later k2
    have BY := BY.trans (k2.mono BY.size)
    clear k2
    cases hx : inOk x with
    | false =>
      have hgo : goes id L x = false := by unfold goes; rw [hb, hx]; rfl
      have hN : Hid (D = L ∧ OO = []) := by
        unfold Hid
        rw [← hD.out, ← hO.out]
        unfold reactL reactO
        rw [hgo]
        exact ⟨rfl, rfl⟩
      clear hD hO
      have cc_ := A0
      obtain ⟨a0, a1⟩ := cc_
      go_wp2_with fail
      go_at_call 61
      clear a0 a1
      have z9 := BY.size
      refine (copS id ad cap L Y2 hv1 hl hn).mono ?_
      rintro e w9 ⟨adN, capN, rfl, oN, k9⟩
      have S9 : w.heap.size + 1 + 1 < Y2.heap.size := R0.lt
      have jN : ∀ g_, (Value.slice (some ⟨E, 0, none⟩) 0 0).ownBlock = some g_ → (Value.slice adN L.length capN).ownBlock ≠ some g_ := fun g_ e e2 => by have h1 := (oN.lt g_ e2).1; have h2 := (oE.lt g_ e).2; omega
      have oE := oE.later k9
      have R0 := R0.below k9 R0.lt
      have BY := BY.trans (k9.mono BY.size)
      have RP := R0.put id (.slice adN L.length capN)
      obtain ⟨⟨r0, r1⟩, rf⟩ := R0
      have BZ := (BY.setCell (p := ⟨w.heap.size + 1 + 1, 0, none⟩) (by show _ ≤ w.heap.size + 1 + 1; omega) (.int .i64 id)).setCell (p := ⟨w.heap.size + 1 + 1, 1, none⟩) (by show _ ≤ w.heap.size + 1 + 1; omega) (.slice adN L.length capN)
      have OZ : FOwn ptEnc 11 43 w.heap.size ((w9.setCell ⟨w.heap.size + 1 + 1, 0, none⟩ (.int .i64 id)).setCell ⟨w.heap.size + 1 + 1, 1, none⟩ (.slice adN L.length capN)) (.slice adN L.length capN) L := (oN.base (by omega)).keep fun g' e => by
        have := (oN.lt g' e).1
        rw [Below.heap_setCell _ _ _ _ (by show g' ≠ w.heap.size + 1 + 1; omega), Below.heap_setCell _ _ _ _ (by show g' ≠ w.heap.size + 1 + 1; omega)]
      obtain ⟨⟨p0, p1⟩, _⟩ := RP
      have OQ : FOwn ouEnc 8 38 w.heap.size ((w9.setCell ⟨w.heap.size + 1 + 1, 0, none⟩ (.int .i64 id)).setCell ⟨w.heap.size + 1 + 1, 1, none⟩ (.slice adN L.length capN)) (.slice (some ⟨E, 0, none⟩) 0 0) [] := (oE.base (by omega)).keep fun g' e => by
        have := (oE.lt g' e).1
        rw [Below.heap_setCell _ _ _ _ (by show g' ≠ w.heap.size + 1 + 1; omega), Below.heap_setCell _ _ _ _ (by show g' ≠ w.heap.size + 1 + 1; omega)]
      go_wp2
      obtain ⟨rfl, rfl⟩ := hN.out
      refine bodyPost_ret (v := .tuple #[.agg #[.int .i64 id, .slice adN D.length capN], .slice (some ⟨E, 0, none⟩) 0 0]) (by simp [results, Try.results12, go_sem, *]) rfl ⟨adN, capN, some ⟨E, 0, none⟩, 0, rfl, OZ, OQ, jN, BZ⟩
    | true =>
      have X1 := X0
      obtain ⟨x0, x1, x2, x3, x4, x5, x6, x7⟩ := X1
      have cc_ := A0
      obtain ⟨a0, a1⟩ := cc_
      have hq0 := (inOk_q hx).1
      by_cases hq : x.q < (L.length : Int)
      rotate_left
      · have hgo : goes id L x = false := by unfold goes; rw [hb, hx, decide_eq_false (by omega)]; rfl
        have dq : decide ((L.length : Int) ≤ x.q) = true := decide_eq_true (by omega)
        replace hq : Hid _ := hq
        go_upto_region 3 with fail
        clear x0 x1 x2 x3 x4 x5 x6 x7 a0 a1
        have hN : Hid (D = L ∧ OO = []) := by
          unfold Hid
          rw [← hD.out, ← hO.out]
          unfold reactL reactO
          rw [hgo]
          exact ⟨rfl, rfl⟩
        clear hD hO
        have cc_ := A0
        obtain ⟨a0, a1⟩ := cc_
        go_wp2_with fail
        go_at_call 61
        clear a0 a1
        have z9 := BY.size
        refine (copS id ad cap L Y2 hv1 hl hn).mono ?_
        rintro e w9 ⟨adN, capN, rfl, oN, k9⟩
        have S9 : w.heap.size + 1 + 1 < Y2.heap.size := R0.lt
        have jN : ∀ g_, (Value.slice (some ⟨E, 0, none⟩) 0 0).ownBlock = some g_ → (Value.slice adN L.length capN).ownBlock ≠ some g_ := fun g_ e e2 => by have h1 := (oN.lt g_ e2).1; have h2 := (oE.lt g_ e).2; omega
        have oE := oE.later k9
        have R0 := R0.below k9 R0.lt
        have BY := BY.trans (k9.mono BY.size)
        have RP := R0.put id (.slice adN L.length capN)
        obtain ⟨⟨r0, r1⟩, rf⟩ := R0
        have BZ := (BY.setCell (p := ⟨w.heap.size + 1 + 1, 0, none⟩) (by show _ ≤ w.heap.size + 1 + 1; omega) (.int .i64 id)).setCell (p := ⟨w.heap.size + 1 + 1, 1, none⟩) (by show _ ≤ w.heap.size + 1 + 1; omega) (.slice adN L.length capN)
        have OZ : FOwn ptEnc 11 43 w.heap.size ((w9.setCell ⟨w.heap.size + 1 + 1, 0, none⟩ (.int .i64 id)).setCell ⟨w.heap.size + 1 + 1, 1, none⟩ (.slice adN L.length capN)) (.slice adN L.length capN) L := (oN.base (by omega)).keep fun g' e => by
          have := (oN.lt g' e).1
          rw [Below.heap_setCell _ _ _ _ (by show g' ≠ w.heap.size + 1 + 1; omega), Below.heap_setCell _ _ _ _ (by show g' ≠ w.heap.size + 1 + 1; omega)]
        obtain ⟨⟨p0, p1⟩, _⟩ := RP
        have OQ : FOwn ouEnc 8 38 w.heap.size ((w9.setCell ⟨w.heap.size + 1 + 1, 0, none⟩ (.int .i64 id)).setCell ⟨w.heap.size + 1 + 1, 1, none⟩ (.slice adN L.length capN)) (.slice (some ⟨E, 0, none⟩) 0 0) [] := (oE.base (by omega)).keep fun g' e => by
          have := (oE.lt g' e).1
          rw [Below.heap_setCell _ _ _ _ (by show g' ≠ w.heap.size + 1 + 1; omega), Below.heap_setCell _ _ _ _ (by show g' ≠ w.heap.size + 1 + 1; omega)]
        go_wp2
        obtain ⟨rfl, rfl⟩ := hN.out
        refine bodyPost_ret (v := .tuple #[.agg #[.int .i64 id, .slice adN D.length capN], .slice (some ⟨E, 0, none⟩) 0 0]) (by simp [results, Try.results12, go_sem, *]) rfl ⟨adN, capN, some ⟨E, 0, none⟩, 0, rfl, OZ, OQ, jN, BZ⟩
      have hgo : goes id L x = true := by unfold goes; rw [hb, hx, decide_eq_true (by omega)]; rfl
      have dq : decide ((L.length : Int) ≤ x.q) = false := decide_eq_false (by omega)
      replace hq : Hid _ := hq
      obtain ⟨T, hT⟩ : ∃ T, afterL id L x = T := ⟨_, rfl⟩
      have hTl : T.length = L.length := by rw [← hT]; exact afterL_len id L x
      have hD2 : Hid (D = T) := by unfold Hid; rw [← hD.out, ← hT]; unfold reactL; rw [hgo]; rfl
      have hO2 : Hid (OO = gatesTo L T L.length ++ (if x.k = 2 then toldTo id T T.length else [])) := by unfold Hid; rw [← hO.out, hTl, ← hT]; unfold reactO; rw [hgo]; rfl
      have hT4 : 1 ≤ T.length ∧ T.length ≤ 4 := by omega
      replace hTl : Hid _ := hTl
      replace hT : Hid _ := hT
      clear hD hO hb hx
      go_upto_region 4 with fail
      clear x0 x1 x2 x3 x4 x5 x6 x7 a0 a1
      refine join_region (fun l l' W' => ∃ (P : Nat) (aT : Option Addr) (cT : Nat) (us : List Value), us.length = 4 ∧ l' = l.take 7 ++ (.pointer (some ⟨P, 0, none⟩) :: (l.drop 8).take 22) ++ us ++ l.drop 34 ∧ BBox W' P id (.slice aT T.length cT) ∧ FOwn ptEnc 11 43 Y2.heap.size W' (.slice aT T.length cT) T ∧ (∀ g_, (Value.slice aT T.length cT).ownBlock = some g_ → g_ ≠ P) ∧ Y2.heap.size ≤ P ∧ Below Y2.heap.size Y2 W') ?_ ?_
      rotate_left
      · intro K2 hT3
        refine wp_region_held (S := fun Y => Below Y2.heap.size Y2 Y) (by kernel_rfl) ?_
        change wpAnyH _ _ _ _ _ _ _ _ (World.drew _)
        have hb0 : Below Y2.heap.size Y2 Y2.drew := (Below.refl _ _).drew
        obtain ⟨u0, hy0⟩ : ∃ y_, y_ = Y2.drew := ⟨_, rfl⟩
        rw [← hy0] at hb0 ⊢
        clear hy0
        refine takeW 0 30 (.agg #[.int .i64 id, .slice ad L.length cap]) rfl rfl (by kernel_rfl) (by kernel_rfl) (by kernel_rfl) (fun _ _ _ h => h) (by kernel_rfl) (by (intro Y hSw; obtain ⟨X0_, X1_⟩ := A0.below hSw A0.lt; go_simp)) (by assumption) ?_
        simp only [List.set_cons_zero, List.set_cons_succ]
        refine takeW 2 32 (.agg #[.int .i64 x.k, .int .i64 x.q, .int .i64 x.r, .int .i64 x.c, .int .i64 x.b, .int .i64 x.p, .int .i64 x.h, .bool x.up]) rfl rfl (by kernel_rfl) (by kernel_rfl) (by kernel_rfl) (fun _ _ _ h => h) (by kernel_rfl) (by (intro Y hSw; obtain ⟨Z0, Z1, Z2, Z3, Z4, Z5, Z6, Z7⟩ := X0.below hSw X0.lt; go_simp)) (by assumption) ?_
        simp only [List.set_cons_zero, List.set_cons_succ]
        refine wpAnyH_all (rs := [1, 4]) (by kernel_rfl) (by simp) ?_
        intro i hi; rcases (by simpa using hi : i = 1 ∨ i = 4) with rfl | rfl
        · refine wpOp_step rfl (fun K hK => ?_)
          rw [if_pos (by kernel_rfl)]
          go_simp
          go_at_call 61
          refine (copS id ad cap L u0 (hv1.below hb0 (hv1.lt ptEnc_len (by omega))) (by omega) hn).mono ?_
          rintro e u1 ⟨aN, cN, rfl, oN, kq⟩
          obtain ⟨gN, rfl, gN1, gN2⟩ := oN.row (by omega)
          have bN : Y2.heap.size ≤ u0.heap.size := hb0.size
          have bU := kq.size
          have hb1 : Below Y2.heap.size Y2 u1 := hb0.trans (kq.mono hb0.size)
          clear kq
          refine hK _ _ ⟨hb1, ?_⟩
          clear hK K hi
          refine wpAnyH_all (rs := [3, 4]) (by kernel_rfl) (by simp) ?_
          intro i hi; rcases (by simpa using hi : i = 3 ∨ i = 4) with rfl | rfl
          · refine wpOp_step rfl (fun K hK => ?_)
            rw [if_pos (by kernel_rfl)]
            go_simp
            go_at_call 62
            refine (inS id cN L x _ gN u1 oN hgo).mono ?_
            rintro e u2 ⟨aT, cT, rfl, oT, jT, kBar, kB⟩
            rw [hT.out] at oT jT ⊢
            have hb2 : Below Y2.heap.size Y2 u2 := hb1.trans (kB.mono bN)
            refine hK _ _ ⟨hb2, ?_⟩
            clear hK K hi
            refine wpAnyH_all (rs := [4]) (by kernel_rfl) (by simp) ?_
            intro i hi; obtain rfl : i = 4 := by simpa using hi
            refine wpOp_step rfl (fun K hK => ?_)
            rw [if_pos (by kernel_rfl)]
            go_simp
            obtain ⟨u3, hy⟩ : ∃ y_, y_ = u2.alloc (Obj.cells #[.int .i64 0, .slice none 0 0] 26) := ⟨_, rfl⟩
            have kq : Below u2.heap.size u2 u3 := by rw [hy]; exact below_new _
            have joT : ∀ g_, (Value.slice aT T.length cT).ownBlock = some g_ → g_ ≠ u2.heap.size := fun g_ e => by have h1 := (oT.lt g_ e).2; omega
            have oT := oT.later kq
            have FP : BBox u3 u2.heap.size 0 (.slice none 0 0) := by rw [hy]; exact BBox.new u2 _ _ _
            have pa : Y2.heap.size ≤ u2.heap.size := hb2.size
            have hb3 : Below Y2.heap.size Y2 u3 := hb2.trans (kq.mono hb2.size)
            rw [← hy]
            clear hy kq
            refine hK _ _ ⟨hb3, ?_⟩
            clear hK K hi
            refine wpAnyH_all (rs := [5]) (by kernel_rfl) (by simp) ?_
            intro i hi; obtain rfl : i = 5 := by simpa using hi
            refine wpOp_step rfl (fun K hK => ?_)
            rw [if_pos (by kernel_rfl)]
            have FQ := FP
            obtain ⟨⟨t0, t1⟩, tf⟩ := FP
            go_simp
            clear t0 t1 tf
            obtain ⟨uf, huf⟩ : ∃ y_, y_ = (u3.setCell ⟨u2.heap.size, 0, none⟩ (.int .i64 id)).setCell ⟨u2.heap.size, 1, none⟩ (.slice aT T.length cT) := ⟨_, rfl⟩
            have FE : BBox uf (u2.heap.size) id (.slice aT T.length cT) := by rw [huf]; exact FQ.put _ _
            have hbf : Below Y2.heap.size Y2 uf := by rw [huf]; exact (hb3.setCell (p := ⟨u2.heap.size, 0, none⟩) pa _).setCell (p := ⟨u2.heap.size, 1, none⟩) pa _
            have oT := oT.keep (w' := uf) (fun g_ e => by rw [huf, Below.heap_setCell _ _ _ _ (by show g_ ≠ u2.heap.size; exact joT g_ e), Below.heap_setCell _ _ _ _ (by show g_ ≠ u2.heap.size; exact joT g_ e)])
            rw [← huf]
            clear huf FQ
            refine hK _ _ ⟨hbf, ?_⟩
            clear hK K hi
            refine wpAnyH_done (by kernel_rfl) ?_ _
            exact hT3.out _ _ ⟨u2.heap.size, aT, cT, [(.agg #[.int .i64 id, .slice ad L.length cap] : Value), .agg #[.int .i64 id, .slice (some ⟨gN, 0, none⟩) L.length cN], (.agg #[.int .i64 x.k, .int .i64 x.q, .int .i64 x.r, .int .i64 x.c, .int .i64 x.b, .int .i64 x.p, .int .i64 x.h, .bool x.up]), .agg #[.int .i64 id, .slice aT T.length cT]], rfl, by kernel_rfl, FE, oT.base bN, joT, pa, hbf⟩
          · refine wpOp_step rfl (fun K hK => ?_)
            rw [if_pos (by kernel_rfl)]
            go_simp
            obtain ⟨u2, hy⟩ : ∃ y_, y_ = u1.alloc (Obj.cells #[.int .i64 0, .slice none 0 0] 26) := ⟨_, rfl⟩
            have kq : Below u1.heap.size u1 u2 := by rw [hy]; exact below_new _
            have joN : ∀ g_, (Value.slice (some ⟨gN, 0, none⟩) L.length cN).ownBlock = some g_ → g_ ≠ u1.heap.size := fun g_ e => by have h1 := (oN.lt g_ e).2; omega
            have oN := oN.later kq
            have FP : BBox u2 u1.heap.size 0 (.slice none 0 0) := by rw [hy]; exact BBox.new u1 _ _ _
            have pa : Y2.heap.size ≤ u1.heap.size := hb1.size
            have hb2 : Below Y2.heap.size Y2 u2 := hb1.trans (kq.mono hb1.size)
            rw [← hy]
            clear hy kq
            refine hK _ _ ⟨hb2, ?_⟩
            clear hK K hi
            refine wpAnyH_all (rs := [3]) (by kernel_rfl) (by simp) ?_
            intro i hi; obtain rfl : i = 3 := by simpa using hi
            refine wpOp_step rfl (fun K hK => ?_)
            rw [if_pos (by kernel_rfl)]
            go_simp
            go_at_call 62
            refine (inS id cN L x _ gN u2 oN hgo).mono ?_
            rintro e u3 ⟨aT, cT, rfl, oT, jT, kBar, kB⟩
            rw [hT.out] at oT jT ⊢
            have joT : ∀ g_, (Value.slice aT T.length cT).ownBlock = some g_ → g_ ≠ u1.heap.size := fun g_ e => by
              have h1 := jT g_ e
              have h2 := FP.lt
              have h3 := joN gN rfl
              omega
            have FP := FP.keep (kBar.block _ FP.lt (fun e => joN gN rfl e.symm))
            have hb3 : Below Y2.heap.size Y2 u3 := hb2.trans (kB.mono bN)
            refine hK _ _ ⟨hb3, ?_⟩
            clear hK K hi
            refine wpAnyH_all (rs := [5]) (by kernel_rfl) (by simp) ?_
            intro i hi; obtain rfl : i = 5 := by simpa using hi
            refine wpOp_step rfl (fun K hK => ?_)
            rw [if_pos (by kernel_rfl)]
            have FQ := FP
            obtain ⟨⟨t0, t1⟩, tf⟩ := FP
            go_simp
            clear t0 t1 tf
            obtain ⟨uf, huf⟩ : ∃ y_, y_ = (u3.setCell ⟨u1.heap.size, 0, none⟩ (.int .i64 id)).setCell ⟨u1.heap.size, 1, none⟩ (.slice aT T.length cT) := ⟨_, rfl⟩
            have FE : BBox uf (u1.heap.size) id (.slice aT T.length cT) := by rw [huf]; exact FQ.put _ _
            have hbf : Below Y2.heap.size Y2 uf := by rw [huf]; exact (hb3.setCell (p := ⟨u1.heap.size, 0, none⟩) pa _).setCell (p := ⟨u1.heap.size, 1, none⟩) pa _
            have oT := oT.keep (w' := uf) (fun g_ e => by rw [huf, Below.heap_setCell _ _ _ _ (by show g_ ≠ u1.heap.size; exact joT g_ e), Below.heap_setCell _ _ _ _ (by show g_ ≠ u1.heap.size; exact joT g_ e)])
            rw [← huf]
            clear huf FQ
            refine hK _ _ ⟨hbf, ?_⟩
            clear hK K hi
            refine wpAnyH_done (by kernel_rfl) ?_ _
            exact hT3.out _ _ ⟨u1.heap.size, aT, cT, [(.agg #[.int .i64 id, .slice ad L.length cap] : Value), .agg #[.int .i64 id, .slice (some ⟨gN, 0, none⟩) L.length cN], (.agg #[.int .i64 x.k, .int .i64 x.q, .int .i64 x.r, .int .i64 x.c, .int .i64 x.b, .int .i64 x.p, .int .i64 x.h, .bool x.up]), .agg #[.int .i64 id, .slice aT T.length cT]], rfl, by kernel_rfl, FE, oT.base bN, joT, pa, hbf⟩
        · refine wpOp_step rfl (fun K hK => ?_)
          rw [if_pos (by kernel_rfl)]
          go_simp
          obtain ⟨u1, hy⟩ : ∃ y_, y_ = u0.alloc (Obj.cells #[.int .i64 0, .slice none 0 0] 26) := ⟨_, rfl⟩
          have kq : Below u0.heap.size u0 u1 := by rw [hy]; exact below_new _
          have FP : BBox u1 u0.heap.size 0 (.slice none 0 0) := by rw [hy]; exact BBox.new u0 _ _ _
          have pa : Y2.heap.size ≤ u0.heap.size := hb0.size
          have hb1 : Below Y2.heap.size Y2 u1 := hb0.trans (kq.mono hb0.size)
          rw [← hy]
          clear hy kq
          refine hK _ _ ⟨hb1, ?_⟩
          clear hK K hi
          refine wpAnyH_all (rs := [1]) (by kernel_rfl) (by simp) ?_
          intro i hi; obtain rfl : i = 1 := by simpa using hi
          refine wpOp_step rfl (fun K hK => ?_)
          rw [if_pos (by kernel_rfl)]
          go_simp
          go_at_call 61
          refine (copS id ad cap L u1 (hv1.below hb1 (hv1.lt ptEnc_len (by omega))) (by omega) hn).mono ?_
          rintro e u2 ⟨aN, cN, rfl, oN, kq⟩
          obtain ⟨gN, rfl, gN1, gN2⟩ := oN.row (by omega)
          have bN : Y2.heap.size ≤ u1.heap.size := hb1.size
          have bU := kq.size
          have joN : ∀ g_, (Value.slice (some ⟨gN, 0, none⟩) L.length cN).ownBlock = some g_ → g_ ≠ u0.heap.size := fun g_ e => by have h1 := (oN.lt g_ e).1; have h2 := FP.lt; omega
          have FP := FP.below kq FP.lt
          have hb2 : Below Y2.heap.size Y2 u2 := hb1.trans (kq.mono hb1.size)
          clear kq
          refine hK _ _ ⟨hb2, ?_⟩
          clear hK K hi
          refine wpAnyH_all (rs := [3]) (by kernel_rfl) (by simp) ?_
          intro i hi; obtain rfl : i = 3 := by simpa using hi
          refine wpOp_step rfl (fun K hK => ?_)
          rw [if_pos (by kernel_rfl)]
          go_simp
          go_at_call 62
          refine (inS id cN L x _ gN u2 oN hgo).mono ?_
          rintro e u3 ⟨aT, cT, rfl, oT, jT, kBar, kB⟩
          rw [hT.out] at oT jT ⊢
          have joT : ∀ g_, (Value.slice aT T.length cT).ownBlock = some g_ → g_ ≠ u0.heap.size := fun g_ e => by
            have h1 := jT g_ e
            have h2 := FP.lt
            have h3 := joN gN rfl
            omega
          have FP := FP.keep (kBar.block _ FP.lt (fun e => joN gN rfl e.symm))
          have hb3 : Below Y2.heap.size Y2 u3 := hb2.trans (kB.mono bN)
          refine hK _ _ ⟨hb3, ?_⟩
          clear hK K hi
          refine wpAnyH_all (rs := [5]) (by kernel_rfl) (by simp) ?_
          intro i hi; obtain rfl : i = 5 := by simpa using hi
          refine wpOp_step rfl (fun K hK => ?_)
          rw [if_pos (by kernel_rfl)]
          have FQ := FP
          obtain ⟨⟨t0, t1⟩, tf⟩ := FP
          go_simp
          clear t0 t1 tf
          obtain ⟨uf, huf⟩ : ∃ y_, y_ = (u3.setCell ⟨u0.heap.size, 0, none⟩ (.int .i64 id)).setCell ⟨u0.heap.size, 1, none⟩ (.slice aT T.length cT) := ⟨_, rfl⟩
          have FE : BBox uf (u0.heap.size) id (.slice aT T.length cT) := by rw [huf]; exact FQ.put _ _
          have hbf : Below Y2.heap.size Y2 uf := by rw [huf]; exact (hb3.setCell (p := ⟨u0.heap.size, 0, none⟩) pa _).setCell (p := ⟨u0.heap.size, 1, none⟩) pa _
          have oT := oT.keep (w' := uf) (fun g_ e => by rw [huf, Below.heap_setCell _ _ _ _ (by show g_ ≠ u0.heap.size; exact joT g_ e), Below.heap_setCell _ _ _ _ (by show g_ ≠ u0.heap.size; exact joT g_ e)])
          rw [← huf]
          clear huf FQ
          refine hK _ _ ⟨hbf, ?_⟩
          clear hK K hi
          refine wpAnyH_done (by kernel_rfl) ?_ _
          exact hT3.out _ _ ⟨u0.heap.size, aT, cT, [(.agg #[.int .i64 id, .slice ad L.length cap] : Value), .agg #[.int .i64 id, .slice (some ⟨gN, 0, none⟩) L.length cN], (.agg #[.int .i64 x.k, .int .i64 x.q, .int .i64 x.r, .int .i64 x.c, .int .i64 x.b, .int .i64 x.p, .int .i64 x.h, .bool x.up]), .agg #[.int .i64 id, .slice aT T.length cT]], rfl, by kernel_rfl, FE, oT.base bN, joT, pa, hbf⟩
      rintro l' Y4 ⟨P, aT, cT, us, hul, rfl, NP, oT, jT, pT, k4⟩
      obtain ⟨u30, us, rfl⟩ : ∃ a b, us = a :: b := List.exists_cons_of_length_eq_add_one hul
      replace hul := Nat.succ.inj hul
      obtain ⟨u31, us, rfl⟩ : ∃ a b, us = a :: b := List.exists_cons_of_length_eq_add_one hul
      replace hul := Nat.succ.inj hul
      obtain ⟨u32, us, rfl⟩ : ∃ a b, us = a :: b := List.exists_cons_of_length_eq_add_one hul
      replace hul := Nat.succ.inj hul
      obtain ⟨u33, us, rfl⟩ : ∃ a b, us = a :: b := List.exists_cons_of_length_eq_add_one hul
      replace hul := Nat.succ.inj hul
      obtain rfl : us = [] := List.eq_nil_of_length_eq_zero hul
      clear hul
      simp only [List.take, List.drop, List.cons_append, List.nil_append]
      have z4 := k4.size
      have A0 := A0.below k4 A0.lt
      have X0 := X0.below k4 X0.lt
      have R0 := R0.below k4 R0.lt
      have hv1 := hv1.below k4 (hv1.lt ptEnc_len (by omega))
      have oE := oE.later k4
      have BY := BY.trans (k4.mono BY.size)
      clear k4
      have NP := NP.at_
      have vT : FView ptEnc Y4 aT T := oT.view.2
      have vtb : ∀ a, aT = some a → 0 < T.length → Y2.heap.size ≤ a.block ∧ a.block < Y4.heap.size := fun a e p => by
        obtain ⟨g_, e1, e2, e3⟩ := oT.row p
        rw [e1] at e
        cases e
        exact ⟨e2, e3⟩
      have vab : ∀ a, ad = some a → 0 < L.length → a.block < w.heap.size := hvb
      have eE := (oE.lt E rfl).2
      have pP := NP.lt
      have sE : ∀ g_, (Value.slice (some ⟨E, 0, none⟩) ([] : List Ou).length 0).ownBlock = some g_ → g_ = E ∨ Y4.heap.size ≤ g_ := fun g_ e => .inl (by simpa [Value.ownBlock] using e.symm)
      have EY2 : E < Y2.heap.size := by omega
      go_wp2
      go_loopw [6, 8] (fun v i wr => ∃ k : Nat, k ≤ L.length ∧ i = .int .i64 (k : Int) ∧ FOwn ouEnc 8 38 E wr v (gatesTo L T k) ∧ (∀ g_, v.ownBlock = some g_ → g_ = E ∨ Y4.heap.size ≤ g_) ∧ Bar E Y4.heap.size Y4 wr ∧ Below w.heap.size w wr) (fun _ i _ => L.length - (intOf i).toNat)
      case atStart => exact ⟨0, Nat.zero_le _, rfl, oE, sE, Bar.of (Below.refl _ _), BY⟩
      case round =>
        obtain ⟨k, hk, rfl, O, sO, hBar, B5⟩ := hrel
        obtain ⟨adk, capk, rfl⟩ := O.open_
        have z5 := hBar.size
        have A5 := A0.bar hBar A0.lt (by omega)
        have P5 := NP.bar hBar NP.lt (by omega)
        have cc_ := A5
        obtain ⟨a0, a1⟩ := cc_
        by_cases hlt : k < L.length
        · have hltT : k < T.length := by rw [hTl.out]; exact hlt
          have hv5 : FView ptEnc wr ad L := hv1.carry fun a e p => hBar.block _ (by have := vab a e p; omega) (by have := vab a e p; omega)
          have vT5 : FView ptEnc wr aT T := vT.carry fun a e p => hBar.block _ (vtb a e p).2 (by have := (vtb a e p).1; omega)
          obtain ⟨bk, off, rfl, _⟩ := hv5 (by omega)
          obtain ⟨bt_, ot_, rfl, _⟩ := vT5 (by omega)
          obtain ⟨h, hh⟩ : ∃ h, T.getD k Pt.nil = h := ⟨_, rfl⟩
          obtain ⟨q_, hg⟩ : ∃ g, L.getD k Pt.nil = g := ⟨_, rfl⟩
          have hhc : ∀ Y, Below wr.heap.size wr Y → PtAtO Y bt_ (ot_ + k * 11) h := fun Y hY => by rw [← hh]; exact ptAtO_of ((vT5.below hY (vT5.lt ptEnc_len (by omega))).at_ ptEnc_len Pt.nil hltT)
          have hgc : ∀ Y, Below wr.heap.size wr Y → PtAtO Y bk (off + k * 11) q_ := fun Y hY => by rw [← hg]; exact ptAtO_of ((hv5.below hY (hv5.lt ptEnc_len (by omega))).at_ ptEnc_len Pt.nil hlt)
          replace hh : Hid _ := hh
          replace hg : Hid _ := hg
          have gl := gates_len L T k
          obtain ⟨G, hG⟩ : ∃ G, gatesTo L T k = G := ⟨_, rfl⟩
          rw [hG] at O gl sO ⊢
          replace hG : Hid _ := hG
          go_upto_region 8 with fail
          clear a0 a1 hv5 vT5
          by_cases ho : h.op = q_.op
          · have hN : Hid (gatesTo L T (k + 1) = G) := by unfold Hid; rw [gates_yes hh.out hg.out ho, hG.out]
            replace ho : Hid _ := ho
            refine wp_region_held (S := fun Y => Below wr.heap.size wr Y) (by kernel_rfl) ?_
            change wpAnyH _ _ _ _ _ _ _ _ (World.drew _)
            have hb0 : Below wr.heap.size wr wr.drew := (Below.refl _ _).drew
            obtain ⟨u0, hy0⟩ : ∃ y_, y_ = wr.drew := ⟨_, rfl⟩
            rw [← hy0] at hb0 ⊢
            clear hy0
            refine takeW 0 41 (.pointer (some ⟨P, 1, none⟩)) rfl rfl (by kernel_rfl) (by kernel_rfl) (by kernel_rfl) (fun _ _ _ h => h) (by kernel_rfl) (by (intro w hSw; go_simp)) (by assumption) ?_
            simp only [List.set_cons_zero, List.set_cons_succ]
            refine takeW 1 42 (.slice (some ⟨bt_, ot_, none⟩) T.length cT) rfl rfl (by kernel_rfl) (by kernel_rfl) (by kernel_rfl) (fun _ _ _ h => h) (by kernel_rfl) (by (intro Y hSw; obtain ⟨X0_, X1_⟩ := P5.below hSw P5.lt; go_simp)) (by assumption) ?_
            simp only [List.set_cons_zero, List.set_cons_succ]
            refine takeW 2 43 (.int .i64 (k : Int)) rfl rfl (by kernel_rfl) (by kernel_rfl) (by kernel_rfl) (fun _ _ _ h => h) (by kernel_rfl) (by (intro w hSw; go_simp)) (by assumption) ?_
            simp only [List.set_cons_zero, List.set_cons_succ]
            refine takeW 3 44 (.pointer (some ⟨bt_, ot_ + k * 11, none⟩)) rfl rfl (by kernel_rfl) (by kernel_rfl) (by kernel_rfl) (fun _ _ _ h => h) (by kernel_rfl) (by (intro Y hSw; go_simp; try omega)) (by assumption) ?_
            simp only [List.set_cons_zero, List.set_cons_succ]
            refine takeW 4 45 (.pointer (some ⟨bt_, ot_ + k * 11 + 10, none⟩)) rfl rfl (by kernel_rfl) (by kernel_rfl) (by kernel_rfl) (fun _ _ _ h => h) (by kernel_rfl) (by (intro w hSw; go_simp)) (by assumption) ?_
            simp only [List.set_cons_zero, List.set_cons_succ]
            refine takeW 5 46 (.bool h.op) rfl rfl (by kernel_rfl) (by kernel_rfl) (by kernel_rfl) (fun _ _ _ h => h) (by kernel_rfl) (by (intro Y hSw; obtain ⟨X0, X1, X2, X3, X4, X5, X6, X7, X8, X9, X10⟩ := hhc Y hSw; go_simp)) (by assumption) ?_
            simp only [List.set_cons_zero, List.set_cons_succ]
            refine takeW 6 47 (.pointer (some ⟨w.heap.size, 1, none⟩)) rfl rfl (by kernel_rfl) (by kernel_rfl) (by kernel_rfl) (fun _ _ _ h => h) (by kernel_rfl) (by (intro w hSw; go_simp)) (by assumption) ?_
            simp only [List.set_cons_zero, List.set_cons_succ]
            refine takeW 7 48 (.slice (some ⟨bk, off, none⟩) L.length cap) rfl rfl (by kernel_rfl) (by kernel_rfl) (by kernel_rfl) (fun _ _ _ h => h) (by kernel_rfl) (by (intro Y hSw; obtain ⟨X0_, X1_⟩ := A5.below hSw A5.lt; go_simp)) (by assumption) ?_
            simp only [List.set_cons_zero, List.set_cons_succ]
            refine takeW 8 49 (.int .i64 (k : Int)) rfl rfl (by kernel_rfl) (by kernel_rfl) (by kernel_rfl) (fun _ _ _ h => h) (by kernel_rfl) (by (intro w hSw; go_simp)) (by assumption) ?_
            simp only [List.set_cons_zero, List.set_cons_succ]
            refine takeW 9 50 (.pointer (some ⟨bk, off + k * 11, none⟩)) rfl rfl (by kernel_rfl) (by kernel_rfl) (by kernel_rfl) (fun _ _ _ h => h) (by kernel_rfl) (by (intro Y hSw; go_simp; try omega)) (by assumption) ?_
            simp only [List.set_cons_zero, List.set_cons_succ]
            refine takeW 10 51 (.pointer (some ⟨bk, off + k * 11 + 10, none⟩)) rfl rfl (by kernel_rfl) (by kernel_rfl) (by kernel_rfl) (fun _ _ _ h => h) (by kernel_rfl) (by (intro w hSw; go_simp)) (by assumption) ?_
            simp only [List.set_cons_zero, List.set_cons_succ]
            refine takeW 11 52 (.bool q_.op) rfl rfl (by kernel_rfl) (by kernel_rfl) (by kernel_rfl) (fun _ _ _ h => h) (by kernel_rfl) (by (intro Y hSw; obtain ⟨X0, X1, X2, X3, X4, X5, X6, X7, X8, X9, X10⟩ := hgc Y hSw; go_simp)) (by assumption) ?_
            simp only [List.set_cons_zero, List.set_cons_succ]
            refine takeW 12 53 (.bool false) rfl rfl (by kernel_rfl) (by kernel_rfl) (by kernel_rfl) (fun _ _ _ h => h) (by kernel_rfl) (by (intro Y hSw; go_simp; exact ho.out)) (by assumption) ?_
            simp only [List.set_cons_zero, List.set_cons_succ]
            refine wpAnyH_done (by kernel_rfl) ?_ _
            have hBar2 : Bar E Y4.heap.size Y4 u0 := ⟨Nat.le_trans hBar.size hb0.size, fun q hq hne => (hb0.block q (by omega)).trans (hBar.block q hq hne)⟩
            go_wp2
            go_roundw
            case rel => exact ⟨k + 1, by omega, by go_num, by rw [hN.out]; exact O.later hb0, sO, hBar2, B5.trans (hb0.mono B5.size)⟩
            case measure => simp [intOf]; omega
          · have hN : Hid (gatesTo L T (k + 1) = G ++ [gateO k h.op]) := by unfold Hid; rw [gates_no hh.out hg.out ho, hG.out]
            replace ho : Hid _ := ho
            refine wp_region_held (S := fun Y => Below wr.heap.size wr Y) (by kernel_rfl) ?_
            change wpAnyH _ _ _ _ _ _ _ _ (World.drew _)
            have hb0 : Below wr.heap.size wr wr.drew := (Below.refl _ _).drew
            obtain ⟨u0, hy0⟩ : ∃ y_, y_ = wr.drew := ⟨_, rfl⟩
            rw [← hy0] at hb0 ⊢
            clear hy0
            refine takeW 0 41 (.pointer (some ⟨P, 1, none⟩)) rfl rfl (by kernel_rfl) (by kernel_rfl) (by kernel_rfl) (fun _ _ _ h => h) (by kernel_rfl) (by (intro w hSw; go_simp)) (by assumption) ?_
            simp only [List.set_cons_zero, List.set_cons_succ]
            refine takeW 1 42 (.slice (some ⟨bt_, ot_, none⟩) T.length cT) rfl rfl (by kernel_rfl) (by kernel_rfl) (by kernel_rfl) (fun _ _ _ h => h) (by kernel_rfl) (by (intro Y hSw; obtain ⟨X0_, X1_⟩ := P5.below hSw P5.lt; go_simp)) (by assumption) ?_
            simp only [List.set_cons_zero, List.set_cons_succ]
            refine takeW 2 43 (.int .i64 (k : Int)) rfl rfl (by kernel_rfl) (by kernel_rfl) (by kernel_rfl) (fun _ _ _ h => h) (by kernel_rfl) (by (intro w hSw; go_simp)) (by assumption) ?_
            simp only [List.set_cons_zero, List.set_cons_succ]
            refine takeW 3 44 (.pointer (some ⟨bt_, ot_ + k * 11, none⟩)) rfl rfl (by kernel_rfl) (by kernel_rfl) (by kernel_rfl) (fun _ _ _ h => h) (by kernel_rfl) (by (intro Y hSw; go_simp; try omega)) (by assumption) ?_
            simp only [List.set_cons_zero, List.set_cons_succ]
            refine takeW 4 45 (.pointer (some ⟨bt_, ot_ + k * 11 + 10, none⟩)) rfl rfl (by kernel_rfl) (by kernel_rfl) (by kernel_rfl) (fun _ _ _ h => h) (by kernel_rfl) (by (intro w hSw; go_simp)) (by assumption) ?_
            simp only [List.set_cons_zero, List.set_cons_succ]
            refine takeW 5 46 (.bool h.op) rfl rfl (by kernel_rfl) (by kernel_rfl) (by kernel_rfl) (fun _ _ _ h => h) (by kernel_rfl) (by (intro Y hSw; obtain ⟨X0, X1, X2, X3, X4, X5, X6, X7, X8, X9, X10⟩ := hhc Y hSw; go_simp)) (by assumption) ?_
            simp only [List.set_cons_zero, List.set_cons_succ]
            refine takeW 6 47 (.pointer (some ⟨w.heap.size, 1, none⟩)) rfl rfl (by kernel_rfl) (by kernel_rfl) (by kernel_rfl) (fun _ _ _ h => h) (by kernel_rfl) (by (intro w hSw; go_simp)) (by assumption) ?_
            simp only [List.set_cons_zero, List.set_cons_succ]
            refine takeW 7 48 (.slice (some ⟨bk, off, none⟩) L.length cap) rfl rfl (by kernel_rfl) (by kernel_rfl) (by kernel_rfl) (fun _ _ _ h => h) (by kernel_rfl) (by (intro Y hSw; obtain ⟨X0_, X1_⟩ := A5.below hSw A5.lt; go_simp)) (by assumption) ?_
            simp only [List.set_cons_zero, List.set_cons_succ]
            refine takeW 8 49 (.int .i64 (k : Int)) rfl rfl (by kernel_rfl) (by kernel_rfl) (by kernel_rfl) (fun _ _ _ h => h) (by kernel_rfl) (by (intro w hSw; go_simp)) (by assumption) ?_
            simp only [List.set_cons_zero, List.set_cons_succ]
            refine takeW 9 50 (.pointer (some ⟨bk, off + k * 11, none⟩)) rfl rfl (by kernel_rfl) (by kernel_rfl) (by kernel_rfl) (fun _ _ _ h => h) (by kernel_rfl) (by (intro Y hSw; go_simp; try omega)) (by assumption) ?_
            simp only [List.set_cons_zero, List.set_cons_succ]
            refine takeW 10 51 (.pointer (some ⟨bk, off + k * 11 + 10, none⟩)) rfl rfl (by kernel_rfl) (by kernel_rfl) (by kernel_rfl) (fun _ _ _ h => h) (by kernel_rfl) (by (intro w hSw; go_simp)) (by assumption) ?_
            simp only [List.set_cons_zero, List.set_cons_succ]
            refine takeW 11 52 (.bool q_.op) rfl rfl (by kernel_rfl) (by kernel_rfl) (by kernel_rfl) (fun _ _ _ h => h) (by kernel_rfl) (by (intro Y hSw; obtain ⟨X0, X1, X2, X3, X4, X5, X6, X7, X8, X9, X10⟩ := hgc Y hSw; go_simp)) (by assumption) ?_
            simp only [List.set_cons_zero, List.set_cons_succ]
            refine takeW 12 53 (.bool true) rfl rfl (by kernel_rfl) (by kernel_rfl) (by kernel_rfl) (fun _ _ _ h => h) (by kernel_rfl) (by (intro Y hSw; go_simp; exact ho.out)) (by assumption) ?_
            simp only [List.set_cons_zero, List.set_cons_succ]
            refine wpAnyH_done (by kernel_rfl) ?_ _
            have hBar2 : Bar E Y4.heap.size Y4 u0 := ⟨Nat.le_trans hBar.size hb0.size, fun q hq hne => (hb0.block q (by omega)).trans (hBar.block q hq hne)⟩
            have B6 := B5.trans (hb0.mono B5.size)
            have z6 := hb0.size
            obtain ⟨c0, c1, c2, c3, c4, c5, c6, c7, c8, c9, c10⟩ := hhc u0 hb0
            obtain ⟨n0, n1⟩ := P5.below hb0 P5.lt
            have V1 := FView.oneO u0 38 (gateO k h.op)
            have O2 : FOwn ouEnc 8 38 E (u0.alloc (Obj.cells #[.int .i64 (gateO k h.op).k, .int .i64 (gateO k h.op).pt, .int .i64 (gateO k h.op).r, .int .i64 (gateO k h.op).c, .int .i64 (gateO k h.op).b, .int .i64 (gateO k h.op).p, .int .i64 (gateO k h.op).h, .bool (gateO k h.op).on] 38)) (.slice adk G.length capk) G := (O.later hb0).later (below_new _)
            unfold gateO at V1 O2
            dsimp only at V1 O2
            go_wp2_with (first | (at_builtin; refine fappL ouEnc_len ouEnc_ones rfl _ _ 33 rfl E 38 i0 (.agg #[.int .i64 0, .int .i64 0, .int .i64 0, .int .i64 0, .int .i64 0, .int .i64 0, .int .i64 0, .bool false]) 64 Try.underlying33 hi hz0 hz1 hz2 rfl (by decide) (by decide) (.slice adk G.length capk) G rfl O2 (some ⟨u0.heap.size, 0, none⟩) 1 [(⟨2, (k : Int), 0, 0, 0, 0, 0, h.op⟩ : Ou)] rfl (fun e => by cases e) V1 ?z0 ?z1 ?_) | go_in)
            case z0 => simp; omega
            case z1 => simp; omega
            intro vZ wZ hownZ hgrowZ hoZ
            have gsz := hgrowZ.size
            simp only [World.size_alloc] at gsz
            have sZ : ∀ g_, vZ.ownBlock = some g_ → g_ = E ∨ Y4.heap.size ≤ g_ := fun g_ e => by
              rcases hoZ with q | q
              · exact sO g_ (by rw [← q]; exact e)
              · rw [q] at e
                simp at e
                omega
            have BarZ : Bar E Y4.heap.size Y4 wZ := ⟨by omega, fun q hq hne => (hgrowZ.block q (by simp; omega) (fun e => by have := sO q e.symm; omega)).trans ((Below.heap_alloc _ _ q (by omega)).trans (hBar2.block q hq hne))⟩
            have BZ6 : Below w.heap.size w wZ := (B6.alloc B6.size _).grown hgrowZ (by simp; have := B6.size; omega) (fun g_ e => by have := sO g_ e; omega)
            clear hgrowZ V1 O2 c0 c1 c2 c3 c4 c5 c6 c7 c8 c9 c10 n0 n1 hoZ
            go_wp2
            go_roundw
            case rel => exact ⟨k + 1, by omega, by go_num, by rw [hN.out]; exact hownZ, sZ, BarZ, BZ6⟩
            case measure => simp [intOf]; omega
        · obtain rfl : k = L.length := by omega
          obtain ⟨G, hG⟩ : ∃ G, gatesTo L T L.length = G := ⟨_, rfl⟩
          have gl := gates_len L T L.length
          rw [hG] at O sO gl hO2 ⊢
          replace hO2 : Hid _ := hO2
          clear hG
          have X5 := X0.keep (hBar.block _ X0.lt (by omega))
          have R5 := R0.keep (hBar.block _ R0.lt (by omega))
          have cc_ := X5
          obtain ⟨x0, x1, x2, x3, x4, x5, x6, x7⟩ := cc_
          have cp_ := P5
          obtain ⟨n0, n1⟩ := cp_
          by_cases hk2 : x.k = 2
          · have hO3 : Hid (OO = G ++ toldTo id T T.length) := by unfold Hid; rw [hO2.out, if_pos hk2]
            replace hk2 : Hid _ := hk2
            clear hO2
            have gl4 : G.length ≤ 4 := by omega
            go_upto_region 10 with fail
            go_wp2
            clear x0 x1 x2 x3 x4 x5 x6 x7 n0 n1 a0 a1 A5 P5 X5 R5
            go_loopw [6, 9] (fun v i ws => ∃ k : Nat, k ≤ T.length ∧ i = .int .i64 (k : Int) ∧ FOwn ouEnc 8 38 E ws v (G ++ toldTo id T k) ∧ (∀ g_, v.ownBlock = some g_ → g_ = E ∨ Y4.heap.size ≤ g_) ∧ Bar E Y4.heap.size Y4 ws ∧ Below w.heap.size w ws) (fun _ i _ => T.length - (intOf i).toNat)
            case atStart => exact ⟨0, Nat.zero_le _, rfl, by rw [show toldTo id T 0 = [] from rfl, List.append_nil]; exact O, sO, hBar, B5⟩
            case round =>
              clear O sO hBar B5
              obtain ⟨k, hk, rfl, O, sO, hBar, B5⟩ := hrel
              obtain ⟨adk, capk, rfl⟩ := O.open_
              have z5 := hBar.size
              have P5 := NP.bar hBar NP.lt (by omega)
              have X5 := X0.keep (hBar.block _ X0.lt (by omega))
              have R5 := R0.keep (hBar.block _ R0.lt (by omega))
              have cc_ := X5
              obtain ⟨x0, x1, x2, x3, x4, x5, x6, x7⟩ := cc_
              have dk : (x.k == 2) = true := by simpa using hk2.out
              have cp_ := P5
              obtain ⟨n0, n1⟩ := cp_
              by_cases hlt : k < T.length
              · have vT5 : FView ptEnc wr aT T := vT.carry fun a e p => hBar.block _ (vtb a e p).2 (by have := (vtb a e p).1; omega)
                obtain ⟨bt_, ot_, rfl, _⟩ := vT5 (by omega)
                obtain ⟨h, hh⟩ : ∃ h, T.getD k Pt.nil = h := ⟨_, rfl⟩
                obtain ⟨c0, c1, c2, c3, c4, c5, c6, c7, c8, c9, c10⟩ : PtAtO wr bt_ (ot_ + k * 11) h := by rw [← hh]; exact ptAtO_of (vT5.at_ ptEnc_len Pt.nil hlt)
                replace hh : Hid _ := hh
                have tl := told_len id T k
                obtain ⟨H, hH⟩ : ∃ H, toldTo id T k = H := ⟨_, rfl⟩
                rw [hH] at O tl sO ⊢
                obtain ⟨GH, hGH⟩ : ∃ GH, G ++ H = GH := ⟨_, rfl⟩
                have gh8 : GH.length ≤ 8 := by rw [← hGH, List.length_append]; omega
                rw [hGH] at O sO ⊢
                have hHN : Hid (G ++ toldTo id T k = GH) := by unfold Hid; rw [hH, hGH]
                clear hH hGH
                by_cases ho : h.ro = 2
                · have dr : (h.ro == 2) = true := by simpa using ho
                  obtain ⟨⟨v1, v2, v3, v4⟩, hov⟩ : ∃ v, ownR id T k = v := ⟨_, rfl⟩
                  obtain ⟨hq_, hhq⟩ : ∃ v, hopsR id T = v := ⟨_, rfl⟩
                  have hN : Hid (G ++ toldTo id T (k + 1) = GH ++ [(⟨1, (k : Int), v1, v2, v3, v4, hq_, false⟩ : Ou)]) := by unfold Hid; rw [told_yes hh.out ho, ← List.append_assoc, hHN.out]; unfold toldO; rw [hov, hhq]
                  replace ho : Hid _ := ho
                  replace hov : Hid _ := hov
                  replace hhq : Hid _ := hhq
                  have hiT := hi
                  go_upto_region 14 with fail
                  clear c0 c1 c2 c3 c4 c5 c6 c7 c8 c9 c10 x0 x1 x2 x3 x4 x5 x6 x7 n0 n1 vT5
                  refine wp_region_held (S := fun Y => Bar E Y4.heap.size Y4 Y) (by kernel_rfl) ?_
                  change wpAnyH _ _ _ _ _ _ _ _ (World.drew _)
                  have ha0 : Below wr.heap.size wr wr.drew := (Below.refl _ _).drew
                  obtain ⟨u0, hy0⟩ : ∃ y_, y_ = wr.drew := ⟨_, rfl⟩
                  rw [← hy0] at ha0 ⊢
                  clear hy0
                  have hb0 : Bar E Y4.heap.size Y4 u0 := ⟨Nat.le_trans hBar.size ha0.size, fun q hq hne => (ha0.block q (by omega)).trans (hBar.block q hq hne)⟩
                  refine takeW 0 84 (.slice adk GH.length capk) rfl rfl (by kernel_rfl) (by kernel_rfl) (by kernel_rfl) (fun _ _ _ h => h) (by kernel_rfl) (by (intro w hSw; go_simp)) (by assumption) ?_
                  simp only [List.set_cons_zero, List.set_cons_succ]
                  refine takeW 1 85 (.int .i64 (k : Int)) rfl rfl (by kernel_rfl) (by kernel_rfl) (by kernel_rfl) (fun _ _ _ h => h) (by kernel_rfl) (by (intro w hSw; go_simp)) (by assumption) ?_
                  simp only [List.set_cons_zero, List.set_cons_succ]
                  refine takeW 2 86 (.agg #[.int .i64 id, .slice (some ⟨bt_, ot_, none⟩) T.length cT]) rfl rfl (by kernel_rfl) (by kernel_rfl) (by kernel_rfl) (fun _ _ _ h => h) (by kernel_rfl) (by (intro Y hSw; obtain ⟨X0_, X1_⟩ := NP.bar hSw NP.lt (by omega); go_simp)) (by assumption) ?_
                  simp only [List.set_cons_zero, List.set_cons_succ]
                  refine takeW 3 87 (.int .i64 (k : Int)) rfl rfl (by kernel_rfl) (by kernel_rfl) (by kernel_rfl) (fun _ _ _ h => h) (by kernel_rfl) (by (intro w hSw; go_simp)) (by assumption) ?_
                  simp only [List.set_cons_zero, List.set_cons_succ]
                  refine takeW 5 89 (.agg #[.int .i64 id, .slice (some ⟨bt_, ot_, none⟩) T.length cT]) rfl rfl (by kernel_rfl) (by kernel_rfl) (by kernel_rfl) (fun _ _ _ h => h) (by kernel_rfl) (by (intro Y hSw; obtain ⟨X0_, X1_⟩ := NP.bar hSw NP.lt (by omega); go_simp)) (by assumption) ?_
                  simp only [List.set_cons_zero, List.set_cons_succ]
                  refine wpAnyH_all (rs := [4]) (by kernel_rfl) (by simp) ?_
                  intro i hi; obtain rfl : i = 4 := by simpa using hi
                  refine wpOp_step rfl (fun K hK => ?_)
                  rw [if_pos (by kernel_rfl)]
                  go_simp
                  go_at_call 63
                  refine (ownS id (some ⟨bt_, ot_, none⟩) cT T (k : Int) u0 (vT.carry fun a e p => hb0.block _ (vtb a e p).2 (by have := (vtb a e p).1; omega)) (by omega)).mono ?_
                  rintro e u1 ⟨rfl, kq⟩
                  have ha1 : Below wr.heap.size wr u1 := ha0.trans (kq.mono ha0.size)
                  have hb1 : Bar E Y4.heap.size Y4 u1 := ⟨Nat.le_trans hBar.size ha1.size, fun q hq hne => (ha1.block q (by omega)).trans (hBar.block q hq hne)⟩
                  clear kq
                  rw [hov.out]
                  refine hK _ _ ⟨hb1, ?_⟩
                  clear hK K hi
                  refine wpAnyH_all (rs := [6]) (by kernel_rfl) (by simp) ?_
                  intro i hi; obtain rfl : i = 6 := by simpa using hi
                  refine wpOp_step rfl (fun K hK => ?_)
                  rw [if_pos (by kernel_rfl)]
                  go_simp
                  go_at_call 64
                  refine (hopsS id (some ⟨bt_, ot_, none⟩) cT T u1 (vT.carry fun a e p => hb1.block _ (vtb a e p).2 (by have := (vtb a e p).1; omega)) (by omega)).mono ?_
                  rintro e u2 ⟨rfl, kq⟩
                  have ha2 : Below wr.heap.size wr u2 := ha1.trans (kq.mono ha1.size)
                  have hb2 : Bar E Y4.heap.size Y4 u2 := ⟨Nat.le_trans hBar.size ha2.size, fun q hq hne => (ha2.block q (by omega)).trans (hBar.block q hq hne)⟩
                  clear kq
                  rw [hhq.out]
                  refine hK _ _ ⟨hb2, ?_⟩
                  clear hK K hi
                  refine takeW 7 91 (.agg #[.int .i64 1, .int .i64 (k : Int), .int .i64 v1, .int .i64 v2, .int .i64 v3, .int .i64 v4, .int .i64 hq_, .bool false]) rfl rfl (by kernel_rfl) (by kernel_rfl) (by kernel_rfl) (fun _ _ _ h => h) (by kernel_rfl) (by (intro w hSw; go_simp)) (by assumption) ?_
                  simp only [List.set_cons_zero, List.set_cons_succ]
                  refine wpAnyH_all (rs := [8]) (by kernel_rfl) (by simp) ?_
                  intro i hi; obtain rfl : i = 8 := by simpa using hi
                  refine wpOp_step rfl (fun K_ hK_ => ?_)
                  rw [if_pos (by kernel_rfl)]
                  go_simp
                  obtain ⟨u3, hu3⟩ : ∃ y_, y_ = u2.alloc (Obj.cells #[.int .i64 1, .int .i64 (k : Int), .int .i64 v1, .int .i64 v2, .int .i64 v3, .int .i64 v4, .int .i64 hq_, .bool false] 38) := ⟨_, rfl⟩
                  have V1 : FView ouEnc u3 (some ⟨u2.heap.size, 0, none⟩) [(⟨1, (k : Int), v1, v2, v3, v4, hq_, false⟩ : Ou)] := by rw [hu3]; exact FView.oneO u2 38 ⟨1, (k : Int), v1, v2, v3, v4, hq_, false⟩
                  have kq : Below u2.heap.size u2 u3 := by rw [hu3]; exact below_new _
                  have ha3 : Below wr.heap.size wr u3 := ha2.trans (kq.mono ha2.size)
                  have hb3 : Bar E Y4.heap.size Y4 u3 := ⟨Nat.le_trans hBar.size ha3.size, fun q hq hne => (ha3.block q (by omega)).trans (hBar.block q hq hne)⟩
                  clear kq
                  rw [← hu3]
                  clear hu3
                  generalize u2.heap.size = Ee at V1 ⊢
                  refine hK_ _ _ ⟨hb3, ?_⟩
                  clear hK_ K_ hi
                  have O2 : FOwn ouEnc 8 38 E u3 (.slice adk GH.length capk) GH := O.later ha3
                  have z6 := ha3.size
                  have B6 := B5.trans (ha3.mono B5.size)
                  refine wpAnyH_all (rs := [9]) (by kernel_rfl) (by simp) ?_
                  intro i hi; obtain rfl : i = 9 := by simpa using hi
                  refine wpOp_step rfl (fun K_ hK_ => ?_)
                  rw [if_pos (by kernel_rfl)]
                  refine fapp ouEnc_len ouEnc_ones 93 _ _ 33 rfl rfl E 38 i0 (.agg #[.int .i64 0, .int .i64 0, .int .i64 0, .int .i64 0, .int .i64 0, .int .i64 0, .int .i64 0, .bool false]) 64 Try.underlying33 hiT hz0 hz1 hz2 rfl (by decide) (by decide) (.slice adk GH.length capk) GH rfl O2 (some ⟨Ee, 0, none⟩) 1 [(⟨1, (k : Int), v1, v2, v3, v4, hq_, false⟩ : Ou)] rfl (fun e => by cases e) V1 (by simp; omega) (by omega) ?_
                  intro vZ wZ hownZ gZ hoZ
                  have gsz := gZ.size
                  have sZ : ∀ g_, vZ.ownBlock = some g_ → g_ = E ∨ Y4.heap.size ≤ g_ := fun g_ e => by
                    rcases hoZ with q | q
                    · exact sO g_ (by rw [← q]; exact e)
                    · rw [q] at e
                      simp at e
                      omega
                  have BarZ : Bar E Y4.heap.size Y4 wZ := ⟨by omega, fun q hq hne => (gZ.block q (by omega) (fun e => by have := sO q e.symm; omega)).trans (hb3.block q hq hne)⟩
                  have BZ6 : Below w.heap.size w wZ := B6.grown gZ B6.size (fun g_ e => by have := sO g_ e; omega)
                  clear gZ V1 O2 hoZ
                  simp only [List.set_cons_zero, List.set_cons_succ]
                  refine hK_ _ _ ⟨BarZ, ?_⟩
                  clear hK_ K_ hi
                  refine takeW 10 6 vZ rfl rfl (by kernel_rfl) (by kernel_rfl) (by kernel_rfl) (fun _ _ _ h => h) (by kernel_rfl) (by (intro w hSw; go_simp)) (by assumption) ?_
                  simp only [List.set_cons_zero, List.set_cons_succ]
                  refine wpAnyH_done (by kernel_rfl) ?_ _
                  clear O ha0 ha1 ha2 ha3 hb0 hb1 hb2 hb3
                  go_wp2
                  go_roundw
                  case rel => exact ⟨k + 1, by omega, by go_num, by rw [hN.out]; exact hownZ, sZ, BarZ, BZ6⟩
                  case measure => simp [intOf]; omega
                · have dr : (h.ro == 2) = false := by simpa using ho
                  have hN : Hid (G ++ toldTo id T (k + 1) = GH) := by unfold Hid; rw [told_no hh.out ho, hHN.out]
                  replace ho : Hid _ := ho
                  go_wp2
                  go_roundw
                  case rel => exact ⟨k + 1, by omega, by go_num, by rw [hN.out]; exact O, sO, hBar, B5⟩
                  case measure => simp [intOf]; omega
              · obtain rfl : k = T.length := by omega
                obtain ⟨Z, hZ⟩ : ∃ Z, G ++ toldTo id T T.length = Z := ⟨_, rfl⟩
                rw [hZ] at O sO hO3 ⊢
                replace hO3 : Hid _ := hO3
                clear hZ
                go_upto_region 15 with fail
                clear x0 x1 x2 x3 x4 x5 x6 x7 n0 n1
                have OT : FOwn ptEnc 11 43 Y2.heap.size wr (.slice aT T.length cT) T := oT.keep fun g_ e => hBar.block g_ (oT.lt g_ e).2 (by have := (oT.lt g_ e).1; omega)
                have JJ : ∀ g_, (Value.slice adk (Z).length capk).ownBlock = some g_ → (Value.slice aT T.length cT).ownBlock ≠ some g_ := fun g_ e e2 => by have h1 := sO g_ e; have h2 := oT.lt g_ e2; omega
                have RP := R5.put id (.slice aT T.length cT)
                have S8 : w.heap.size + 1 + 1 < wr.heap.size := R5.lt
                obtain ⟨⟨r0, r1⟩, rf⟩ := R5
                have BZ := (B5.setCell (p := ⟨w.heap.size + 1 + 1, 0, none⟩) (by show _ ≤ w.heap.size + 1 + 1; omega) (.int .i64 id)).setCell (p := ⟨w.heap.size + 1 + 1, 1, none⟩) (by show _ ≤ w.heap.size + 1 + 1; omega) (.slice aT T.length cT)
                have OZ : FOwn ptEnc 11 43 w.heap.size ((wr.setCell ⟨w.heap.size + 1 + 1, 0, none⟩ (.int .i64 id)).setCell ⟨w.heap.size + 1 + 1, 1, none⟩ (.slice aT T.length cT)) (.slice aT T.length cT) T := (OT.base (by omega)).keep fun g' e => by
                  have := (OT.lt g' e).1
                  rw [Below.heap_setCell _ _ _ _ (by show g' ≠ w.heap.size + 1 + 1; omega), Below.heap_setCell _ _ _ _ (by show g' ≠ w.heap.size + 1 + 1; omega)]
                have OQ : FOwn ouEnc 8 38 w.heap.size ((wr.setCell ⟨w.heap.size + 1 + 1, 0, none⟩ (.int .i64 id)).setCell ⟨w.heap.size + 1 + 1, 1, none⟩ (.slice aT T.length cT)) (.slice adk (Z).length capk) (Z) := (O.base (by omega)).keep fun g' e => by
                  have := (O.lt g' e).1
                  rw [Below.heap_setCell _ _ _ _ (by show g' ≠ w.heap.size + 1 + 1; omega), Below.heap_setCell _ _ _ _ (by show g' ≠ w.heap.size + 1 + 1; omega)]
                obtain ⟨⟨p0, p1⟩, _⟩ := RP
                obtain ⟨n0, n1⟩ := P5
                go_wp2
                refine bodyPost_ret (v := .tuple #[.agg #[.int .i64 id, .slice aT T.length cT], .slice adk (Z).length capk]) (by simp [results, Try.results12, go_sem, *]) rfl ⟨aT, cT, adk, capk, by rw [hD2.out, hO3.out], by rw [hD2.out]; exact OZ, by rw [hO3.out]; exact OQ, by rw [hD2.out, hO3.out]; exact JJ, BZ⟩
          · have dk : (x.k == 2) = false := by simpa using hk2
            have hO3 : Hid (OO = G) := by unfold Hid; rw [hO2.out, if_neg hk2, List.append_nil]
            have d0 : decide ((0 : Int) < (T.length : Int)) = true := decide_eq_true (by omega)
            have d0' : decide (0 < T.length) = true := decide_eq_true (by omega)
            replace hk2 : Hid _ := hk2
            clear hO2
            go_upto_region 10 with fail
            go_wp2
            refine wp_loop_rounds 1 ?_; rw [rounds_succ]
            go_upto_region 15 with fail
            clear x0 x1 x2 x3 x4 x5 x6 x7 n0 n1
            have OT : FOwn ptEnc 11 43 Y2.heap.size wr (.slice aT T.length cT) T := oT.keep fun g_ e => hBar.block g_ (oT.lt g_ e).2 (by have := (oT.lt g_ e).1; omega)
            have JJ : ∀ g_, (Value.slice adk (G).length capk).ownBlock = some g_ → (Value.slice aT T.length cT).ownBlock ≠ some g_ := fun g_ e e2 => by have h1 := sO g_ e; have h2 := oT.lt g_ e2; omega
            have RP := R5.put id (.slice aT T.length cT)
            have S8 : w.heap.size + 1 + 1 < wr.heap.size := R5.lt
            obtain ⟨⟨r0, r1⟩, rf⟩ := R5
            have BZ := (B5.setCell (p := ⟨w.heap.size + 1 + 1, 0, none⟩) (by show _ ≤ w.heap.size + 1 + 1; omega) (.int .i64 id)).setCell (p := ⟨w.heap.size + 1 + 1, 1, none⟩) (by show _ ≤ w.heap.size + 1 + 1; omega) (.slice aT T.length cT)
            have OZ : FOwn ptEnc 11 43 w.heap.size ((wr.setCell ⟨w.heap.size + 1 + 1, 0, none⟩ (.int .i64 id)).setCell ⟨w.heap.size + 1 + 1, 1, none⟩ (.slice aT T.length cT)) (.slice aT T.length cT) T := (OT.base (by omega)).keep fun g' e => by
              have := (OT.lt g' e).1
              rw [Below.heap_setCell _ _ _ _ (by show g' ≠ w.heap.size + 1 + 1; omega), Below.heap_setCell _ _ _ _ (by show g' ≠ w.heap.size + 1 + 1; omega)]
            have OQ : FOwn ouEnc 8 38 w.heap.size ((wr.setCell ⟨w.heap.size + 1 + 1, 0, none⟩ (.int .i64 id)).setCell ⟨w.heap.size + 1 + 1, 1, none⟩ (.slice aT T.length cT)) (.slice adk (G).length capk) (G) := (O.base (by omega)).keep fun g' e => by
              have := (O.lt g' e).1
              rw [Below.heap_setCell _ _ _ _ (by show g' ≠ w.heap.size + 1 + 1; omega), Below.heap_setCell _ _ _ _ (by show g' ≠ w.heap.size + 1 + 1; omega)]
            obtain ⟨⟨p0, p1⟩, _⟩ := RP
            obtain ⟨n0, n1⟩ := P5
            go_wp2
            refine bodyPost_ret (v := .tuple #[.agg #[.int .i64 id, .slice aT T.length cT], .slice adk (G).length capk]) (by simp [results, Try.results12, go_sem, *]) rfl ⟨aT, cT, adk, capk, by rw [hD2.out, hO3.out], by rw [hD2.out]; exact OZ, by rw [hO3.out]; exact OQ, by rw [hD2.out, hO3.out]; exact JJ, BZ⟩

end Go.Proofs.Ytghmmcenjdbfgaa
namespace Go.Proofs.Ytghmmcenjdbfgaa
open Go.ChangeShapes Go.WideShapes Go.ChangeAt Go.RowKit
open Go.ChangeMaps (open_string shut_string)
set_option linter.unusedVariables false
set_option maxRecDepth 100000

/-- Whether a new bridge is right. -/
def nOk (id n : Int) : Bool := decide (1 ≤ id ∧ id ≤ 9) && decide (1 ≤ n ∧ n ≤ 4)
theorem bOk_new {id : Int} {k : Nat} : bOk id (List.replicate k Pt.nil) = nOk id k := by
  unfold bOk nOk
  have e : (List.replicate k Pt.nil).all pOk = true := by
    rw [List.all_eq_true]; intro x hx; rw [List.eq_of_mem_replicate hx]; exact pOk_nil
  rw [e, List.length_replicate, Bool.and_true]
  congr 1
  exact decide_eq_decide.2 (by omega)
/-- What BridgeNew answers: its number, its ports. -/
def newI (id n : Int) : Int := if nOk id n then id else 0
def newL (id n : Int) : List Pt := if nOk id n then List.replicate n.toNat Pt.nil else []
theorem made_nil {n : Nat} (h : n ≤ 4) : (madeCells (Value.cells (.agg #[.bool false, .bool false, .int .i64 0, .int .i64 0, .int .i64 0, .int .i64 0, .int .i64 0, .int .i64 0, .int .i64 0, .int .i64 0, .bool false])) (n * 11)).toList = fcells ptEnc (List.replicate n Pt.nil) := by
  rcases (by omega : n = 0 ∨ n = 1 ∨ n = 2 ∨ n = 3 ∨ n = 4) with rfl | rfl | rfl | rfl | rfl
  · simp only [madeCells, Array.toList_map, Array.toList_range]; rfl
  · simp only [madeCells, Array.toList_map, Array.toList_range]; rfl
  · simp only [madeCells, Array.toList_map, Array.toList_range]; rfl
  · simp only [madeCells, Array.toList_map, Array.toList_range]; rfl
  · simp only [madeCells, Array.toList_map, Array.toList_range]; rfl
theorem FView.one (w : World) (t : TypeId) (x : Pt) : FView ptEnc (w.alloc (Obj.cells #[.bool x.up, .bool x.has, .int .i64 x.r, .int .i64 x.c, .int .i64 x.b, .int .i64 x.p, .int .i64 x.h, .int .i64 x.l, .int .i64 x.ro, .int .i64 x.wa, .bool x.op] t)) (some ⟨w.heap.size, 0, none⟩) [x] := by
  intro _
  refine ⟨w.heap.size, 0, rfl, fun j v hv => ?_⟩
  have hj : j < 11 := by
    have := (List.getElem?_eq_some_iff.1 hv).1
    simpa [fcells, ptEnc] using this
  rcases (by omega : j = 0 ∨ j = 1 ∨ j = 2 ∨ j = 3 ∨ j = 4 ∨ j = 5 ∨ j = 6 ∨ j = 7 ∨ j = 8 ∨ j = 9 ∨ j = 10) with rfl | rfl | rfl | rfl | rfl | rfl | rfl | rfl | rfl | rfl | rfl
  · cases hv; simp [go_sem]
  · cases hv; simp [go_sem]
  · cases hv; simp [go_sem]
  · cases hv; simp [go_sem]
  · cases hv; simp [go_sem]
  · cases hv; simp [go_sem]
  · cases hv; simp [go_sem]
  · cases hv; simp [go_sem]
  · cases hv; simp [go_sem]
  · cases hv; simp [go_sem]
  · cases hv; simp [go_sem]
theorem minS (a b : Int) (w : World) : Calls Try.prog 109 #[.int .i64 a, .int .i64 b] w fun e w' => e = .returned (.int .i64 (if a < b then a else b)) ∧ w' = w := by
  by_cases h : a < b
  · rw [if_pos h]
    have d : decide (a < b) = true := decide_eq_true h
    clear h
    go_enter Try.func109, Try.ntmps109
    go_wp2
    go_ret
    exact ⟨rfl, rfl⟩
  · rw [if_neg h]
    have d : decide (a < b) = false := decide_eq_false h
    clear h
    go_enter Try.func109, Try.ntmps109
    go_wp2
    go_ret
    exact ⟨rfl, rfl⟩
set_option maxHeartbeats 2000000 in
theorem newBI (id n : Int) (w : World) :
    Calls Try.prog 70 #[.int .i64 id, .int .i64 n] w fun e w' => ∃ ad' cap', e = .returned (.tuple #[.agg #[.int .i64 (newI id n), .slice ad' (newL id n).length cap'], .bool (nOk id n)]) ∧ FOwn ptEnc 11 43 w.heap.size w' (.slice ad' (newL id n).length cap') (newL id n) ∧ Below w.heap.size w w' := by
  obtain ⟨i0, hi, hz0, hz1, hz2⟩ := info_parts ptInfo
  obtain ⟨y, hy⟩ : ∃ y, y = w.alloc (Obj.cells #[.int .i64 0, .slice none 0 0] 26) := ⟨_, rfl⟩
  have B0 : Below w.heap.size w y := by rw [hy]; exact below_new _
  have R0 : BBox y w.heap.size 0 (.slice none 0 0) := by rw [hy]; exact BBox.new w _ _ _
  have S0 := R0.lt
  obtain ⟨IV, hI⟩ : ∃ v, v = newI id n := ⟨_, rfl⟩
  obtain ⟨LV, hM⟩ : ∃ v, v = newL id n := ⟨_, rfl⟩
  obtain ⟨NV, hN⟩ : ∃ v, v = nOk id n := ⟨_, rfl⟩
  rw [← hI, ← hM, ← hN]
  by_cases hn0 : 0 ≤ n ∧ n ≤ 4
  rotate_left
  · have e : nOk id n = false := by unfold nOk; rw [decide_eq_false (show ¬ (1 ≤ n ∧ n ≤ 4) by omega), Bool.and_false]
    replace hI : Hid (IV = 0) := by unfold Hid; rw [hI]; unfold newI; rw [e]; rfl
    replace hM : Hid (LV = []) := by unfold Hid; rw [hM]; unfold newL; rw [e]; rfl
    replace hN : Hid (NV = false) := by unfold Hid; rw [hN, e]
    by_cases h1 : n < 0
    · have d1 : decide (n < 0) = true := decide_eq_true h1
      clear h1 hn0 e
      go_enter Try.func70, Try.ntmps70
      go_upto_region 2 with fail
      rw [← hy]
      clear hy
      have RP := R0.put 0 (.slice none 0 0)
      obtain ⟨⟨r0, r1⟩, rf⟩ := R0
      have BZ := (B0.setCell (p := ⟨w.heap.size, 0, none⟩) (Nat.le_refl w.heap.size) (.int .i64 0)).setCell (p := ⟨w.heap.size, 1, none⟩) (Nat.le_refl w.heap.size) (.slice none 0 0)
      obtain ⟨⟨p0, p1⟩, _⟩ := RP
      go_wp2
      refine bodyPost_ret (v := .tuple #[.agg #[.int .i64 0, .slice none 0 0], .bool false]) (by simp [results, Try.results70, go_sem, *]) rfl ⟨none, 0, by rw [hI.out, hM.out, hN.out]; rfl, by rw [hM.out]; exact FOwn.nil, BZ⟩
    · have d1 : decide (n < 0) = false := decide_eq_false h1
      have d2 : decide (4 < n) = true := decide_eq_true (by omega)
      clear h1 hn0 e
      go_enter Try.func70, Try.ntmps70
      go_upto_region 2 with fail
      rw [← hy]
      clear hy
      have RP := R0.put 0 (.slice none 0 0)
      obtain ⟨⟨r0, r1⟩, rf⟩ := R0
      have BZ := (B0.setCell (p := ⟨w.heap.size, 0, none⟩) (Nat.le_refl w.heap.size) (.int .i64 0)).setCell (p := ⟨w.heap.size, 1, none⟩) (Nat.le_refl w.heap.size) (.slice none 0 0)
      obtain ⟨⟨p0, p1⟩, _⟩ := RP
      go_wp2
      refine bodyPost_ret (v := .tuple #[.agg #[.int .i64 0, .slice none 0 0], .bool false]) (by simp [results, Try.results70, go_sem, *]) rfl ⟨none, 0, by rw [hI.out, hM.out, hN.out]; rfl, by rw [hM.out]; exact FOwn.nil, BZ⟩
  obtain ⟨k, rfl⟩ : ∃ k : Nat, n = (k : Int) := ⟨n.toNat, by omega⟩
  have hk : k ≤ 4 := by omega
  have d1 : decide ((k : Int) < 0) = false := decide_eq_false (by omega)
  have d2 : decide (4 < (k : Int)) = false := decide_eq_false (by omega)
  clear hn0
  go_enter Try.func70, Try.ntmps70
  go_upto_region 3 with fail
  rw [← hy]
  clear hy
  go_wp2_with (first | (refine wpList_make_full _ rfl _ _ 24 rfl y.heap.size 43 i0 (.agg #[.bool false, .bool false, .int .i64 0, .int .i64 0, .int .i64 0, .int .i64 0, .int .i64 0, .int .i64 0, .int .i64 0, .int .i64 0, .bool false]) 11 Try.underlying24 hi hz0 hz1 .i64 .i64 _ _ k rfl rfl rfl rfl ?c1 ?c2 ?c3 ?_))
  case c1 => rw [hz2]; omega
  case c2 => unfold maxLen; omega
  case c3 => exact Nat.le_refl _
  intro w1 hown hgrow
  have O1 : FOwn ptEnc 11 43 y.heap.size w1 (.slice (some ⟨y.heap.size, 0, none⟩) k k) (List.replicate k Pt.nil) := by
    unfold FOwn
    rw [List.length_replicate, ← made_nil hk]
    exact hown
  have k1 : Below y.heap.size y w1 := (Below.refl _ _).grown hgrow (Nat.le_refl _) (by simp)
  clear hown hgrow
  have R1 := R0.below k1 S0
  have B1 := B0.trans (k1.mono B0.size)
  have S1 := R1.lt
  have gl := (O1.lt y.heap.size rfl).2
  obtain ⟨y2, hy2⟩ : ∃ y_, y_ = w1.alloc (Obj.cells #[.int .i64 id, .slice (some ⟨y.heap.size, 0, none⟩) k k] 26) := ⟨_, rfl⟩
  have kn : Below w1.heap.size w1 y2 := by rw [hy2]; exact below_new _
  have A2 : BrAt y2 w1.heap.size id (.slice (some ⟨y.heap.size, 0, none⟩) k k) := by rw [hy2]; exact BrAt.new w1 _ _ _
  have R2 := R1.below kn S1
  have O2 := O1.later kn
  have B2 := B1.trans (kn.mono B1.size)
  have S2 := A2.lt
  go_upto_region 4 with fail
  rw [← hy2]
  clear hy2 kn R0 R1 O1 k1 B0 B1
  generalize y.heap.size = g at S0 O2 gl A2 ⊢
  generalize w1.heap.size = Q at S1 gl A2 S2 ⊢
  obtain ⟨a0, a1⟩ := A2
  have A2 : BrAt y2 Q id (.slice (some ⟨g, 0, none⟩) k k) := ⟨a0, a1⟩
  go_wp2_with fail
  go_at_call 14
  clear a0 a1
  obtain ⟨Rk, hRk⟩ : ∃ Rk, Rk = List.replicate k Pt.nil := ⟨_, rfl⟩
  rw [← hRk] at O2
  have hRl : Rk.length = k := by rw [hRk, List.length_replicate]
  have hc := bOkI id (some ⟨g, 0, none⟩) k Rk y2 (by have := O2.view.2; exact this) (by omega)
  rw [hRl] at hc
  refine hc.mono ?_
  rintro e w3 ⟨rfl, k3⟩
  have B3 := B2.trans (k3.mono B2.size)
  have A3 := A2.below k3 S2
  have R3 := R2.below k3 R2.lt
  have O3 := O2.later k3
  rw [hRk, bOk_new]
  clear hc k3 A2 R2 O2 B2
  cases he : nOk id (k : Int) with
  | false =>
    replace hI : Hid (IV = 0) := by unfold Hid; rw [hI]; unfold newI; rw [he]; rfl
    replace hM : Hid (LV = []) := by unfold Hid; rw [hM]; unfold newL; rw [he]; rfl
    replace hN : Hid (NV = false) := by unfold Hid; rw [hN, he]
    clear he hRk hRl
    have RP := R3.put 0 (.slice none 0 0)
    obtain ⟨⟨r0, r1⟩, rf⟩ := R3
    have BZ := (B3.setCell (p := ⟨w.heap.size, 0, none⟩) (Nat.le_refl w.heap.size) (.int .i64 0)).setCell (p := ⟨w.heap.size, 1, none⟩) (Nat.le_refl w.heap.size) (.slice none 0 0)
    obtain ⟨⟨p0, p1⟩, _⟩ := RP
    go_wp2
    refine bodyPost_ret (v := .tuple #[.agg #[.int .i64 0, .slice none 0 0], .bool false]) (by simp [results, Try.results70, go_sem, *]) rfl ⟨none, 0, by rw [hI.out, hM.out, hN.out]; rfl, by rw [hM.out]; exact FOwn.nil, BZ⟩
  | true =>
    replace hI : Hid (IV = id) := by unfold Hid; rw [hI]; unfold newI; rw [he]; rfl
    replace hM : Hid (LV = Rk) := by unfold Hid; rw [hM, hRk]; unfold newL; rw [he]; rfl
    replace hN : Hid (NV = true) := by unfold Hid; rw [hN, he]
    replace hRl : Hid _ := hRl
    clear he hRk
    have RP := R3.put id (.slice (some ⟨g, 0, none⟩) k k)
    obtain ⟨⟨r0, r1⟩, rf⟩ := R3
    obtain ⟨a0, a1⟩ := A3
    have BZ := (B3.setCell (p := ⟨w.heap.size, 0, none⟩) (Nat.le_refl w.heap.size) (.int .i64 id)).setCell (p := ⟨w.heap.size, 1, none⟩) (Nat.le_refl w.heap.size) (.slice (some ⟨g, 0, none⟩) k k)
    have OZ : FOwn ptEnc 11 43 w.heap.size ((w3.setCell ⟨w.heap.size, 0, none⟩ (.int .i64 id)).setCell ⟨w.heap.size, 1, none⟩ (.slice (some ⟨g, 0, none⟩) k k)) (.slice (some ⟨g, 0, none⟩) k k) Rk := (O3.base (by omega)).keep fun g' e => by
      obtain rfl : g = g' := by simpa [Value.ownBlock] using e
      rw [Below.heap_setCell _ _ _ _ (by show g ≠ w.heap.size; omega), Below.heap_setCell _ _ _ _ (by show g ≠ w.heap.size; omega)]
    obtain ⟨⟨p0, p1⟩, _⟩ := RP
    go_wp2
    refine bodyPost_ret (v := .tuple #[.agg #[.int .i64 id, .slice (some ⟨g, 0, none⟩) k k], .bool true]) (by simp [results, Try.results70, go_sem, *]) rfl ⟨some ⟨g, 0, none⟩, k, by rw [hI.out, hM.out, hN.out, hRl.out], by rw [hM.out, hRl.out]; exact OZ, BZ⟩

end Go.Proofs.Ytghmmcenjdbfgaa
namespace Go.Proofs.Ytghmmcenjdbfgaa
open Go.ChangeShapes Go.WideShapes Go.ChangeAt Go.RowKit
open Go.ChangeMaps (open_string shut_string)
set_option linter.unusedVariables false
set_option maxRecDepth 100000

set_option maxHeartbeats 4000000 in
theorem newBS (id n : Int) (w : World) :
    Calls Try.prog 71 #[.int .i64 id, .int .i64 n] w fun e w' => ∃ ad' cap', e = .returned (.tuple #[.agg #[.int .i64 (newI id n), .slice ad' (newL id n).length cap'], .bool (nOk id n)]) ∧ FOwn ptEnc 11 43 w.heap.size w' (.slice ad' (newL id n).length cap') (newL id n) ∧ Below w.heap.size w w' := by
  obtain ⟨i0, hi, hz0, hz1, hz2⟩ := info_parts ptInfo
  obtain ⟨y, hy⟩ : ∃ y, y = (w.alloc (Obj.cells #[.int .i64 0, .slice none 0 0] 26)).alloc (Obj.cells #[.int .i64 id, .slice none 0 0] 26) := ⟨_, rfl⟩
  have B0 : Below w.heap.size w y := by rw [hy]; exact ((Below.refl _ _).alloc (Nat.le_refl _) _).alloc (by simp) _
  have R0 : BBox y w.heap.size 0 (.slice none 0 0) := by rw [hy]; refine ⟨?_, fun i => ?_⟩; constructor <;> simp [go_sem]; simp [go_sem]
  have N0 : BBox y (w.heap.size + 1) id (.slice none 0 0) := by rw [hy]; refine ⟨?_, fun i => ?_⟩; constructor <;> simp [go_sem]; simp [go_sem]
  have S0 := N0.lt
  obtain ⟨IV, hI⟩ : ∃ v, v = newI id n := ⟨_, rfl⟩
  obtain ⟨LV, hM⟩ : ∃ v, v = newL id n := ⟨_, rfl⟩
  obtain ⟨NV, hN⟩ : ∃ v, v = nOk id n := ⟨_, rfl⟩
  rw [← hI, ← hM, ← hN]
  obtain ⟨m, hm⟩ : ∃ m : Nat, m = (if n < 5 then n else 5).toNat := ⟨_, rfl⟩
  have hm5 : m ≤ 5 := by rw [hm]; split <;> omega
  have hmn : nOk id n = nOk id (m : Int) := by
    unfold nOk
    congr 1
    apply decide_eq_decide.2
    rw [hm]
    split <;> omega
  have hmt : nOk id n = true → n.toNat = m := by
    intro h
    unfold nOk at h
    simp only [Bool.and_eq_true, decide_eq_true_eq] at h
    rw [hm, if_pos (by omega)]
  obtain ⟨t, ht⟩ : ∃ t : Int, t = (if n < 5 then n else 5) := ⟨_, rfl⟩
  have htm : t ≤ (m : Int) ∧ (0 ≤ t → t = (m : Int)) ∧ (t < 0 → m = 0) := by rw [ht, hm]; split <;> omega
  replace ht : Hid _ := ht
  replace hI : Hid _ := hI
  replace hM : Hid _ := hM
  replace hN : Hid _ := hN
  replace hmn : Hid _ := hmn
  replace hmt : Hid _ := hmt
  replace htm : Hid _ := htm
  clear hm
  go_enter Try.func71, Try.ntmps71
  go_wp2
  rw [← hy]
  clear hy
  go_loopw [7] (fun i wr => ∃ k : Nat, k ≤ m ∧ i = .int .i64 (k : Int) ∧ (∃ adk capk, FOwn ptEnc 11 43 y.heap.size wr (.slice adk k capk) (List.replicate k Pt.nil) ∧ BBox wr (w.heap.size + 1) id (.slice adk k capk)) ∧ BBox wr w.heap.size 0 (.slice none 0 0) ∧ Below w.heap.size w wr ∧ y.heap.size ≤ wr.heap.size) (fun i _ => m - (intOf i).toNat)
  case atStart => exact ⟨0, Nat.zero_le _, rfl, ⟨none, 0, FOwn.nil, N0⟩, R0, B0, Nat.le_refl _⟩
  case round =>
    obtain ⟨k, hk, rfl, ⟨adk, capk, O, N1⟩, R1, B1, S1⟩ := hrel
    obtain ⟨⟨n0, n1⟩, nf⟩ := N1
    have N1 : BBox wr (w.heap.size + 1) id (.slice adk k capk) := ⟨⟨n0, n1⟩, nf⟩
    by_cases hlt : (k : Int) < t
    · have dl : decide ((k : Int) < t) = true := decide_eq_true hlt
      have hkm : k < m := by have := htm.out; omega
      replace hlt : Hid _ := hlt
      go_wp2_with fail
      go_at_call 109
      refine (minS n 5 wr).mono ?_
      rintro e w2 ⟨rfl, rfl⟩
      rw [← ht.out]
      have V1 := FView.one w2 43 Pt.nil
      have B2 := B1.alloc B1.size (Obj.cells #[.bool false, .bool false, .int .i64 0, .int .i64 0, .int .i64 0, .int .i64 0, .int .i64 0, .int .i64 0, .int .i64 0, .int .i64 0, .bool false] 43)
      have O2 : FOwn ptEnc 11 43 y.heap.size (w2.alloc (Obj.cells #[.bool false, .bool false, .int .i64 0, .int .i64 0, .int .i64 0, .int .i64 0, .int .i64 0, .int .i64 0, .int .i64 0, .int .i64 0, .bool false] 43)) (.slice adk k capk) (List.replicate k Pt.nil) := O.later (below_new _)
      have hcn := O.capn
      go_wp2_with (first | (at_builtin; refine fappL ptEnc_len ptEnc_ones rfl _ _ 24 rfl y.heap.size 43 i0 (.agg #[.bool false, .bool false, .int .i64 0, .int .i64 0, .int .i64 0, .int .i64 0, .int .i64 0, .int .i64 0, .int .i64 0, .int .i64 0, .bool false]) 80 Try.underlying24 hi hz0 hz1 hz2 rfl (by decide) (by decide) (.slice adk k capk) (List.replicate k Pt.nil) rfl O2 (some ⟨w2.heap.size, 0, none⟩) 1 [Pt.nil] rfl (fun e => by cases e) V1 ?z0 ?z1 ?_) | go_in)
      case z0 => simp; omega
      case z1 => simp; omega
      intro vZ wZ hownZ hgrowZ _
      have hownZ : FOwn ptEnc 11 43 y.heap.size wZ vZ (List.replicate (k + 1) Pt.nil) := by rw [List.replicate_succ']; exact hownZ
      have ho : ∀ g, (Value.slice adk k capk).ownBlock = some g → y.heap.size ≤ g := fun g e => (O2.lt g e).1
      have BZ : Below w.heap.size w wZ := B2.grown hgrowZ B2.size (fun g e => by have := ho g e; omega)
      have NZ : BBox wZ (w.heap.size + 1) id (.slice adk k capk) := (N1.below (below_new _) N1.lt).keep (hgrowZ.block _ (by have := N1.lt; simp; omega) (fun e => by have := ho _ e.symm; omega))
      have RZ : BBox wZ w.heap.size 0 (.slice none 0 0) := (R1.below (below_new _) R1.lt).keep (hgrowZ.block _ (by have := R1.lt; simp; omega) (fun e => by have := ho _ e.symm; omega))
      have SZ : y.heap.size ≤ wZ.heap.size := by have := hgrowZ.size; simp at this; omega
      obtain ⟨aZ, cZ, hvz⟩ := hownZ.open_
      rw [List.length_replicate] at hvz
      subst hvz
      clear hgrowZ V1 B2 O2 n0 n1 nf N1 R1 O ho hcn
      obtain ⟨⟨q0, q1⟩, qf⟩ := NZ
      have NZ : BBox wZ (w.heap.size + 1) id (.slice adk k capk) := ⟨⟨q0, q1⟩, qf⟩
      have NS : BBox (wZ.setCell ⟨w.heap.size + 1, 1, none⟩ (.slice aZ (k + 1) cZ)) (w.heap.size + 1) id (.slice aZ (k + 1) cZ) := ⟨⟨(pset_else (by decide)).trans q0, pset_same q1⟩, fun i => by rw [World.frozen?_setCell]; exact qf i⟩
      have RS : BBox (wZ.setCell ⟨w.heap.size + 1, 1, none⟩ (.slice aZ (k + 1) cZ)) w.heap.size 0 (.slice none 0 0) := RZ.keep (Below.heap_setCell _ _ _ _ (by show w.heap.size ≠ w.heap.size + 1; omega))
      have OS : FOwn ptEnc 11 43 y.heap.size (wZ.setCell ⟨w.heap.size + 1, 1, none⟩ (.slice aZ (k + 1) cZ)) (.slice aZ (k + 1) cZ) (List.replicate (k + 1) Pt.nil) := hownZ.keep fun g' e => Below.heap_setCell _ _ _ _ (by have := (hownZ.lt g' e).1; show g' ≠ w.heap.size + 1; omega)
      have BS := BZ.setCell (p := ⟨w.heap.size + 1, 1, none⟩) (by show _ ≤ w.heap.size + 1; omega) (.slice aZ (k + 1) cZ)
      clear NZ RZ hownZ BZ
      go_wp2
      go_roundw
      case rel => exact ⟨k + 1, by omega, by go_num, ⟨aZ, cZ, OS, NS⟩, RS, BS, by simpa using SZ⟩
      case measure => simp [intOf]; omega
    · have dl : decide ((k : Int) < t) = false := decide_eq_false hlt
      have hkm : Hid (k = m) := by unfold Hid; have := htm.out; omega
      replace hlt : Hid _ := hlt
      go_wp2_with fail
      go_at_call 109
      refine (minS n 5 wr).mono ?_
      rintro e w2 ⟨rfl, rfl⟩
      rw [← ht.out]
      have hc := bOkS id adk capk (List.replicate k Pt.nil) w2 (by have := O.view.2; exact this) (by rw [List.length_replicate]; omega)
      rw [List.length_replicate, bOk_new, hkm.out, ← hmn.out, ← hkm.out] at hc
      go_wp2_with fail
      go_at_call 59
      refine hc.mono ?_
      rintro e w3 ⟨rfl, k3⟩
      have R3 := R1.below k3 R1.lt
      have N3 := N1.below k3 N1.lt
      have O3 := O.later k3
      have B3 := B1.trans (k3.mono B1.size)
      clear hc k3 n0 n1 nf R1 N1 O
      cases he : nOk id n with
      | false =>
        replace hI : Hid (IV = 0) := by unfold Hid; rw [hI.out]; unfold newI; rw [he]; rfl
        replace hM : Hid (LV = []) := by unfold Hid; rw [hM.out]; unfold newL; rw [he]; rfl
        replace hN : Hid (NV = false) := by unfold Hid; rw [hN.out, he]
        clear he
        have RP := R3.put 0 (.slice none 0 0)
        obtain ⟨⟨r0, r1⟩, rf⟩ := R3
        have BZ := (B3.setCell (p := ⟨w.heap.size, 0, none⟩) (Nat.le_refl w.heap.size) (.int .i64 0)).setCell (p := ⟨w.heap.size, 1, none⟩) (Nat.le_refl w.heap.size) (.slice none 0 0)
        obtain ⟨⟨p0, p1⟩, _⟩ := RP
        go_wp2
        refine bodyPost_ret (v := .tuple #[.agg #[.int .i64 0, .slice none 0 0], .bool false]) (by simp [results, Try.results71, go_sem, *]) rfl ⟨none, 0, by rw [hI.out, hM.out, hN.out]; rfl, by rw [hM.out]; exact FOwn.nil, BZ⟩
      | true =>
        have hRl : Hid (LV.length = k) := by unfold Hid; rw [hM.out]; unfold newL; rw [he, if_pos rfl, List.length_replicate, hmt.out he, hkm.out]
        replace hI : Hid (IV = id) := by unfold Hid; rw [hI.out]; unfold newI; rw [he]; rfl
        replace hM : Hid (LV = List.replicate k Pt.nil) := by unfold Hid; rw [hM.out]; unfold newL; rw [he, if_pos rfl, hmt.out he, hkm.out]
        replace hN : Hid (NV = true) := by unfold Hid; rw [hN.out, he]
        clear he hkm
        have RP := R3.put id (.slice adk k capk)
        obtain ⟨⟨r0, r1⟩, rf⟩ := R3
        obtain ⟨⟨n0, n1⟩, nf⟩ := N3
        have BZ := (B3.setCell (p := ⟨w.heap.size, 0, none⟩) (Nat.le_refl w.heap.size) (.int .i64 id)).setCell (p := ⟨w.heap.size, 1, none⟩) (Nat.le_refl w.heap.size) (.slice adk k capk)
        have OZ : FOwn ptEnc 11 43 w.heap.size ((w3.setCell ⟨w.heap.size, 0, none⟩ (.int .i64 id)).setCell ⟨w.heap.size, 1, none⟩ (.slice adk k capk)) (.slice adk k capk) (List.replicate k Pt.nil) := (O3.base (by omega)).keep fun g' e => by
          have := (O3.lt g' e).1
          rw [Below.heap_setCell _ _ _ _ (by show g' ≠ w.heap.size; omega), Below.heap_setCell _ _ _ _ (by show g' ≠ w.heap.size; omega)]
        obtain ⟨⟨p0, p1⟩, _⟩ := RP
        go_wp2
        refine bodyPost_ret (v := .tuple #[.agg #[.int .i64 id, .slice adk k capk], .bool true]) (by simp [results, Try.results71, go_sem, *]) rfl ⟨adk, capk, by rw [hI.out, hN.out, hRl.out], by rw [hRl.out, hM.out]; exact OZ, BZ⟩

end Go.Proofs.Ytghmmcenjdbfgaa
namespace Go.Proofs.Ytghmmcenjdbfgaa
open Go.ChangeShapes Go.WideShapes Go.ChangeAt Go.RowKit
open Go.ChangeMaps (open_string shut_string)
set_option linter.unusedVariables false
set_option maxRecDepth 100000

def DrewB (m : Nat) (w : World) (cb : Nat) (ad : Option Addr) (len cap : Nat) (f : Nat → Int) (e : Ending) (w' : World) : Prop := ∃ id ad' cap' L, e = .returned (.agg #[.int .i64 id, .slice ad' (List.length L) cap']) ∧ (1 ≤ L.length ∧ L.length ≤ m) ∧ FOwn ptEnc 11 43 w.heap.size w' (.slice ad' L.length cap') L ∧ Src w' cb ad len cap f ∧ w.grownBy w' (some cb)
theorem newL_len {id n : Int} (h1 : 1 ≤ id) (h2 : id ≤ 9) (h3 : 1 ≤ n) (h4 : n ≤ 4) : (newL id n).length = n.toNat := by
  unfold newL
  rw [if_pos (by unfold nOk; rw [decide_eq_true (show 1 ≤ id ∧ id ≤ 9 from ⟨h1, h2⟩), decide_eq_true (show 1 ≤ n ∧ n ≤ 4 from ⟨h3, h4⟩)]; rfl), List.length_replicate]
set_option maxHeartbeats 8000000 in
theorem drawR8 {cb : Nat} {ad : Option Addr} {len cap : Nat} {f : Nat → Int} (w : World) (hs : Src w cb ad len cap f) (hcb : cb < w.heap.size) : Calls Try.prog 89 #[.pointer (some ⟨cb, 0, none⟩)] w fun e w' => DrewB 4 w cb ad len cap f e w' := by
  obtain ⟨R, hRe⟩ : ∃ R, R = w.heap.size := ⟨_, rfl⟩
  have hR : w.heap.size ≤ R := by omega
  have hRc : R ≠ cb := by omega
  obtain ⟨x0, hx0⟩ : ∃ x, x = w.alloc (Obj.cells #[.int .i64 0, .slice none 0 0] 26) := ⟨_, rfl⟩
  have D0 : DV w cb ad len cap x0 := by rw [hx0]; exact (DV.start hs).alloc _
  have R0 : BBox x0 R 0 (.slice none 0 0) := by rw [hx0, hRe]; exact BBox.new w _ _ _
  go_enter Try.func89, Try.ntmps89
  go_wp2_with fail
  go_at_call 67
  rw [← hx0, ← hRe]
  clear hx0 hRe
  refine (drawBelow (D0.src hs) 6 (by decide) (by decide)).mono ?_
  rintro e y1 ⟨i1, rfl, i10, i11, s1, g1⟩
  have D1 := D0.step s1 g1
  have R1 := R0.grown g1 hRc
  clear D0 R0 s1 g1
  go_wp2_with fail
  go_at_call 67
  refine (drawBelow (D1.src hs) 4 (by decide) (by decide)).mono ?_
  rintro e y2 ⟨i2, rfl, i20, i21, s2, g2⟩
  have D2 := D1.step s2 g2
  have R2 := R1.grown g2 hRc
  clear D1 R1 s2 g2
  go_wp2_with fail
  go_at_call 71
  refine (newBS (1 + i1) (1 + i2) y2).mono ?_
  rintro e y3 ⟨a0, c0, rfl, o3, k3⟩
  have hln := newL_len (id := 1 + i1) (n := 1 + i2) (by omega) (by omega) (by omega) (by omega)
  have R2l := R2.lt
  have D3 := D2.later8 k3
  have R3 := R2.below k3 R2.lt
  have z3 := k3.size
  obtain ⟨L0, hL0⟩ : ∃ L, newL (1 + i1) (1 + i2) = L := ⟨_, rfl⟩
  rw [hL0] at o3 hln ⊢
  have hl1 : 1 ≤ L0.length ∧ L0.length ≤ 4 := by omega
  obtain ⟨id0, hid⟩ : ∃ v, newI (1 + i1) (1 + i2) = v := ⟨_, rfl⟩
  obtain ⟨nk, hnk⟩ : ∃ v, nOk (1 + i1) (1 + i2) = v := ⟨_, rfl⟩
  rw [hid, hnk]
  clear hid hnk hL0 hln D2 R2 k3
  obtain ⟨y4, hy4⟩ : ∃ y_, y_ = y3.alloc (Obj.cells #[.int .i64 id0, .slice a0 L0.length c0] 26) := ⟨_, rfl⟩
  have kn : Below y3.heap.size y3 y4 := by rw [hy4]; exact below_new _
  have Q4 : BBox y4 y3.heap.size id0 (.slice a0 L0.length c0) := by rw [hy4]; exact BBox.new y3 _ _ _
  have D4 := D3.later8 kn
  have R4 := R3.below kn R3.lt
  have o4 := o3.later kn
  have og : ∀ g_, (Value.slice a0 L0.length c0).ownBlock = some g_ → y2.heap.size ≤ g_ ∧ g_ < y3.heap.size := fun g_ e => o3.lt g_ e
  go_upto_region 2 with fail
  rw [← hy4]
  clear hy4 kn D3 R3 o3
  generalize hQ : y3.heap.size = Q at Q4 og z3 ⊢
  have hRQ : R < Q := by omega
  clear hQ
  obtain ⟨n, hn⟩ : ∃ n, L0.length = n := ⟨_, rfl⟩
  have o5 : FOwn ptEnc 11 43 (R + 1) y4 (.slice a0 L0.length c0) L0 := o4.base (by omega)
  have hj : ∀ g_, (Value.slice a0 L0.length c0).ownBlock = some g_ → g_ ≠ Q := fun g_ e => by have := og g_ e; omega
  have hn4 : 1 ≤ n ∧ n ≤ 4 := by omega
  replace hn : Hid _ := hn
  clear og o4
  go_wp2
  go_loopw [5] (fun i wr => ∃ k : Nat, k ≤ n ∧ i = .int .i64 (k : Int) ∧ (∃ id L a c, (1 ≤ List.length L ∧ List.length L ≤ 4) ∧ BBox wr Q id (.slice a (List.length L) c) ∧ FOwn ptEnc 11 43 (R + 1) wr (.slice a (List.length L) c) L ∧ (∀ g_, (Value.slice a (List.length L) c).ownBlock = some g_ → g_ ≠ Q) ∧ List.length L = n) ∧ BBox wr R 0 (.slice none 0 0) ∧ DV w cb ad len cap wr) (fun i _ => n - (intOf i).toNat)
  case atStart => exact ⟨0, Nat.zero_le _, rfl, ⟨id0, L0, a0, c0, hl1, Q4, o5, hj, hn.out⟩, R4, D4⟩
  case round =>
    clear Q4 R4 D4 o5 hj
    obtain ⟨k, hk, rfl, ⟨id, L, a, c, hL, Q4, o4, hj, hLn⟩, R4, D4⟩ := hrel
    replace hLn : Hid _ := hLn
    have hQl := Q4.lt
    obtain ⟨⟨q0, q1⟩, qf⟩ := Q4
    have Q4 : BBox wr Q id (.slice a L.length c) := ⟨⟨q0, q1⟩, qf⟩
    have hQc : Q ≠ cb := by omega
    by_cases hlt : k < n
    · have hltL : k < L.length := by rw [hLn.out]; exact hlt
      go_wp2_with fail
      go_at_call 69
      refine (drawOnce (D4.src hs) 4 (by decide) (by decide)).mono ?_
      rintro e y5 ⟨bo, rfl, s5, g5⟩
      have D5 := D4.step s5 g5
      have R5 := R4.grown g5 hRc
      have Q5 := Q4.grown g5 hQc
      have o5 := o4.grown g5 (by omega)
      clear D4 R4 Q4 o4 s5 g5 q0 q1 qf
      cases bo
      · obtain ⟨⟨q0, q1⟩, qf⟩ := Q5
        have Q5 : BBox y5 Q id (.slice a L.length c) := ⟨⟨q0, q1⟩, qf⟩
        have hc := reactS id a c L ⟨3, (k : Int), 0, 0, 0, 0, 0, true⟩ y5 o5.view.2 (by omega) o5.capn
        go_wp2_with fail
        go_at_call 12
        refine hc.mono ?_
        rintro e y6 ⟨a6, c6, ao, co, rfl, o6, oo6, dd, k6⟩
        have hrl := reactL_len id L ⟨3, (k : Int), 0, 0, 0, 0, 0, true⟩
        obtain ⟨L6, hL6⟩ : ∃ L6, reactL id L ⟨3, (k : Int), 0, 0, 0, 0, 0, true⟩ = L6 := ⟨_, rfl⟩
        obtain ⟨O6, hO6⟩ : ∃ O6, reactO id L ⟨3, (k : Int), 0, 0, 0, 0, 0, true⟩ = O6 := ⟨_, rfl⟩
        rw [hL6] at o6 hrl ⊢
        rw [hO6] 
        have D6 := D5.later8 k6
        have R6 := R5.below k6 R5.lt
        have Q6 := Q5.below k6 Q5.lt
        have Q5l := Q5.lt
        have j6 : ∀ g_, (Value.slice a6 L6.length c6).ownBlock = some g_ → g_ ≠ Q := fun g_ e => by have := (o6.lt g_ e).1; omega
        have o6 : FOwn ptEnc 11 43 (R + 1) y6 (.slice a6 L6.length c6) L6 := o6.base (by omega)
        clear hc oo6 dd hL6 hO6 k6 D5 R5 Q5 o5 q0 q1 qf
        have QP := Q6.put id (.slice a6 L6.length c6)
        have RP := (R6.other (q' := Q) (i := 0) (u := .int .i64 id) (by omega)).other (q' := Q) (i := 1) (u := .slice a6 L6.length c6) (by omega)
        have DP := (D6.set (N := Q) (i := 0) (by omega) hcb (.int .i64 id)).set (N := Q) (i := 1) (by omega) hcb (.slice a6 L6.length c6)
        have OP : FOwn ptEnc 11 43 (R + 1) ((y6.setCell ⟨Q, 0, none⟩ (.int .i64 id)).setCell ⟨Q, 1, none⟩ (.slice a6 L6.length c6)) (.slice a6 L6.length c6) L6 := o6.keep fun g_ e => by
          rw [Below.heap_setCell _ _ _ _ (by show g_ ≠ Q; exact j6 g_ e), Below.heap_setCell _ _ _ _ (by show g_ ≠ Q; exact j6 g_ e)]
        obtain ⟨⟨q0, q1⟩, qf⟩ := Q6
        replace hrl : Hid _ := hrl
        have hl6 : 1 ≤ L6.length ∧ L6.length ≤ 4 := by have := hrl.out; omega
        go_wp2
        go_roundw
        case rel => exact ⟨k + 1, by omega, by go_num, ⟨id, L6, a6, c6, hl6, QP, OP, j6, by rw [hrl.out, hLn.out]⟩, RP, DP⟩
        case measure => simp [intOf]; omega
      · go_wp2
        go_roundw
        case rel => exact ⟨k + 1, by omega, by go_num, ⟨id, L, a, c, hL, Q5, o5, hj, hLn.out⟩, R5, D5⟩
        case measure => simp [intOf]; omega
    · have hge : ¬ k < L.length := by rw [hLn.out]; exact hlt
      have dL : decide ((k : Int) < (L.length : Int)) = false := decide_eq_false (by omega)
      have dL' : decide (k < L.length) = false := decide_eq_false hge
      replace hge : Hid _ := hge
      replace hlt : Hid _ := hlt
      go_upto_region 7 with fail
      clear q0 q1 qf
      go_wp2
      go_loopw [6] (fun i wr => ∃ k : Nat, k ≤ 10 ∧ i = .int .i64 (k : Int) ∧ (∃ id L a c, (1 ≤ List.length L ∧ List.length L ≤ 4) ∧ BBox wr Q id (.slice a (List.length L) c) ∧ FOwn ptEnc 11 43 (R + 1) wr (.slice a (List.length L) c) L ∧ (∀ g_, (Value.slice a (List.length L) c).ownBlock = some g_ → g_ ≠ Q)) ∧ BBox wr R 0 (.slice none 0 0) ∧ DV w cb ad len cap wr) (fun i _ => 10 - (intOf i).toNat)
      case atStart => exact ⟨0, Nat.zero_le _, rfl, ⟨id, L, a, c, hL, Q4, o4, hj⟩, R4, D4⟩
      case round =>
        clear Q4 R4 D4 o4 hj hL hLn hQl hlt
        obtain ⟨k, hk, rfl, ⟨id, L, a, c, hL, Q4, o4, hj⟩, R4, D4⟩ := hrel
        have hQl := Q4.lt
        go_wp2_with fail
        go_at_call 67
        refine (drawBelow (D4.src hs) 10 (by decide) (by decide)).mono ?_
        rintro e y5 ⟨t, rfl, t0, t1, s5, g5⟩
        have D5 := D4.step s5 g5
        have R5 := R4.grown g5 hRc
        have Q5 := Q4.grown g5 hQc
        have o5 := o4.grown g5 (by omega)
        clear D4 R4 Q4 o4 s5 g5
        by_cases hlt : (k : Int) < t
        · have dl : decide ((k : Int) < t) = true := decide_eq_true hlt
          have hk10 : k < 10 := by omega
          replace hlt : Hid _ := hlt
          go_upto_region 10 with fail
          refine wp_region_held (S := fun _ => True) (by kernel_rfl) ?_
          change wpAnyH _ _ _ _ _ _ _ _ (World.drew _)
          have D6 := D5.drew
          have R6 : BBox y5.drew R 0 (.slice none 0 0) := R5.keep rfl
          have Q6 : BBox y5.drew Q id (.slice a L.length c) := Q5.keep rfl
          have o6 : FOwn ptEnc 11 43 (R + 1) y5.drew (.slice a L.length c) L := o5.keep (fun _ _ => rfl)
          have hQd : Q < y5.drew.heap.size := Q6.lt
          obtain ⟨u0, hu0⟩ : ∃ y_, y_ = y5.drew := ⟨_, rfl⟩
          rw [← hu0] at D6 R6 Q6 o6 hQd ⊢
          clear hu0 D5 R5 Q5 o5
          have hT : True := trivial
          refine takeW 1 42 (.pointer (some ⟨cb, 0, none⟩)) rfl rfl (by kernel_rfl) (by kernel_rfl) (by kernel_rfl) (fun _ _ _ h => h) (by kernel_rfl) (by (intro w hSw; go_simp)) (by assumption) ?_
          simp only [List.set_cons_zero, List.set_cons_succ]
          refine wpAnyH_all (rs := [0, 2]) (by kernel_rfl) (by simp) ?_
          intro i hi; rcases (by simpa using hi : i = 0 ∨ i = 2) with rfl | rfl
          · refine wpOp_step rfl (fun K hK => ?_)
            rw [if_pos (by kernel_rfl)]
            have cc_ := Q6
            obtain ⟨⟨t0_, t1_⟩, tf_⟩ := cc_
            go_simp
            clear t0_ t1_ tf_
            refine hK _ _ ⟨trivial, ?_⟩
            clear hK K hi
            refine wpAnyH_all (rs := [2]) (by kernel_rfl) (by simp) ?_
            intro i hi; obtain rfl : i = 2 := by simpa using hi
            refine wpOp_step rfl (fun K hK => ?_)
            rw [if_pos (by kernel_rfl)]
            go_simp
            go_at_call 91
            refine (drawI8 u0 (D6.src hs) D6.cur.lt).mono ?_
            rintro e v1 ⟨x, rfl, s7, g7⟩
            have D6 := D6.step s7 g7
            have R6 := R6.grown g7 hRc
            have Q6 := Q6.grown g7 hQc
            have o6 := o6.grown g7 (by omega)
            clear s7 g7
            refine hK _ _ ⟨trivial, ?_⟩
            clear hK K hi
            refine wpAnyH_all (rs := [3]) (by kernel_rfl) (by simp) ?_
            intro i hi; obtain rfl : i = 3 := by simpa using hi
            refine wpOp_step rfl (fun K hK => ?_)
            rw [if_pos (by kernel_rfl)]
            go_simp
            go_at_call 12
            refine (reactS id a c L x v1 o6.view.2 (by omega) o6.capn).mono ?_
            rintro e v2 ⟨a6, c6, ao, co, rfl, o7, oo6, dd, k6⟩
            have hrl := reactL_len id L x
            obtain ⟨L6, hL6⟩ : ∃ L6, reactL id L x = L6 := ⟨_, rfl⟩
            obtain ⟨O6, hO6⟩ : ∃ O6, reactO id L x = O6 := ⟨_, rfl⟩
            rw [hL6] at o7 hrl ⊢
            rw [hO6]
            replace hrl : Hid _ := hrl
            have Q6l := Q6.lt
            have j6 : ∀ g_, (Value.slice a6 L6.length c6).ownBlock = some g_ → g_ ≠ Q := fun g_ e => by have := (o7.lt g_ e).1; omega
            have D6 := D6.later8 k6
            have R6 := R6.below k6 R6.lt
            have Q6 := Q6.below k6 Q6.lt
            have o7 : FOwn ptEnc 11 43 (R + 1) v2 (.slice a6 L6.length c6) L6 := o7.base (by omega)
            clear oo6 dd hL6 hO6 k6 o6
            refine hK _ _ ⟨trivial, ?_⟩
            clear hK K hi
            refine takeW 4 40 (.tuple #[.agg #[.int .i64 id, .slice a6 L6.length c6], .slice ao O6.length co]) rfl rfl (by kernel_rfl) (by kernel_rfl) (by kernel_rfl) (fun _ _ _ h => h) (by kernel_rfl) (by (intro w hSw; go_simp)) (by assumption) ?_
            simp only [List.set_cons_zero, List.set_cons_succ]
            refine takeW 5 45 (.agg #[.int .i64 id, .slice a6 L6.length c6]) rfl rfl (by kernel_rfl) (by kernel_rfl) (by kernel_rfl) (fun _ _ _ h => h) (by kernel_rfl) (by (intro w hSw; go_simp)) (by assumption) ?_
            simp only [List.set_cons_zero, List.set_cons_succ]
            refine takeW 6 46 (.slice ao O6.length co) rfl rfl (by kernel_rfl) (by kernel_rfl) (by kernel_rfl) (fun _ _ _ h => h) (by kernel_rfl) (by (intro w hSw; go_simp)) (by assumption) ?_
            simp only [List.set_cons_zero, List.set_cons_succ]
            refine wpAnyH_all (rs := [7]) (by kernel_rfl) (by simp) ?_
            intro i hi; obtain rfl : i = 7 := by simpa using hi
            refine wpOp_step rfl (fun K hK => ?_)
            rw [if_pos (by kernel_rfl)]
            have QP := Q6.put id (.slice a6 L6.length c6)
            have RP := (R6.other (q' := Q) (i := 0) (u := .int .i64 id) (by omega)).other (q' := Q) (i := 1) (u := .slice a6 L6.length c6) (by omega)
            have DP := (D6.set (N := Q) (i := 0) (by omega) hcb (.int .i64 id)).set (N := Q) (i := 1) (by omega) hcb (.slice a6 L6.length c6)
            have OP : FOwn ptEnc 11 43 (R + 1) ((v2.setCell ⟨Q, 0, none⟩ (.int .i64 id)).setCell ⟨Q, 1, none⟩ (.slice a6 L6.length c6)) (.slice a6 L6.length c6) L6 := o7.keep fun g_ e => by
              rw [Below.heap_setCell _ _ _ _ (by show g_ ≠ Q; exact j6 g_ e), Below.heap_setCell _ _ _ _ (by show g_ ≠ Q; exact j6 g_ e)]
            obtain ⟨⟨q0, q1⟩, qf⟩ := Q6
            go_simp
            refine hK _ _ ⟨trivial, ?_⟩
            clear hK K hi
            refine wpAnyH_done (by kernel_rfl) ?_ _
            have hl6 : 1 ≤ L6.length ∧ L6.length ≤ 4 := by have := hrl.out; omega
            go_wp2
            go_roundw
            case rel => exact ⟨k + 1, by omega, by go_num, ⟨id, L6, a6, c6, hl6, QP, OP, j6⟩, RP, DP⟩
            case measure => simp [intOf]; omega
          · refine wpOp_step rfl (fun K hK => ?_)
            rw [if_pos (by kernel_rfl)]
            go_simp
            go_at_call 91
            refine (drawI8 u0 (D6.src hs) D6.cur.lt).mono ?_
            rintro e v1 ⟨x, rfl, s7, g7⟩
            have D6 := D6.step s7 g7
            have R6 := R6.grown g7 hRc
            have Q6 := Q6.grown g7 hQc
            have o6 := o6.grown g7 (by omega)
            clear s7 g7
            refine hK _ _ ⟨trivial, ?_⟩
            clear hK K hi
            refine wpAnyH_all (rs := [0]) (by kernel_rfl) (by simp) ?_
            intro i hi; obtain rfl : i = 0 := by simpa using hi
            refine wpOp_step rfl (fun K hK => ?_)
            rw [if_pos (by kernel_rfl)]
            have cc_ := Q6
            obtain ⟨⟨t0_, t1_⟩, tf_⟩ := cc_
            go_simp
            clear t0_ t1_ tf_
            refine hK _ _ ⟨trivial, ?_⟩
            clear hK K hi
            refine wpAnyH_all (rs := [3]) (by kernel_rfl) (by simp) ?_
            intro i hi; obtain rfl : i = 3 := by simpa using hi
            refine wpOp_step rfl (fun K hK => ?_)
            rw [if_pos (by kernel_rfl)]
            go_simp
            go_at_call 12
            refine (reactS id a c L x v1 o6.view.2 (by omega) o6.capn).mono ?_
            rintro e v2 ⟨a6, c6, ao, co, rfl, o7, oo6, dd, k6⟩
            have hrl := reactL_len id L x
            obtain ⟨L6, hL6⟩ : ∃ L6, reactL id L x = L6 := ⟨_, rfl⟩
            obtain ⟨O6, hO6⟩ : ∃ O6, reactO id L x = O6 := ⟨_, rfl⟩
            rw [hL6] at o7 hrl ⊢
            rw [hO6]
            replace hrl : Hid _ := hrl
            have Q6l := Q6.lt
            have j6 : ∀ g_, (Value.slice a6 L6.length c6).ownBlock = some g_ → g_ ≠ Q := fun g_ e => by have := (o7.lt g_ e).1; omega
            have D6 := D6.later8 k6
            have R6 := R6.below k6 R6.lt
            have Q6 := Q6.below k6 Q6.lt
            have o7 : FOwn ptEnc 11 43 (R + 1) v2 (.slice a6 L6.length c6) L6 := o7.base (by omega)
            clear oo6 dd hL6 hO6 k6 o6
            refine hK _ _ ⟨trivial, ?_⟩
            clear hK K hi
            refine takeW 4 40 (.tuple #[.agg #[.int .i64 id, .slice a6 L6.length c6], .slice ao O6.length co]) rfl rfl (by kernel_rfl) (by kernel_rfl) (by kernel_rfl) (fun _ _ _ h => h) (by kernel_rfl) (by (intro w hSw; go_simp)) (by assumption) ?_
            simp only [List.set_cons_zero, List.set_cons_succ]
            refine takeW 5 45 (.agg #[.int .i64 id, .slice a6 L6.length c6]) rfl rfl (by kernel_rfl) (by kernel_rfl) (by kernel_rfl) (fun _ _ _ h => h) (by kernel_rfl) (by (intro w hSw; go_simp)) (by assumption) ?_
            simp only [List.set_cons_zero, List.set_cons_succ]
            refine takeW 6 46 (.slice ao O6.length co) rfl rfl (by kernel_rfl) (by kernel_rfl) (by kernel_rfl) (fun _ _ _ h => h) (by kernel_rfl) (by (intro w hSw; go_simp)) (by assumption) ?_
            simp only [List.set_cons_zero, List.set_cons_succ]
            refine wpAnyH_all (rs := [7]) (by kernel_rfl) (by simp) ?_
            intro i hi; obtain rfl : i = 7 := by simpa using hi
            refine wpOp_step rfl (fun K hK => ?_)
            rw [if_pos (by kernel_rfl)]
            have QP := Q6.put id (.slice a6 L6.length c6)
            have RP := (R6.other (q' := Q) (i := 0) (u := .int .i64 id) (by omega)).other (q' := Q) (i := 1) (u := .slice a6 L6.length c6) (by omega)
            have DP := (D6.set (N := Q) (i := 0) (by omega) hcb (.int .i64 id)).set (N := Q) (i := 1) (by omega) hcb (.slice a6 L6.length c6)
            have OP : FOwn ptEnc 11 43 (R + 1) ((v2.setCell ⟨Q, 0, none⟩ (.int .i64 id)).setCell ⟨Q, 1, none⟩ (.slice a6 L6.length c6)) (.slice a6 L6.length c6) L6 := o7.keep fun g_ e => by
              rw [Below.heap_setCell _ _ _ _ (by show g_ ≠ Q; exact j6 g_ e), Below.heap_setCell _ _ _ _ (by show g_ ≠ Q; exact j6 g_ e)]
            obtain ⟨⟨q0, q1⟩, qf⟩ := Q6
            go_simp
            refine hK _ _ ⟨trivial, ?_⟩
            clear hK K hi
            refine wpAnyH_done (by kernel_rfl) ?_ _
            have hl6 : 1 ≤ L6.length ∧ L6.length ≤ 4 := by have := hrl.out; omega
            go_wp2
            go_roundw
            case rel => exact ⟨k + 1, by omega, by go_num, ⟨id, L6, a6, c6, hl6, QP, OP, j6⟩, RP, DP⟩
            case measure => simp [intOf]; omega
        · have dl : decide ((k : Int) < t) = false := decide_eq_false hlt
          replace hlt : Hid _ := hlt
          go_upto_region 11 with fail
          have RP := R5.put id (.slice a L.length c)
          have DZ := (D5.set (N := R) (i := 0) (by omega) hcb (.int .i64 id)).set (N := R) (i := 1) (by omega) hcb (.slice a L.length c)
          have OZ : FOwn ptEnc 11 43 w.heap.size ((y5.setCell ⟨R, 0, none⟩ (.int .i64 id)).setCell ⟨R, 1, none⟩ (.slice a L.length c)) (.slice a L.length c) L := ((o5.other (q := R) (i := 0) (u := .int .i64 id) (by omega)).other (q := R) (i := 1) (u := .slice a L.length c) (by omega)).base (by omega)
          obtain ⟨⟨r0, r1⟩, rf⟩ := R5
          obtain ⟨⟨q0, q1⟩, qf⟩ := Q5
          obtain ⟨⟨p0, p1⟩, _⟩ := RP
          go_wp2
          refine bodyPost_ret (v := .agg #[.int .i64 id, .slice a L.length c]) (by simp [results, Try.results89, go_sem, *]) rfl ⟨id, a, c, L, rfl, by omega, OZ, DZ.src hs, DZ.gr⟩

end Go.Proofs.Ytghmmcenjdbfgaa
namespace Go.Proofs.Ytghmmcenjdbfgaa
open Go.ChangeShapes Go.WideShapes Go.ChangeAt Go.RowKit
open Go.ChangeMaps (open_string shut_string)
set_option linter.unusedVariables false
set_option maxRecDepth 100000

set_option maxHeartbeats 8000000 in
theorem drawL8 {cb : Nat} {ad : Option Addr} {len cap : Nat} {f : Nat → Int} (w : World) (hs : Src w cb ad len cap f) (hcb : cb < w.heap.size) : Calls Try.prog 50 #[.pointer (some ⟨cb, 0, none⟩)] w fun e w' => DrewB 6 w cb ad len cap f e w' := by
  obtain ⟨i0, hi, hz0, hz1, hz2⟩ := info_parts ptInfo
  obtain ⟨R, hRe⟩ : ∃ R, R = w.heap.size := ⟨_, rfl⟩
  have hR : w.heap.size ≤ R := by omega
  have hRc : R ≠ cb := by omega
  obtain ⟨x0, hx0⟩ : ∃ x, x = w.alloc (Obj.cells #[.int .i64 0, .slice none 0 0] 26) := ⟨_, rfl⟩
  have D0 : DV w cb ad len cap x0 := by rw [hx0]; exact (DV.start hs).alloc _
  have R0 : BBox x0 R 0 (.slice none 0 0) := by rw [hx0, hRe]; exact BBox.new w _ _ _
  have R0l := R0.lt
  go_enter Try.func50, Try.ntmps50
  go_wp2_with fail
  go_at_call 89
  rw [← hx0, ← hRe]
  clear hx0 hRe
  refine (drawR8 x0 (D0.src hs) D0.cur.lt).mono ?_
  rintro e y1 ⟨id, a, c, L, rfl, hL, o1, s1, g1⟩
  have D1 := D0.step s1 g1
  have R1 := R0.grown g1 hRc
  have z1 := g1.size
  have og : ∀ g_, (Value.slice a L.length c).ownBlock = some g_ → x0.heap.size ≤ g_ ∧ g_ < y1.heap.size := fun g_ e => o1.lt g_ e
  clear D0 R0 s1 g1
  obtain ⟨y4, hy4⟩ : ∃ y_, y_ = y1.alloc (Obj.cells #[.int .i64 id, .slice a L.length c] 26) := ⟨_, rfl⟩
  have kn : Below y1.heap.size y1 y4 := by rw [hy4]; exact below_new _
  have Q4 : BBox y4 y1.heap.size id (.slice a L.length c) := by rw [hy4]; exact BBox.new y1 _ _ _
  have D4 := D1.later8 kn
  have R4 := R1.below kn R1.lt
  have o4 : FOwn ptEnc 11 43 (R + 1) y4 (.slice a L.length c) L := (o1.later kn).base (by omega)
  go_upto_region 2 with fail
  rw [← hy4]
  clear hy4 kn D1 R1 o1
  generalize hQ : y1.heap.size = Q at Q4 og z1 ⊢
  have hRQ : R < Q := by omega
  have hQc : Q ≠ cb := by omega
  have hj : ∀ g_, (Value.slice a L.length c).ownBlock = some g_ → g_ ≠ Q := fun g_ e => by have := og g_ e; omega
  clear hQ og
  go_wp2_with fail
  go_at_call 67
  refine (drawBelow (D4.src hs) 8 (by decide) (by decide)).mono ?_
  rintro e y5 ⟨t, rfl, t0, t1, s5, g5⟩
  have D5 := D4.step s5 g5
  have R5 := R4.grown g5 hRc
  have Q5 := Q4.grown g5 hQc
  have o5 := o4.grown g5 (by omega)
  clear D4 R4 Q4 o4 s5 g5
  by_cases h0 : t = 0
  · subst h0
    obtain ⟨y6, hy6⟩ : ∃ y_, y_ = y5.alloc (Obj.cells #[.int .i64 0, .int .i64 9, .int .i64 10] 3) := ⟨_, rfl⟩
    have kn : Below y5.heap.size y5 y6 := by rw [hy6]; exact below_new _
    have hg : ∀ i, i < 3 → ∃ z, y6.cell? ⟨y5.heap.size, i, none⟩ = some (.int .i64 z) ∧ True := by
      intro i h_
      rw [hy6]
      rcases (by omega : i = 0 ∨ i = 1 ∨ i = 2) with rfl | rfl | rfl
      · exact ⟨0, by simp [go_sem], trivial⟩
      · exact ⟨9, by simp [go_sem], trivial⟩
      · exact ⟨10, by simp [go_sem], trivial⟩
    have D6 := D5.later8 kn
    have R6 := R5.below kn R5.lt
    have Q6 := Q5.below kn Q5.lt
    have o6 := o5.later kn
    have hne : y5.heap.size ≠ cb := by have := D5.cur.lt; omega
    go_wp2_with fail
    go_at_call 78
    rw [← hy6]
    clear hy6 kn
    generalize y5.heap.size = E at hg hne ⊢
    refine (pickIntP (D6.src hs) (fun _ => True) E 3 3 hne (by decide) (by decide) hg).mono ?_
    rintro e y7 ⟨v, rfl, _, s7, g7⟩
    have D7 := D6.step s7 g7
    have R7 := R6.grown g7 hRc
    have Q7 := Q6.grown g7 hQc
    have o7 := o6.grown g7 (by omega)
    clear D6 R6 Q6 o6 s7 g7 D5 R5 Q5 o5 hg
    obtain ⟨y8, hy8⟩ : ∃ y_, y_ = y7.setCell ⟨Q, 0, none⟩ (.int .i64 v) := ⟨_, rfl⟩
    have Q8 : BBox y8 Q v (.slice a L.length c) := by rw [hy8]; exact ⟨⟨pset_same Q7.at_.c0, (pset_else (by decide)).trans Q7.at_.c1⟩, fun i => by rw [World.frozen?_setCell]; exact Q7.fr i⟩
    have D8 : DV w cb ad len cap y8 := by rw [hy8]; exact D7.set (by omega) hcb _
    have R8 : BBox y8 R 0 (.slice none 0 0) := by rw [hy8]; exact R7.other (by omega)
    have o8 : FOwn ptEnc 11 43 (R + 1) y8 (.slice a L.length c) L := by rw [hy8]; exact o7.keep fun g_ e => Below.heap_setCell _ _ _ _ (by show g_ ≠ Q; exact hj g_ e)
    obtain ⟨⟨q0, q1⟩, qf⟩ := Q7
    go_upto_region 9 with fail
    rw [← hy8]
    clear hy8 q0 q1 qf D7 R7 o7
    have RP := R8.put v (.slice a L.length c)
    have DZ := (D8.set (N := R) (i := 0) (by omega) hcb (.int .i64 v)).set (N := R) (i := 1) (by omega) hcb (.slice a L.length c)
    have OZ : FOwn ptEnc 11 43 w.heap.size ((y8.setCell ⟨R, 0, none⟩ (.int .i64 v)).setCell ⟨R, 1, none⟩ (.slice a L.length c)) (.slice a L.length c) L := ((o8.other (q := R) (i := 0) (u := .int .i64 v) (by omega)).other (q := R) (i := 1) (u := .slice a L.length c) (by omega)).base (by omega)
    obtain ⟨⟨r0, r1⟩, rf⟩ := R8
    obtain ⟨⟨q0, q1⟩, qf⟩ := Q8
    obtain ⟨⟨p0, p1⟩, _⟩ := RP
    go_wp2
    refine bodyPost_ret (v := .agg #[.int .i64 v, .slice a L.length c]) (by simp [results, Try.results50, go_sem, *]) rfl ⟨v, _, _, L, rfl, ⟨hL.1, by omega⟩, OZ, DZ.src hs, DZ.gr⟩
  have e0 : (t == 0) = false := by simpa using h0
  by_cases h1 : t = 1
  · subst h1
    obtain ⟨g, rfl, hg1, hg2⟩ := o5.row (by omega)
    have hgQ : g ≠ Q := hj g rfl
    go_upto_region 6 with fail
    refine wp_region_held (S := fun Y => BrAt Y Q id (.slice (some ⟨g, 0, none⟩) L.length c)) (by kernel_rfl) ?_
    change wpAnyH _ _ _ _ _ _ _ _ (World.drew _)
    have D6 := D5.drew
    have R6 : BBox y5.drew R 0 (.slice none 0 0) := R5.keep rfl
    have Q6 : BBox y5.drew Q id (.slice (some ⟨g, 0, none⟩) L.length c) := Q5.keep rfl
    have o6 : FOwn ptEnc 11 43 (R + 1) y5.drew (.slice (some ⟨g, 0, none⟩) L.length c) L := o5.keep (fun _ _ => rfl)
    obtain ⟨u0, hu0⟩ : ∃ y_, y_ = y5.drew := ⟨_, rfl⟩
    rw [← hu0] at D6 R6 Q6 o6 ⊢
    clear hu0 D5 R5 Q5 o5
    have hT := Q6.at_
    refine takeW 0 16 (.pointer (some ⟨Q, 1, none⟩)) rfl rfl (by kernel_rfl) (by kernel_rfl) (by kernel_rfl) (fun _ _ _ h => h) (by kernel_rfl) (by (intro w hSw; go_simp)) (by assumption) ?_
    simp only [List.set_cons_zero, List.set_cons_succ]
    refine takeW 1 17 (.slice (some ⟨g, 0, none⟩) L.length c) rfl rfl (by kernel_rfl) (by kernel_rfl) (by kernel_rfl) (fun _ _ _ h => h) (by kernel_rfl) (by (intro Y hSw; obtain ⟨X0, X1⟩ := hSw; go_simp)) (by assumption) ?_
    simp only [List.set_cons_zero, List.set_cons_succ]
    refine takeW 2 18 (.pointer (some ⟨cb, 0, none⟩)) rfl rfl (by kernel_rfl) (by kernel_rfl) (by kernel_rfl) (fun _ _ _ h => h) (by kernel_rfl) (by (intro w hSw; go_simp)) (by assumption) ?_
    simp only [List.set_cons_zero, List.set_cons_succ]
    refine wpAnyH_all (rs := [3]) (by kernel_rfl) (by simp) ?_
    intro i hi; obtain rfl : i = 3 := by simpa using hi
    refine wpOp_step rfl (fun K hK => ?_)
    rw [if_pos (by kernel_rfl)]
    go_simp
    go_at_call 90
    refine (drawL7 u0 (D6.src hs) D6.cur.lt).mono ?_
    rintro e u1 ⟨z, rfl, s7, g7⟩
    have D6 := D6.step s7 g7
    have R6 := R6.grown g7 hRc
    have Q6 := Q6.grown g7 hQc
    have o6 := o6.grown g7 (by omega)
    have hT := Q6.at_
    clear s7 g7
    refine hK _ _ ⟨hT, ?_⟩
    clear hK K hi
    refine takeW 4 20 (.pointer (some ⟨g, 0, none⟩)) rfl rfl (by kernel_rfl) (by kernel_rfl) (by kernel_rfl) (fun _ _ _ h => h) (by kernel_rfl) (by (intro Y hSw; go_simp; intro e; exfalso; have h1_ := hL.1; rw [e] at h1_; simp at h1_)) (by assumption) ?_
    simp only [List.set_cons_zero, List.set_cons_succ]
    refine wpAnyH_all (rs := [5]) (by kernel_rfl) (by simp) ?_
    intro i hi; obtain rfl : i = 5 := by simpa using hi
    refine wpOp_step rfl (fun K hK => ?_)
    rw [if_pos (by kernel_rfl)]
    obtain ⟨t0, t1, t2, t3, t4, t5, t6, t7, t8, t9, t10⟩ : PtAtO u1 g 0 (L.getD 0 Pt.nil) := ptAtO_of (by have := o6.cell ptEnc_len Pt.nil (i := 0) (by omega); simpa using this)
    simp only [Nat.zero_add] at t0 t1 t2 t3 t4 t5 t6 t7 t8 t9 t10
    have ff := o6.frozen
    have f0 := ff 0
    have f1 := ff 1
    have f2 := ff 2
    have f3 := ff 3
    have f4 := ff 4
    have f5 := ff 5
    have f6 := ff 6
    have f7 := ff 7
    have f8 := ff 8
    have f9 := ff 9
    have f10 := ff 10
    have MS := o6.set ptEnc_len (by omega) (i := 0) (by omega) z
    rw [Nat.zero_mul, ptPut] at MS
    simp only [Nat.zero_add] at MS
    clear ff
    obtain ⟨uf, huf⟩ : ∃ y_, y_ = (((((((((((u1.setCell ⟨g, 0, none⟩ (.bool z.up)).setCell ⟨g, 1, none⟩ (.bool z.has)).setCell ⟨g, 2, none⟩ (.int .i64 z.r)).setCell ⟨g, 3, none⟩ (.int .i64 z.c)).setCell ⟨g, 4, none⟩ (.int .i64 z.b)).setCell ⟨g, 5, none⟩ (.int .i64 z.p)).setCell ⟨g, 6, none⟩ (.int .i64 z.h)).setCell ⟨g, 7, none⟩ (.int .i64 z.l)).setCell ⟨g, 8, none⟩ (.int .i64 z.ro)).setCell ⟨g, 9, none⟩ (.int .i64 z.wa)).setCell ⟨g, 10, none⟩ (.bool z.op)) := ⟨_, rfl⟩
    rw [← huf] at MS
    have Q7 : BBox uf Q id (.slice (some ⟨g, 0, none⟩) L.length c) := by rw [huf]; exact (((((((((((Q6.other (by omega)).other (by omega)).other (by omega)).other (by omega)).other (by omega)).other (by omega)).other (by omega)).other (by omega)).other (by omega)).other (by omega)).other (by omega))
    have R7 : BBox uf R 0 (.slice none 0 0) := by rw [huf]; exact (((((((((((R6.other (by omega)).other (by omega)).other (by omega)).other (by omega)).other (by omega)).other (by omega)).other (by omega)).other (by omega)).other (by omega)).other (by omega)).other (by omega))
    have D7 : DV w cb ad len cap uf := by rw [huf]; exact (((((((((((D6.set (by omega) hcb _).set (by omega) hcb _).set (by omega) hcb _).set (by omega) hcb _).set (by omega) hcb _).set (by omega) hcb _).set (by omega) hcb _).set (by omega) hcb _).set (by omega) hcb _).set (by omega) hcb _).set (by omega) hcb _)
    go_simp
    rw [← huf]
    clear huf t0 f0 t1 f1 t2 f2 t3 f3 t4 f4 t5 f5 t6 f6 t7 f7 t8 f8 t9 f9 t10 f10 D6 R6 Q6
    refine hK _ _ ⟨Q7.at_, ?_⟩
    clear hK K hi
    refine wpAnyH_done (by kernel_rfl) ?_ _
    obtain ⟨L6, hL6⟩ : ∃ L6, L6 = L.set 0 z := ⟨_, rfl⟩
    rw [← hL6] at MS
    have hl6 : Hid (L6.length = L.length) := by unfold Hid; rw [hL6, List.length_set]
    have MS2 : FOwn ptEnc 11 43 (R + 1) uf (.slice (some ⟨g, 0, none⟩) L6.length c) L6 := by rw [hl6.out]; exact MS
    clear hL6
    go_upto_region 9 with fail
    have RP := R7.put id (.slice (some ⟨g, 0, none⟩) L.length c)
    have DZ := (D7.set (N := R) (i := 0) (by omega) hcb (.int .i64 id)).set (N := R) (i := 1) (by omega) hcb (.slice (some ⟨g, 0, none⟩) L.length c)
    have OZ : FOwn ptEnc 11 43 w.heap.size ((uf.setCell ⟨R, 0, none⟩ (.int .i64 id)).setCell ⟨R, 1, none⟩ (.slice (some ⟨g, 0, none⟩) L.length c)) (.slice (some ⟨g, 0, none⟩) L.length c) L6 := ((MS.other (q := R) (i := 0) (u := .int .i64 id) (by omega)).other (q := R) (i := 1) (u := .slice (some ⟨g, 0, none⟩) L.length c) (by omega)).base (by omega)
    obtain ⟨⟨r0, r1⟩, rf⟩ := R7
    obtain ⟨⟨q0, q1⟩, qf⟩ := Q7
    obtain ⟨⟨p0, p1⟩, _⟩ := RP
    go_wp2
    refine bodyPost_ret (v := .agg #[.int .i64 id, .slice (some ⟨g, 0, none⟩) L.length c]) (by simp [results, Try.results50, go_sem, *]) rfl ⟨id, some ⟨g, 0, none⟩, c, L6, by rw [hl6.out], by rw [hl6.out]; omega, by rw [hl6.out]; exact OZ, DZ.src hs, DZ.gr⟩
  have e1 : (t == 1) = false := by simpa using h1
  by_cases h2 : t = 2
  · subst h2
    obtain ⟨y6, hy6⟩ : ∃ y_, y_ = y5.alloc (Obj.cells #[.bool false, .bool false, .int .i64 0, .int .i64 0, .int .i64 0, .int .i64 0, .int .i64 0, .int .i64 0, .int .i64 0, .int .i64 0, .bool false, .bool false, .bool false, .int .i64 0, .int .i64 0, .int .i64 0, .int .i64 0, .int .i64 0, .int .i64 0, .int .i64 0, .int .i64 0, .bool false] 43) := ⟨_, rfl⟩
    have kn : Below y5.heap.size y5 y6 := by rw [hy6]; exact below_new _
    have V1 : FView ptEnc y6 (some ⟨y5.heap.size, 0, none⟩) [Pt.nil, Pt.nil] := by
      intro _
      refine ⟨y5.heap.size, 0, rfl, fun j v hv => ?_⟩
      rw [hy6]
      have hj_ : j < 22 := by
        have := (List.getElem?_eq_some_iff.1 hv).1
        simpa [fcells, ptEnc] using this
      rcases (by omega : j = 0 ∨ j = 1 ∨ j = 2 ∨ j = 3 ∨ j = 4 ∨ j = 5 ∨ j = 6 ∨ j = 7 ∨ j = 8 ∨ j = 9 ∨ j = 10 ∨ j = 11 ∨ j = 12 ∨ j = 13 ∨ j = 14 ∨ j = 15 ∨ j = 16 ∨ j = 17 ∨ j = 18 ∨ j = 19 ∨ j = 20 ∨ j = 21) with rfl | rfl | rfl | rfl | rfl | rfl | rfl | rfl | rfl | rfl | rfl | rfl | rfl | rfl | rfl | rfl | rfl | rfl | rfl | rfl | rfl | rfl <;> (cases hv; simp [go_sem, Pt.nil])
    have D6 := D5.later8 kn
    have R6 := R5.below kn R5.lt
    have Q6 := Q5.below kn Q5.lt
    have o6 := o5.later kn
    have hcn := o5.capn
    have z6 := Q5.lt
    have cc_ := Q5
    obtain ⟨⟨q0, q1⟩, qf⟩ := cc_
    go_upto_region 8 with fail
    rw [hy6] at V1 D6 R6 Q6 o6
    go_wp2_with (first | (at_builtin; refine fappL ptEnc_len ptEnc_ones rfl _ _ 24 rfl (R + 1) 43 i0 (.agg #[.bool false, .bool false, .int .i64 0, .int .i64 0, .int .i64 0, .int .i64 0, .int .i64 0, .int .i64 0, .int .i64 0, .int .i64 0, .bool false]) 80 Try.underlying24 hi hz0 hz1 hz2 rfl (by decide) (by decide) (.slice a L.length c) L rfl o6 (some ⟨y5.heap.size, 0, none⟩) 2 [Pt.nil, Pt.nil] rfl (fun e => by cases e) V1 ?z0 ?z1 ?_) | go_in)
    case z0 => simp; omega
    case z1 => simp; omega
    intro vZ y7 o7 g7 ho7
    rw [← hy6] at g7 D6 R6 Q6 o6
    have z7 := g7.size
    obtain ⟨aZ, cZ, hvz⟩ := o7.open_
    obtain ⟨L6, hL6⟩ : ∃ L6, L6 = L ++ [Pt.nil, Pt.nil] := ⟨_, rfl⟩
    rw [← hL6] at o7 hvz
    have hl6 : 1 ≤ L6.length ∧ L6.length ≤ 6 := by rw [hL6, List.length_append]; simp; omega
    clear hL6
    subst hvz
    have j7 : ∀ g_, (Value.slice aZ L6.length cZ).ownBlock = some g_ → g_ ≠ Q := fun g_ e => by
      rcases ho7 with q | q
      · exact hj g_ (by rw [← q]; exact e)
      · rw [q] at e
        simp at e
        have := kn.size
        omega
    have D7 : DV w cb ad len cap y7 := ⟨D6.cur.carry (g7.block cb D6.cur.lt (fun e => by have := (o6.lt _ e.symm).1; omega)), D6.gr.os.symm ▸ g7.os, D6.gr.tape.symm ▸ g7.tape, D6.gr.output.symm ▸ g7.output, Nat.le_trans D6.gr.size g7.size, fun k hk hn => (g7.block k (by have := D6.gr.size; omega) (fun e => by have := (o6.lt _ e.symm).1; omega)).trans (D6.gr.block k hk hn)⟩
    have R7 := R6.keep (g7.block R R6.lt (fun e => by have := (o6.lt _ e.symm).1; omega))
    have Q7 := Q6.keep (g7.block Q Q6.lt (fun e => hj _ e.symm rfl))
    clear g7 o6 D6 R6 Q6 V1 hy6 ho7 q0 q1 qf
    obtain ⟨y8, hy8⟩ : ∃ y_, y_ = y7.setCell ⟨Q, 1, none⟩ (.slice aZ L6.length cZ) := ⟨_, rfl⟩
    have Q8 : BBox y8 Q id (.slice aZ L6.length cZ) := by rw [hy8]; exact ⟨⟨(pset_else (by decide)).trans Q7.at_.c0, pset_same Q7.at_.c1⟩, fun i => by rw [World.frozen?_setCell]; exact Q7.fr i⟩
    have D8 : DV w cb ad len cap y8 := by rw [hy8]; exact D7.set (by omega) hcb _
    have R8 : BBox y8 R 0 (.slice none 0 0) := by rw [hy8]; exact R7.other (by omega)
    have o8 : FOwn ptEnc 11 43 (R + 1) y8 (.slice aZ L6.length cZ) L6 := by rw [hy8]; exact o7.keep fun g_ e => Below.heap_setCell _ _ _ _ (by show g_ ≠ Q; exact j7 g_ e)
    obtain ⟨⟨q0, q1⟩, qf⟩ := Q7
    go_upto_region 9 with fail
    rw [← hy8]
    clear hy8 q0 q1 qf D7 R7 o7
    have RP := R8.put id (.slice aZ L6.length cZ)
    have DZ := (D8.set (N := R) (i := 0) (by omega) hcb (.int .i64 id)).set (N := R) (i := 1) (by omega) hcb (.slice aZ L6.length cZ)
    have OZ : FOwn ptEnc 11 43 w.heap.size ((y8.setCell ⟨R, 0, none⟩ (.int .i64 id)).setCell ⟨R, 1, none⟩ (.slice aZ L6.length cZ)) (.slice aZ L6.length cZ) L6 := ((o8.other (q := R) (i := 0) (u := .int .i64 id) (by omega)).other (q := R) (i := 1) (u := .slice aZ L6.length cZ) (by omega)).base (by omega)
    obtain ⟨⟨r0, r1⟩, rf⟩ := R8
    obtain ⟨⟨q0, q1⟩, qf⟩ := Q8
    obtain ⟨⟨p0, p1⟩, _⟩ := RP
    go_wp2
    refine bodyPost_ret (v := .agg #[.int .i64 id, .slice aZ L6.length cZ]) (by simp [results, Try.results50, go_sem, *]) rfl ⟨id, _, _, L6, rfl, hl6, OZ, DZ.src hs, DZ.gr⟩
  have e2 : (t == 2) = false := by simpa using h2
  go_upto_region 9 with fail
  have RP := R5.put id (.slice a L.length c)
  have DZ := (D5.set (N := R) (i := 0) (by omega) hcb (.int .i64 id)).set (N := R) (i := 1) (by omega) hcb (.slice a L.length c)
  have OZ : FOwn ptEnc 11 43 w.heap.size ((y5.setCell ⟨R, 0, none⟩ (.int .i64 id)).setCell ⟨R, 1, none⟩ (.slice a L.length c)) (.slice a L.length c) L := ((o5.other (q := R) (i := 0) (u := .int .i64 id) (by omega)).other (q := R) (i := 1) (u := .slice a L.length c) (by omega)).base (by omega)
  obtain ⟨⟨r0, r1⟩, rf⟩ := R5
  obtain ⟨⟨q0, q1⟩, qf⟩ := Q5
  obtain ⟨⟨p0, p1⟩, _⟩ := RP
  go_wp2
  refine bodyPost_ret (v := .agg #[.int .i64 id, .slice a L.length c]) (by simp [results, Try.results50, go_sem, *]) rfl ⟨id, _, _, L, rfl, ⟨hL.1, by omega⟩, OZ, DZ.src hs, DZ.gr⟩

end Go.Proofs.Ytghmmcenjdbfgaa
namespace Go.Proofs.Ytghmmcenjdbfgaa
open Go.ChangeShapes Go.WideShapes Go.ChangeAt Go.RowKit
open Go.ChangeMaps (open_string shut_string)
set_option linter.unusedVariables false
set_option maxRecDepth 100000

set_option maxHeartbeats 4000000 in
theorem drawGa (ad : Option Addr) (len cap : Nat) (f : Nat → Int) (w : World) (h : Code0 w ad len f) :
    Calls Try.prog 23 #[.slice ad len cap] w fun e w' => ∃ id ad' cap' L, e = .returned (.agg #[.int .i64 id, .slice ad' (List.length L) cap']) ∧ (1 ≤ List.length L ∧ List.length L ≤ 6) ∧ FOwn ptEnc 11 43 w.heap.size w' (.slice ad' (List.length L) cap') L ∧ Below w.heap.size w w' := by
  obtain ⟨R, hRe⟩ : ∃ R, R = w.heap.size := ⟨_, rfl⟩
  have hR : w.heap.size ≤ R := by omega
  obtain ⟨x0, hx0⟩ : ∃ y_, y_ = w.alloc (Obj.cells #[.int .i64 0, .slice none 0 0] 26) := ⟨_, rfl⟩
  have B0 : Below w.heap.size w x0 := by rw [hx0]; exact below_new _
  have R0 : BBox x0 R 0 (.slice none 0 0) := by rw [hx0, hRe]; exact BBox.new w _ _ _
  have h0 := h.later B0 (Nat.le_refl _)
  go_enter Try.func23, Try.ntmps23
  go_wp2_with fail
  go_at_call 49
  rw [← hx0, ← hRe]
  clear hx0 hRe
  refine (drawNew ad len cap f x0 h0.view h0.lt h0.small h0.bytes).mono ?_
  rintro e y1 ⟨rfl, s1, b1, z1⟩
  have R1 := R0.below b1 R0.lt
  have B1 := B0.trans (b1.mono B0.size)
  have hc1 : x0.heap.size < y1.heap.size := s1.cur.lt
  have hRl := R0.lt
  generalize hcb : x0.heap.size = cb at *
  have hbR : w.heap.size ≤ cb := by rw [← hcb]; exact B0.size
  have hRc : R ≠ cb := by omega
  clear R0 z1 hcb
  go_wp2_with fail
  go_at_call 50
  refine (drawL8 y1 s1 hc1).mono ?_
  rintro e y2 ⟨id, a, c, L, rfl, hL, o2, s2, g2⟩
  have R2 := R1.grown g2 hRc
  have B2 : Below w.heap.size w y2 := B1.grown g2 B1.size (fun k e => by simp at e; omega)
  have hc2 : cb < y2.heap.size := s2.cur.lt
  have z2 := g2.size
  have R1l := R1.lt
  clear R1 s1 g2 b1 B1
  have RP := R2.put id (.slice a L.length c)
  have BZ := (B2.setCell (p := ⟨R, 0, none⟩) (by show _ ≤ R; omega) (.int .i64 id)).setCell (p := ⟨R, 1, none⟩) (by show _ ≤ R; omega) (.slice a L.length c)
  have OZ : FOwn ptEnc 11 43 w.heap.size ((y2.setCell ⟨R, 0, none⟩ (.int .i64 id)).setCell ⟨R, 1, none⟩ (.slice a L.length c)) (.slice a L.length c) L := ((o2.other (q := R) (i := 0) (u := .int .i64 id) (by omega)).other (q := R) (i := 1) (u := .slice a L.length c) (by omega)).base (by omega)
  obtain ⟨⟨r0, r1⟩, rf⟩ := R2
  obtain ⟨⟨p0, p1⟩, _⟩ := RP
  go_wp2
  refine bodyPost_ret (v := .agg #[.int .i64 id, .slice a L.length c]) (by simp [results, Try.results23, go_sem, *]) rfl ⟨id, _, _, L, rfl, hL, OZ, BZ⟩
set_option maxHeartbeats 4000000 in
theorem drawBO (ad : Option Addr) (len cap : Nat) (f : Nat → Int) (w : World) (h : Code0 w ad len f) :
    Calls Try.prog 16 #[.slice ad len cap] w fun e w' => ∃ id n g c X, e = .returned (.tuple #[.int .i64 id, .int .i64 n, .slice (some ⟨g, 0, none⟩) (List.length X) c]) ∧ List.length X ≤ 7 ∧ FOwn ikEnc 8 30 w.heap.size w' (.slice (some ⟨g, 0, none⟩) (List.length X) c) X ∧ Below w.heap.size w w' := by
  obtain ⟨i0, hi, hz0, hz1, hz2⟩ := info_parts ikInfo
  go_enter Try.func16, Try.ntmps16
  go_wp2_with fail
  go_at_call 49
  refine (drawNew ad len cap f w h.view h.lt h.small h.bytes).mono ?_
  rintro e y1 ⟨rfl, s1, b1, z1⟩
  have hc1 : w.heap.size < y1.heap.size := s1.cur.lt
  generalize hcb : w.heap.size = cb at s1 hc1 ⊢
  have hbc : w.heap.size ≤ cb := by omega
  clear z1 hcb
  go_wp2_with fail
  go_at_call 67
  refine (drawBelow s1 11 (by decide) (by decide)).mono ?_
  rintro e y2 ⟨id, rfl, x0, x1, s2, g2⟩
  have B2 : Below w.heap.size w y2 := b1.grown g2 b1.size (fun k e => by simp at e; omega)
  have z2 := g2.size
  clear s1 g2 b1
  go_wp2_with fail
  go_at_call 67
  refine (drawBelow s2 6 (by decide) (by decide)).mono ?_
  rintro e y3 ⟨n, rfl, n0, n1, s3, g3⟩
  have B3 : Below w.heap.size w y3 := B2.grown g3 B2.size (fun k e => by simp at e; omega)
  have z3 := g3.size
  clear s2 g3 B2
  go_wp2_with fail
  go_at_call 68
  refine (drawLs y3 s3 (by omega)).mono ?_
  rintro e y4 ⟨a, c, X, rfl, O4, hX, hso, s4, g4⟩
  obtain ⟨g, rfl⟩ := O4.block_ hso
  have B4 : Below w.heap.size w y4 := B3.grown g4 B3.size (fun k e => by simp at e; omega)
  have z4 := g4.size
  clear s3 g4 B3
  go_wp2_with fail
  go_at_call 69
  refine (drawOnce s4 4 (by decide) (by decide)).mono ?_
  rintro e y5 ⟨ob, rfl, s5, g5⟩
  have B5 : Below w.heap.size w y5 := B4.grown g5 B4.size (fun k e => by simp at e; omega)
  have z5 := g5.size
  have O5 := O4.grown g5 (by omega)
  clear s4 g5 B4 O4
  cases ob
  · have OZ := O5.base (base' := w.heap.size) (by omega)
    go_wp2
    refine bodyPost_ret (v := .tuple #[.int .i64 id, .int .i64 n, .slice (some ⟨g, 0, none⟩) X.length c]) (by simp [results, Try.results16, go_sem, *]) rfl ⟨id, n, g, c, X, rfl, by omega, OZ, B5⟩
  · go_wp2_with fail
    go_at_call 51
    refine (drawBt y5 s5 (by omega)).mono ?_
    rintro e y6 ⟨x, rfl, s6, g6, _⟩
    have B6 : Below w.heap.size w y6 := B5.grown g6 B5.size (fun k e => by simp at e; omega)
    have z6 := g6.size
    have O6 := O5.grown g6 (by omega)
    clear s5 g6 B5 O5
    have V1 := FView.oneJ y6 30 x
    have kx : Below y6.heap.size y6 (y6.alloc (Obj.cells #[.int .i64 x.k, .int .i64 x.q, .int .i64 x.r, .int .i64 x.c, .int .i64 x.b, .int .i64 x.p, .int .i64 x.h, .bool x.up] 30)) := below_new _
    have O7 := O6.later kx
    have B7 := B6.trans (kx.mono B6.size)
    have s7 := B7.size
    go_wp2_with (first | (at_builtin; refine fappL ikEnc_len ikEnc_ones rfl _ _ 44 rfl y3.heap.size 30 i0 (.agg #[.int .i64 0, .int .i64 0, .int .i64 0, .int .i64 0, .int .i64 0, .int .i64 0, .int .i64 0, .bool false]) 64 Try.underlying44 hi hz0 hz1 hz2 rfl (by decide) (by decide) (.slice (some ⟨g, 0, none⟩) X.length c) X rfl O7 (some ⟨y6.heap.size, 0, none⟩) 1 [x] rfl (fun e => by cases e) V1 ?q0 ?q1 ?_) | go_in)
    case q0 => first | omega | (simp; omega)
    case q1 => have := kx.size; omega
    intro vZ wZ hownZ hgrowZ hob
    have hsoZ : vZ.ownBlock.isSome = true := by rcases hob with h | h <;> rw [h] <;> rfl
    clear hob
    have bZ : Below w.heap.size w wZ := B7.grown hgrowZ s7 (fun q e => by have := (O7.lt q e).1; omega)
    replace hownZ : FOwn ikEnc 8 30 y3.heap.size wZ vZ (X ++ [x]) := hownZ
    have hXl : (X ++ [x]).length ≤ 7 := by simp; omega
    obtain ⟨X2, hX2⟩ : ∃ X2, X ++ [x] = X2 := ⟨_, rfl⟩
    rw [hX2] at hownZ hXl
    obtain ⟨a2, c2, rfl⟩ := hownZ.open_
    obtain ⟨g2, rfl⟩ := hownZ.block_ hsoZ
    have OZ := hownZ.base (base' := w.heap.size) (by omega)
    clear hgrowZ V1 O7 O6 B7 hX2 hownZ kx hsoZ
    go_wp2
    refine bodyPost_ret (v := .tuple #[.int .i64 id, .int .i64 n, .slice (some ⟨g2, 0, none⟩) X2.length c2]) (by simp [results, Try.results16, go_sem, *]) rfl ⟨id, n, g2, c2, X2, rfl, hXl, OZ, bZ⟩
set_option maxHeartbeats 4000000 in
theorem drawSa (ad : Option Addr) (len cap : Nat) (f : Nat → Int) (w : World) (h : Code0 w ad len f) :
    Calls Try.prog 21 #[.slice ad len cap] w fun e w' => ∃ id n g c X i, e = .returned (.tuple #[.int .i64 id, .int .i64 n, .slice (some ⟨g, 0, none⟩) (List.length X) c, .int .i64 i]) ∧ List.length X ≤ 7 ∧ FOwn ikEnc 8 30 w.heap.size w' (.slice (some ⟨g, 0, none⟩) (List.length X) c) X ∧ Below w.heap.size w w' := by
  go_enter Try.func21, Try.ntmps21
  go_wp2_with fail
  go_at_call 16
  refine (drawBO ad len cap f w h).mono ?_
  rintro e y1 ⟨id, n, g, c, X, rfl, hX, O1, b1⟩
  have h1 := h.later b1 (Nat.le_refl _)
  have z1 := b1.size
  go_wp2_with fail
  go_at_call 49
  refine (drawNew ad len cap f y1 h1.view h1.lt h1.small h1.bytes).mono ?_
  rintro e y2 ⟨rfl, s2, b2, z2⟩
  have hc2 : y1.heap.size < y2.heap.size := s2.cur.lt
  have B2 := b1.trans (b2.mono b1.size)
  have O2 := O1.later b2
  have lo := O1.lt
  generalize hcb : y1.heap.size = cb at s2 hc2 lo ⊢
  have hbc : w.heap.size ≤ cb := by omega
  clear z2 hcb b2 O1 b1
  go_wp2_with fail
  go_at_call 67
  refine (drawBelow s2 ((X.length : Int) + 2) (by omega) (by omega)).mono ?_
  rintro e y3 ⟨v, rfl, v0, v1, s3, g3⟩
  have B3 : Below w.heap.size w y3 := B2.grown g3 B2.size (fun k e => by simp at e; omega)
  have O3 := O2.keep (fun g e => g3.block g (O2.lt g e).2 (by have := lo g e; simp; omega))
  clear s2 g3 B2 O2 lo
  go_wp2
  refine bodyPost_ret (v := .tuple #[.int .i64 id, .int .i64 n, .slice (some ⟨g, 0, none⟩) X.length c, .int .i64 (v - 1)]) (by simp [results, Try.results21, go_sem, *]) rfl ⟨id, n, g, c, X, v - 1, rfl, hX, O3, B3⟩

end Go.Proofs.Ytghmmcenjdbfgaa
namespace Go.Proofs.Ytghmmcenjdbfgaa
open Go.ChangeShapes Go.WideShapes Go.ChangeAt Go.RowKit
open Go.ChangeMaps (open_string shut_string)
set_option linter.unusedVariables false
set_option maxRecDepth 100000

/-- One at most leads to the least. -/
theorem decide_once {id : Int} {L : List Pt} (h : bOk id L = true) {i j : Nat} (hi : i < L.length) (hj : j < L.length) (e1 : ((decideR id L).getD i Pt.nil).ro = 1) (e2 : ((decideR id L).getD j Pt.nil).ro = 1) : i = j := by
  have key : ∀ k, k < L.length → ((decideR id L).getD k Pt.nil).ro = 1 → rootO id L = some k := by
    intro k hk e
    rw [decideR_at h hk] at e
    have hp := (bOk_all h).2.2 k
    unfold turnUp at e
    by_cases hu : (L.getD k Pt.nil).up = true
    · rw [if_pos hu] at e
      unfold turnR at e
      have hr := roleR_in id L k
      have hra : raUp (roleR id L k) = true := by unfold raUp; exact decide_eq_true hr
      rw [hp, hu, hra] at e
      have e : roleR id L k = 1 := by simpa using e
      unfold roleR at e
      by_cases hq : rootO id L = some k
      · exact hq
      · rw [if_neg hq] at e
        split at e <;> omega
    · rw [if_neg hu] at e
      have hp2 := (pOk_parts.1 hp).2.1
      rw [e] at hp2
      exact absurd hp2 (by intro q; rw [q] at hu; exact hu (by decide))
  have h1 := key i hi e1
  have h2 := key j hj e2
  rw [h1] at h2
  exact Option.some.inj h2
/-- A gate that turns. -/
def applyG (G : List Bool) (o : Ou) : List Bool := if o.k = 2 then G.set o.pt.toNat o.on else G
theorem applyG_len (O : List Ou) : ∀ G : List Bool, (O.foldl applyG G).length = G.length := by
  induction O with
  | nil => intro G; rfl
  | cons o O ih =>
    intro G
    rw [List.foldl_cons, ih]
    unfold applyG
    split <;> simp
theorem gates_apply (L M : List Pt) (hl : L.length = M.length) : ∀ n, n ≤ L.length → ∀ j, j < L.length → ((gatesTo L M n).foldl applyG (L.map Pt.op)).getD j false = if j < n then (M.getD j Pt.nil).op else (L.getD j Pt.nil).op
  | 0, _, j, hj => by simp [gatesTo, List.getD, hj]
  | n + 1, hn, j, hj => by
    have ih := gates_apply L M hl n (by omega)
    have ihl : ((gatesTo L M n).foldl applyG (L.map Pt.op)).length = L.length := by rw [applyG_len, List.length_map]
    simp only [gatesTo]
    by_cases e : (M.getD n Pt.nil).op = (L.getD n Pt.nil).op
    · rw [if_pos e, List.append_nil, ih j hj]
      by_cases h1 : j < n
      · rw [if_pos h1, if_pos (by omega)]
      · by_cases h2 : j = n
        · subst h2
          rw [if_neg (by omega), if_pos (by omega), e]
        · rw [if_neg h1, if_neg (by omega)]
    · rw [if_neg e, List.foldl_append]
      show (applyG _ (gateO n (M.getD n Pt.nil).op)).getD j false = _
      unfold applyG gateO
      rw [if_pos rfl]
      show ((((gatesTo L M n).foldl applyG (L.map Pt.op))).set n (M.getD n Pt.nil).op).getD j false = _
      by_cases h2 : j = n
      · subst h2
        rw [if_pos (by omega)]
        have hj2 : j < ((gatesTo L M j).foldl applyG (L.map Pt.op)).length := by omega
        simp [List.getD, hj2]
      · have := ih j hj
        rw [show (List.set ((gatesTo L M n).foldl applyG (L.map Pt.op)) n (M.getD n Pt.nil).op).getD j false = ((gatesTo L M n).foldl applyG (L.map Pt.op)).getD j false by simp [List.getD, List.getElem?_set_ne (Ne.symm h2)], this]
        by_cases h1 : j < n
        · rw [if_pos h1, if_pos (by omega)]
        · rw [if_neg h1, if_neg (by omega)]
theorem told_apply (id : Int) (M : List Pt) (G : List Bool) : ∀ n, (toldTo id M n).foldl applyG G = G
  | 0 => rfl
  | n + 1 => by
    simp only [toldTo]
    rw [List.foldl_append, told_apply id M G n]
    split
    · rfl
    · rfl
/-- It says just which gates turn. -/
theorem react_gates (id : Int) (L : List Pt) (x : Ik) {j : Nat} (hj : j < L.length) : ((reactO id L x).foldl applyG (L.map Pt.op)).getD j false = ((reactL id L x).getD j Pt.nil).op := by
  unfold reactO reactL
  by_cases g : goes id L x = true
  · rw [if_pos g, if_pos g, List.foldl_append]
    have e : ((if x.k = 2 then toldTo id (afterL id L x) L.length else []).foldl applyG ((gatesTo L (afterL id L x) L.length).foldl applyG (L.map Pt.op))) = (gatesTo L (afterL id L x) L.length).foldl applyG (L.map Pt.op) := by
      split
      · exact told_apply _ _ _ _
      · rfl
    rw [e, gates_apply L (afterL id L x) (afterL_len id L x).symm L.length (Nat.le_refl _) j hj, if_pos hj]
  · rw [if_neg g, if_neg g]
    simp [List.getD, hj]
theorem set_okB {id : Int} {L : List Pt} {y : Nat} {v : Pt} (h : bOk id L = true) (hy : y < L.length) (hv : pOk v = true) : bOk id (L.set y v) = true := by
  obtain ⟨h1, h2, h3⟩ := bOk_all h
  refine bOk_of h1 (by rw [List.length_set]; exact h2) (fun i hi => ?_)
  rw [List.length_set] at hi
  by_cases e : i = y
  · subst e
    rw [show (L.set i v).getD i Pt.nil = v by simp [List.getD, hy]]
    exact hv
  · rw [show (L.set y v).getD i Pt.nil = L.getD i Pt.nil by simp [List.getD, List.getElem?_set_ne (Ne.symm e)]]
    exact h3 i
/-- Whatever comes leaves it right: it stays as it was, or is decided anew of what is right. -/
theorem react_is {id : Int} {L : List Pt} {x : Ik} (h : bOk id L = true) : reactL id L x = L ∨ ∃ M, bOk id M = true ∧ M.length = L.length ∧ reactL id L x = decideR id M := by
  unfold reactL
  by_cases g : goes id L x = true
  · rw [if_pos g]
    have hq : 0 ≤ x.q ∧ x.q < (L.length : Int) := by
      unfold goes at g
      simp only [Bool.and_eq_true, decide_eq_true_eq] at g
      exact g.2.2
    have hy : x.q.toNat < L.length := by omega
    have h3 := (bOk_all h).2.2 x.q.toNat
    unfold afterL
    by_cases k1 : x.k = 1
    · rw [if_pos k1]
      exact .inr ⟨_, set_okB h hy (claim_ok h3), by simp, rfl⟩
    · rw [if_neg k1]
      by_cases k2 : x.k = 2
      · rw [if_pos k2]
        exact .inr ⟨_, tickM_ok h, by simp, rfl⟩
      · rw [if_neg k2]
        by_cases u : (L.getD x.q.toNat Pt.nil).up = x.up
        · rw [if_pos u]; exact .inl rfl
        · rw [if_neg u]
          exact .inr ⟨_, set_okB h hy (link_ok _), by simp, rfl⟩
  · rw [if_neg g]; exact .inl rfl
theorem react_right {id : Int} {L : List Pt} {x : Ik} (h : bOk id L = true) : bOk id (reactL id L x) = true := by
  rcases react_is (x := x) h with e | ⟨M, hM, _, e⟩
  · rw [e]; exact h
  · rw [e]; exact decideR_ok hM
theorem react_once {id : Int} {L : List Pt} {x : Ik} (h : bOk id L = true) : reactL id L x = L ∨ ∀ i j, i < L.length → j < L.length → ((reactL id L x).getD i Pt.nil).ro = 1 → ((reactL id L x).getD j Pt.nil).ro = 1 → i = j := by
  rcases react_is (x := x) h with e | ⟨M, hM, hl, e⟩
  · exact .inl e
  · refine .inr (fun i j hi hj => ?_)
    rw [e]
    exact decide_once hM (by omega) (by omega)
theorem react_not {id : Int} {L : List Pt} {x : Ik} (h : bOk id L = false) : reactL id L x = L ∧ reactO id L x = [] := by
  unfold reactL reactO goes
  simp [h]

end Go.Proofs.Ytghmmcenjdbfgaa
namespace Go.Proofs.Ytghmmcenjdbfgaa
open Go.ChangeShapes Go.WideShapes Go.ChangeAt Go.RowKit
open Go.ChangeMaps (open_string shut_string)
set_option linter.unusedVariables false
set_option maxRecDepth 100000

/-- A minder, as it stands in plain words. -/
structure Mi where
  up : Bool
  li : Int
  ep : Int
  lg : List Ik
  sd : Int
  ac : Int
  al : Int
def numB (v : Int) : Bool := decide (0 ≤ v ∧ v ≤ 100000)
def insB (X : List Ik) : Bool := X.all inOk && decide (X.length ≤ 60)
def miOk (m : Mi) : Bool :=
  numB m.li && (numB m.ep && (numB m.al && (insB m.lg && (decide (0 ≤ m.sd ∧ m.sd ≤ (m.lg.length : Int)) && (decide (0 ≤ m.ac ∧ m.ac ≤ (m.lg.length : Int)) && (m.up || (decide (m.ep = 0) && (decide (m.lg.length = 0) && decide (m.al = 0)))))))))
def noteM (m : Mi) (x : Ik) : Mi := ⟨m.up, m.li, m.ep, m.lg ++ [x], m.sd, m.ac, m.al⟩
def noteB (m : Mi) (x : Ik) : Bool := m.up && miOk (noteM m x)
def noteR (m : Mi) (x : Ik) : Mi := if noteB m x then noteM m x else m
theorem note_not {m : Mi} {x : Ik} (h : noteB m x = false) : noteR m x = m := by unfold noteR; rw [h]; rfl
theorem note_log {m : Mi} {x : Ik} (h : noteB m x = true) : (noteR m x).lg = m.lg ++ [x] := by unfold noteR; rw [if_pos h]; rfl
theorem note_len {m : Mi} {x : Ik} (h : noteB m x = true) : (noteR m x).lg.length = m.lg.length + 1 := by rw [note_log h]; simp
theorem note_last {m : Mi} {x : Ik} (h : noteB m x = true) (d : Ik) : (noteR m x).lg.getD m.lg.length d = x := by rw [note_log h]; simp [List.getD]
theorem note_ok {m : Mi} {x : Ik} (h : noteB m x = true) : miOk (noteR m x) = true := by
  unfold noteR; rw [if_pos h]; unfold noteB at h; rw [Bool.and_eq_true] at h; exact h.2
def readyB (m : Mi) (p : Int) : Bool :=
  m.up && (decide (0 < m.ep) && (decide (m.sd < (m.lg.length : Int)) && (decide (p = 0) || (decide (m.al = p) && decide (m.sd < m.ac)))))
theorem ready_is {m : Mi} {p : Int} (h : readyB m p = true) : m.sd < (m.lg.length : Int) ∧ (p ≠ 0 → m.sd < m.ac) := by
  unfold readyB at h
  simp only [Bool.and_eq_true, Bool.or_eq_true, decide_eq_true_eq] at h
  refine ⟨h.2.2.1, fun hp => ?_⟩
  rcases h.2.2.2 with e | e
  · exact absurd e hp
  · exact e.2

end Go.Proofs.Ytghmmcenjdbfgaa
namespace Go.Proofs.Ytghmmcenjdbfgaa
open Go.ChangeShapes Go.WideShapes Go.ChangeAt Go.RowKit
open Go.ChangeMaps (open_string shut_string)
set_option linter.unusedVariables false
set_option maxRecDepth 100000

/-- The bridge that a log makes. -/
def ofL (id : Int) (L : List Pt) (X : List Ik) : List Pt := X.foldl (reactL id) L
theorem ofL_app (id : Int) (L : List Pt) (X Y : List Ik) : ofL id L (X ++ Y) = ofL id (ofL id L X) Y := by
  unfold ofL; rw [List.foldl_append]
theorem ofL_len (id : Int) (X : List Ik) : ∀ L : List Pt, (ofL id L X).length = L.length := by
  induction X with
  | nil => intro L; rfl
  | cons x X ih => intro L; show (ofL id (reactL id L x) X).length = _; rw [ih, reactL_len]
theorem ofL_ok {id : Int} (X : List Ik) : ∀ {L : List Pt}, bOk id L = true → bOk id (ofL id L X) = true := by
  induction X with
  | nil => intro L h; exact h
  | cons x X ih => intro L h; exact ih (react_right h)
theorem ofL_not {id : Int} (X : List Ik) : ∀ {L : List Pt}, bOk id L = false → ofL id L X = L := by
  induction X with
  | nil => intro L _; rfl
  | cons x X ih => intro L h; show ofL id (reactL id L x) X = L; rw [(react_not h).1]; exact ih h
/-- One more. -/
theorem ofL_step (id : Int) (L : List Pt) (X : List Ik) (d : Ik) {k : Nat} (hk : k < X.length) : ofL id L (X.take (k + 1)) = reactL id (ofL id L (X.take k)) (X.getD k d) := by
  rw [List.take_add_one, ofL_app]
  have e : X[k]?.toList = [X.getD k d] := by simp [List.getD, hk]
  rw [e]; rfl
theorem ofL_all (id : Int) (L : List Pt) (X : List Ik) : ofL id L (X.take X.length) = ofL id L X := by rw [List.take_length]
/-- What a log says at its n-th. -/
def sayL (id : Int) (L : List Pt) (X : List Ik) (d : Ik) (n : Int) : List Ou :=
  if 0 ≤ n ∧ n < (X.length : Int) then reactO id (ofL id L (X.take n.toNat)) (X.getD n.toNat d) else []
theorem sayL_at (id : Int) (L : List Pt) (X : List Ik) (d : Ik) {k : Nat} (hk : k < X.length) : sayL id L X d (k : Int) = reactO id (ofL id L (X.take k)) (X.getD k d) := by
  unfold sayL; rw [if_pos ⟨by omega, by omega⟩]; simp

end Go.Proofs.Ytghmmcenjdbfgaa
namespace Go.Proofs.Ytghmmcenjdbfgaa
open Go.ChangeShapes Go.WideShapes Go.ChangeAt Go.RowKit
open Go.ChangeMaps (open_string shut_string)
set_option linter.unusedVariables false
set_option maxRecDepth 100000

theorem bOk_len4 {id : Int} {L : List Pt} (h : bOk id L = true) : L.length ≤ 4 := (bOk_all h).2.1.2
theorem reactO_len (id : Int) (L : List Pt) (x : Ik) : (reactO id L x).length ≤ 8 := by
  unfold reactO
  split
  · rename_i h
    unfold goes at h
    simp only [Bool.and_eq_true] at h
    have h4 := bOk_len4 h.1
    have h1 := gates_len L (afterL id L x) L.length
    have h2 := told_len id (afterL id L x) L.length
    rw [List.length_append]
    split
    · omega
    · simp; omega
  · simp

end Go.Proofs.Ytghmmcenjdbfgaa
namespace Go.Proofs.Ytghmmcenjdbfgaa
open Go.ChangeShapes Go.WideShapes Go.ChangeAt Go.RowKit
open Go.ChangeMaps (open_string shut_string)
set_option linter.unusedVariables false
set_option maxRecDepth 100000

theorem FView.take {X : Type} {enc : X → List Value} {w : World} {ad : Option Addr} {L : List X} (h : FView enc w ad L) (k : Nat) : FView enc w ad (L.take k) := by
  intro hp
  obtain ⟨b, off, e, hc⟩ := h (by rw [List.length_take] at hp; omega)
  refine ⟨b, off, e, fun j v hv => hc j v ?_⟩
  rw [← List.take_append_drop k L, fcells_app, List.getElem?_append_left (List.getElem?_eq_some_iff.1 hv).1]
  exact hv
/-- The bridge that a log tells of. -/
def ofR (id n : Int) (X : List Ik) : List Pt := ofL (newI id n) (newL id n) X
theorem newL_small (id n : Int) : (newL id n).length ≤ 4 := by
  unfold newL
  split
  · rename_i q
    unfold nOk at q
    simp only [Bool.and_eq_true, decide_eq_true_eq] at q
    rw [List.length_replicate]
    omega
  · simp
theorem ofR_len (id n : Int) (X : List Ik) : (ofR id n X).length ≤ 4 := by
  unfold ofR; rw [ofL_len]; exact newL_small id n
theorem ofR_not {id n : Int} (X : List Ik) (h : nOk id n = false) : ofR id n X = [] ∧ newI id n = 0 := by
  have e1 : newI id n = 0 := by unfold newI; rw [h]; rfl
  have e2 : newL id n = [] := by unfold newL; rw [h]; rfl
  refine ⟨?_, e1⟩
  unfold ofR
  rw [e1, e2]
  exact ofL_not X (by decide)
/-- What a log says at one of its places. -/
def sayR (id n : Int) (X : List Ik) (i : Int) : List Ou := sayL (newI id n) (newL id n) X Ik.nil i
theorem sayR_len (id n : Int) (X : List Ik) (i : Int) : (sayR id n X i).length ≤ 8 := by
  unfold sayR sayL
  split
  · exact reactO_len _ _ _
  · simp
theorem BBox.put1 {w : World} {q : Nat} {id : Int} {v : Value} (h : BBox w q id v) (id' : Int) (v' : Value) (k : Nat) (hk : k ≠ q) : ((w.setCell ⟨q, 0, none⟩ (.int .i64 id')).setCell ⟨q, 1, none⟩ v').heap[k]? = w.heap[k]? := by
  rw [Below.heap_setCell _ _ _ _ hk, Below.heap_setCell _ _ _ _ hk]

end Go.Proofs.Ytghmmcenjdbfgaa
namespace Go.Proofs.Ytghmmcenjdbfgaa
open Go.ChangeShapes Go.WideShapes Go.ChangeAt Go.RowKit
open Go.ChangeMaps (open_string shut_string)
set_option linter.unusedVariables false
set_option maxRecDepth 100000

set_option maxHeartbeats 4000000 in
theorem bofI (id n : Int) (ad : Option Addr) (cap : Nat) (X : List Ik) (w : World) (hv : FView ikEnc w ad X) (hl : X.length ≤ 1048576) :
    Calls Try.prog 17 #[.int .i64 id, .int .i64 n, .slice ad X.length cap] w fun e w' => ∃ a c, e = .returned (.agg #[.int .i64 (newI id n), .slice a (ofR id n X).length c]) ∧ FOwn ptEnc 11 43 w.heap.size w' (.slice a (ofR id n X).length c) (ofR id n X) ∧ Below w.heap.size w w' := by
  have hB := hv.lt ikEnc_len (by omega)
  obtain ⟨y, hy⟩ : ∃ y, y = w.alloc (Obj.cells #[.int .i64 0, .slice none 0 0] 26) := ⟨_, rfl⟩
  have B0 : Below w.heap.size w y := by rw [hy]; exact below_new _
  have A0 : BBox y w.heap.size 0 (.slice none 0 0) := by rw [hy]; exact BBox.new w _ _ _
  have S0 := A0.lt
  have hR : ofR id n X = ofL (newI id n) (newL id n) X := rfl
  have hNl := newL_small id n
  have hno := fun h => ofR_not (id := id) (n := n) X h
  obtain ⟨I, hI⟩ : ∃ v, newI id n = v := ⟨_, rfl⟩
  obtain ⟨N, hN⟩ : ∃ v, newL id n = v := ⟨_, rfl⟩
  obtain ⟨ok, hok⟩ : ∃ v, nOk id n = v := ⟨_, rfl⟩
  obtain ⟨D, hD⟩ : ∃ v, ofR id n X = v := ⟨_, rfl⟩
  rw [hI, hN, hD] at hR
  rw [hI, hD, hok] at hno
  rw [hN] at hNl
  rw [hI, hD]
  replace hR : Hid _ := hR
  replace hno : Hid _ := hno
  replace hI : Hid _ := hI
  replace hN : Hid _ := hN
  replace hok : Hid _ := hok
  clear hD
  go_enter Try.func17, Try.ntmps17
  go_wp2_with fail
  go_at_call 70
  rw [← hy]
  clear hy
  refine (newBI id n y).mono ?_
  rintro e u1 ⟨a1, c1, rfl, O1, k1⟩
  rw [hN.out] at O1
  rw [hI.out, hN.out, hok.out]
  clear hI hN hok
  have B1 := B0.trans (k1.mono B0.size)
  have A0 := A0.below k1 A0.lt
  have s1 := k1.size
  have lo1 := O1.lt
  clear k1 B0
  obtain ⟨u2, hu2⟩ : ∃ u2, u2 = u1.alloc (Obj.cells #[.int .i64 I, .slice a1 N.length c1] 26) := ⟨_, rfl⟩
  have k2 : Below u1.heap.size u1 u2 := by rw [hu2]; exact below_new _
  have P2 : BBox u2 u1.heap.size I (.slice a1 N.length c1) := by rw [hu2]; exact BBox.new u1 _ _ _
  have B2 := B1.trans (k2.mono B1.size)
  have A0 := A0.below k2 A0.lt
  have O1 := O1.later k2
  have s2 := P2.lt
  go_upto_region 2 with fail
  rw [← hu2]
  clear hu2 k2 B1
  obtain ⟨p, hp⟩ : ∃ p, p = u1.heap.size := ⟨_, rfl⟩
  rw [← hp] at P2 s1 s2 lo1 ⊢
  clear hp
  have lp : w.heap.size < p := by omega
  cases ok
  · obtain ⟨hD0, hI0⟩ := hno.out rfl
    subst hD0
    subst hI0
    have O9 : FOwn ptEnc 11 43 w.heap.size ((u2.setCell ⟨w.heap.size, 0, none⟩ (.int .i64 0)).setCell ⟨w.heap.size, 1, none⟩ (.slice none 0 0)) (.slice none 0 0) ([] : List Pt) := FOwn.nil
    have B9 : Below w.heap.size w ((u2.setCell ⟨w.heap.size, 0, none⟩ (.int .i64 0)).setCell ⟨w.heap.size, 1, none⟩ (.slice none 0 0)) := (B2.setCell (p := ⟨w.heap.size, 0, none⟩) (Nat.le_refl _) _).setCell (p := ⟨w.heap.size, 1, none⟩) (Nat.le_refl _) _
    obtain ⟨⟨z0, z1⟩, zf⟩ := A0
    have g0 := zf 0
    have g1 := zf 1
    clear zf hR hno O1 lo1 P2 hNl
    go_wp2
    refine bodyPost_ret (v := .agg #[.int .i64 0, .slice none 0 0]) (by simp [results, Try.results17, go_sem, *]) rfl ⟨none, 0, rfl, O9, B9⟩
  clear hno
  go_wp2
  go_loopw [22] (fun i wr => ∃ (k : Nat) (a : Option Addr) (c : Nat) (L : List Pt), k ≤ X.length ∧ i = .int .i64 k ∧ ofL I N (X.take k) = L ∧ BBox wr p I (.slice a L.length c) ∧ FOwn ptEnc 11 43 w.heap.size wr (.slice a L.length c) L ∧ (∀ g, (Value.slice a L.length c).ownBlock = some g → g ≠ p ∧ g ≠ w.heap.size) ∧ BBox wr w.heap.size 0 (.slice none 0 0) ∧ Below w.heap.size w wr) (fun i _ => X.length - (intOf i).toNat)
  case atStart => exact ⟨0, a1, c1, N, Nat.zero_le _, rfl, rfl, P2, O1.base (by omega), fun g e => by have := lo1 g e; omega, A0, B2⟩
  case round =>
    obtain ⟨k, a, c, L, hk, rfl, hL, P, O, hne, A, B⟩ := hrel
    have hLl : L.length ≤ 4 := by rw [← hL, ofL_len]; exact hNl
    clear A0 P2 O1 B2 lo1
    by_cases hlt : k < X.length
    · have hst := ofL_step I N X Ik.nil hlt
      rw [hL] at hst
      replace hL : Hid _ := hL
      obtain ⟨b, off, rfl, _⟩ := hv (by omega)
      obtain ⟨x, hh⟩ : ∃ x, X.getD k Ik.nil = x := ⟨_, rfl⟩
      rw [hh] at hst
      have hck : IkAtO wr b (off + k * 8) x := by
        rw [← hh]
        exact ikAtO_of ((hv.below B hB).at_ ikEnc_len Ik.nil hlt)
      have hcB : b < w.heap.size := hB ⟨b, off, none⟩ rfl (by omega)
      replace hst : Hid _ := hst
      clear hh
      have lp2 := P.lt
      have bs := B.size
      have ln := O.lt
      obtain ⟨e0, e1, e2, e3, e4, e5, e6, e7⟩ := hck
      obtain ⟨u, hu⟩ : ∃ u, u = wr.alloc (Obj.cells #[.int .i64 x.k, .int .i64 x.q, .int .i64 x.r, .int .i64 x.c, .int .i64 x.b, .int .i64 x.p, .int .i64 x.h, .bool x.up] 30) := ⟨_, rfl⟩
      have ku : Below wr.heap.size wr u := by rw [hu]; exact below_new _
      have U : InAt u wr.heap.size x := by rw [hu]; exact InAt.new wr _ x
      have P := P.below ku P.lt
      have A := A.below ku A.lt
      have O := O.later ku
      have B3 := B.trans (ku.mono B.size)
      have su := ku.size
      go_upto_region 7 with fail
      rw [← hu]
      clear hu ku e0 e1 e2 e3 e4 e5 e6 e7 B
      have cc := P
      obtain ⟨⟨p0, p1⟩, pf⟩ := cc
      obtain ⟨e0, e1, e2, e3, e4, e5, e6, e7⟩ := U
      go_wp2_with fail
      go_at_call 11
      clear p0 p1 pf e0 e1 e2 e3 e4 e5 e6 e7
      refine (reactI I a c L x u O.view.2 (by omega) O.capn).mono ?_
      rintro e w2 ⟨a2, c2, o2, d2, rfl, O2, _, _, k2⟩
      obtain ⟨M, hM⟩ : ∃ M, reactL I L x = M := ⟨_, rfl⟩
      obtain ⟨OO, hOO⟩ : ∃ M, reactO I L x = M := ⟨_, rfl⟩
      rw [hM] at O2 ⊢
      rw [hOO]
      have hst2 : Hid (ofL I N (X.take (k + 1)) = M) := by unfold Hid; rw [hst.out]; exact hM
      clear hM hOO hst
      have P := P.below k2 P.lt
      have A := A.below k2 A.lt
      have B3 := B3.trans (k2.mono B3.size)
      have P9 := P.put I (.slice a2 M.length c2)
      have lo2 := O2.lt
      have O9 : FOwn ptEnc 11 43 w.heap.size ((w2.setCell ⟨p, 0, none⟩ (.int .i64 I)).setCell ⟨p, 1, none⟩ (.slice a2 M.length c2)) (.slice a2 M.length c2) M := (O2.base (by omega)).keep (fun g e => P.put1 I _ g (by have := lo2 g e; omega))
      have A9 := A.keep (P.put1 I (.slice a2 M.length c2) w.heap.size (by omega))
      have B9 : Below w.heap.size w ((w2.setCell ⟨p, 0, none⟩ (.int .i64 I)).setCell ⟨p, 1, none⟩ (.slice a2 M.length c2)) := (B3.setCell (p := ⟨p, 0, none⟩) (by show _ ≤ p; omega) _).setCell (p := ⟨p, 1, none⟩) (by show _ ≤ p; omega) _
      have hne9 : ∀ g, (Value.slice a2 M.length c2).ownBlock = some g → g ≠ p ∧ g ≠ w.heap.size := fun g e => by have := lo2 g e; omega
      clear O O2 hne ln A k2 B3 lo2
      obtain ⟨⟨p0, p1⟩, pf⟩ := P
      have g0 := pf 0
      have g1 := pf 1
      clear pf
      go_wp2
      go_roundw
      case rel => exact ⟨k + 1, a2, c2, M, by omega, by go_num, hst2.out, P9, O9, hne9, A9, B9⟩
      case measure => simp [intOf]; omega
    · obtain rfl : k = X.length := by omega
      rw [List.take_length] at hL
      obtain rfl : D = L := hR.out.trans hL
      have O9 : FOwn ptEnc 11 43 w.heap.size ((wr.setCell ⟨w.heap.size, 0, none⟩ (.int .i64 I)).setCell ⟨w.heap.size, 1, none⟩ (.slice a D.length c)) (.slice a D.length c) D := O.keep (fun g e => A.put1 I _ g (hne g e).2)
      have B9 : Below w.heap.size w ((wr.setCell ⟨w.heap.size, 0, none⟩ (.int .i64 I)).setCell ⟨w.heap.size, 1, none⟩ (.slice a D.length c)) := (B.setCell (p := ⟨w.heap.size, 0, none⟩) (Nat.le_refl _) _).setCell (p := ⟨w.heap.size, 1, none⟩) (Nat.le_refl _) _
      obtain ⟨⟨p0, p1⟩, pf⟩ := P
      obtain ⟨⟨z0, z1⟩, zf⟩ := A
      have g0 := zf 0
      have g1 := zf 1
      clear pf zf hne O B hL hR
      go_wp2
      refine bodyPost_ret (v := .agg #[.int .i64 I, .slice a D.length c]) (by simp [results, Try.results17, go_sem, *]) rfl ⟨a, c, rfl, O9, B9⟩

end Go.Proofs.Ytghmmcenjdbfgaa
namespace Go.Proofs.Ytghmmcenjdbfgaa
open Go.ChangeShapes Go.WideShapes Go.ChangeAt Go.RowKit
open Go.ChangeMaps (open_string shut_string)
set_option linter.unusedVariables false
set_option maxRecDepth 100000

set_option maxHeartbeats 4000000 in
theorem sayI (id n : Int) (ad : Option Addr) (cap : Nat) (X : List Ik) (i : Int) (w : World) (hv : FView ikEnc w ad X) (hl : X.length ≤ 1048576) (hcp : X.length ≤ cap) :
    Calls Try.prog 20 #[.int .i64 id, .int .i64 n, .slice ad X.length cap, .int .i64 i] w fun e w' => ∃ a c, e = .returned (.slice a (sayR id n X i).length c) ∧ FOwn ouEnc 8 38 w.heap.size w' (.slice a (sayR id n X i).length c) (sayR id n X i) ∧ Below w.heap.size w w' := by
  have hB := hv.lt ikEnc_len (by omega)
  by_cases h0 : i < 0
  · have d0 : decide (i < 0) = true := decide_eq_true h0
    have hD : sayR id n X i = [] := by unfold sayR sayL; rw [if_neg (by omega)]
    rw [hD]
    clear hD
    go_enter Try.func20, Try.ntmps20
    go_wp2
    go_ret
    exact ⟨none, 0, rfl, FOwn.nil, Below.refl _ _⟩
  · have d0 : decide (i < 0) = false := decide_eq_false h0
    obtain ⟨k, rfl⟩ : ∃ k : Nat, i = (k : Int) := ⟨i.toNat, by omega⟩
    by_cases hk : k < X.length
    · have d1 : decide ((X.length : Int) ≤ (k : Int)) = false := decide_eq_false (by omega)
      obtain ⟨b, off, rfl, _⟩ := hv (by omega)
      obtain ⟨x, hh⟩ : ∃ x, X.getD k Ik.nil = x := ⟨_, rfl⟩
      have hck : IkAtO w b (off + k * 8) x := by
        rw [← hh]
        exact ikAtO_of (hv.at_ ikEnc_len Ik.nil hk)
      have hcB : b < w.heap.size := hB ⟨b, off, none⟩ rfl (by omega)
      have hvT := hv.take k
      have hkl : (X.take k).length = k := by rw [List.length_take]; omega
      have hS : sayR id n X (k : Int) = reactO (newI id n) (ofR id n (X.take k)) x := by unfold sayR; rw [sayL_at _ _ X Ik.nil hk, hh]; rfl
      have hMl := ofR_len id n (X.take k)
      obtain ⟨I, hI⟩ : ∃ v, newI id n = v := ⟨_, rfl⟩
      obtain ⟨M, hM⟩ : ∃ v, ofR id n (X.take k) = v := ⟨_, rfl⟩
      obtain ⟨D, hD⟩ : ∃ v, sayR id n X (k : Int) = v := ⟨_, rfl⟩
      rw [hI, hM, hD] at hS
      rw [hM] at hMl
      rw [hD]
      obtain ⟨N, hN⟩ : ∃ v, reactL I M x = v := ⟨_, rfl⟩
      replace hS := hS.symm
      clear hh hD
      replace hS : Hid _ := hS
      replace hI : Hid _ := hI
      replace hM : Hid _ := hM
      replace hN : Hid _ := hN
      replace hkl : Hid _ := hkl
      go_enter Try.func20, Try.ntmps20
      go_upto_region 3 with fail
      refine wp_region_held (S := fun Y => Below w.heap.size w Y) (by kernel_rfl) ?_
      change wpAnyH _ _ _ _ _ _ _ _ (World.drew _)
      have hb0 : Below w.heap.size w w.drew := (Below.refl _ _).drew
      obtain ⟨u0, hy0⟩ : ∃ y_, y_ = w.drew := ⟨_, rfl⟩
      rw [← hy0] at hb0 ⊢
      clear hy0
      refine takeW 0 20 (.int .i64 id) rfl rfl (by kernel_rfl) (by kernel_rfl) (by kernel_rfl) (fun _ _ _ h => h) (by kernel_rfl) (by (intro w hSw; go_simp)) (by assumption) ?_
      simp only [List.set_cons_zero, List.set_cons_succ]
      refine takeW 1 21 (.int .i64 n) rfl rfl (by kernel_rfl) (by kernel_rfl) (by kernel_rfl) (fun _ _ _ h => h) (by kernel_rfl) (by (intro w hSw; go_simp)) (by assumption) ?_
      simp only [List.set_cons_zero, List.set_cons_succ]
      refine takeW 2 22 (.slice (some ⟨b, off, none⟩) X.length cap) rfl rfl (by kernel_rfl) (by kernel_rfl) (by kernel_rfl) (fun _ _ _ h => h) (by kernel_rfl) (by (intro w hSw; go_simp)) (by assumption) ?_
      simp only [List.set_cons_zero, List.set_cons_succ]
      refine takeW 3 23 (.int .i64 (k : Int)) rfl rfl (by kernel_rfl) (by kernel_rfl) (by kernel_rfl) (fun _ _ _ h => h) (by kernel_rfl) (by (intro w hSw; go_simp)) (by assumption) ?_
      simp only [List.set_cons_zero, List.set_cons_succ]
      refine takeW 4 24 (.slice (some ⟨b, off, none⟩) k cap) rfl rfl (by kernel_rfl) (by kernel_rfl) (by kernel_rfl) (fun _ _ _ h => h) (by kernel_rfl) (by (intro w hSw; go_simp; intro h_; omega)) (by assumption) ?_
      simp only [List.set_cons_zero, List.set_cons_succ]
      refine takeW 6 26 (.slice (some ⟨b, off, none⟩) X.length cap) rfl rfl (by kernel_rfl) (by kernel_rfl) (by kernel_rfl) (fun _ _ _ h => h) (by kernel_rfl) (by (intro w hSw; go_simp)) (by assumption) ?_
      simp only [List.set_cons_zero, List.set_cons_succ]
      refine takeW 7 27 (.int .i64 (k : Int)) rfl rfl (by kernel_rfl) (by kernel_rfl) (by kernel_rfl) (fun _ _ _ h => h) (by kernel_rfl) (by (intro w hSw; go_simp)) (by assumption) ?_
      simp only [List.set_cons_zero, List.set_cons_succ]
      refine takeW 8 28 (.pointer (some ⟨b, off + k * 8, none⟩)) rfl rfl (by kernel_rfl) (by kernel_rfl) (by kernel_rfl) (fun _ _ _ h => h) (by kernel_rfl) (by (intro w hSw; go_simp)) (by assumption) ?_
      simp only [List.set_cons_zero, List.set_cons_succ]
      refine takeW 9 29 (.agg #[.int .i64 x.k, .int .i64 x.q, .int .i64 x.r, .int .i64 x.c, .int .i64 x.b, .int .i64 x.p, .int .i64 x.h, .bool x.up]) rfl rfl (by kernel_rfl) (by kernel_rfl) (by kernel_rfl) (fun _ _ _ h => h) (by kernel_rfl) (by (intro Y hSw; obtain ⟨X0, X1, X2, X3, X4, X5, X6, X7⟩ := hck.below hSw hcB; go_simp)) (by assumption) ?_
      simp only [List.set_cons_zero, List.set_cons_succ]
      refine wpAnyH_all (rs := [5, 14]) (by kernel_rfl) (by simp) ?_
      intro i hi; rcases (by simpa using hi : i = 5 ∨ i = 14) with rfl | rfl
      · refine wpOp_step rfl (fun K hK => ?_)
        rw [if_pos (by kernel_rfl)]
        go_simp
        go_at_call 17
        refine (show Calls _ _ _ _ _ by have h_ := bofI id n (some ⟨b, off, none⟩) cap (X.take k) u0 (hvT.below hb0 (fun a e _ => by cases e; exact hcB)) (by rw [hkl.out]; omega); rw [hkl.out] at h_; exact h_).mono ?_
        rintro e u1 ⟨a1, c1, rfl, O1, kq⟩
        rw [hM.out] at O1 ⊢
        rw [hI.out]
        have hb1 : Below w.heap.size w u1 := hb0.trans (kq.mono hb0.size)
        clear kq
        refine hK _ _ ⟨hb1, ?_⟩
        clear hK K hi
        refine wpAnyH_all (rs := [10, 14]) (by kernel_rfl) (by simp) ?_
        intro i hi; rcases (by simpa using hi : i = 10 ∨ i = 14) with rfl | rfl
        · refine wpOp_step rfl (fun K hK => ?_)
          rw [if_pos (by kernel_rfl)]
          go_simp
          go_at_call 11
          refine (reactI I a1 c1 M x u1 O1.view.2 (by omega) O1.capn).mono ?_
          have bb : w.heap.size ≤ u1.heap.size := hb1.size
          rintro e u2 ⟨a2, c2, o2, d2, rfl, O2, Q2, _, kq⟩
          rw [hN.out] at O2 ⊢
          rw [hS.out] at Q2 ⊢
          have O1 := O1.later kq
          have hb2 : Below w.heap.size w u2 := hb1.trans (kq.mono hb1.size)
          clear kq
          refine hK _ _ ⟨hb2, ?_⟩
          clear hK K hi
          refine takeW 11 19 (.tuple #[.agg #[.int .i64 I, .slice a2 N.length c2], .slice o2 D.length d2]) rfl rfl (by kernel_rfl) (by kernel_rfl) (by kernel_rfl) (fun _ _ _ h => h) (by kernel_rfl) (by (intro w hSw; go_simp)) (by assumption) ?_
          simp only [List.set_cons_zero, List.set_cons_succ]
          refine takeW 12 31 (.agg #[.int .i64 I, .slice a2 N.length c2]) rfl rfl (by kernel_rfl) (by kernel_rfl) (by kernel_rfl) (fun _ _ _ h => h) (by kernel_rfl) (by (intro w hSw; go_simp)) (by assumption) ?_
          simp only [List.set_cons_zero, List.set_cons_succ]
          refine takeW 13 32 (.slice o2 D.length d2) rfl rfl (by kernel_rfl) (by kernel_rfl) (by kernel_rfl) (fun _ _ _ h => h) (by kernel_rfl) (by (intro w hSw; go_simp)) (by assumption) ?_
          simp only [List.set_cons_zero, List.set_cons_succ]
          refine wpAnyH_all (rs := [14]) (by kernel_rfl) (by simp) ?_
          intro i hi; obtain rfl : i = 14 := by simpa using hi
          refine wpOp_step rfl (fun K hK => ?_)
          rw [if_pos (by kernel_rfl)]
          go_simp
          obtain ⟨u3, hy⟩ : ∃ y_, y_ = u2.alloc (Obj.cells #[.int .i64 0, .slice none 0 0] 26) := ⟨_, rfl⟩
          have kq : Below u2.heap.size u2 u3 := by rw [hy]; exact below_new _
          have jO1 : ∀ g_, (Value.slice a1 M.length c1).ownBlock = some g_ → g_ ≠ u2.heap.size := fun g_ e => by have h1 := (O1.lt g_ e).2; omega
          have jO2 : ∀ g_, (Value.slice a2 N.length c2).ownBlock = some g_ → g_ ≠ u2.heap.size := fun g_ e => by have h1 := (O2.lt g_ e).2; omega
          have jQ2 : ∀ g_, (Value.slice o2 D.length d2).ownBlock = some g_ → g_ ≠ u2.heap.size := fun g_ e => by have h1 := (Q2.lt g_ e).2; omega
          have O1 := O1.later kq
          have O2 := O2.later kq
          have Q2 := Q2.later kq
          have FP : BBox u3 u2.heap.size 0 (.slice none 0 0) := by rw [hy]; exact BBox.new u2 _ _ _
          have pa : w.heap.size ≤ u2.heap.size := hb2.size
          have hb3 : Below w.heap.size w u3 := hb2.trans (kq.mono hb2.size)
          rw [← hy]
          clear hy kq
          refine hK _ _ ⟨hb3, ?_⟩
          clear hK K hi
          refine wpAnyH_all (rs := [15]) (by kernel_rfl) (by simp) ?_
          intro i hi; obtain rfl : i = 15 := by simpa using hi
          refine wpOp_step rfl (fun K hK => ?_)
          rw [if_pos (by kernel_rfl)]
          have FQ := FP
          obtain ⟨⟨t0, t1⟩, tf⟩ := FP
          go_simp
          clear t0 t1 tf
          obtain ⟨uf, huf⟩ : ∃ y_, y_ = (u3.setCell ⟨u2.heap.size, 0, none⟩ (.int .i64 I)).setCell ⟨u2.heap.size, 1, none⟩ (.slice a2 N.length c2) := ⟨_, rfl⟩
          have FE : BBox uf (u2.heap.size) I (.slice a2 N.length c2) := by rw [huf]; exact FQ.put _ _
          have hbf : Below w.heap.size w uf := by rw [huf]; exact (hb3.setCell (p := ⟨u2.heap.size, 0, none⟩) pa _).setCell (p := ⟨u2.heap.size, 1, none⟩) pa _
          have O1 := O1.keep (w' := uf) (fun g_ e => by rw [huf, Below.heap_setCell _ _ _ _ (by show g_ ≠ u2.heap.size; exact jO1 g_ e), Below.heap_setCell _ _ _ _ (by show g_ ≠ u2.heap.size; exact jO1 g_ e)])
          have O2 := O2.keep (w' := uf) (fun g_ e => by rw [huf, Below.heap_setCell _ _ _ _ (by show g_ ≠ u2.heap.size; exact jO2 g_ e), Below.heap_setCell _ _ _ _ (by show g_ ≠ u2.heap.size; exact jO2 g_ e)])
          have Q2 := Q2.keep (w' := uf) (fun g_ e => by rw [huf, Below.heap_setCell _ _ _ _ (by show g_ ≠ u2.heap.size; exact jQ2 g_ e), Below.heap_setCell _ _ _ _ (by show g_ ≠ u2.heap.size; exact jQ2 g_ e)])
          rw [← huf]
          clear huf FQ
          refine hK _ _ ⟨hbf, ?_⟩
          clear hK K hi
          refine takeW 16 10 (.slice o2 D.length d2) rfl rfl (by kernel_rfl) (by kernel_rfl) (by kernel_rfl) (fun _ _ _ h => h) (by kernel_rfl) (by (intro w hSw; go_simp)) (by assumption) ?_
          simp only [List.set_cons_zero, List.set_cons_succ]
          refine wpAnyH_done (by kernel_rfl) ?_ _
          have QZ := Q2.base bb
          go_wp2
          go_ret
          exact ⟨o2, d2, rfl, QZ, hbf⟩
        · refine wpOp_step rfl (fun K hK => ?_)
          rw [if_pos (by kernel_rfl)]
          go_simp
          obtain ⟨u2, hy⟩ : ∃ y_, y_ = u1.alloc (Obj.cells #[.int .i64 0, .slice none 0 0] 26) := ⟨_, rfl⟩
          have kq : Below u1.heap.size u1 u2 := by rw [hy]; exact below_new _
          have jO1 : ∀ g_, (Value.slice a1 M.length c1).ownBlock = some g_ → g_ ≠ u1.heap.size := fun g_ e => by have h1 := (O1.lt g_ e).2; omega
          have O1 := O1.later kq
          have FP : BBox u2 u1.heap.size 0 (.slice none 0 0) := by rw [hy]; exact BBox.new u1 _ _ _
          have pa : w.heap.size ≤ u1.heap.size := hb1.size
          have hb2 : Below w.heap.size w u2 := hb1.trans (kq.mono hb1.size)
          rw [← hy]
          clear hy kq
          refine hK _ _ ⟨hb2, ?_⟩
          clear hK K hi
          refine wpAnyH_all (rs := [10]) (by kernel_rfl) (by simp) ?_
          intro i hi; obtain rfl : i = 10 := by simpa using hi
          refine wpOp_step rfl (fun K hK => ?_)
          rw [if_pos (by kernel_rfl)]
          go_simp
          go_at_call 11
          refine (reactI I a1 c1 M x u2 O1.view.2 (by omega) O1.capn).mono ?_
          have bb : w.heap.size ≤ u2.heap.size := hb2.size
          rintro e u3 ⟨a2, c2, o2, d2, rfl, O2, Q2, _, kq⟩
          rw [hN.out] at O2 ⊢
          rw [hS.out] at Q2 ⊢
          have jO2 : ∀ g_, (Value.slice a2 N.length c2).ownBlock = some g_ → g_ ≠ u1.heap.size := fun g_ e => by have h1 := (O2.lt g_ e).1; have h2 := FP.lt; omega
          have jQ2 : ∀ g_, (Value.slice o2 D.length d2).ownBlock = some g_ → g_ ≠ u1.heap.size := fun g_ e => by have h1 := (Q2.lt g_ e).1; have h2 := FP.lt; omega
          have O1 := O1.later kq
          have FP := FP.below kq FP.lt
          have hb3 : Below w.heap.size w u3 := hb2.trans (kq.mono hb2.size)
          clear kq
          refine hK _ _ ⟨hb3, ?_⟩
          clear hK K hi
          refine takeW 11 19 (.tuple #[.agg #[.int .i64 I, .slice a2 N.length c2], .slice o2 D.length d2]) rfl rfl (by kernel_rfl) (by kernel_rfl) (by kernel_rfl) (fun _ _ _ h => h) (by kernel_rfl) (by (intro w hSw; go_simp)) (by assumption) ?_
          simp only [List.set_cons_zero, List.set_cons_succ]
          refine takeW 12 31 (.agg #[.int .i64 I, .slice a2 N.length c2]) rfl rfl (by kernel_rfl) (by kernel_rfl) (by kernel_rfl) (fun _ _ _ h => h) (by kernel_rfl) (by (intro w hSw; go_simp)) (by assumption) ?_
          simp only [List.set_cons_zero, List.set_cons_succ]
          refine takeW 13 32 (.slice o2 D.length d2) rfl rfl (by kernel_rfl) (by kernel_rfl) (by kernel_rfl) (fun _ _ _ h => h) (by kernel_rfl) (by (intro w hSw; go_simp)) (by assumption) ?_
          simp only [List.set_cons_zero, List.set_cons_succ]
          refine wpAnyH_all (rs := [15]) (by kernel_rfl) (by simp) ?_
          intro i hi; obtain rfl : i = 15 := by simpa using hi
          refine wpOp_step rfl (fun K hK => ?_)
          rw [if_pos (by kernel_rfl)]
          have FQ := FP
          obtain ⟨⟨t0, t1⟩, tf⟩ := FP
          go_simp
          clear t0 t1 tf
          obtain ⟨uf, huf⟩ : ∃ y_, y_ = (u3.setCell ⟨u1.heap.size, 0, none⟩ (.int .i64 I)).setCell ⟨u1.heap.size, 1, none⟩ (.slice a2 N.length c2) := ⟨_, rfl⟩
          have FE : BBox uf (u1.heap.size) I (.slice a2 N.length c2) := by rw [huf]; exact FQ.put _ _
          have hbf : Below w.heap.size w uf := by rw [huf]; exact (hb3.setCell (p := ⟨u1.heap.size, 0, none⟩) pa _).setCell (p := ⟨u1.heap.size, 1, none⟩) pa _
          have O1 := O1.keep (w' := uf) (fun g_ e => by rw [huf, Below.heap_setCell _ _ _ _ (by show g_ ≠ u1.heap.size; exact jO1 g_ e), Below.heap_setCell _ _ _ _ (by show g_ ≠ u1.heap.size; exact jO1 g_ e)])
          have O2 := O2.keep (w' := uf) (fun g_ e => by rw [huf, Below.heap_setCell _ _ _ _ (by show g_ ≠ u1.heap.size; exact jO2 g_ e), Below.heap_setCell _ _ _ _ (by show g_ ≠ u1.heap.size; exact jO2 g_ e)])
          have Q2 := Q2.keep (w' := uf) (fun g_ e => by rw [huf, Below.heap_setCell _ _ _ _ (by show g_ ≠ u1.heap.size; exact jQ2 g_ e), Below.heap_setCell _ _ _ _ (by show g_ ≠ u1.heap.size; exact jQ2 g_ e)])
          rw [← huf]
          clear huf FQ
          refine hK _ _ ⟨hbf, ?_⟩
          clear hK K hi
          refine takeW 16 10 (.slice o2 D.length d2) rfl rfl (by kernel_rfl) (by kernel_rfl) (by kernel_rfl) (fun _ _ _ h => h) (by kernel_rfl) (by (intro w hSw; go_simp)) (by assumption) ?_
          simp only [List.set_cons_zero, List.set_cons_succ]
          refine wpAnyH_done (by kernel_rfl) ?_ _
          have QZ := Q2.base bb
          go_wp2
          go_ret
          exact ⟨o2, d2, rfl, QZ, hbf⟩
      · refine wpOp_step rfl (fun K hK => ?_)
        rw [if_pos (by kernel_rfl)]
        go_simp
        obtain ⟨u1, hy⟩ : ∃ y_, y_ = u0.alloc (Obj.cells #[.int .i64 0, .slice none 0 0] 26) := ⟨_, rfl⟩
        have kq : Below u0.heap.size u0 u1 := by rw [hy]; exact below_new _
        have FP : BBox u1 u0.heap.size 0 (.slice none 0 0) := by rw [hy]; exact BBox.new u0 _ _ _
        have pa : w.heap.size ≤ u0.heap.size := hb0.size
        have hb1 : Below w.heap.size w u1 := hb0.trans (kq.mono hb0.size)
        rw [← hy]
        clear hy kq
        refine hK _ _ ⟨hb1, ?_⟩
        clear hK K hi
        refine wpAnyH_all (rs := [5]) (by kernel_rfl) (by simp) ?_
        intro i hi; obtain rfl : i = 5 := by simpa using hi
        refine wpOp_step rfl (fun K hK => ?_)
        rw [if_pos (by kernel_rfl)]
        go_simp
        go_at_call 17
        refine (show Calls _ _ _ _ _ by have h_ := bofI id n (some ⟨b, off, none⟩) cap (X.take k) u1 (hvT.below hb1 (fun a e _ => by cases e; exact hcB)) (by rw [hkl.out]; omega); rw [hkl.out] at h_; exact h_).mono ?_
        rintro e u2 ⟨a1, c1, rfl, O1, kq⟩
        rw [hM.out] at O1 ⊢
        rw [hI.out]
        have jO1 : ∀ g_, (Value.slice a1 M.length c1).ownBlock = some g_ → g_ ≠ u0.heap.size := fun g_ e => by have h1 := (O1.lt g_ e).1; have h2 := FP.lt; omega
        have FP := FP.below kq FP.lt
        have hb2 : Below w.heap.size w u2 := hb1.trans (kq.mono hb1.size)
        clear kq
        refine hK _ _ ⟨hb2, ?_⟩
        clear hK K hi
        refine wpAnyH_all (rs := [10]) (by kernel_rfl) (by simp) ?_
        intro i hi; obtain rfl : i = 10 := by simpa using hi
        refine wpOp_step rfl (fun K hK => ?_)
        rw [if_pos (by kernel_rfl)]
        go_simp
        go_at_call 11
        refine (reactI I a1 c1 M x u2 O1.view.2 (by omega) O1.capn).mono ?_
        have bb : w.heap.size ≤ u2.heap.size := hb2.size
        rintro e u3 ⟨a2, c2, o2, d2, rfl, O2, Q2, _, kq⟩
        rw [hN.out] at O2 ⊢
        rw [hS.out] at Q2 ⊢
        have jO2 : ∀ g_, (Value.slice a2 N.length c2).ownBlock = some g_ → g_ ≠ u0.heap.size := fun g_ e => by have h1 := (O2.lt g_ e).1; have h2 := FP.lt; omega
        have jQ2 : ∀ g_, (Value.slice o2 D.length d2).ownBlock = some g_ → g_ ≠ u0.heap.size := fun g_ e => by have h1 := (Q2.lt g_ e).1; have h2 := FP.lt; omega
        have O1 := O1.later kq
        have FP := FP.below kq FP.lt
        have hb3 : Below w.heap.size w u3 := hb2.trans (kq.mono hb2.size)
        clear kq
        refine hK _ _ ⟨hb3, ?_⟩
        clear hK K hi
        refine takeW 11 19 (.tuple #[.agg #[.int .i64 I, .slice a2 N.length c2], .slice o2 D.length d2]) rfl rfl (by kernel_rfl) (by kernel_rfl) (by kernel_rfl) (fun _ _ _ h => h) (by kernel_rfl) (by (intro w hSw; go_simp)) (by assumption) ?_
        simp only [List.set_cons_zero, List.set_cons_succ]
        refine takeW 12 31 (.agg #[.int .i64 I, .slice a2 N.length c2]) rfl rfl (by kernel_rfl) (by kernel_rfl) (by kernel_rfl) (fun _ _ _ h => h) (by kernel_rfl) (by (intro w hSw; go_simp)) (by assumption) ?_
        simp only [List.set_cons_zero, List.set_cons_succ]
        refine takeW 13 32 (.slice o2 D.length d2) rfl rfl (by kernel_rfl) (by kernel_rfl) (by kernel_rfl) (fun _ _ _ h => h) (by kernel_rfl) (by (intro w hSw; go_simp)) (by assumption) ?_
        simp only [List.set_cons_zero, List.set_cons_succ]
        refine wpAnyH_all (rs := [15]) (by kernel_rfl) (by simp) ?_
        intro i hi; obtain rfl : i = 15 := by simpa using hi
        refine wpOp_step rfl (fun K hK => ?_)
        rw [if_pos (by kernel_rfl)]
        have FQ := FP
        obtain ⟨⟨t0, t1⟩, tf⟩ := FP
        go_simp
        clear t0 t1 tf
        obtain ⟨uf, huf⟩ : ∃ y_, y_ = (u3.setCell ⟨u0.heap.size, 0, none⟩ (.int .i64 I)).setCell ⟨u0.heap.size, 1, none⟩ (.slice a2 N.length c2) := ⟨_, rfl⟩
        have FE : BBox uf (u0.heap.size) I (.slice a2 N.length c2) := by rw [huf]; exact FQ.put _ _
        have hbf : Below w.heap.size w uf := by rw [huf]; exact (hb3.setCell (p := ⟨u0.heap.size, 0, none⟩) pa _).setCell (p := ⟨u0.heap.size, 1, none⟩) pa _
        have O1 := O1.keep (w' := uf) (fun g_ e => by rw [huf, Below.heap_setCell _ _ _ _ (by show g_ ≠ u0.heap.size; exact jO1 g_ e), Below.heap_setCell _ _ _ _ (by show g_ ≠ u0.heap.size; exact jO1 g_ e)])
        have O2 := O2.keep (w' := uf) (fun g_ e => by rw [huf, Below.heap_setCell _ _ _ _ (by show g_ ≠ u0.heap.size; exact jO2 g_ e), Below.heap_setCell _ _ _ _ (by show g_ ≠ u0.heap.size; exact jO2 g_ e)])
        have Q2 := Q2.keep (w' := uf) (fun g_ e => by rw [huf, Below.heap_setCell _ _ _ _ (by show g_ ≠ u0.heap.size; exact jQ2 g_ e), Below.heap_setCell _ _ _ _ (by show g_ ≠ u0.heap.size; exact jQ2 g_ e)])
        rw [← huf]
        clear huf FQ
        refine hK _ _ ⟨hbf, ?_⟩
        clear hK K hi
        refine takeW 16 10 (.slice o2 D.length d2) rfl rfl (by kernel_rfl) (by kernel_rfl) (by kernel_rfl) (fun _ _ _ h => h) (by kernel_rfl) (by (intro w hSw; go_simp)) (by assumption) ?_
        simp only [List.set_cons_zero, List.set_cons_succ]
        refine wpAnyH_done (by kernel_rfl) ?_ _
        have QZ := Q2.base bb
        go_wp2
        go_ret
        exact ⟨o2, d2, rfl, QZ, hbf⟩
    · have d1 : decide ((X.length : Int) ≤ (k : Int)) = true := decide_eq_true (by omega)
      have hD : sayR id n X (k : Int) = [] := by unfold sayR sayL; rw [if_neg (by omega)]
      rw [hD]
      clear hD
      go_enter Try.func20, Try.ntmps20
      go_wp2
      go_ret
      exact ⟨none, 0, rfl, FOwn.nil, Below.refl _ _⟩

end Go.Proofs.Ytghmmcenjdbfgaa
namespace Go.Proofs.Ytghmmcenjdbfgaa
open Go.ChangeShapes Go.WideShapes Go.ChangeAt Go.RowKit
open Go.ChangeMaps (open_string shut_string)
set_option linter.unusedVariables false
set_option maxRecDepth 100000

set_option maxHeartbeats 4000000 in
theorem bofS (id n : Int) (ad : Option Addr) (cap : Nat) (X : List Ik) (w : World) (hv : FView ikEnc w ad X) (hl : X.length ≤ 1048576) :
    Calls Try.prog 18 #[.int .i64 id, .int .i64 n, .slice ad X.length cap] w fun e w' => ∃ a c, e = .returned (.agg #[.int .i64 (newI id n), .slice a (ofR id n X).length c]) ∧ FOwn ptEnc 11 43 w.heap.size w' (.slice a (ofR id n X).length c) (ofR id n X) ∧ Below w.heap.size w w' := by
  have hB := hv.lt ikEnc_len (by omega)
  obtain ⟨y, hy⟩ : ∃ y, y = w.alloc (Obj.cells #[.int .i64 0, .slice none 0 0] 26) := ⟨_, rfl⟩
  have B0 : Below w.heap.size w y := by rw [hy]; exact below_new _
  have A0 : BBox y w.heap.size 0 (.slice none 0 0) := by rw [hy]; exact BBox.new w _ _ _
  have S0 := A0.lt
  have hR : ofR id n X = ofL (newI id n) (newL id n) X := rfl
  have hNl := newL_small id n
  have hno := fun h => ofR_not (id := id) (n := n) X h
  obtain ⟨I, hI⟩ : ∃ v, newI id n = v := ⟨_, rfl⟩
  obtain ⟨N, hN⟩ : ∃ v, newL id n = v := ⟨_, rfl⟩
  obtain ⟨ok, hok⟩ : ∃ v, nOk id n = v := ⟨_, rfl⟩
  obtain ⟨D, hD⟩ : ∃ v, ofR id n X = v := ⟨_, rfl⟩
  rw [hI, hN, hD] at hR
  rw [hI, hD, hok] at hno
  rw [hN] at hNl
  rw [hI, hD]
  replace hR : Hid _ := hR
  replace hno : Hid _ := hno
  replace hI : Hid _ := hI
  replace hN : Hid _ := hN
  replace hok : Hid _ := hok
  clear hD
  go_enter Try.func18, Try.ntmps18
  go_wp2_with fail
  go_at_call 71
  rw [← hy]
  clear hy
  refine (newBS id n y).mono ?_
  rintro e u1 ⟨a1, c1, rfl, O1, k1⟩
  rw [hN.out] at O1
  rw [hI.out, hN.out, hok.out]
  clear hI hN hok
  have B1 := B0.trans (k1.mono B0.size)
  have A0 := A0.below k1 A0.lt
  have s1 := k1.size
  have lo1 := O1.lt
  clear k1 B0
  obtain ⟨u2, hu2⟩ : ∃ u2, u2 = u1.alloc (Obj.cells #[.int .i64 I, .slice a1 N.length c1] 26) := ⟨_, rfl⟩
  have k2 : Below u1.heap.size u1 u2 := by rw [hu2]; exact below_new _
  have P2 : BBox u2 u1.heap.size I (.slice a1 N.length c1) := by rw [hu2]; exact BBox.new u1 _ _ _
  have B2 := B1.trans (k2.mono B1.size)
  have A0 := A0.below k2 A0.lt
  have O1 := O1.later k2
  have s2 := P2.lt
  go_upto_region 2 with fail
  rw [← hu2]
  clear hu2 k2 B1
  obtain ⟨p, hp⟩ : ∃ p, p = u1.heap.size := ⟨_, rfl⟩
  rw [← hp] at P2 s1 s2 lo1 ⊢
  clear hp
  have lp : w.heap.size < p := by omega
  clear hno
  go_wp2
  go_loopw [9] (fun i wr => ∃ (k : Nat) (a : Option Addr) (c : Nat) (L : List Pt), k ≤ X.length ∧ i = .int .i64 k ∧ ofL I N (X.take k) = L ∧ BBox wr p I (.slice a L.length c) ∧ FOwn ptEnc 11 43 w.heap.size wr (.slice a L.length c) L ∧ (∀ g, (Value.slice a L.length c).ownBlock = some g → g ≠ p ∧ g ≠ w.heap.size) ∧ BBox wr w.heap.size 0 (.slice none 0 0) ∧ Below w.heap.size w wr) (fun i _ => X.length - (intOf i).toNat)
  case atStart => exact ⟨0, a1, c1, N, Nat.zero_le _, rfl, rfl, P2, O1.base (by omega), fun g e => by have := lo1 g e; omega, A0, B2⟩
  case round =>
    obtain ⟨k, a, c, L, hk, rfl, hL, P, O, hne, A, B⟩ := hrel
    have hLl : L.length ≤ 4 := by rw [← hL, ofL_len]; exact hNl
    clear A0 P2 O1 B2 lo1
    by_cases hlt : k < X.length
    · have hst := ofL_step I N X Ik.nil hlt
      rw [hL] at hst
      replace hL : Hid _ := hL
      obtain ⟨b, off, rfl, _⟩ := hv (by omega)
      obtain ⟨x, hh⟩ : ∃ x, X.getD k Ik.nil = x := ⟨_, rfl⟩
      rw [hh] at hst
      have hck : IkAtO wr b (off + k * 8) x := by
        rw [← hh]
        exact ikAtO_of ((hv.below B hB).at_ ikEnc_len Ik.nil hlt)
      have hcB : b < w.heap.size := hB ⟨b, off, none⟩ rfl (by omega)
      replace hst : Hid _ := hst
      clear hh
      have lp2 := P.lt
      have bs := B.size
      have ln := O.lt
      go_upto_region 5 with fail
      refine wp_region_held (S := fun Y => Below w.heap.size wr Y) (by kernel_rfl) ?_
      change wpAnyH _ _ _ _ _ _ _ _ (World.drew _)
      have hb0 : Below wr.heap.size wr wr.drew := (Below.refl _ _).drew
      obtain ⟨u, hy0'⟩ : ∃ y_, y_ = wr.drew := ⟨_, rfl⟩
      rw [← hy0'] at hb0 ⊢
      clear hy0'
      have hc0 : Below w.heap.size wr u := hb0.mono (by omega)
      refine takeW 1 24 (.slice (some ⟨b, off, none⟩) X.length cap) rfl rfl (by kernel_rfl) (by kernel_rfl) (by kernel_rfl) (fun _ _ _ h => h) (by kernel_rfl) (by (intro w hSw; go_simp)) (by assumption) ?_
      simp only [List.set_cons_zero, List.set_cons_succ]
      refine takeW 2 25 (.int .i64 (k : Int)) rfl rfl (by kernel_rfl) (by kernel_rfl) (by kernel_rfl) (fun _ _ _ h => h) (by kernel_rfl) (by (intro w hSw; go_simp)) (by assumption) ?_
      simp only [List.set_cons_zero, List.set_cons_succ]
      refine takeW 3 26 (.pointer (some ⟨b, off + k * 8, none⟩)) rfl rfl (by kernel_rfl) (by kernel_rfl) (by kernel_rfl) (fun _ _ _ h => h) (by kernel_rfl) (by (intro w hSw; go_simp)) (by assumption) ?_
      simp only [List.set_cons_zero, List.set_cons_succ]
      refine takeW 4 27 (.agg #[.int .i64 x.k, .int .i64 x.q, .int .i64 x.r, .int .i64 x.c, .int .i64 x.b, .int .i64 x.p, .int .i64 x.h, .bool x.up]) rfl rfl (by kernel_rfl) (by kernel_rfl) (by kernel_rfl) (fun _ _ _ h => h) (by kernel_rfl) (by (intro Y hSw; obtain ⟨X0, X1, X2, X3, X4, X5, X6, X7⟩ := hck.below hSw hcB; go_simp)) (by assumption) ?_
      simp only [List.set_cons_zero, List.set_cons_succ]
      have P := P.below hb0 P.lt
      have A := A.below hb0 A.lt
      have O := O.later hb0
      have B3 := B.trans (hb0.mono B.size)
      have su := hb0.size
      refine wpAnyH_all (rs := [0]) (by kernel_rfl) (by simp) ?_
      intro i hi; obtain rfl : i = 0 := by simpa using hi
      refine wpOp_step rfl (fun Kz hKz => ?_)
      rw [if_pos (by kernel_rfl)]
      have cc := P
      obtain ⟨⟨p0, p1⟩, pf⟩ := cc
      go_simp
      clear p0 p1 pf
      refine hKz _ _ ⟨hc0, ?_⟩
      clear hKz Kz hi
      refine wpAnyH_all (rs := [5]) (by kernel_rfl) (by simp) ?_
      intro i hi; obtain rfl : i = 5 := by simpa using hi
      refine wpOp_step rfl (fun Kz hKz => ?_)
      rw [if_pos (by kernel_rfl)]
      go_simp
      go_at_call 12
      refine (reactS I a c L x u O.view.2 (by omega) O.capn).mono ?_
      rintro e w2 ⟨a2, c2, o2, d2, rfl, O2, _, _, k2⟩
      obtain ⟨M, hM⟩ : ∃ M, reactL I L x = M := ⟨_, rfl⟩
      obtain ⟨OO, hOO⟩ : ∃ M, reactO I L x = M := ⟨_, rfl⟩
      rw [hM] at O2 ⊢
      rw [hOO]
      have hst2 : Hid (ofL I N (X.take (k + 1)) = M) := by unfold Hid; rw [hst.out]; exact hM
      clear hM hOO hst
      have hc1 : Below w.heap.size wr w2 := hc0.trans (k2.mono (by omega))
      have P := P.below k2 P.lt
      have A := A.below k2 A.lt
      have B3 := B3.trans (k2.mono B3.size)
      refine hKz _ _ ⟨hc1, ?_⟩
      clear hKz Kz hi
      refine takeW 6 22 (.tuple #[.agg #[.int .i64 I, .slice a2 M.length c2], .slice o2 OO.length d2]) rfl rfl (by kernel_rfl) (by kernel_rfl) (by kernel_rfl) (fun _ _ _ h => h) (by kernel_rfl) (by (intro w hSw; go_simp)) (by assumption) ?_
      simp only [List.set_cons_zero, List.set_cons_succ]
      refine takeW 7 29 (.agg #[.int .i64 I, .slice a2 M.length c2]) rfl rfl (by kernel_rfl) (by kernel_rfl) (by kernel_rfl) (fun _ _ _ h => h) (by kernel_rfl) (by (intro w hSw; go_simp)) (by assumption) ?_
      simp only [List.set_cons_zero, List.set_cons_succ]
      refine takeW 8 30 (.slice o2 OO.length d2) rfl rfl (by kernel_rfl) (by kernel_rfl) (by kernel_rfl) (fun _ _ _ h => h) (by kernel_rfl) (by (intro w hSw; go_simp)) (by assumption) ?_
      simp only [List.set_cons_zero, List.set_cons_succ]
      refine wpAnyH_all (rs := [9]) (by kernel_rfl) (by simp) ?_
      intro i hi; obtain rfl : i = 9 := by simpa using hi
      refine wpOp_step rfl (fun Kz hKz => ?_)
      rw [if_pos (by kernel_rfl)]
      have cc := P
      obtain ⟨⟨p0, p1⟩, pf⟩ := cc
      have g0 := pf 0
      have g1 := pf 1
      clear pf
      go_simp
      clear p0 p1 g0 g1
      have hc2 : Below w.heap.size wr ((w2.setCell ⟨p, 0, none⟩ (.int .i64 I)).setCell ⟨p, 1, none⟩ (.slice a2 M.length c2)) := (hc1.setCell (p := ⟨p, 0, none⟩) (by show _ ≤ p; omega) _).setCell (p := ⟨p, 1, none⟩) (by show _ ≤ p; omega) _
      refine hKz _ _ ⟨hc2, ?_⟩
      clear hKz Kz hi
      refine wpAnyH_done (by kernel_rfl) ?_ _
      have P9 := P.put I (.slice a2 M.length c2)
      have lo2 := O2.lt
      have O9 : FOwn ptEnc 11 43 w.heap.size ((w2.setCell ⟨p, 0, none⟩ (.int .i64 I)).setCell ⟨p, 1, none⟩ (.slice a2 M.length c2)) (.slice a2 M.length c2) M := (O2.base (by omega)).keep (fun g e => P.put1 I _ g (by have := lo2 g e; omega))
      have A9 := A.keep (P.put1 I (.slice a2 M.length c2) w.heap.size (by omega))
      have B9 : Below w.heap.size w ((w2.setCell ⟨p, 0, none⟩ (.int .i64 I)).setCell ⟨p, 1, none⟩ (.slice a2 M.length c2)) := (B3.setCell (p := ⟨p, 0, none⟩) (by show _ ≤ p; omega) _).setCell (p := ⟨p, 1, none⟩) (by show _ ≤ p; omega) _
      have hne9 : ∀ g, (Value.slice a2 M.length c2).ownBlock = some g → g ≠ p ∧ g ≠ w.heap.size := fun g e => by have := lo2 g e; omega
      clear O O2 hne ln A k2 B3 lo2 P
      go_wp2
      go_roundw
      case rel => exact ⟨k + 1, a2, c2, M, by omega, by go_num, hst2.out, P9, O9, hne9, A9, B9⟩
      case measure => simp [intOf]; omega
    · obtain rfl : k = X.length := by omega
      rw [List.take_length] at hL
      obtain rfl : D = L := hR.out.trans hL
      have O9 : FOwn ptEnc 11 43 w.heap.size ((wr.setCell ⟨w.heap.size, 0, none⟩ (.int .i64 I)).setCell ⟨w.heap.size, 1, none⟩ (.slice a D.length c)) (.slice a D.length c) D := O.keep (fun g e => A.put1 I _ g (hne g e).2)
      have B9 : Below w.heap.size w ((wr.setCell ⟨w.heap.size, 0, none⟩ (.int .i64 I)).setCell ⟨w.heap.size, 1, none⟩ (.slice a D.length c)) := (B.setCell (p := ⟨w.heap.size, 0, none⟩) (Nat.le_refl _) _).setCell (p := ⟨w.heap.size, 1, none⟩) (Nat.le_refl _) _
      obtain ⟨⟨p0, p1⟩, pf⟩ := P
      obtain ⟨⟨z0, z1⟩, zf⟩ := A
      have g0 := zf 0
      have g1 := zf 1
      clear pf zf hne O B hL hR
      go_wp2
      refine bodyPost_ret (v := .agg #[.int .i64 I, .slice a D.length c]) (by simp [results, Try.results18, go_sem, *]) rfl ⟨a, c, rfl, O9, B9⟩

end Go.Proofs.Ytghmmcenjdbfgaa
namespace Go.Proofs.Ytghmmcenjdbfgaa
open Go.ChangeShapes Go.WideShapes Go.ChangeAt Go.RowKit
open Go.ChangeMaps (open_string shut_string)
set_option linter.unusedVariables false
set_option maxRecDepth 100000

set_option maxHeartbeats 4000000 in
theorem sayS (id n : Int) (ad : Option Addr) (cap : Nat) (X : List Ik) (i : Int) (w : World) (hv : FView ikEnc w ad X) (hl : X.length ≤ 1048576) (hcp : X.length ≤ cap) :
    Calls Try.prog 22 #[.int .i64 id, .int .i64 n, .slice ad X.length cap, .int .i64 i] w fun e w' => ∃ a c, e = .returned (.slice a (sayR id n X i).length c) ∧ FOwn ouEnc 8 38 w.heap.size w' (.slice a (sayR id n X i).length c) (sayR id n X i) ∧ Below w.heap.size w w' := by
  have hB := hv.lt ikEnc_len (by omega)
  by_cases h0 : 0 ≤ i ∧ i ≤ (X.length : Int) - 1
  · obtain ⟨k, rfl⟩ : ∃ k : Nat, i = (k : Int) := ⟨i.toNat, by omega⟩
    have hk : k < X.length := by omega
    have d0 : decide (0 ≤ (k : Int) ∧ (k : Int) ≤ (X.length : Int) - 1) = true := decide_eq_true h0
    obtain ⟨b, off, rfl, _⟩ := hv (by omega)
    obtain ⟨x, hh⟩ : ∃ x, X.getD k Ik.nil = x := ⟨_, rfl⟩
    have hck : IkAtO w b (off + k * 8) x := by
      rw [← hh]
      exact ikAtO_of (hv.at_ ikEnc_len Ik.nil hk)
    have hcB : b < w.heap.size := hB ⟨b, off, none⟩ rfl (by omega)
    have hvT := hv.take k
    have hkl : (X.take k).length = k := by rw [List.length_take]; omega
    have hS : sayR id n X (k : Int) = reactO (newI id n) (ofR id n (X.take k)) x := by unfold sayR; rw [sayL_at _ _ X Ik.nil hk, hh]; rfl
    have hMl := ofR_len id n (X.take k)
    obtain ⟨I, hI⟩ : ∃ v, newI id n = v := ⟨_, rfl⟩
    obtain ⟨M, hM⟩ : ∃ v, ofR id n (X.take k) = v := ⟨_, rfl⟩
    obtain ⟨D, hD⟩ : ∃ v, sayR id n X (k : Int) = v := ⟨_, rfl⟩
    rw [hI, hM, hD] at hS
    rw [hM] at hMl
    rw [hD]
    obtain ⟨N, hN⟩ : ∃ v, reactL I M x = v := ⟨_, rfl⟩
    replace hS := hS.symm
    clear hh hD
    replace hS : Hid _ := hS
    replace hI : Hid _ := hI
    replace hM : Hid _ := hM
    replace hN : Hid _ := hN
    replace hkl : Hid _ := hkl
    go_enter Try.func22, Try.ntmps22
    go_wp2_with fail
    go_at_call 72
    refine (inB (k : Int) 0 ((X.length : Int) - 1) w).mono ?_
    rintro e w_ ⟨rfl, hw_⟩
    rw [d0, hw_]
    clear d0 h0 hw_
    go_upto_region 3 with fail
    refine wp_region_held (S := fun Y => Below w.heap.size w Y) (by kernel_rfl) ?_
    change wpAnyH _ _ _ _ _ _ _ _ (World.drew _)
    have hb0 : Below w.heap.size w w.drew := (Below.refl _ _).drew
    obtain ⟨u0, hy0⟩ : ∃ y_, y_ = w.drew := ⟨_, rfl⟩
    rw [← hy0] at hb0 ⊢
    clear hy0
    refine takeW 0 19 (.int .i64 id) rfl rfl (by kernel_rfl) (by kernel_rfl) (by kernel_rfl) (fun _ _ _ h => h) (by kernel_rfl) (by (intro w hSw; go_simp)) (by assumption) ?_
    simp only [List.set_cons_zero, List.set_cons_succ]
    refine takeW 1 20 (.int .i64 n) rfl rfl (by kernel_rfl) (by kernel_rfl) (by kernel_rfl) (fun _ _ _ h => h) (by kernel_rfl) (by (intro w hSw; go_simp)) (by assumption) ?_
    simp only [List.set_cons_zero, List.set_cons_succ]
    refine takeW 2 21 (.slice (some ⟨b, off, none⟩) X.length cap) rfl rfl (by kernel_rfl) (by kernel_rfl) (by kernel_rfl) (fun _ _ _ h => h) (by kernel_rfl) (by (intro w hSw; go_simp)) (by assumption) ?_
    simp only [List.set_cons_zero, List.set_cons_succ]
    refine takeW 3 22 (.int .i64 (k : Int)) rfl rfl (by kernel_rfl) (by kernel_rfl) (by kernel_rfl) (fun _ _ _ h => h) (by kernel_rfl) (by (intro w hSw; go_simp)) (by assumption) ?_
    simp only [List.set_cons_zero, List.set_cons_succ]
    refine takeW 4 23 (.slice (some ⟨b, off, none⟩) k cap) rfl rfl (by kernel_rfl) (by kernel_rfl) (by kernel_rfl) (fun _ _ _ h => h) (by kernel_rfl) (by (intro w hSw; go_simp; intro h_; omega)) (by assumption) ?_
    simp only [List.set_cons_zero, List.set_cons_succ]
    refine takeW 6 25 (.slice (some ⟨b, off, none⟩) X.length cap) rfl rfl (by kernel_rfl) (by kernel_rfl) (by kernel_rfl) (fun _ _ _ h => h) (by kernel_rfl) (by (intro w hSw; go_simp)) (by assumption) ?_
    simp only [List.set_cons_zero, List.set_cons_succ]
    refine takeW 7 26 (.int .i64 (k : Int)) rfl rfl (by kernel_rfl) (by kernel_rfl) (by kernel_rfl) (fun _ _ _ h => h) (by kernel_rfl) (by (intro w hSw; go_simp)) (by assumption) ?_
    simp only [List.set_cons_zero, List.set_cons_succ]
    refine takeW 8 27 (.pointer (some ⟨b, off + k * 8, none⟩)) rfl rfl (by kernel_rfl) (by kernel_rfl) (by kernel_rfl) (fun _ _ _ h => h) (by kernel_rfl) (by (intro w hSw; go_simp)) (by assumption) ?_
    simp only [List.set_cons_zero, List.set_cons_succ]
    refine takeW 9 28 (.agg #[.int .i64 x.k, .int .i64 x.q, .int .i64 x.r, .int .i64 x.c, .int .i64 x.b, .int .i64 x.p, .int .i64 x.h, .bool x.up]) rfl rfl (by kernel_rfl) (by kernel_rfl) (by kernel_rfl) (fun _ _ _ h => h) (by kernel_rfl) (by (intro Y hSw; obtain ⟨X0, X1, X2, X3, X4, X5, X6, X7⟩ := hck.below hSw hcB; go_simp)) (by assumption) ?_
    simp only [List.set_cons_zero, List.set_cons_succ]
    refine wpAnyH_all (rs := [5, 14]) (by kernel_rfl) (by simp) ?_
    intro i hi; rcases (by simpa using hi : i = 5 ∨ i = 14) with rfl | rfl
    · refine wpOp_step rfl (fun K hK => ?_)
      rw [if_pos (by kernel_rfl)]
      go_simp
      go_at_call 18
      refine (show Calls _ _ _ _ _ by have h_ := bofS id n (some ⟨b, off, none⟩) cap (X.take k) u0 (hvT.below hb0 (fun a e _ => by cases e; exact hcB)) (by rw [hkl.out]; omega); rw [hkl.out] at h_; exact h_).mono ?_
      rintro e u1 ⟨a1, c1, rfl, O1, kq⟩
      rw [hM.out] at O1 ⊢
      rw [hI.out]
      have hb1 : Below w.heap.size w u1 := hb0.trans (kq.mono hb0.size)
      clear kq
      refine hK _ _ ⟨hb1, ?_⟩
      clear hK K hi
      refine wpAnyH_all (rs := [10, 14]) (by kernel_rfl) (by simp) ?_
      intro i hi; rcases (by simpa using hi : i = 10 ∨ i = 14) with rfl | rfl
      · refine wpOp_step rfl (fun K hK => ?_)
        rw [if_pos (by kernel_rfl)]
        go_simp
        go_at_call 12
        refine (reactS I a1 c1 M x u1 O1.view.2 (by omega) O1.capn).mono ?_
        have bb : w.heap.size ≤ u1.heap.size := hb1.size
        rintro e u2 ⟨a2, c2, o2, d2, rfl, O2, Q2, _, kq⟩
        rw [hN.out] at O2 ⊢
        rw [hS.out] at Q2 ⊢
        have O1 := O1.later kq
        have hb2 : Below w.heap.size w u2 := hb1.trans (kq.mono hb1.size)
        clear kq
        refine hK _ _ ⟨hb2, ?_⟩
        clear hK K hi
        refine takeW 11 18 (.tuple #[.agg #[.int .i64 I, .slice a2 N.length c2], .slice o2 D.length d2]) rfl rfl (by kernel_rfl) (by kernel_rfl) (by kernel_rfl) (fun _ _ _ h => h) (by kernel_rfl) (by (intro w hSw; go_simp)) (by assumption) ?_
        simp only [List.set_cons_zero, List.set_cons_succ]
        refine takeW 12 30 (.agg #[.int .i64 I, .slice a2 N.length c2]) rfl rfl (by kernel_rfl) (by kernel_rfl) (by kernel_rfl) (fun _ _ _ h => h) (by kernel_rfl) (by (intro w hSw; go_simp)) (by assumption) ?_
        simp only [List.set_cons_zero, List.set_cons_succ]
        refine takeW 13 31 (.slice o2 D.length d2) rfl rfl (by kernel_rfl) (by kernel_rfl) (by kernel_rfl) (fun _ _ _ h => h) (by kernel_rfl) (by (intro w hSw; go_simp)) (by assumption) ?_
        simp only [List.set_cons_zero, List.set_cons_succ]
        refine wpAnyH_all (rs := [14]) (by kernel_rfl) (by simp) ?_
        intro i hi; obtain rfl : i = 14 := by simpa using hi
        refine wpOp_step rfl (fun K hK => ?_)
        rw [if_pos (by kernel_rfl)]
        go_simp
        obtain ⟨u3, hy⟩ : ∃ y_, y_ = u2.alloc (Obj.cells #[.int .i64 0, .slice none 0 0] 26) := ⟨_, rfl⟩
        have kq : Below u2.heap.size u2 u3 := by rw [hy]; exact below_new _
        have jO1 : ∀ g_, (Value.slice a1 M.length c1).ownBlock = some g_ → g_ ≠ u2.heap.size := fun g_ e => by have h1 := (O1.lt g_ e).2; omega
        have jO2 : ∀ g_, (Value.slice a2 N.length c2).ownBlock = some g_ → g_ ≠ u2.heap.size := fun g_ e => by have h1 := (O2.lt g_ e).2; omega
        have jQ2 : ∀ g_, (Value.slice o2 D.length d2).ownBlock = some g_ → g_ ≠ u2.heap.size := fun g_ e => by have h1 := (Q2.lt g_ e).2; omega
        have O1 := O1.later kq
        have O2 := O2.later kq
        have Q2 := Q2.later kq
        have FP : BBox u3 u2.heap.size 0 (.slice none 0 0) := by rw [hy]; exact BBox.new u2 _ _ _
        have pa : w.heap.size ≤ u2.heap.size := hb2.size
        have hb3 : Below w.heap.size w u3 := hb2.trans (kq.mono hb2.size)
        rw [← hy]
        clear hy kq
        refine hK _ _ ⟨hb3, ?_⟩
        clear hK K hi
        refine wpAnyH_all (rs := [15]) (by kernel_rfl) (by simp) ?_
        intro i hi; obtain rfl : i = 15 := by simpa using hi
        refine wpOp_step rfl (fun K hK => ?_)
        rw [if_pos (by kernel_rfl)]
        have FQ := FP
        obtain ⟨⟨t0, t1⟩, tf⟩ := FP
        go_simp
        clear t0 t1 tf
        obtain ⟨uf, huf⟩ : ∃ y_, y_ = (u3.setCell ⟨u2.heap.size, 0, none⟩ (.int .i64 I)).setCell ⟨u2.heap.size, 1, none⟩ (.slice a2 N.length c2) := ⟨_, rfl⟩
        have FE : BBox uf (u2.heap.size) I (.slice a2 N.length c2) := by rw [huf]; exact FQ.put _ _
        have hbf : Below w.heap.size w uf := by rw [huf]; exact (hb3.setCell (p := ⟨u2.heap.size, 0, none⟩) pa _).setCell (p := ⟨u2.heap.size, 1, none⟩) pa _
        have O1 := O1.keep (w' := uf) (fun g_ e => by rw [huf, Below.heap_setCell _ _ _ _ (by show g_ ≠ u2.heap.size; exact jO1 g_ e), Below.heap_setCell _ _ _ _ (by show g_ ≠ u2.heap.size; exact jO1 g_ e)])
        have O2 := O2.keep (w' := uf) (fun g_ e => by rw [huf, Below.heap_setCell _ _ _ _ (by show g_ ≠ u2.heap.size; exact jO2 g_ e), Below.heap_setCell _ _ _ _ (by show g_ ≠ u2.heap.size; exact jO2 g_ e)])
        have Q2 := Q2.keep (w' := uf) (fun g_ e => by rw [huf, Below.heap_setCell _ _ _ _ (by show g_ ≠ u2.heap.size; exact jQ2 g_ e), Below.heap_setCell _ _ _ _ (by show g_ ≠ u2.heap.size; exact jQ2 g_ e)])
        rw [← huf]
        clear huf FQ
        refine hK _ _ ⟨hbf, ?_⟩
        clear hK K hi
        refine takeW 16 10 (.slice o2 D.length d2) rfl rfl (by kernel_rfl) (by kernel_rfl) (by kernel_rfl) (fun _ _ _ h => h) (by kernel_rfl) (by (intro w hSw; go_simp)) (by assumption) ?_
        simp only [List.set_cons_zero, List.set_cons_succ]
        refine wpAnyH_done (by kernel_rfl) ?_ _
        have QZ := Q2.base bb
        go_wp2
        go_ret
        exact ⟨o2, d2, rfl, QZ, hbf⟩
      · refine wpOp_step rfl (fun K hK => ?_)
        rw [if_pos (by kernel_rfl)]
        go_simp
        obtain ⟨u2, hy⟩ : ∃ y_, y_ = u1.alloc (Obj.cells #[.int .i64 0, .slice none 0 0] 26) := ⟨_, rfl⟩
        have kq : Below u1.heap.size u1 u2 := by rw [hy]; exact below_new _
        have jO1 : ∀ g_, (Value.slice a1 M.length c1).ownBlock = some g_ → g_ ≠ u1.heap.size := fun g_ e => by have h1 := (O1.lt g_ e).2; omega
        have O1 := O1.later kq
        have FP : BBox u2 u1.heap.size 0 (.slice none 0 0) := by rw [hy]; exact BBox.new u1 _ _ _
        have pa : w.heap.size ≤ u1.heap.size := hb1.size
        have hb2 : Below w.heap.size w u2 := hb1.trans (kq.mono hb1.size)
        rw [← hy]
        clear hy kq
        refine hK _ _ ⟨hb2, ?_⟩
        clear hK K hi
        refine wpAnyH_all (rs := [10]) (by kernel_rfl) (by simp) ?_
        intro i hi; obtain rfl : i = 10 := by simpa using hi
        refine wpOp_step rfl (fun K hK => ?_)
        rw [if_pos (by kernel_rfl)]
        go_simp
        go_at_call 12
        refine (reactS I a1 c1 M x u2 O1.view.2 (by omega) O1.capn).mono ?_
        have bb : w.heap.size ≤ u2.heap.size := hb2.size
        rintro e u3 ⟨a2, c2, o2, d2, rfl, O2, Q2, _, kq⟩
        rw [hN.out] at O2 ⊢
        rw [hS.out] at Q2 ⊢
        have jO2 : ∀ g_, (Value.slice a2 N.length c2).ownBlock = some g_ → g_ ≠ u1.heap.size := fun g_ e => by have h1 := (O2.lt g_ e).1; have h2 := FP.lt; omega
        have jQ2 : ∀ g_, (Value.slice o2 D.length d2).ownBlock = some g_ → g_ ≠ u1.heap.size := fun g_ e => by have h1 := (Q2.lt g_ e).1; have h2 := FP.lt; omega
        have O1 := O1.later kq
        have FP := FP.below kq FP.lt
        have hb3 : Below w.heap.size w u3 := hb2.trans (kq.mono hb2.size)
        clear kq
        refine hK _ _ ⟨hb3, ?_⟩
        clear hK K hi
        refine takeW 11 18 (.tuple #[.agg #[.int .i64 I, .slice a2 N.length c2], .slice o2 D.length d2]) rfl rfl (by kernel_rfl) (by kernel_rfl) (by kernel_rfl) (fun _ _ _ h => h) (by kernel_rfl) (by (intro w hSw; go_simp)) (by assumption) ?_
        simp only [List.set_cons_zero, List.set_cons_succ]
        refine takeW 12 30 (.agg #[.int .i64 I, .slice a2 N.length c2]) rfl rfl (by kernel_rfl) (by kernel_rfl) (by kernel_rfl) (fun _ _ _ h => h) (by kernel_rfl) (by (intro w hSw; go_simp)) (by assumption) ?_
        simp only [List.set_cons_zero, List.set_cons_succ]
        refine takeW 13 31 (.slice o2 D.length d2) rfl rfl (by kernel_rfl) (by kernel_rfl) (by kernel_rfl) (fun _ _ _ h => h) (by kernel_rfl) (by (intro w hSw; go_simp)) (by assumption) ?_
        simp only [List.set_cons_zero, List.set_cons_succ]
        refine wpAnyH_all (rs := [15]) (by kernel_rfl) (by simp) ?_
        intro i hi; obtain rfl : i = 15 := by simpa using hi
        refine wpOp_step rfl (fun K hK => ?_)
        rw [if_pos (by kernel_rfl)]
        have FQ := FP
        obtain ⟨⟨t0, t1⟩, tf⟩ := FP
        go_simp
        clear t0 t1 tf
        obtain ⟨uf, huf⟩ : ∃ y_, y_ = (u3.setCell ⟨u1.heap.size, 0, none⟩ (.int .i64 I)).setCell ⟨u1.heap.size, 1, none⟩ (.slice a2 N.length c2) := ⟨_, rfl⟩
        have FE : BBox uf (u1.heap.size) I (.slice a2 N.length c2) := by rw [huf]; exact FQ.put _ _
        have hbf : Below w.heap.size w uf := by rw [huf]; exact (hb3.setCell (p := ⟨u1.heap.size, 0, none⟩) pa _).setCell (p := ⟨u1.heap.size, 1, none⟩) pa _
        have O1 := O1.keep (w' := uf) (fun g_ e => by rw [huf, Below.heap_setCell _ _ _ _ (by show g_ ≠ u1.heap.size; exact jO1 g_ e), Below.heap_setCell _ _ _ _ (by show g_ ≠ u1.heap.size; exact jO1 g_ e)])
        have O2 := O2.keep (w' := uf) (fun g_ e => by rw [huf, Below.heap_setCell _ _ _ _ (by show g_ ≠ u1.heap.size; exact jO2 g_ e), Below.heap_setCell _ _ _ _ (by show g_ ≠ u1.heap.size; exact jO2 g_ e)])
        have Q2 := Q2.keep (w' := uf) (fun g_ e => by rw [huf, Below.heap_setCell _ _ _ _ (by show g_ ≠ u1.heap.size; exact jQ2 g_ e), Below.heap_setCell _ _ _ _ (by show g_ ≠ u1.heap.size; exact jQ2 g_ e)])
        rw [← huf]
        clear huf FQ
        refine hK _ _ ⟨hbf, ?_⟩
        clear hK K hi
        refine takeW 16 10 (.slice o2 D.length d2) rfl rfl (by kernel_rfl) (by kernel_rfl) (by kernel_rfl) (fun _ _ _ h => h) (by kernel_rfl) (by (intro w hSw; go_simp)) (by assumption) ?_
        simp only [List.set_cons_zero, List.set_cons_succ]
        refine wpAnyH_done (by kernel_rfl) ?_ _
        have QZ := Q2.base bb
        go_wp2
        go_ret
        exact ⟨o2, d2, rfl, QZ, hbf⟩
    · refine wpOp_step rfl (fun K hK => ?_)
      rw [if_pos (by kernel_rfl)]
      go_simp
      obtain ⟨u1, hy⟩ : ∃ y_, y_ = u0.alloc (Obj.cells #[.int .i64 0, .slice none 0 0] 26) := ⟨_, rfl⟩
      have kq : Below u0.heap.size u0 u1 := by rw [hy]; exact below_new _
      have FP : BBox u1 u0.heap.size 0 (.slice none 0 0) := by rw [hy]; exact BBox.new u0 _ _ _
      have pa : w.heap.size ≤ u0.heap.size := hb0.size
      have hb1 : Below w.heap.size w u1 := hb0.trans (kq.mono hb0.size)
      rw [← hy]
      clear hy kq
      refine hK _ _ ⟨hb1, ?_⟩
      clear hK K hi
      refine wpAnyH_all (rs := [5]) (by kernel_rfl) (by simp) ?_
      intro i hi; obtain rfl : i = 5 := by simpa using hi
      refine wpOp_step rfl (fun K hK => ?_)
      rw [if_pos (by kernel_rfl)]
      go_simp
      go_at_call 18
      refine (show Calls _ _ _ _ _ by have h_ := bofS id n (some ⟨b, off, none⟩) cap (X.take k) u1 (hvT.below hb1 (fun a e _ => by cases e; exact hcB)) (by rw [hkl.out]; omega); rw [hkl.out] at h_; exact h_).mono ?_
      rintro e u2 ⟨a1, c1, rfl, O1, kq⟩
      rw [hM.out] at O1 ⊢
      rw [hI.out]
      have jO1 : ∀ g_, (Value.slice a1 M.length c1).ownBlock = some g_ → g_ ≠ u0.heap.size := fun g_ e => by have h1 := (O1.lt g_ e).1; have h2 := FP.lt; omega
      have FP := FP.below kq FP.lt
      have hb2 : Below w.heap.size w u2 := hb1.trans (kq.mono hb1.size)
      clear kq
      refine hK _ _ ⟨hb2, ?_⟩
      clear hK K hi
      refine wpAnyH_all (rs := [10]) (by kernel_rfl) (by simp) ?_
      intro i hi; obtain rfl : i = 10 := by simpa using hi
      refine wpOp_step rfl (fun K hK => ?_)
      rw [if_pos (by kernel_rfl)]
      go_simp
      go_at_call 12
      refine (reactS I a1 c1 M x u2 O1.view.2 (by omega) O1.capn).mono ?_
      have bb : w.heap.size ≤ u2.heap.size := hb2.size
      rintro e u3 ⟨a2, c2, o2, d2, rfl, O2, Q2, _, kq⟩
      rw [hN.out] at O2 ⊢
      rw [hS.out] at Q2 ⊢
      have jO2 : ∀ g_, (Value.slice a2 N.length c2).ownBlock = some g_ → g_ ≠ u0.heap.size := fun g_ e => by have h1 := (O2.lt g_ e).1; have h2 := FP.lt; omega
      have jQ2 : ∀ g_, (Value.slice o2 D.length d2).ownBlock = some g_ → g_ ≠ u0.heap.size := fun g_ e => by have h1 := (Q2.lt g_ e).1; have h2 := FP.lt; omega
      have O1 := O1.later kq
      have FP := FP.below kq FP.lt
      have hb3 : Below w.heap.size w u3 := hb2.trans (kq.mono hb2.size)
      clear kq
      refine hK _ _ ⟨hb3, ?_⟩
      clear hK K hi
      refine takeW 11 18 (.tuple #[.agg #[.int .i64 I, .slice a2 N.length c2], .slice o2 D.length d2]) rfl rfl (by kernel_rfl) (by kernel_rfl) (by kernel_rfl) (fun _ _ _ h => h) (by kernel_rfl) (by (intro w hSw; go_simp)) (by assumption) ?_
      simp only [List.set_cons_zero, List.set_cons_succ]
      refine takeW 12 30 (.agg #[.int .i64 I, .slice a2 N.length c2]) rfl rfl (by kernel_rfl) (by kernel_rfl) (by kernel_rfl) (fun _ _ _ h => h) (by kernel_rfl) (by (intro w hSw; go_simp)) (by assumption) ?_
      simp only [List.set_cons_zero, List.set_cons_succ]
      refine takeW 13 31 (.slice o2 D.length d2) rfl rfl (by kernel_rfl) (by kernel_rfl) (by kernel_rfl) (fun _ _ _ h => h) (by kernel_rfl) (by (intro w hSw; go_simp)) (by assumption) ?_
      simp only [List.set_cons_zero, List.set_cons_succ]
      refine wpAnyH_all (rs := [15]) (by kernel_rfl) (by simp) ?_
      intro i hi; obtain rfl : i = 15 := by simpa using hi
      refine wpOp_step rfl (fun K hK => ?_)
      rw [if_pos (by kernel_rfl)]
      have FQ := FP
      obtain ⟨⟨t0, t1⟩, tf⟩ := FP
      go_simp
      clear t0 t1 tf
      obtain ⟨uf, huf⟩ : ∃ y_, y_ = (u3.setCell ⟨u0.heap.size, 0, none⟩ (.int .i64 I)).setCell ⟨u0.heap.size, 1, none⟩ (.slice a2 N.length c2) := ⟨_, rfl⟩
      have FE : BBox uf (u0.heap.size) I (.slice a2 N.length c2) := by rw [huf]; exact FQ.put _ _
      have hbf : Below w.heap.size w uf := by rw [huf]; exact (hb3.setCell (p := ⟨u0.heap.size, 0, none⟩) pa _).setCell (p := ⟨u0.heap.size, 1, none⟩) pa _
      have O1 := O1.keep (w' := uf) (fun g_ e => by rw [huf, Below.heap_setCell _ _ _ _ (by show g_ ≠ u0.heap.size; exact jO1 g_ e), Below.heap_setCell _ _ _ _ (by show g_ ≠ u0.heap.size; exact jO1 g_ e)])
      have O2 := O2.keep (w' := uf) (fun g_ e => by rw [huf, Below.heap_setCell _ _ _ _ (by show g_ ≠ u0.heap.size; exact jO2 g_ e), Below.heap_setCell _ _ _ _ (by show g_ ≠ u0.heap.size; exact jO2 g_ e)])
      have Q2 := Q2.keep (w' := uf) (fun g_ e => by rw [huf, Below.heap_setCell _ _ _ _ (by show g_ ≠ u0.heap.size; exact jQ2 g_ e), Below.heap_setCell _ _ _ _ (by show g_ ≠ u0.heap.size; exact jQ2 g_ e)])
      rw [← huf]
      clear huf FQ
      refine hK _ _ ⟨hbf, ?_⟩
      clear hK K hi
      refine takeW 16 10 (.slice o2 D.length d2) rfl rfl (by kernel_rfl) (by kernel_rfl) (by kernel_rfl) (fun _ _ _ h => h) (by kernel_rfl) (by (intro w hSw; go_simp)) (by assumption) ?_
      simp only [List.set_cons_zero, List.set_cons_succ]
      refine wpAnyH_done (by kernel_rfl) ?_ _
      have QZ := Q2.base bb
      go_wp2
      go_ret
      exact ⟨o2, d2, rfl, QZ, hbf⟩
  · have d0 : decide (0 ≤ i ∧ i ≤ (X.length : Int) - 1) = false := decide_eq_false h0
    have hD : sayR id n X i = [] := by unfold sayR sayL; rw [if_neg (by omega)]
    rw [hD]
    clear hD
    have O0 : FOwn ouEnc 8 38 w.heap.size (w.alloc (Obj.cells #[] 38)) (.slice (some ⟨w.heap.size, 0, none⟩) 0 0) ([] : List Ou) := FOwn.empty w
    have B0 := below_new (w := w) (Obj.cells #[] 38)
    go_enter Try.func22, Try.ntmps22
    go_wp2_with fail
    go_at_call 72
    refine (inB i 0 ((X.length : Int) - 1) w).mono ?_
    rintro e w_ ⟨rfl, hw_⟩
    rw [d0, hw_]
    clear d0 h0 hw_
    go_wp2
    go_ret
    exact ⟨_, _, rfl, O0, B0⟩

end Go.Proofs.Ytghmmcenjdbfgaa
namespace Go.Proofs.Ytghmmcenjdbfgaa
open Go.ChangeShapes Go.WideShapes Go.ChangeAt Go.RowKit
open Go.ChangeMaps (open_string shut_string)
set_option linter.unusedVariables false
set_option maxRecDepth 100000

/-- The slice at 'ad' of 'len' bools reads as f 0, f 1, .. -/
def ViewB (w : World) (ad : Option Addr) (len : Nat) (f : Nat → Bool) : Prop :=
  0 < len → ∃ b off, ad = some ⟨b, off, none⟩ ∧ ∀ i, i < len → w.cell? ⟨b, off + i, none⟩ = some (.bool (f i))
theorem ViewB.mk0 {w : World} {b len : Nat} {f : Nat → Bool} (h : ∀ i, i < len → w.cell? ⟨b, i, none⟩ = some (.bool (f i))) : ViewB w (some ⟨b, 0, none⟩) len f :=
  fun _ => ⟨b, 0, rfl, fun i hi => by rw [Nat.zero_add]; exact h i hi⟩
theorem ViewB.carry {w w' : World} {ad : Option Addr} {len : Nat} {f : Nat → Bool} (h : ViewB w ad len f) (hb : ∀ a, ad = some a → 0 < len → w'.heap[a.block]? = w.heap[a.block]?) : ViewB w' ad len f :=
  fun hp => by
    obtain ⟨b, off, e, hc⟩ := h hp
    exact ⟨b, off, e, fun i hi => (World.cell?_of_block (a := ⟨b, off + i, none⟩) (hb ⟨b, off, none⟩ e hp)).trans (hc i hi)⟩
theorem ViewB.congr {w : World} {ad : Option Addr} {len : Nat} {f g : Nat → Bool} (h : ViewB w ad len f) (e : ∀ i, i < len → f i = g i) : ViewB w ad len g :=
  fun hp => by
    obtain ⟨b, off, e', hc⟩ := h hp
    exact ⟨b, off, e', fun i hi => by rw [← e i hi]; exact hc i hi⟩
theorem ViewB.lt {w : World} {ad : Option Addr} {len : Nat} {f : Nat → Bool} (h : ViewB w ad len f) (x : Addr) (e : ad = some x) (hp : 0 < len) : x.block < w.heap.size := by
  obtain ⟨b, off, e', hc⟩ := h hp
  rw [e] at e'
  cases e'
  exact World.block_lt_of_cell? w _ (hc 0 hp)
theorem ViewB.below {w w' : World} {ad : Option Addr} {len B : Nat} {f : Nat → Bool} (h : ViewB w ad len f) (k : Below B w w') (hB : w.heap.size ≤ B) : ViewB w' ad len f :=
  h.carry (fun x e hp => k.block _ (Nat.lt_of_lt_of_le (h.lt x e hp) hB))
theorem Try.infoB' : (Try.prog.info? 4).map (fun i => (i.zero, i.size, i.bytes)) = some (some (.bool false), 1, 1) := by kernel_rfl
/-- What a loop that fills the block B has done behind k rounds. -/
def FilledB (B len : Nat) (f : Nat → Bool) (k : Nat) (w wr : World) : Prop :=
  Below B w wr ∧ B < wr.heap.size ∧ (∀ j, j < len → ∃ u, wr.cell? ⟨B, j, none⟩ = some u) ∧ (∀ j, j < len → wr.frozen? ⟨B, j, none⟩ = false) ∧ ∀ j, j < k → wr.cell? ⟨B, j, none⟩ = some (.bool (f j))
theorem FilledB.step {B len : Nat} {f : Nat → Bool} {k : Nat} {w wr : World} (h : FilledB B len f k w wr) (hk : k < len) : FilledB B len f (k + 1) w (wr.setCell ⟨B, k, none⟩ (.bool (f k))) := by
  obtain ⟨h1, h2, h3, h4, h5⟩ := h
  refine ⟨h1.setCell (Nat.le_refl _) _, by simpa using h2, ?_, ?_, ?_⟩
  · intro j hj
    exact cell?_setCell_some (h3 j hj).choose_spec
  · intro j hj
    simpa using h4 j hj
  · intro j hj
    by_cases e : j = k
    · subst e
      exact cell_set_same (h3 j hk)
    · rw [cell_set_ne e]
      exact h5 j (by omega)

theorem filledB_made {w w1 : World} {len : Nat} {f : Nat → Bool} {xs : List Value} (hown : w1.ownsRow w.heap.size 4 1 (.slice (some ⟨w.heap.size, 0, none⟩) len len) len xs) (hgrow : w.grownBy w1 none) : FilledB w.heap.size len f 0 w w1 := by
  refine ⟨(Below.refl _ _).grown hgrow (Nat.le_refl _) (by simp), ?_, ?_, ?_, fun j hj => by omega⟩
  · rcases hown.2 with ⟨h, _⟩ | ⟨g, cap, cur, h, _, hg, _⟩
    · simp at h
    · simp only [Value.slice.injEq, Option.some.injEq, Addr.mk.injEq, and_true, true_and] at h
      obtain ⟨rfl, _⟩ := h
      exact (Array.getElem?_eq_some_iff.1 hg).1
  · intro j hj
    have hx := hown.1
    rw [hown.cellAt j (by omega)]
    exact ⟨xs[j]'(by omega), List.getElem?_eq_getElem (by omega)⟩
  · intro j hj
    exact hown.frozenAt j

/-- The mark of a bool. -/
def mkB (k : Int) : Bool := k % 3 == 0
/-- What markBoolS has done behind k rounds, at a row at (b, off). -/
def MarkedB (b off len : Nat) (m : Int) (k : Nat) (w wr : World) : Prop :=
  w.grownBy wr (some b) ∧ (∀ j, j < len → (∃ u, wr.cell? ⟨b, off + j, none⟩ = some u) ∧ wr.frozen? ⟨b, off + j, none⟩ = false) ∧ ∀ j, j < k → wr.cell? ⟨b, off + j, none⟩ = some (.bool (mkB (m + j)))
theorem MarkedB.step {b off len : Nat} {m : Int} {k : Nat} {w wr : World} (h : MarkedB b off len m k w wr) (hk : k < len) : MarkedB b off len m (k + 1) w (wr.setCell ⟨b, off + k, none⟩ (.bool (mkB (m + k)))) := by
  obtain ⟨h1, h2, h3⟩ := h
  refine ⟨⟨h1.os, h1.tape, h1.output, by simpa using h1.size, fun j hj hne => ?_⟩, fun j hj => ⟨?_, ?_⟩, fun j hj => ?_⟩
  · rw [Below.heap_setCell _ _ _ _ (fun e => hne (by rw [e]))]
    exact h1.block j hj hne
  · exact cell?_setCell_some (h2 j hj).1.choose_spec
  · simpa using (h2 j hj).2
  · by_cases e : j = k
    · subst e
      exact cell_set_same (h2 j hk).1
    · rw [cell_set_ne (by omega)]
      exact h3 j (by omega)
theorem tmod3 {x : Int} (h : 0 ≤ x) : x.tmod 3 = x % 3 := Int.tmod_eq_emod_of_nonneg h
end Go.Proofs.Ytghmmcenjdbfgaa
namespace Go.Proofs.Ytghmmcenjdbfgaa
open Go.ChangeShapes Go.WideShapes Go.ChangeAt Go.RowKit
open Go.ChangeMaps (open_string shut_string)
set_option linter.unusedVariables false
set_option maxRecDepth 100000

def boEnc (x : Bool) : List Value := [.bool x]
theorem boEnc_len (x : Bool) : (boEnc x).length = 1 := rfl
theorem boEnc_ones (L : List Bool) : ∀ u ∈ fcells boEnc L, u.oneCell' = true := by
  induction L with
  | nil => intro u h; cases h
  | cons x L ih =>
    intro u h
    simp only [fcells, boEnc, List.mem_append, List.mem_cons, List.not_mem_nil, or_false] at h
    rcases h with rfl | h
    · rfl
    · exact ih u h
theorem boInfo : (Try.prog.info? 4).map (fun i => (i.zero, i.size, i.bytes)) = some (some (.bool false), 1, 1) := by kernel_rfl
theorem FView.oneB (w : World) (t : TypeId) (x : Bool) : FView boEnc (w.alloc (Obj.cells #[.bool x] t)) (some ⟨w.heap.size, 0, none⟩) [x] := by
  intro _
  refine ⟨w.heap.size, 0, rfl, fun j v hv => ?_⟩
  match j, hv with
  | 0, hv => cases hv; simp [go_sem]
  | j + 1, hv => simp [fcells, boEnc] at hv
theorem FView.toB {w : World} {ad : Option Addr} {L : List Bool} (h : FView boEnc w ad L) : ViewB w ad L.length (fun i => L.getD i false) := fun hp => by
  obtain ⟨b, off, e, _⟩ := h hp
  refine ⟨b, off, e, fun i hi => ?_⟩
  subst e
  have := h.at_ boEnc_len false hi 0 _ rfl
  rw [Nat.mul_one, Nat.add_zero] at this
  exact this
/-- Open of each port. -/
def gatesR (L : List Pt) : List Bool := L.map Pt.op
theorem gatesR_len (L : List Pt) : (gatesR L).length = L.length := List.length_map ..
theorem gatesR_at (L : List Pt) {k : Nat} (hk : k < L.length) : (gatesR L).getD k false = (L.getD k Pt.nil).op := by
  unfold gatesR; simp [List.getD, hk]
theorem gatesR_take (L : List Pt) {k : Nat} (hk : k < L.length) : gatesR (L.take (k + 1)) = gatesR (L.take k) ++ [(L.getD k Pt.nil).op] := by
  unfold gatesR
  rw [List.take_add_one, List.map_append]
  have e : L[k]?.toList = [L.getD k Pt.nil] := by simp [List.getD, hk]
  rw [e]; rfl

end Go.Proofs.Ytghmmcenjdbfgaa
namespace Go.Proofs.Ytghmmcenjdbfgaa
open Go.ChangeShapes Go.WideShapes Go.ChangeAt Go.RowKit
open Go.ChangeMaps (open_string shut_string)
set_option linter.unusedVariables false
set_option maxRecDepth 100000

set_option maxHeartbeats 4000000 in
theorem gatesI12r (id : Int) (ad : Option Addr) (cap : Nat) (L : List Pt) (w : World) (hv : FView ptEnc w ad L) (hl : L.length ≤ 1048576) :
    Calls Try.prog 15 #[.agg #[.int .i64 id, .slice ad L.length cap]] w fun e w' => ∃ a c, e = .returned (.slice a L.length c) ∧ FOwn boEnc 1 4 w.heap.size w' (.slice a L.length c) (gatesR L) ∧ Below w.heap.size w w' := by
  obtain ⟨i0, hi, hz0, hz1, hz2⟩ := info_parts boInfo
  obtain ⟨y, hy⟩ : ∃ y, y = w.alloc (Obj.cells #[.int .i64 id, .slice ad L.length cap] 26) := ⟨_, rfl⟩
  have B0 : Below w.heap.size w y := by rw [hy]; exact below_new _
  have A : BrAt y w.heap.size id (.slice ad L.length cap) := by rw [hy]; exact BrAt.new w _ _ _
  have hB := hv.lt ptEnc_len (by omega)
  have hV := hv.below B0 hB
  have hB := hV.lt ptEnc_len (by omega)
  have S0 := A.lt
  clear hv
  go_enter Try.func15, Try.ntmps15
  go_upto_region 1 with fail
  rw [← hy]
  clear hy
  have cc := A
  obtain ⟨a0, a1'⟩ := cc
  go_wp2_with (first | (refine wpList_make_full _ rfl _ _ 40 rfl y.heap.size 4 i0 (.bool false) 1 Try.underlying40 hi hz0 hz1 .i64 .i64 _ _ L.length rfl rfl rfl rfl ?c1 ?c2 ?c3 ?_))
  case c1 => rw [hz2]; omega
  case c2 => unfold maxLen; omega
  case c3 => exact Nat.le_refl _
  intro w1 hown hgrow
  have hgl : (gatesR L).length = L.length := gatesR_len L
  have F0 : FFill boEnc 1 4 y.heap.size w1 y.heap.size (gatesR L) 0 := FFill.start (by rw [hgl]; exact hown)
  have B1 : Below y.heap.size y w1 := (Below.refl _ _).grown hgrow (Nat.le_refl _) (by simp)
  clear hown hgrow a0 a1'
  have A1 := A.below B1 S0
  have cc := A1
  obtain ⟨a0, a1'⟩ := cc
  go_wp2
  clear a0 a1'
  go_loopw [13] (fun i wr => ∃ k : Nat, k ≤ L.length ∧ i = .int .i64 k ∧ FFill boEnc 1 4 y.heap.size wr y.heap.size (gatesR L) k ∧ Below y.heap.size y wr) (fun i _ => L.length - (intOf i).toNat)
  case atStart => exact ⟨0, Nat.zero_le _, rfl, F0, B1⟩
  case round =>
    obtain ⟨k, hk, rfl, F, B⟩ := hrel
    clear F0 B1 A1
    by_cases hlt : k < L.length
    · obtain ⟨b, off, rfl, _⟩ := hV (by omega)
      obtain ⟨h, hh⟩ : ∃ h, L.getD k Pt.nil = h := ⟨_, rfl⟩
      have hck : PtAtO wr b (off + k * 11) h := by
        rw [← hh]
        exact ptAtO_of ((hV.below B hB).at_ ptEnc_len Pt.nil hlt)
      obtain ⟨c0, c1, c2, c3, c4, c5, c6, c7, c8, c9, c10⟩ := hck
      have hsz := F.lt
      obtain ⟨u, hu⟩ : ∃ u, u = wr.alloc (Obj.cells #[.bool h.up, .bool h.has, .int .i64 h.r, .int .i64 h.c, .int .i64 h.b, .int .i64 h.p, .int .i64 h.h, .int .i64 h.l, .int .i64 h.ro, .int .i64 h.wa, .bool h.op] 43) := ⟨_, rfl⟩
      have ku : Below wr.heap.size wr u := by rw [hu]; exact below_new _
      have G := F.keep (ku.block _ hsz.2)
      have B2 := B.trans (ku.mono (Nat.le_of_lt hsz.2))
      have U : PtAt u wr.heap.size h := by rw [hu]; exact ptAt_box wr _ _
      obtain ⟨v0, hv0⟩ := G.cell (k * 1) (by rw [hgl]; omega)
      have f0 := G.frozen (k * 1)
      rw [Nat.mul_one] at hv0 f0
      have G1 := G.step boEnc_len false (by rw [hgl]; exact hlt)
      have B3 := below_putAll (Nat.le_refl _) (boEnc h.op) (k * 1) B2
      rw [gatesR_at L hlt, hh] at G1
      simp only [boEnc, putAll, Nat.mul_one] at G1 B3
      clear F G B B2 hh hsz ku
      go_upto_region 5 with fail
      rw [← hu]
      clear hu c0 c1 c2 c3 c4 c5 c6 c7 c8 c9 c10
      obtain ⟨c0, c1, c2, c3, c4, c5, c6, c7, c8, c9, c10⟩ := U
      go_wp2
      go_roundw
      case rel => exact ⟨k + 1, by omega, by go_num, G1, B3⟩
      case measure => simp [intOf]; omega
    · obtain rfl : k = L.length := by omega
      have OZ : FOwn boEnc 1 4 w.heap.size wr (.slice (some ⟨y.heap.size, 0, none⟩) L.length L.length) (gatesR L) := by
        have := FFill.done boEnc_len (L := gatesR L) (by rw [hgl]; exact F)
        rw [hgl] at this
        exact this.base B0.size
      have bZ := B0.trans (B.mono B0.size)
      go_wp2
      go_ret
      exact ⟨_, _, rfl, OZ, bZ⟩
theorem gatesI12 (id : Int) (ad : Option Addr) (cap : Nat) (L : List Pt) (w : World) (hv : FView ptEnc w ad L) (hl : L.length ≤ 1048576) :
    Calls Try.prog 15 #[.agg #[.int .i64 id, .slice ad L.length cap]] w fun e w' => ∃ a c, e = .returned (.slice a (gatesR L).length c) ∧ FOwn boEnc 1 4 w.heap.size w' (.slice a (gatesR L).length c) (gatesR L) ∧ Below w.heap.size w w' := by
  rw [gatesR_len]
  exact gatesI12r id ad cap L w hv hl

end Go.Proofs.Ytghmmcenjdbfgaa
namespace Go.Proofs.Ytghmmcenjdbfgaa
open Go.ChangeShapes Go.WideShapes Go.ChangeAt Go.RowKit
open Go.ChangeMaps (open_string shut_string)
set_option linter.unusedVariables false
set_option maxRecDepth 100000

set_option maxHeartbeats 4000000 in
theorem gatesS12r (id : Int) (ad : Option Addr) (cap : Nat) (L : List Pt) (w : World) (hv : FView ptEnc w ad L) (hl : L.length ≤ 1048576) :
    Calls Try.prog 25 #[.agg #[.int .i64 id, .slice ad L.length cap]] w fun e w' => ∃ a c, e = .returned (.slice a L.length c) ∧ FOwn boEnc 1 4 w.heap.size w' (.slice a L.length c) (gatesR L) ∧ Below w.heap.size w w' := by
  obtain ⟨j0, hj, hj0, hj1, hj2⟩ := info_parts boInfo
  obtain ⟨y, hy⟩ : ∃ y, y = w.alloc (Obj.cells #[.int .i64 id, .slice ad L.length cap] 26) := ⟨_, rfl⟩
  have B0 : Below w.heap.size w y := by rw [hy]; exact below_new _
  have A : BrAt y w.heap.size id (.slice ad L.length cap) := by rw [hy]; exact BrAt.new w _ _ _
  have hB := hv.lt ptEnc_len (by omega)
  have hV := hv.below B0 hB
  have hB := hV.lt ptEnc_len (by omega)
  have S0 := A.lt
  clear hv
  obtain ⟨y2, hy2⟩ : ∃ y2, y2 = y.alloc (Obj.cells #[] 4) := ⟨_, rfl⟩
  have O0 : FOwn boEnc 1 4 y.heap.size y2 (.slice (some ⟨y.heap.size, 0, none⟩) 0 0) (gatesR (L.take 0)) := by
    rw [hy2]; exact FOwn.empty y
  have B1 : Below y.heap.size y y2 := by rw [hy2]; exact below_new _
  go_enter Try.func25, Try.ntmps25
  go_upto_region 1 with fail
  rw [← hy]
  clear hy
  go_upto_region 2 with fail
  rw [← hy2]
  clear hy2
  go_wp2
  go_loopw [3, 4] (fun v q wr => ∃ k : Nat, k ≤ L.length ∧ q = .int .i64 (k : Int) ∧ FOwn boEnc 1 4 y.heap.size wr v (gatesR (L.take k)) ∧ Below y.heap.size y wr) (fun _ q _ => L.length - (intOf q).toNat)
  case atStart => exact ⟨0, Nat.zero_le _, rfl, O0, B1⟩
  case round =>
    obtain ⟨k, hk1, rfl, O, kb⟩ := hrel
    clear O0 B1
    have hA := A.below kb S0
    obtain ⟨x1, x2⟩ := hA
    by_cases hlt : k < L.length
    · have hst := gatesR_take L hlt
      obtain ⟨b, off, rfl, _⟩ := hV (by omega)
      obtain ⟨h, hh⟩ : ∃ h, L.getD k Pt.nil = h := ⟨_, rfl⟩
      have hck : PtAtO wr b (off + k * 11) h := by
        rw [← hh]
        exact ptAtO_of ((hV.below kb hB).at_ ptEnc_len Pt.nil hlt)
      rw [hh] at hst
      have hop := hck.c10
      clear hck hh
      obtain ⟨M, hM⟩ : ∃ M, gatesR (L.take k) = M := ⟨_, rfl⟩
      have hMl : M.length ≤ k := by rw [← hM, gatesR_len]; simp; omega
      rw [hM] at O hst
      clear hM
      obtain ⟨ak, ck2, rfl⟩ := O.open_
      replace hst : Hid _ := hst
      have V1 := FView.oneB wr 4 h.op
      have kx : Below wr.heap.size wr (wr.alloc (Obj.cells #[.bool h.op] 4)) := below_new _
      have O4 := O.later kx
      have b4 := kb.trans (kx.mono kb.size)
      have s4 := b4.size
      clear kx
      go_wp2_with (first | (at_builtin; refine fappL boEnc_len boEnc_ones rfl _ _ 40 rfl y.heap.size 4 j0 (.bool false) 1 Try.underlying40 hj hj0 hj1 hj2 rfl (by decide) (by decide) (.slice ak M.length ck2) M rfl O4 (some ⟨wr.heap.size, 0, none⟩) 1 [h.op] rfl (fun e => by cases e) V1 ?z0 ?z1 ?_) | go_in)
      case z0 => first | omega | (simp; omega)
      case z1 => first | omega | (simp; omega)
      intro vZ wZ hownZ hgrowZ _
      have hob : ∀ q, (Value.slice ak M.length ck2).ownBlock = some q → y.heap.size ≤ q := fun q e => (O4.lt q e).1
      have bZ : Below y.heap.size y wZ := b4.grown hgrowZ (by exact s4) hob
      clear hgrowZ V1 O4 hob O b4
      go_wp2
      go_roundw
      case rel => exact ⟨k + 1, by omega, by go_num, by rw [hst.out]; exact hownZ, bZ⟩
      case measure => simp [intOf]; omega
    · obtain rfl : k = L.length := by omega
      rw [List.take_length] at O
      obtain ⟨ak, ck2, rfl⟩ := O.open_
      have OZ := O.base B0.size
      rw [gatesR_len] at OZ ⊢
      have bZ := B0.trans (kb.mono B0.size)
      go_wp2
      go_ret
      exact ⟨_, _, rfl, OZ, bZ⟩
theorem gatesS12 (id : Int) (ad : Option Addr) (cap : Nat) (L : List Pt) (w : World) (hv : FView ptEnc w ad L) (hl : L.length ≤ 1048576) :
    Calls Try.prog 25 #[.agg #[.int .i64 id, .slice ad L.length cap]] w fun e w' => ∃ a c, e = .returned (.slice a (gatesR L).length c) ∧ FOwn boEnc 1 4 w.heap.size w' (.slice a (gatesR L).length c) (gatesR L) ∧ Below w.heap.size w w' := by
  rw [gatesR_len]
  exact gatesS12r id ad cap L w hv hl

end Go.Proofs.Ytghmmcenjdbfgaa
namespace Go.Proofs.Ytghmmcenjdbfgaa
open Go.ChangeShapes Go.WideShapes Go.ChangeAt Go.RowKit
open Go.ChangeMaps (open_string shut_string)
set_option linter.unusedVariables false
set_option maxRecDepth 100000

set_option maxHeartbeats 4000000 in
theorem brSame (id : Int) (ad ad' : Option Addr) (cap cap' : Nat) (L : List Pt) (w : World) (hv : FView ptEnc w ad L) (hv' : FView ptEnc w ad' L) (hl : L.length ≤ 1048576) :
    Calls Try.prog 13 #[.agg #[.int .i64 id, .slice ad L.length cap], .agg #[.int .i64 id, .slice ad' L.length cap']] w fun e w' => e = .returned (.bool true) ∧ Below w.heap.size w w' := by
  have hB := hv.lt ptEnc_len (by omega)
  have hB' := hv'.lt ptEnc_len (by omega)
  obtain ⟨y, hy⟩ : ∃ y, y = (w.alloc (Obj.cells #[.int .i64 id, .slice ad L.length cap] 26)).alloc (Obj.cells #[.int .i64 id, .slice ad' L.length cap'] 26) := ⟨_, rfl⟩
  have B0 : Below w.heap.size w y := by rw [hy]; exact ((Below.refl _ _).alloc (Nat.le_refl _) _).alloc (by simp) _
  have A0 : BrAt y w.heap.size id (.slice ad L.length cap) := by rw [hy]; constructor <;> simp [go_sem]
  have A1 : BrAt y (w.heap.size + 1) id (.slice ad' L.length cap') := by rw [hy]; constructor <;> simp [go_sem]
  have S0 := A1.lt
  have hv1 := hv.below B0 hB
  have hv1' := hv'.below B0 hB'
  clear hv hv' hB hB'
  go_enter Try.func13, Try.ntmps13
  go_upto_region 3 with fail
  rw [← hy]
  clear hy
  go_wp2
  go_loopw [5] (fun i wr => ∃ k : Nat, k ≤ L.length ∧ i = .int .i64 (k : Int) ∧ Below y.heap.size y wr) (fun i _ => L.length - (intOf i).toNat)
  case atStart => exact ⟨0, Nat.zero_le _, rfl, Below.refl _ _⟩
  case round =>
    obtain ⟨k, hk, rfl, K⟩ := hrel
    have A2 := A0.below K (by omega)
    have A3 := A1.below K S0
    have cc_ := A2
    obtain ⟨a0, a1⟩ := cc_
    by_cases hlt : k < L.length
    · have hv2 := hv1.below K (hv1.lt ptEnc_len (by omega))
      have hv2' := hv1'.below K (hv1'.lt ptEnc_len (by omega))
      obtain ⟨b, off, rfl, _⟩ := hv2 (by omega)
      obtain ⟨b', off', rfl, _⟩ := hv2' (by omega)
      obtain ⟨h, hh⟩ : ∃ h, L.getD k Pt.nil = h := ⟨_, rfl⟩
      have hc : ∀ Y, Below wr.heap.size wr Y → PtAtO Y b (off + k * 11) h := fun Y hY => by rw [← hh]; exact ptAtO_of ((hv2.below hY (hv2.lt ptEnc_len (by omega))).at_ ptEnc_len Pt.nil hlt)
      have hc' : ∀ Y, Below wr.heap.size wr Y → PtAtO Y b' (off' + k * 11) h := fun Y hY => by rw [← hh]; exact ptAtO_of ((hv2'.below hY (hv2'.lt ptEnc_len (by omega))).at_ ptEnc_len Pt.nil hlt)
      clear hh
      go_upto_region 6 with fail
      clear a0 a1 hv2 hv2'
      refine wp_region_held (S := fun Y => Below wr.heap.size wr Y) (by kernel_rfl) ?_
      change wpAnyH _ _ _ _ _ _ _ _ (World.drew _)
      have hb0 : Below wr.heap.size wr wr.drew := (Below.refl _ _).drew
      obtain ⟨u0, hy0⟩ : ∃ y_, y_ = wr.drew := ⟨_, rfl⟩
      rw [← hy0] at hb0 ⊢
      clear hy0
      refine takeW 0 27 (.pointer (some ⟨w.heap.size, 1, none⟩)) rfl rfl (by kernel_rfl) (by kernel_rfl) (by kernel_rfl) (fun _ _ _ h => h) (by kernel_rfl) (by (intro w hSw; go_simp)) (by assumption) ?_
      simp only [List.set_cons_zero, List.set_cons_succ]
      refine takeW 1 28 (.slice (some ⟨b, off, none⟩) L.length cap) rfl rfl (by kernel_rfl) (by kernel_rfl) (by kernel_rfl) (fun _ _ _ h => h) (by kernel_rfl) (by (intro Y hSw; obtain ⟨X0, X1⟩ := A2.below hSw A2.lt; go_simp)) (by assumption) ?_
      simp only [List.set_cons_zero, List.set_cons_succ]
      refine takeW 2 29 (.int .i64 (k : Int)) rfl rfl (by kernel_rfl) (by kernel_rfl) (by kernel_rfl) (fun _ _ _ h => h) (by kernel_rfl) (by (intro w hSw; go_simp)) (by assumption) ?_
      simp only [List.set_cons_zero, List.set_cons_succ]
      refine takeW 3 30 (.pointer (some ⟨b, off + k * 11, none⟩)) rfl rfl (by kernel_rfl) (by kernel_rfl) (by kernel_rfl) (fun _ _ _ h => h) (by kernel_rfl) (by (intro Y hSw; go_simp; try omega)) (by assumption) ?_
      simp only [List.set_cons_zero, List.set_cons_succ]
      refine takeW 4 31 (.agg #[.bool h.up, .bool h.has, .int .i64 h.r, .int .i64 h.c, .int .i64 h.b, .int .i64 h.p, .int .i64 h.h, .int .i64 h.l, .int .i64 h.ro, .int .i64 h.wa, .bool h.op]) rfl rfl (by kernel_rfl) (by kernel_rfl) (by kernel_rfl) (fun _ _ _ h => h) (by kernel_rfl) (by (intro Y hSw; obtain ⟨X0, X1, X2, X3, X4, X5, X6, X7, X8, X9, X10⟩ := hc Y hSw; go_simp)) (by assumption) ?_
      simp only [List.set_cons_zero, List.set_cons_succ]
      refine takeW 5 32 (.pointer (some ⟨w.heap.size + 1, 1, none⟩)) rfl rfl (by kernel_rfl) (by kernel_rfl) (by kernel_rfl) (fun _ _ _ h => h) (by kernel_rfl) (by (intro w hSw; go_simp)) (by assumption) ?_
      simp only [List.set_cons_zero, List.set_cons_succ]
      refine takeW 6 33 (.slice (some ⟨b', off', none⟩) L.length cap') rfl rfl (by kernel_rfl) (by kernel_rfl) (by kernel_rfl) (fun _ _ _ h => h) (by kernel_rfl) (by (intro Y hSw; obtain ⟨X0, X1⟩ := A3.below hSw A3.lt; go_simp)) (by assumption) ?_
      simp only [List.set_cons_zero, List.set_cons_succ]
      refine takeW 7 34 (.int .i64 (k : Int)) rfl rfl (by kernel_rfl) (by kernel_rfl) (by kernel_rfl) (fun _ _ _ h => h) (by kernel_rfl) (by (intro w hSw; go_simp)) (by assumption) ?_
      simp only [List.set_cons_zero, List.set_cons_succ]
      refine takeW 8 35 (.pointer (some ⟨b', off' + k * 11, none⟩)) rfl rfl (by kernel_rfl) (by kernel_rfl) (by kernel_rfl) (fun _ _ _ h => h) (by kernel_rfl) (by (intro Y hSw; go_simp; try omega)) (by assumption) ?_
      simp only [List.set_cons_zero, List.set_cons_succ]
      refine takeW 9 36 (.agg #[.bool h.up, .bool h.has, .int .i64 h.r, .int .i64 h.c, .int .i64 h.b, .int .i64 h.p, .int .i64 h.h, .int .i64 h.l, .int .i64 h.ro, .int .i64 h.wa, .bool h.op]) rfl rfl (by kernel_rfl) (by kernel_rfl) (by kernel_rfl) (fun _ _ _ h => h) (by kernel_rfl) (by (intro Y hSw; obtain ⟨X0, X1, X2, X3, X4, X5, X6, X7, X8, X9, X10⟩ := hc' Y hSw; go_simp)) (by assumption) ?_
      simp only [List.set_cons_zero, List.set_cons_succ]
      refine takeW 10 37 (.bool false) rfl rfl (by kernel_rfl) (by kernel_rfl) (by kernel_rfl) (fun _ _ _ h => h) (by kernel_rfl) (by (intro Y hSw; go_simp)) (by assumption) ?_
      simp only [List.set_cons_zero, List.set_cons_succ]
      refine wpAnyH_done (by kernel_rfl) ?_ _
      go_wp2
      go_roundw
      case rel => exact ⟨k + 1, by omega, by go_num, K.trans (hb0.mono K.size)⟩
      case measure => simp [intOf]; omega
    · obtain rfl : k = L.length := by omega
      have BZ := B0.trans (K.mono B0.size)
      go_wp2
      go_ret
      exact ⟨rfl, BZ⟩

end Go.Proofs.Ytghmmcenjdbfgaa
namespace Go.Proofs.Ytghmmcenjdbfgaa
open Go.ChangeShapes Go.WideShapes Go.ChangeAt Go.RowKit
open Go.ChangeMaps (open_string shut_string)
set_option linter.unusedVariables false
set_option maxRecDepth 100000

/-- What is known of a code that comes in: it reads as bytes. -/
structure CodeIn (w : World) (ad : Option Addr) (len : Nat) (f : Nat → Int) : Prop where
  lm : len ≤ maxLen
  view : View w ad len f
  lt : ∀ a, ad = some a → 0 < len → a.block < w.heap.size
  bytes : ∀ i, 0 ≤ f i ∧ f i ≤ 255
theorem codeIn_open {H : Type} {enc : TypeId × Value → H} {w : World} {r : Reach} {b0 : Nat} {v : Value} {d : DataW H} {p : List MemPlace} (hv : Value.okWide Try.prog w r b0 22 v) (h : DataW.Trod enc Try.prog w 0 (fun _ => true) true 22 v d p) :
    ∃ ad len cap f, v = .slice ad len cap ∧ CodeIn w ad len f := by
  obtain ⟨n, hn⟩ := h
  obtain ⟨a0, len0, cap0, rfl⟩ := okWide_slice (P := Try.prog) (t := 22) (e := 5) Try.underlying22 hv
  have hcell0 : ∀ x, (Value.slice a0 len0 cap0).cells.toList = [x] → Value.slice a0 len0 cap0 = x := fun x h => by simpa [Value.cells] using h
  rcases open_ints Try.underlying22 Try.underlying5 (by kernel_rfl) hn with ⟨hcs, _⟩ | ⟨x, l, cp, zs, hcs, _, hl, hm, hz, _, hcell, hwz⟩
  · exact ⟨none, 0, 0, fun _ => 0, hcell0 _ hcs, by unfold maxLen; omega, fun h => absurd h (by omega), fun a h => by simp at h, fun i => by simp⟩
  · simp at hz
    refine ⟨some x, l, cp, fun i => zs.getD i 0, hcell0 _ hcs, by omega, fun hp => ?_, fun a h hp => ?_, fun i => ?_⟩
    · obtain ⟨b, off, rfl, hc⟩ := ints_at hcell (by omega)
      exact ⟨b, off, rfl, fun i hi => hc i (by omega)⟩
    · obtain rfl : x = a := by simpa using h
      have hc := hcell 0 (by omega)
      simpa [Addr.add] using World.block_lt_of_cell? w _ hc
    · by_cases hi : i < zs.length
      · have := bounds_u8 (hwz (zs.getD i 0) (by simp [List.getD, hi]))
        exact this
      · simp [List.getD, List.getElem?_eq_none (by omega : zs.length ≤ i)]
theorem bigYes (ad : Option Addr) (len cap : Nat) (w : World) (h : (1048576 : Int) < (len : Int)) : Calls Try.prog 9 #[.slice ad len cap] w fun e w' => e = .returned (.bool true) ∧ w' = w := by
  go_enter Try.func9, Try.ntmps9
  go_wp2
  go_ret
  exact ⟨rfl, rfl⟩
theorem bigNo (ad : Option Addr) (len cap : Nat) (w : World) (h : len ≤ 1048576) : Calls Try.prog 9 #[.slice ad len cap] w fun e w' => e = .returned (.bool false) ∧ w' = w := by
  have h' : decide ((1048576 : Int) < (len : Int)) = false := decide_eq_false (by omega)
  go_enter Try.func9, Try.ntmps9
  go_wp2
  go_ret
  exact ⟨rfl, rfl⟩

end Go.Proofs.Ytghmmcenjdbfgaa
namespace Go.Proofs.Ytghmmcenjdbfgaa
open Go.ChangeShapes Go.WideShapes Go.ChangeAt Go.RowKit
open Go.ChangeMaps (open_string shut_string)
set_option linter.unusedVariables false
set_option maxRecDepth 100000

theorem atIs (ad : Option Addr) (len cap : Nat) (f : Nat → Int) (w : World) (h : Code0 w ad len f) : Calls Try.prog 19 #[.slice ad len cap, .int .i64 1] w fun e w' => ∃ n : Int, e = .returned (.int .i64 n) ∧ 0 ≤ n ∧ n ≤ 255 ∧ w' = w := by
  have hsm := h.small
  by_cases hl : (1 : Int) < (len : Int)
  · obtain ⟨b, off, rfl, hc⟩ := h.view (by omega)
    have c1 := hc 1 (by omega)
    have hb := h.bytes 1
    generalize f 1 = n at c1 hb
    obtain ⟨hb0, hb1⟩ := hb
    clear hc h
    go_enter Try.func19, Try.ntmps19
    go_wp2
    go_ret
    exact ⟨n, rfl, hb0, hb1, rfl⟩
  · have hl' : decide ((1 : Int) < (len : Int)) = false := decide_eq_false hl
    clear h
    go_enter Try.func19, Try.ntmps19
    go_wp2
    go_ret
    exact ⟨_, rfl, by omega, by omega, rfl⟩
set_option maxHeartbeats 400000 in
theorem sameFl (ad ad' : Option Addr) (len cap cap' : Nat) (f : Nat → Bool) (w : World) (hv : ViewB w ad len f) (hv' : ViewB w ad' len f) (hl : len ≤ 1048576) :
    Calls Try.prog 24 #[.slice ad len cap, .slice ad' len cap'] w fun e w' => e = .returned (.bool true) ∧ ∃ n, w' = w.drewN n := by
  go_enter Try.func24, Try.ntmps24
  go_wp2
  go_loopw [5] (fun i wr => ∃ k n : Nat, k ≤ len ∧ i = .int .i64 k ∧ wr = w.drewN n) (fun i _ => len - (intOf i).toNat)
  case atStart => exact ⟨0, 0, Nat.zero_le _, rfl, rfl⟩
  case round =>
    obtain ⟨k, n, hk, rfl, rfl⟩ := hrel
    by_cases hlt : k < len
    · obtain ⟨b, off, rfl, hc⟩ := hv (by omega)
      obtain ⟨b', off', rfl, hc'⟩ := hv' (by omega)
      have hck := hc k hlt
      have hck' := hc' k hlt
      go_wp2
      go_quiet (fail)
      go_wp2
      go_roundw
      case rel => exact ⟨k + 1, _, by omega, by go_num, rfl⟩
      case measure => simp [intOf]; omega
    · obtain rfl : k = len := by omega
      go_wp2
      go_ret
      exact ⟨rfl, _, rfl⟩

end Go.Proofs.Ytghmmcenjdbfgaa
namespace Go.Proofs.Ytghmmcenjdbfgaa
open Go.ChangeShapes Go.WideShapes Go.ChangeAt Go.RowKit
open Go.ChangeMaps (open_string shut_string)
set_option linter.unusedVariables false
set_option maxRecDepth 100000

theorem gates_port (L M : List Pt) : ∀ n o, o ∈ gatesTo L M n → o.k = 2 ∧ 0 ≤ o.pt ∧ o.pt < (n : Int)
  | 0, o, h => by simp [gatesTo] at h
  | n + 1, o, h => by
    simp only [gatesTo] at h
    rw [List.mem_append] at h
    rcases h with h | h
    · have := gates_port L M n o h
      exact ⟨this.1, this.2.1, by omega⟩
    · split at h
      · cases h
      · rw [List.mem_singleton] at h
        subst h
        exact ⟨rfl, by show (0 : Int) ≤ (n : Int); omega, by show (n : Int) < _; omega⟩
theorem told_kind (id : Int) (M : List Pt) : ∀ n o, o ∈ toldTo id M n → o.k = 1
  | 0, o, h => by simp [toldTo] at h
  | n + 1, o, h => by
    simp only [toldTo] at h
    rw [List.mem_append] at h
    rcases h with h | h
    · exact told_kind id M n o h
    · split at h
      · rw [List.mem_singleton] at h
        subst h
        rfl
      · cases h
/-- A gate that is told to turn is one of the bridge's. -/
theorem react_port {id : Int} {L : List Pt} {x : Ik} {o : Ou} (h : o ∈ reactO id L x) (hk : o.k = 2) : 0 ≤ o.pt ∧ o.pt < (L.length : Int) := by
  unfold reactO at h
  split at h
  · rw [List.mem_append] at h
    rcases h with h | h
    · exact (gates_port _ _ _ _ h).2
    · split at h
      · have := told_kind _ _ _ _ h
        omega
      · cases h
  · cases h
/-- How many of the first k lead to the least. -/
def rcnt (D : List Pt) : Nat → Nat
  | 0 => 0
  | k + 1 => rcnt D k + (if (D.getD k Pt.nil).ro = 1 then 1 else 0)
theorem rcnt_le (D : List Pt) : ∀ k, rcnt D k ≤ k
  | 0 => Nat.le_refl _
  | k + 1 => by have := rcnt_le D k; simp only [rcnt]; split <;> omega
theorem rcnt_pos (D : List Pt) : ∀ k, 0 < rcnt D k → ∃ i, i < k ∧ (D.getD i Pt.nil).ro = 1
  | 0, h => by simp [rcnt] at h
  | k + 1, h => by
    simp only [rcnt] at h
    by_cases e : (D.getD k Pt.nil).ro = 1
    · exact ⟨k, by omega, e⟩
    · rw [if_neg e] at h
      obtain ⟨i, hi, e2⟩ := rcnt_pos D k (by omega)
      exact ⟨i, by omega, e2⟩
theorem rcnt_once {D : List Pt} (h : ∀ i j, i < D.length → j < D.length → (D.getD i Pt.nil).ro = 1 → (D.getD j Pt.nil).ro = 1 → i = j) : ∀ k, k ≤ D.length → rcnt D k ≤ 1
  | 0, _ => Nat.zero_le _
  | k + 1, hk => by
    have ih := rcnt_once h k (by omega)
    simp only [rcnt]
    by_cases e : (D.getD k Pt.nil).ro = 1
    · rw [if_pos e]
      by_cases p : 0 < rcnt D k
      · obtain ⟨i, hi, e2⟩ := rcnt_pos D k p
        have := h i k (by omega) (by omega) e2 e
        omega
      · omega
    · rw [if_neg e]; omega
/-- Gates that turn, one behind the other. -/
def turnG (G : List Bool) (O : List Ou) : List Bool := O.foldl applyG G
theorem turnG_take (G : List Bool) (O : List Ou) {k : Nat} (hk : k < O.length) : turnG G (O.take (k + 1)) = applyG (turnG G (O.take k)) (O.getD k Ou.nil) := by
  unfold turnG
  rw [List.take_add_one, List.foldl_append]
  have e : O[k]?.toList = [O.getD k Ou.nil] := by simp [List.getD, hk]
  rw [e]; rfl
theorem turnG_len (G : List Bool) (O : List Ou) : (turnG G O).length = G.length := applyG_len O G
theorem FOwn.setB {base : Nat} {w : World} {g cap : Nat} {L : List Bool} (h : FOwn boEnc 1 4 base w (.slice (some ⟨g, 0, none⟩) L.length cap) L) {j : Nat} (hj : j < L.length) (b : Bool) : FOwn boEnc 1 4 base (w.setCell ⟨g, j, none⟩ (.bool b)) (.slice (some ⟨g, 0, none⟩) L.length cap) (L.set j b) := by
  have := h.set boEnc_len (by decide) hj b
  simpa [boEnc, putAll] using this
theorem FOwn.some_ {X : Type} {enc : X → List Value} {n : Nat} {T : TypeId} {base : Nat} {w : World} {ad : Option Addr} {len cap : Nat} {L : List X} (h : FOwn enc n T base w (.slice ad len cap) L) (hp : 0 < L.length) : ∃ g, ad = some ⟨g, 0, none⟩ := by
  rcases h.2 with ⟨e, h0⟩ | ⟨g, c, cur, e, _⟩
  · have := h.view.1
    simp only [Value.slice.injEq] at e
    omega
  · simp only [Value.slice.injEq] at e
    exact ⟨g, e.1⟩

end Go.Proofs.Ytghmmcenjdbfgaa
