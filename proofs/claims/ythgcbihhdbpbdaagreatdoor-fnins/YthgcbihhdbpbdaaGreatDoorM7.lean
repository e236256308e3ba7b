/- What comes in, drawn. spec.InOk, walked. -/
import Derived.Test.YthgcbihhdbpbdaaGreatDoorRows
import Derived.WalkKit
import Derived.ProofKit
import Derived.OpenShut
import Derived.ShutString
import Derived.ChangeOld
import Derived.Below
import Derived.Deep.QuietTactic
import Derived.BigQuiet
import Derived.WalkSmall
import Derived.Laws.OwnMore
import Derived.WalkSpells
import Derived.WalkLawsBesides
import Derived.Deep.Cut
import Derived.Test.YthgcbihhdbpbdaaGreatDoorKPDraw2
import Derived.Test.YthgcbihhdbpbdaaGreatDoorM6
import Derived.Test.YthgcbihhdbpbdaaGreatDoorM5
import Derived.Test.YthgcbihhdbpbdaaGreatDoorM1
import Derived.Test.YthgcbihhdbpbdaaGreatDoorKPort3
namespace Go.Proofs.YthgcbihhdbpbdaaGreatDoor
open Go.ChangeShapes Go.WideShapes Go.ChangeAt Go.RowKit
open Go.ChangeMaps (open_string shut_string)
set_option linter.unusedVariables false
set_option maxRecDepth 100000

/-- A box of an In that may be written. -/
structure IBox (w : World) (q : Nat) (x : Ik) : Prop where
  at_ : InAt w q x
  fr : ∀ i, w.frozen? ⟨q, i, none⟩ = false
theorem IBox.keep {w w' : World} {q : Nat} {x : Ik} (h : IBox w q x) (k : w'.heap[q]? = w.heap[q]?) : IBox w' q x := ⟨h.at_.keep k, fun i => (World.frozen?_of_block (a := ⟨q, i, none⟩) k).trans (h.fr i)⟩
theorem IBox.grown {w w' : World} {q cb : Nat} {x : Ik} (h : IBox w q x) (g : w.grownBy w' (some cb)) (hne : q ≠ cb) : IBox w' q x := h.keep (g.block q h.at_.lt (by simpa using hne))
theorem BBox.grown {w w' : World} {q cb : Nat} {id : Int} {v : Value} (h : BBox w q id v) (g : w.grownBy w' (some cb)) (hne : q ≠ cb) : BBox w' q id v := h.keep (g.block q h.lt (by simpa using hne))
theorem BBox.other {w : World} {q q' i : Nat} {id : Int} {v u : Value} (h : BBox w q id v) (hne : q ≠ q') : BBox (w.setCell ⟨q', i, none⟩ u) q id v := h.keep (Below.heap_setCell _ _ _ _ hne)
theorem FOwn.grown {X : Type} {enc : X → List Value} {n : Nat} {T : TypeId} {base cb : Nat} {w w' : World} {v : Value} {L : List X} (h : FOwn enc n T base w v L) (g : w.grownBy w' (some cb)) (hb : cb < base) : FOwn enc n T base w' v L :=
  h.keep fun k e => g.block k (h.lt k e).2 (by have := (h.lt k e).1; simp; omega)
theorem FOwn.other {X : Type} {enc : X → List Value} {n : Nat} {T : TypeId} {base q i : Nat} {w : World} {v u : Value} {L : List X} (h : FOwn enc n T base w v L) (hq : q < base) : FOwn enc n T base (w.setCell ⟨q, i, none⟩ u) v L :=
  h.keep fun k e => Below.heap_setCell _ _ _ _ (by have := (h.lt k e).1; show k ≠ q; omega)
theorem DV.later8 {w y y' : World} {cb : Nat} {ad : Option Addr} {len cap : Nat} (h : DV w cb ad len cap y) (k : Below y.heap.size y y') : DV w cb ad len cap y' :=
  ⟨h.cur.carry (k.block _ h.cur.lt), grown_trans h.gr ⟨k.os, k.tape, k.output, k.size, fun i hi _ => k.block i hi⟩⟩
def DrewI (w : World) (cb : Nat) (ad : Option Addr) (len cap : Nat) (f : Nat → Int) (e : Ending) (w' : World) : Prop := ∃ x : Ik, e = .returned (.agg #[.int .i64 x.k, .int .i64 x.q, .int .i64 x.r, .int .i64 x.c, .int .i64 x.b, .int .i64 x.p, .int .i64 x.h, .bool x.up]) ∧ Src w' cb ad len cap f ∧ w.grownBy w' (some cb)
set_option maxHeartbeats 4000000 in
theorem drawI8 {cb : Nat} {ad : Option Addr} {len cap : Nat} {f : Nat → Int} (w : World) (hs : Src w cb ad len cap f) (hcb : cb < w.heap.size) : Calls Tryz.prog 45 #[.pointer (some ⟨cb, 0, none⟩)] w fun e w' => DrewI w cb ad len cap f e w' := by
  obtain ⟨R, hRe⟩ : ∃ R, R = w.heap.size := ⟨_, rfl⟩
  have hR : w.heap.size ≤ R := by omega
  have hRc : R ≠ cb := by omega
  obtain ⟨x0, hx0⟩ : ∃ x, x = w.alloc (Obj.cells #[.int .i64 0, .int .i64 0, .int .i64 0, .int .i64 0, .int .i64 0, .int .i64 0, .int .i64 0, .bool false] 27) := ⟨_, rfl⟩
  have D0 : DV w cb ad len cap x0 := by rw [hx0]; exact (DV.start hs).alloc _
  have Q0 : IBox x0 R ⟨0, 0, 0, 0, 0, 0, 0, false⟩ := by rw [hx0, hRe]; exact ⟨InAt.new w _ ⟨0, 0, 0, 0, 0, 0, 0, false⟩, fun i => by simp [go_sem]⟩
  go_enter Tryz.func45, Tryz.ntmps45
  go_wp2_with fail
  go_at_call 56
  rw [← hx0, ← hRe]
  clear hx0 hRe
  refine (drawBelow (D0.src hs) 4 (by decide) (by decide)).mono ?_
  rintro e y1 ⟨q, rfl, q0_, q1_, s1, g1⟩
  have D1 := D0.step s1 g1
  have Q1 := Q0.grown g1 hRc
  clear D0 Q0 s1 g1
  go_wp2_with fail
  go_at_call 56
  refine (drawBelow (D1.src hs) 4 (by decide) (by decide)).mono ?_
  rintro e y2 ⟨t, rfl, t0_, t1_, s2, g2⟩
  have D2 := D1.step s2 g2
  have Q2 := Q1.grown g2 hRc
  clear D1 Q1 s2 g2
  by_cases h0 : t = 0
  · subst h0
    have DZ := ((((((((D2.set (N := R) (i := 0) (by omega) hcb (.int .i64 2)).set (N := R) (i := 1) (by omega) hcb (.int .i64 0)).set (N := R) (i := 2) (by omega) hcb (.int .i64 0)).set (N := R) (i := 3) (by omega) hcb (.int .i64 0)).set (N := R) (i := 4) (by omega) hcb (.int .i64 0)).set (N := R) (i := 5) (by omega) hcb (.int .i64 0)).set (N := R) (i := 6) (by omega) hcb (.int .i64 0)).set (N := R) (i := 7) (by omega) hcb (.bool false))
    obtain ⟨⟨q0, q1, q2, q3, q4, q5, q6, q7⟩, qf⟩ := Q2
    go_wp2
    refine bodyPost_ret (v := .agg #[.int .i64 2, .int .i64 0, .int .i64 0, .int .i64 0, .int .i64 0, .int .i64 0, .int .i64 0, .bool false]) (by simp [results, Tryz.results45, go_sem, *]) rfl ⟨⟨2, 0, 0, 0, 0, 0, 0, false⟩, rfl, DZ.src hs, DZ.gr⟩
  have e0 : (t == 0) = false := by simpa using h0
  by_cases h1 : t = 1
  · subst h1
    clear h0 e0
    go_wp2_with fail
    go_at_call 52
    refine (drawOnce (D2.src hs) 3 (by decide) (by decide)).mono ?_
    rintro e y3 ⟨bo, rfl, s3, g3⟩
    have D3 := D2.step s3 g3
    have Q3 := Q2.grown g3 hRc
    clear D2 Q2 s3 g3
    have DZ := ((((((((D3.set (N := R) (i := 0) (by omega) hcb (.int .i64 3)).set (N := R) (i := 1) (by omega) hcb (.int .i64 q)).set (N := R) (i := 2) (by omega) hcb (.int .i64 0)).set (N := R) (i := 3) (by omega) hcb (.int .i64 0)).set (N := R) (i := 4) (by omega) hcb (.int .i64 0)).set (N := R) (i := 5) (by omega) hcb (.int .i64 0)).set (N := R) (i := 6) (by omega) hcb (.int .i64 0)).set (N := R) (i := 7) (by omega) hcb (.bool (!bo)))
    obtain ⟨⟨q0, q1, q2, q3, q4, q5, q6, q7⟩, qf⟩ := Q3
    go_wp2
    refine bodyPost_ret (v := .agg #[.int .i64 3, .int .i64 q, .int .i64 0, .int .i64 0, .int .i64 0, .int .i64 0, .int .i64 0, .bool (!bo)]) (by simp [results, Tryz.results45, go_sem, *]) rfl ⟨⟨3, q, 0, 0, 0, 0, 0, (!bo)⟩, rfl, DZ.src hs, DZ.gr⟩
  have e1 : (t == 1) = false := by simpa using h1
  go_wp2_with fail
  go_at_call 80
  refine (drawR6 y2 (D2.src hs) D2.cur.lt).mono ?_
  rintro e y3 ⟨r, c, b, p, rfl, _, s3, g3⟩
  have D3 := D2.step s3 g3
  have Q3 := Q2.grown g3 hRc
  clear D2 Q2 s3 g3
  go_wp2_with fail
  go_at_call 56
  refine (drawBelow (D3.src hs) 4 (by decide) (by decide)).mono ?_
  rintro e y4 ⟨h, rfl, h0_, h1_, s4, g4⟩
  have D4 := D3.step s4 g4
  have Q4 := Q3.grown g4 hRc
  clear D3 Q3 s4 g4
  have DZ := ((((((((D4.set (N := R) (i := 0) (by omega) hcb (.int .i64 1)).set (N := R) (i := 1) (by omega) hcb (.int .i64 q)).set (N := R) (i := 2) (by omega) hcb (.int .i64 r)).set (N := R) (i := 3) (by omega) hcb (.int .i64 c)).set (N := R) (i := 4) (by omega) hcb (.int .i64 b)).set (N := R) (i := 5) (by omega) hcb (.int .i64 p)).set (N := R) (i := 6) (by omega) hcb (.int .i64 h)).set (N := R) (i := 7) (by omega) hcb (.bool false))
  obtain ⟨⟨q0, q1, q2, q3, q4, q5, q6, q7⟩, qf⟩ := Q4
  go_wp2
  refine bodyPost_ret (v := .agg #[.int .i64 1, .int .i64 q, .int .i64 r, .int .i64 c, .int .i64 b, .int .i64 p, .int .i64 h, .bool false]) (by simp [results, Tryz.results45, go_sem, *]) rfl ⟨⟨1, q, r, c, b, p, h, false⟩, rfl, DZ.src hs, DZ.gr⟩

end Go.Proofs.YthgcbihhdbpbdaaGreatDoor
namespace Go.Proofs.YthgcbihhdbpbdaaGreatDoor
open Go.ChangeShapes Go.WideShapes Go.ChangeAt Go.RowKit
open Go.ChangeMaps (open_string shut_string)
set_option linter.unusedVariables false
set_option maxRecDepth 100000

set_option maxHeartbeats 4000000 in
theorem inOkS (x : Ik) (w : World) : Calls Tryz.prog 25 #[.agg #[.int .i64 x.k, .int .i64 x.q, .int .i64 x.r, .int .i64 x.c, .int .i64 x.b, .int .i64 x.p, .int .i64 x.h, .bool x.up]] w fun e w' => e = .returned (.bool (inOk x)) ∧ Below w.heap.size w w' := by
  obtain ⟨k, q, r, c, b, p, h, up⟩ := x
  dsimp only
  obtain ⟨R, hR⟩ : ∃ R, R = inOk ⟨k, q, r, c, b, p, h, up⟩ := ⟨_, rfl⟩
  rw [← hR]
  by_cases h1 : k = 1
  · subst h1
    have hR1 : Hid (R = (decide (0 ≤ q ∧ q ≤ 3) && (vOk r c b p && (decide (0 ≤ h ∧ h ≤ 8) && !up)))) := hR
    clear hR
    have B0 := below_new (w := w) (Obj.cells #[.int .i64 1, .int .i64 q, .int .i64 r, .int .i64 c, .int .i64 b, .int .i64 p, .int .i64 h, .bool up] 27)
    obtain ⟨y, hy⟩ : ∃ y, y = w.alloc (Obj.cells #[.int .i64 1, .int .i64 q, .int .i64 r, .int .i64 c, .int .i64 b, .int .i64 p, .int .i64 h, .bool up] 27) := ⟨_, rfl⟩
    rw [← hy] at B0
    have A0 : InAt y w.heap.size ⟨1, q, r, c, b, p, h, up⟩ := by rw [hy]; exact InAt.new w _ ⟨1, q, r, c, b, p, h, up⟩
    have S0 := A0.lt
    go_enter Tryz.func25, Tryz.ntmps25
    go_wp2_with fail
    go_at_call 66
    rw [← hy]
    clear hy
    refine (inB q 0 3 y).mono ?_
    rintro e y1 ⟨rfl, rfl⟩
    obtain ⟨a0, a1, a2, a3, a4, a5, a6, a7⟩ := A0
    have A0 : InAt y1 w.heap.size ⟨1, q, r, c, b, p, h, up⟩ := ⟨a0, a1, a2, a3, a4, a5, a6, a7⟩
    cases hF : decide (0 ≤ q ∧ q ≤ 3) with
    | false =>
      have hN : Hid (R = false) := by unfold Hid; rw [hR1.out, hF]; rfl
      clear hR1 hF
      go_wp2
      go_ret
      exact ⟨by rw [hN.out]; rfl, B0⟩
    | true =>
      have hR2 : Hid (R = (vOk r c b p && (decide (0 ≤ h ∧ h ≤ 8) && !up))) := by unfold Hid; rw [hR1.out, hF]; rfl
      clear hR1 hF
      go_wp2_with fail
      go_at_call 67
      refine (vOkS r c b p y1).mono ?_
      rintro e y2 ⟨rfl, k2⟩
      have B2 := B0.trans (k2.mono B0.size)
      have A2 := A0.below k2 S0
      clear a0 a1 a2 a3 a4 a5 a6 a7 A0 k2
      obtain ⟨a0, a1, a2, a3, a4, a5, a6, a7⟩ := A2
      cases hF : vOk r c b p with
      | false =>
        have hN : Hid (R = false) := by unfold Hid; rw [hR2.out, hF]; rfl
        clear hR2 hF
        go_wp2
        go_ret
        exact ⟨by rw [hN.out]; rfl, B2⟩
      | true =>
        have hR3 : Hid (R = (decide (0 ≤ h ∧ h ≤ 8) && !up)) := by unfold Hid; rw [hR2.out, hF]; rfl
        clear hR2 hF
        go_wp2_with fail
        go_at_call 66
        refine (inB h 0 8 y2).mono ?_
        rintro e y3 ⟨rfl, rfl⟩
        cases hF : decide (0 ≤ h ∧ h ≤ 8) with
        | false =>
          have hN : Hid (R = false) := by unfold Hid; rw [hR3.out, hF]; rfl
          clear hR3 hF
          go_wp2
          go_ret
          exact ⟨by rw [hN.out]; rfl, B2⟩
        | true =>
          have hN : Hid (R = !up) := by unfold Hid; rw [hR3.out, hF]; rfl
          clear hR3 hF
          go_wp2
          go_ret
          exact ⟨by rw [hN.out]; rfl, B2⟩
  have d1 : (k == 1) = false := by simpa using h1
  by_cases h3 : k = 3
  · subst h3
    have hR1 : Hid (R = (decide (0 ≤ q ∧ q ≤ 3) && (decide (r = 0 ∧ c = 0 ∧ b = 0 ∧ p = 0) && (h == 0)))) := hR
    clear hR h1 d1
    have B0 := below_new (w := w) (Obj.cells #[.int .i64 3, .int .i64 q, .int .i64 r, .int .i64 c, .int .i64 b, .int .i64 p, .int .i64 h, .bool up] 27)
    obtain ⟨y, hy⟩ : ∃ y, y = w.alloc (Obj.cells #[.int .i64 3, .int .i64 q, .int .i64 r, .int .i64 c, .int .i64 b, .int .i64 p, .int .i64 h, .bool up] 27) := ⟨_, rfl⟩
    rw [← hy] at B0
    have A0 : InAt y w.heap.size ⟨3, q, r, c, b, p, h, up⟩ := by rw [hy]; exact InAt.new w _ ⟨3, q, r, c, b, p, h, up⟩
    have S0 := A0.lt
    go_enter Tryz.func25, Tryz.ntmps25
    go_wp2_with fail
    go_at_call 66
    rw [← hy]
    clear hy
    refine (inB q 0 3 y).mono ?_
    rintro e y1 ⟨rfl, rfl⟩
    obtain ⟨a0, a1, a2, a3, a4, a5, a6, a7⟩ := A0
    cases hF : decide (0 ≤ q ∧ q ≤ 3) with
    | false =>
      have hN : Hid (R = false) := by unfold Hid; rw [hR1.out, hF]; rfl
      clear hR1 hF
      go_wp2
      go_ret
      exact ⟨by rw [hN.out]; rfl, B0⟩
    | true =>
      have hR2 : Hid (R = (decide (r = 0 ∧ c = 0 ∧ b = 0 ∧ p = 0) && (h == 0))) := by unfold Hid; rw [hR1.out, hF]; rfl
      clear hR1 hF
      have eV : ∀ w_ : World, (binOp .eql 25 (.agg #[.int .i64 r, .int .i64 c, .int .i64 b, .int .i64 p]) (.agg #[.int .i64 0, .int .i64 0, .int .i64 0, .int .i64 0])).run Tryz.prog w_ = .ok (.bool (decide (r = 0 ∧ c = 0 ∧ b = 0 ∧ p = 0))) w_ := fun w_ => by
        have := eqV r c b p 0 0 0 0 w_
        go_simp
      cases hF : decide (r = 0 ∧ c = 0 ∧ b = 0 ∧ p = 0) with
      | false =>
        have hN : Hid (R = false) := by unfold Hid; rw [hR2.out, hF]; rfl
        rw [hF] at eV
        clear hR2 hF
        go_wp2
        go_ret
        exact ⟨by rw [hN.out]; rfl, B0⟩
      | true =>
        have hN : Hid (R = (h == 0)) := by unfold Hid; rw [hR2.out, hF]; rfl
        rw [hF] at eV
        clear hR2 hF
        go_wp2
        go_ret
        exact ⟨by rw [hN.out]; rfl, B0⟩
  have d3 : (k == 3) = false := by simpa using h3
  by_cases h2 : k = 2
  · subst h2
    have hN : Hid (R = decide (q = 0 ∧ r = 0 ∧ c = 0 ∧ b = 0 ∧ p = 0 ∧ h = 0 ∧ up = false)) := hR
    clear hR h1 d1 h3 d3
    have eI : ∀ w_ : World, (binOp .eql 27 (.agg #[.int .i64 2, .int .i64 q, .int .i64 r, .int .i64 c, .int .i64 b, .int .i64 p, .int .i64 h, .bool up]) (.agg #[.int .i64 2, .int .i64 0, .int .i64 0, .int .i64 0, .int .i64 0, .int .i64 0, .int .i64 0, .bool false])).run Tryz.prog w_ = .ok (.bool R) w_ := fun w_ => by
      rw [hN.out]
      go_simp
      all_goals ((repeat' split) <;> first | (simp_all; done) | grind)
    clear hN
    have B0 := below_new (w := w) (Obj.cells #[.int .i64 2, .int .i64 q, .int .i64 r, .int .i64 c, .int .i64 b, .int .i64 p, .int .i64 h, .bool up] 27)
    obtain ⟨y, hy⟩ : ∃ y, y = w.alloc (Obj.cells #[.int .i64 2, .int .i64 q, .int .i64 r, .int .i64 c, .int .i64 b, .int .i64 p, .int .i64 h, .bool up] 27) := ⟨_, rfl⟩
    rw [← hy] at B0
    have A0 : InAt y w.heap.size ⟨2, q, r, c, b, p, h, up⟩ := by rw [hy]; exact InAt.new w _ ⟨2, q, r, c, b, p, h, up⟩
    have S0 := A0.lt
    go_enter Tryz.func25, Tryz.ntmps25
    go_upto_region 7 with fail
    rw [← hy]
    clear hy
    obtain ⟨a0, a1, a2, a3, a4, a5, a6, a7⟩ := A0
    go_wp2
    go_ret
    exact ⟨rfl, B0⟩
  have d2 : (k == 2) = false := by simpa using h2
  have hN : Hid (R = false) := by unfold Hid; rw [hR]; unfold inOk; rw [if_neg h1, if_neg h3, if_neg h2]
  clear hR h1 h2 h3
  have B0 := below_new (w := w) (Obj.cells #[.int .i64 k, .int .i64 q, .int .i64 r, .int .i64 c, .int .i64 b, .int .i64 p, .int .i64 h, .bool up] 27)
  obtain ⟨y, hy⟩ : ∃ y, y = w.alloc (Obj.cells #[.int .i64 k, .int .i64 q, .int .i64 r, .int .i64 c, .int .i64 b, .int .i64 p, .int .i64 h, .bool up] 27) := ⟨_, rfl⟩
  rw [← hy] at B0
  have A0 : InAt y w.heap.size ⟨k, q, r, c, b, p, h, up⟩ := by rw [hy]; exact InAt.new w _ ⟨k, q, r, c, b, p, h, up⟩
  have S0 := A0.lt
  go_enter Tryz.func25, Tryz.ntmps25
  go_wp2
  go_ret
  rw [← hy]
  exact ⟨by rw [hN.out]; rfl, B0⟩

end Go.Proofs.YthgcbihhdbpbdaaGreatDoor
