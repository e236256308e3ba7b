/- Registers in memory. spec.InOk, walked. count, begins, eachIs of a journal, walked. spec.MinderOk, walked. spec.l1Max, spec.RegOk, spec.Minds, walked. spec.l14Net, walked. Wires: copied, compared. Lists of wires: how they come in, how long, copied. Rows of flags: how they come in, copied. How an Out comes in; copied. Lists of what is said: how they come in, how long, copied. Boxes that come in; boxes that a call owns. laws.szBox, walked. Boxes that may be written. Boxes that are written, cell by cell. -/
import Derived.Test.YtnpiljegdiconabRows
import Derived.WalkKit
import Derived.ProofKit
import Derived.OpenShut
import Derived.ShutString
import Derived.ChangeOld
import Derived.Below
import Derived.Deep.QuietTactic
import Derived.BigQuiet
import Derived.WalkSmall
import Derived.Laws.OwnMore
import Derived.WalkSpells
import Derived.WalkLawsBesides
import Derived.Test.YtnpiljegdiconabRg13
import Derived.Test.YtnpiljegdiconabMi1
import Derived.Deep.Cut
import Derived.Test.YtnpiljegdiconabIn1
import Derived.Test.YtnpiljegdiconabPort3
import Derived.Test.YtnpiljegdiconabIs1
import Derived.Test.YtnpiljegdiconabIn2
import Derived.Laws.StructEq
import Derived.Test.YtnpiljegdiconabBxd1
import Derived.Test.YtnpiljegdiconabIn4
import Derived.Deep.Slices
import Derived.Lib.SmallJoins
import Derived.Deep.Grids
import Derived.Test.YtnpiljegdiconabGa1
import Derived.Test.YtnpiljegdiconabBools
import Derived.Test.YtnpiljegdiconabVec1
import Derived.Test.YtnpiljegdiconabRe1
import Derived.Test.YtnpiljegdiconabMd1
import Derived.Test.YtnpiljegdiconabIs2
namespace Go.Proofs.Ytnpiljegdiconab
open Go.ChangeShapes Go.WideShapes Go.ChangeAt Go.RowKit
open Go.ChangeMaps (open_string shut_string)
set_option linter.unusedVariables false
set_option maxRecDepth 100000

/-- A register's box. -/
structure RgAt (w : World) (q : Nat) (r : Rg) : Prop where
  c0 : w.cell? ⟨q, 0, none⟩ = some (.int .i64 r.ep)
  c1 : w.cell? ⟨q, 1, none⟩ = some (.int .i64 r.ow)
  c2 : w.cell? ⟨q, 2, none⟩ = some (.int .i64 r.pa)
theorem RgAt.keep {w w' : World} {q : Nat} {r : Rg} (h : RgAt w q r) (k : w'.heap[q]? = w.heap[q]?) : RgAt w' q r :=
  ⟨(World.cell?_of_block (a := ⟨q, 0, none⟩) k).trans h.c0, (World.cell?_of_block (a := ⟨q, 1, none⟩) k).trans h.c1, (World.cell?_of_block (a := ⟨q, 2, none⟩) k).trans h.c2⟩
theorem RgAt.below {w w' : World} {q n : Nat} {r : Rg} (h : RgAt w q r) (k : Below n w w') (hq : q < n) : RgAt w' q r := h.keep (k.block q hq)
theorem RgAt.lt {w : World} {q : Nat} {r : Rg} (h : RgAt w q r) : q < w.heap.size := World.block_lt_of_cell? w _ h.c0
theorem RgAt.new (w : World) (t : TypeId) (r : Rg) : RgAt (w.alloc (Obj.cells #[.int .i64 r.ep, .int .i64 r.ow, .int .i64 r.pa] t)) w.heap.size r := by
  refine ⟨?_, ?_, ?_⟩ <;> simp [go_sem]
/-- A register's box that may be written. -/
structure RgBox (w : World) (q : Nat) (r : Rg) : Prop where
  at_ : RgAt w q r
  fr : ∀ i, w.frozen? ⟨q, i, none⟩ = false
theorem RgBox.keep {w w' : World} {q : Nat} {r : Rg} (h : RgBox w q r) (k : w'.heap[q]? = w.heap[q]?) : RgBox w' q r :=
  ⟨h.at_.keep k, fun i => (World.frozen?_of_block (a := ⟨q, i, none⟩) k).trans (h.fr i)⟩
theorem RgBox.below {w w' : World} {q n : Nat} {r : Rg} (h : RgBox w q r) (k : Below n w w') (hq : q < n) : RgBox w' q r := h.keep (k.block q hq)
theorem RgBox.lt {w : World} {q : Nat} {r : Rg} (h : RgBox w q r) : q < w.heap.size := h.at_.lt
theorem RgBox.put {w : World} {q : Nat} {r : Rg} (h : RgBox w q r) (r' : Rg) : RgBox (((w.setCell ⟨q, 0, none⟩ (.int .i64 r'.ep)).setCell ⟨q, 1, none⟩ (.int .i64 r'.ow)).setCell ⟨q, 2, none⟩ (.int .i64 r'.pa)) q r' := by
  obtain ⟨⟨h0, h1, h2⟩, hf⟩ := h
  have h0 : (w.setCell ⟨q, 0, none⟩ (.int .i64 r'.ep)).cell? ⟨q, 0, none⟩ = some (.int .i64 r'.ep) := pset_same h0
  have h1 : (w.setCell ⟨q, 0, none⟩ (.int .i64 r'.ep)).cell? ⟨q, 1, none⟩ = _ := (pset_else (by decide)).trans h1
  have h2 : (w.setCell ⟨q, 0, none⟩ (.int .i64 r'.ep)).cell? ⟨q, 2, none⟩ = _ := (pset_else (by decide)).trans h2
  have h0 : ((w.setCell ⟨q, 0, none⟩ (.int .i64 r'.ep)).setCell ⟨q, 1, none⟩ (.int .i64 r'.ow)).cell? ⟨q, 0, none⟩ = _ := (pset_else (by decide)).trans h0
  have h1 : ((w.setCell ⟨q, 0, none⟩ (.int .i64 r'.ep)).setCell ⟨q, 1, none⟩ (.int .i64 r'.ow)).cell? ⟨q, 1, none⟩ = some (.int .i64 r'.ow) := pset_same h1
  have h2 : ((w.setCell ⟨q, 0, none⟩ (.int .i64 r'.ep)).setCell ⟨q, 1, none⟩ (.int .i64 r'.ow)).cell? ⟨q, 2, none⟩ = _ := (pset_else (by decide)).trans h2
  refine ⟨⟨(pset_else (by decide)).trans h0, (pset_else (by decide)).trans h1, pset_same h2⟩, fun i => ?_⟩
  rw [World.frozen?_setCell, World.frozen?_setCell, World.frozen?_setCell]; exact hf i
theorem heap_put3 (w : World) (q k : Nat) (r' : Rg) (h : k ≠ q) : (((w.setCell ⟨q, 0, none⟩ (.int .i64 r'.ep)).setCell ⟨q, 1, none⟩ (.int .i64 r'.ow)).setCell ⟨q, 2, none⟩ (.int .i64 r'.pa)).heap[k]? = w.heap[k]? := by
  rw [Below.heap_setCell _ _ _ _ h, Below.heap_setCell _ _ _ _ h, Below.heap_setCell _ _ _ _ h]
theorem below_put3 {a w : World} {q n : Nat} (r' : Rg) (h : Below n a w) (hq : n ≤ q) : Below n a (((w.setCell ⟨q, 0, none⟩ (.int .i64 r'.ep)).setCell ⟨q, 1, none⟩ (.int .i64 r'.ow)).setCell ⟨q, 2, none⟩ (.int .i64 r'.pa)) :=
  ((h.setCell (p := ⟨q, 0, none⟩) hq _).setCell (p := ⟨q, 1, none⟩) hq _).setCell (p := ⟨q, 2, none⟩) hq _

end Go.Proofs.Ytnpiljegdiconab
namespace Go.Proofs.Ytnpiljegdiconab
open Go.ChangeShapes Go.WideShapes Go.ChangeAt Go.RowKit
open Go.ChangeMaps (open_string shut_string)
set_option linter.unusedVariables false
set_option maxRecDepth 100000

set_option maxHeartbeats 4000000 in
theorem inOkS (x : Ik) (w : World) : Calls Try.prog 48 #[.agg #[.int .i64 x.k, .int .i64 x.q, .int .i64 x.r, .int .i64 x.c, .int .i64 x.b, .int .i64 x.p, .int .i64 x.h, .bool x.up]] w fun e w' => e = .returned (.bool (inOk x)) ∧ Below w.heap.size w w' := by
  obtain ⟨k, q, r, c, b, p, h, up⟩ := x
  dsimp only
  obtain ⟨R, hR⟩ : ∃ R, R = inOk ⟨k, q, r, c, b, p, h, up⟩ := ⟨_, rfl⟩
  rw [← hR]
  by_cases h1 : k = 1
  · subst h1
    have hR1 : Hid (R = (decide (0 ≤ q ∧ q ≤ 3) && (vOk r c b p && (decide (0 ≤ h ∧ h ≤ 8) && !up)))) := hR
    clear hR
    have B0 := below_new (w := w) (Obj.cells #[.int .i64 1, .int .i64 q, .int .i64 r, .int .i64 c, .int .i64 b, .int .i64 p, .int .i64 h, .bool up] 78)
    obtain ⟨y, hy⟩ : ∃ y, y = w.alloc (Obj.cells #[.int .i64 1, .int .i64 q, .int .i64 r, .int .i64 c, .int .i64 b, .int .i64 p, .int .i64 h, .bool up] 78) := ⟨_, rfl⟩
    rw [← hy] at B0
    have A0 : InAt y w.heap.size ⟨1, q, r, c, b, p, h, up⟩ := by rw [hy]; exact InAt.new w _ ⟨1, q, r, c, b, p, h, up⟩
    have S0 := A0.lt
    go_enter Try.func48, Try.ntmps48
    go_wp2_with fail
    go_at_call 47
    rw [← hy]
    clear hy
    refine (inB q 0 3 y).mono ?_
    rintro e y1 ⟨rfl, rfl⟩
    obtain ⟨a0, a1, a2, a3, a4, a5, a6, a7⟩ := A0
    have A0 : InAt y1 w.heap.size ⟨1, q, r, c, b, p, h, up⟩ := ⟨a0, a1, a2, a3, a4, a5, a6, a7⟩
    cases hF : decide (0 ≤ q ∧ q ≤ 3) with
    | false =>
      have hN : Hid (R = false) := by unfold Hid; rw [hR1.out, hF]; rfl
      clear hR1 hF
      go_wp2
      go_ret
      exact ⟨by rw [hN.out]; rfl, B0⟩
    | true =>
      have hR2 : Hid (R = (vOk r c b p && (decide (0 ≤ h ∧ h ≤ 8) && !up))) := by unfold Hid; rw [hR1.out, hF]; rfl
      clear hR1 hF
      go_wp2_with fail
      go_at_call 60
      refine (vOkS r c b p y1).mono ?_
      rintro e y2 ⟨rfl, k2⟩
      have B2 := B0.trans (k2.mono B0.size)
      have A2 := A0.below k2 S0
      clear a0 a1 a2 a3 a4 a5 a6 a7 A0 k2
      obtain ⟨a0, a1, a2, a3, a4, a5, a6, a7⟩ := A2
      cases hF : vOk r c b p with
      | false =>
        have hN : Hid (R = false) := by unfold Hid; rw [hR2.out, hF]; rfl
        clear hR2 hF
        go_wp2
        go_ret
        exact ⟨by rw [hN.out]; rfl, B2⟩
      | true =>
        have hR3 : Hid (R = (decide (0 ≤ h ∧ h ≤ 8) && !up)) := by unfold Hid; rw [hR2.out, hF]; rfl
        clear hR2 hF
        go_wp2_with fail
        go_at_call 47
        refine (inB h 0 8 y2).mono ?_
        rintro e y3 ⟨rfl, rfl⟩
        cases hF : decide (0 ≤ h ∧ h ≤ 8) with
        | false =>
          have hN : Hid (R = false) := by unfold Hid; rw [hR3.out, hF]; rfl
          clear hR3 hF
          go_wp2
          go_ret
          exact ⟨by rw [hN.out]; rfl, B2⟩
        | true =>
          have hN : Hid (R = !up) := by unfold Hid; rw [hR3.out, hF]; rfl
          clear hR3 hF
          go_wp2
          go_ret
          exact ⟨by rw [hN.out]; rfl, B2⟩
  have d1 : (k == 1) = false := by simpa using h1
  by_cases h3 : k = 3
  · subst h3
    have hR1 : Hid (R = (decide (0 ≤ q ∧ q ≤ 3) && (decide (r = 0 ∧ c = 0 ∧ b = 0 ∧ p = 0) && (h == 0)))) := hR
    clear hR h1 d1
    have B0 := below_new (w := w) (Obj.cells #[.int .i64 3, .int .i64 q, .int .i64 r, .int .i64 c, .int .i64 b, .int .i64 p, .int .i64 h, .bool up] 78)
    obtain ⟨y, hy⟩ : ∃ y, y = w.alloc (Obj.cells #[.int .i64 3, .int .i64 q, .int .i64 r, .int .i64 c, .int .i64 b, .int .i64 p, .int .i64 h, .bool up] 78) := ⟨_, rfl⟩
    rw [← hy] at B0
    have A0 : InAt y w.heap.size ⟨3, q, r, c, b, p, h, up⟩ := by rw [hy]; exact InAt.new w _ ⟨3, q, r, c, b, p, h, up⟩
    have S0 := A0.lt
    go_enter Try.func48, Try.ntmps48
    go_wp2_with fail
    go_at_call 47
    rw [← hy]
    clear hy
    refine (inB q 0 3 y).mono ?_
    rintro e y1 ⟨rfl, rfl⟩
    obtain ⟨a0, a1, a2, a3, a4, a5, a6, a7⟩ := A0
    cases hF : decide (0 ≤ q ∧ q ≤ 3) with
    | false =>
      have hN : Hid (R = false) := by unfold Hid; rw [hR1.out, hF]; rfl
      clear hR1 hF
      go_wp2
      go_ret
      exact ⟨by rw [hN.out]; rfl, B0⟩
    | true =>
      have hR2 : Hid (R = (decide (r = 0 ∧ c = 0 ∧ b = 0 ∧ p = 0) && (h == 0))) := by unfold Hid; rw [hR1.out, hF]; rfl
      clear hR1 hF
      have eV : ∀ w_ : World, (binOp .eql 76 (.agg #[.int .i64 r, .int .i64 c, .int .i64 b, .int .i64 p]) (.agg #[.int .i64 0, .int .i64 0, .int .i64 0, .int .i64 0])).run Try.prog w_ = .ok (.bool (decide (r = 0 ∧ c = 0 ∧ b = 0 ∧ p = 0))) w_ := fun w_ => by
        have := eqV r c b p 0 0 0 0 w_
        go_simp
      cases hF : decide (r = 0 ∧ c = 0 ∧ b = 0 ∧ p = 0) with
      | false =>
        have hN : Hid (R = false) := by unfold Hid; rw [hR2.out, hF]; rfl
        rw [hF] at eV
        clear hR2 hF
        go_wp2
        go_ret
        exact ⟨by rw [hN.out]; rfl, B0⟩
      | true =>
        have hN : Hid (R = (h == 0)) := by unfold Hid; rw [hR2.out, hF]; rfl
        rw [hF] at eV
        clear hR2 hF
        go_wp2
        go_ret
        exact ⟨by rw [hN.out]; rfl, B0⟩
  have d3 : (k == 3) = false := by simpa using h3
  by_cases h2 : k = 2
  · subst h2
    have hN : Hid (R = decide (q = 0 ∧ r = 0 ∧ c = 0 ∧ b = 0 ∧ p = 0 ∧ h = 0 ∧ up = false)) := hR
    clear hR h1 d1 h3 d3
    have eI : ∀ w_ : World, (binOp .eql 78 (.agg #[.int .i64 2, .int .i64 q, .int .i64 r, .int .i64 c, .int .i64 b, .int .i64 p, .int .i64 h, .bool up]) (.agg #[.int .i64 2, .int .i64 0, .int .i64 0, .int .i64 0, .int .i64 0, .int .i64 0, .int .i64 0, .bool false])).run Try.prog w_ = .ok (.bool R) w_ := fun w_ => by
      rw [hN.out]
      go_simp
      all_goals ((repeat' split) <;> first | (simp_all; done) | grind)
    clear hN
    have B0 := below_new (w := w) (Obj.cells #[.int .i64 2, .int .i64 q, .int .i64 r, .int .i64 c, .int .i64 b, .int .i64 p, .int .i64 h, .bool up] 78)
    obtain ⟨y, hy⟩ : ∃ y, y = w.alloc (Obj.cells #[.int .i64 2, .int .i64 q, .int .i64 r, .int .i64 c, .int .i64 b, .int .i64 p, .int .i64 h, .bool up] 78) := ⟨_, rfl⟩
    rw [← hy] at B0
    have A0 : InAt y w.heap.size ⟨2, q, r, c, b, p, h, up⟩ := by rw [hy]; exact InAt.new w _ ⟨2, q, r, c, b, p, h, up⟩
    have S0 := A0.lt
    go_enter Try.func48, Try.ntmps48
    go_upto_region 7 with fail
    rw [← hy]
    clear hy
    obtain ⟨a0, a1, a2, a3, a4, a5, a6, a7⟩ := A0
    go_wp2
    go_ret
    exact ⟨rfl, B0⟩
  have d2 : (k == 2) = false := by simpa using h2
  have hN : Hid (R = false) := by unfold Hid; rw [hR]; unfold inOk; rw [if_neg h1, if_neg h3, if_neg h2]
  clear hR h1 h2 h3
  have B0 := below_new (w := w) (Obj.cells #[.int .i64 k, .int .i64 q, .int .i64 r, .int .i64 c, .int .i64 b, .int .i64 p, .int .i64 h, .bool up] 78)
  obtain ⟨y, hy⟩ : ∃ y, y = w.alloc (Obj.cells #[.int .i64 k, .int .i64 q, .int .i64 r, .int .i64 c, .int .i64 b, .int .i64 p, .int .i64 h, .bool up] 78) := ⟨_, rfl⟩
  rw [← hy] at B0
  have A0 : InAt y w.heap.size ⟨k, q, r, c, b, p, h, up⟩ := by rw [hy]; exact InAt.new w _ ⟨k, q, r, c, b, p, h, up⟩
  have S0 := A0.lt
  go_enter Try.func48, Try.ntmps48
  go_wp2
  go_ret
  rw [← hy]
  exact ⟨by rw [hN.out]; rfl, B0⟩

end Go.Proofs.Ytnpiljegdiconab
namespace Go.Proofs.Ytnpiljegdiconab
open Go.ChangeShapes Go.WideShapes Go.ChangeAt Go.RowKit
open Go.ChangeMaps (open_string shut_string)
set_option linter.unusedVariables false
set_option maxRecDepth 100000

theorem countI (q len : Nat) (ad : Option Addr) (cap : Nat) (w : World) (h : w.cell? ⟨q, 0, none⟩ = some (.slice ad len cap)) :
    Calls Try.prog 78 #[.pointer (some ⟨q, 0, none⟩)] w fun e w' => e = .returned (.int .i64 (len : Int)) ∧ w' = w := by
  go_enter Try.func78, Try.ntmps78
  go_wp2
  go_ret
  exact ⟨rfl, rfl⟩
theorem begI (q len : Nat) (ad : Option Addr) (cap : Nat) (n : Int) (w : World) (h : w.cell? ⟨q, 0, none⟩ = some (.slice ad len cap)) :
    Calls Try.prog 80 #[.pointer (some ⟨q, 0, none⟩), .int .i64 n] w fun e w' => e = .returned (.bool (decide (0 ≤ n ∧ n ≤ (len : Int)))) ∧ w' = w := by
  obtain ⟨R, hR⟩ : ∃ R, R = decide (0 ≤ n ∧ n ≤ (len : Int)) := ⟨_, rfl⟩
  rw [← hR]
  replace hR : Hid _ := hR
  by_cases h1 : 0 ≤ n
  · have d1 : decide (0 ≤ n) = true := decide_eq_true h1
    have hN : Hid (R = decide (n ≤ (len : Int))) := by unfold Hid; rw [hR.out]; by_cases h2 : n ≤ (len : Int) <;> simp [h1, h2]
    clear hR
    go_enter Try.func80, Try.ntmps80
    go_wp2_with fail
    go_at_call 78
    refine (countI q len ad cap w h).mono ?_
    rintro e w1 ⟨rfl, rfl⟩
    go_wp2
    go_ret
    exact ⟨by rw [hN.out]; rfl, rfl⟩
  · have d1 : decide (0 ≤ n) = false := decide_eq_false h1
    have hN : Hid (R = false) := by unfold Hid; rw [hR.out]; simp [h1]
    clear hR
    go_enter Try.func80, Try.ntmps80
    go_wp2
    go_ret
    exact ⟨by rw [hN.out]; rfl, rfl⟩
theorem all_take {X : Type} (f : X → Bool) (L : List X) (d : X) {k : Nat} (hk : k < L.length) : (L.take (k + 1)).all f = ((L.take k).all f && f (L.getD k d)) := by
  rw [List.take_add_one, List.all_append]
  have e : L[k]?.toList = [L.getD k d] := by simp [List.getD, hk]
  rw [e]; simp
theorem all_no {X : Type} (f : X → Bool) (L : List X) (d : X) {k : Nat} (hk : k < L.length) (h : f (L.getD k d) = false) : L.all f = false := by
  rw [List.all_eq_false]
  refine ⟨L.getD k d, ?_, by rw [h]; exact Bool.false_ne_true⟩
  simp [List.getD, hk]
set_option maxHeartbeats 2000000 in
theorem eachI (q : Nat) (ad : Option Addr) (cap : Nat) (L : List Ik) (w : World) (h : w.cell? ⟨q, 0, none⟩ = some (.slice ad L.length cap)) (hv : FView ikEnc w ad L) (hl : L.length ≤ 1048577) :
    Calls Try.prog 79 #[.pointer (some ⟨q, 0, none⟩), .func (Fn.func 68) #[] #[]] w fun e w' => e = .returned (.bool (L.all inOk)) ∧ Below w.heap.size w w' := by
  have hB := hv.lt ikEnc_len (by omega)
  obtain ⟨R, hR⟩ : ∃ R, R = L.all inOk := ⟨_, rfl⟩
  rw [← hR]
  replace hR : Hid _ := hR
  go_enter Try.func79, Try.ntmps79
  go_wp2
  go_loopw [12] (fun i wr => ∃ k : Nat, k ≤ L.length ∧ i = .int .i64 k ∧ (L.take k).all inOk = true ∧ Below w.heap.size w wr) (fun i _ => L.length - (intOf i).toNat)
  case atStart => exact ⟨0, Nat.zero_le _, rfl, rfl, Below.refl _ _⟩
  case round =>
    obtain ⟨k, hk, rfl, T, B⟩ := hrel
    replace T : Hid _ := T
    by_cases hlt : k < L.length
    · obtain ⟨b, off, rfl, _⟩ := hv (by omega)
      obtain ⟨x, hh⟩ : ∃ x, L.getD k Ik.nil = x := ⟨_, rfl⟩
      have hck : IkAtO wr b (off + k * 8) x := by
        rw [← hh]
        exact ikAtO_of ((hv.below B hB).at_ ikEnc_len Ik.nil hlt)
      have hT := all_take inOk L Ik.nil hlt
      rw [T.out, hh, Bool.true_and] at hT
      have hNo : inOk x = false → L.all inOk = false := fun e => all_no inOk L Ik.nil hlt (by rw [hh]; exact e)
      replace hT : Hid _ := hT
      replace hh : Hid _ := hh
      obtain ⟨c0, c1, c2, c3, c4, c5, c6, c7⟩ := hck
      obtain ⟨u, hu⟩ : ∃ u, u = wr.alloc (Obj.cells #[.int .i64 x.k, .int .i64 x.q, .int .i64 x.r, .int .i64 x.c, .int .i64 x.b, .int .i64 x.p, .int .i64 x.h, .bool x.up] 78) := ⟨_, rfl⟩
      have ku : Below wr.heap.size wr u := by rw [hu]; exact below_new _
      have U : InAt u wr.heap.size x := by rw [hu]; exact InAt.new wr _ x
      have B2 := B.trans (ku.mono B.size)
      go_upto_region 4 with fail
      rw [← hu]
      clear hu c0 c1 c2 c3 c4 c5 c6 c7 ku
      obtain ⟨c0, c1, c2, c3, c4, c5, c6, c7⟩ := U
      go_wp2_with fail
      go_at_call 68
      clear c0 c1 c2 c3 c4 c5 c6 c7
      refine (inOkI x u).mono ?_
      rintro e u2 ⟨rfl, k2⟩
      have B3 := B2.trans (k2.mono B2.size)
      clear k2 B2 B
      cases hx : inOk x with
      | false =>
        have hN : Hid (R = false) := by unfold Hid; rw [hR.out]; exact hNo hx
        clear hNo hx
        go_wp2
        go_ret
        exact ⟨by rw [hN.out]; rfl, B3⟩
      | true =>
        have hT2 : Hid ((L.take (k + 1)).all inOk = true) := by unfold Hid; rw [hT.out, hx]
        clear hNo hx
        go_wp2
        go_roundw
        case rel => exact ⟨k + 1, by omega, by go_num, hT2.out, B3⟩
        case measure => simp [intOf]; omega
    · obtain rfl : k = L.length := by omega
      have hN : Hid (R = true) := by unfold Hid; rw [hR.out]; have := T.out; rwa [List.take_length] at this
      go_wp2
      go_ret
      exact ⟨by rw [hN.out]; rfl, B⟩

end Go.Proofs.Ytnpiljegdiconab
namespace Go.Proofs.Ytnpiljegdiconab
open Go.ChangeShapes Go.WideShapes Go.ChangeAt Go.RowKit
open Go.ChangeMaps (open_string shut_string)
set_option linter.unusedVariables false
set_option maxRecDepth 100000

set_option maxHeartbeats 2000000 in
theorem insS (ad : Option Addr) (cap : Nat) (L : List Ik) (w : World) (hv : FView ikEnc w ad L) (hl : L.length ≤ 1048577) :
    Calls Try.prog 34 #[.slice ad L.length cap] w fun e w' => e = .returned (.bool (insB L)) ∧ Below w.heap.size w w' := by
  have hB := hv.lt ikEnc_len (by omega)
  obtain ⟨R, hR⟩ : ∃ R, R = insB L := ⟨_, rfl⟩
  rw [← hR]
  replace hR : Hid _ := hR
  go_enter Try.func34, Try.ntmps34
  go_wp2
  go_loopw [3] (fun i wr => ∃ k : Nat, k ≤ L.length ∧ i = .int .i64 k ∧ (L.take k).all inOk = true ∧ Below w.heap.size w wr) (fun i _ => L.length - (intOf i).toNat)
  case atStart => exact ⟨0, Nat.zero_le _, rfl, rfl, Below.refl _ _⟩
  case round =>
    obtain ⟨k, hk, rfl, T, B⟩ := hrel
    replace T : Hid _ := T
    by_cases hlt : k < L.length
    · obtain ⟨b, off, rfl, _⟩ := hv (by omega)
      obtain ⟨x, hh⟩ : ∃ x, L.getD k Ik.nil = x := ⟨_, rfl⟩
      have hck : IkAtO wr b (off + k * 8) x := by
        rw [← hh]
        exact ikAtO_of ((hv.below B hB).at_ ikEnc_len Ik.nil hlt)
      have hT := all_take inOk L Ik.nil hlt
      rw [T.out, hh, Bool.true_and] at hT
      have hNo : inOk x = false → L.all inOk = false := fun e => all_no inOk L Ik.nil hlt (by rw [hh]; exact e)
      replace hT : Hid _ := hT
      replace hh : Hid _ := hh
      obtain ⟨c0, c1, c2, c3, c4, c5, c6, c7⟩ := hck
      go_wp2_with fail
      go_at_call 48
      clear c0 c1 c2 c3 c4 c5 c6 c7
      refine (inOkS x wr).mono ?_
      rintro e u2 ⟨rfl, k2⟩
      have B3 := B.trans (k2.mono B.size)
      clear k2 B
      cases hx : inOk x with
      | false =>
        have hN : Hid (R = false) := by unfold Hid; rw [hR.out]; unfold insB; rw [hNo hx]; rfl
        clear hNo hx
        go_wp2
        go_ret
        exact ⟨by rw [hN.out]; rfl, B3⟩
      | true =>
        have hT2 : Hid ((L.take (k + 1)).all inOk = true) := by unfold Hid; rw [hT.out, hx]
        clear hNo hx
        go_wp2
        go_roundw
        case rel => exact ⟨k + 1, by omega, by go_num, hT2.out, B3⟩
        case measure => simp [intOf]; omega
    · obtain rfl : k = L.length := by omega
      have hN : Hid (R = decide ((L.length : Int) ≤ 60)) := by
        unfold Hid; rw [hR.out]; unfold insB
        have := T.out
        rw [List.take_length] at this
        rw [this, Bool.true_and]
        by_cases h : L.length ≤ 60
        · rw [decide_eq_true h, decide_eq_true (by omega)]
        · rw [decide_eq_false h, decide_eq_false (by omega)]
      go_wp2
      go_ret
      exact ⟨by rw [hN.out]; rfl, B⟩
set_option maxHeartbeats 4000000 in
theorem miOkS (m : Mi) (ad : Option Addr) (cap : Nat) (w : World) (hv : FView ikEnc w ad m.lg) (hl : m.lg.length ≤ 1048577) :
    Calls Try.prog 32 #[.agg #[.bool m.up, .int .i64 m.li, .int .i64 m.ep, .slice ad m.lg.length cap, .int .i64 m.sd, .int .i64 m.ac, .int .i64 m.al]] w fun e w' => e = .returned (.bool (miOk m)) ∧ Below w.heap.size w w' := by
  have hB := hv.lt ikEnc_len (by omega)
  obtain ⟨R, hR⟩ : ∃ R, R = miOk m := ⟨_, rfl⟩
  rw [← hR]
  replace hR : Hid _ := hR
  obtain ⟨y, hy⟩ : ∃ y, y = w.alloc (Obj.cells #[.bool m.up, .int .i64 m.li, .int .i64 m.ep, .slice ad m.lg.length cap, .int .i64 m.sd, .int .i64 m.ac, .int .i64 m.al] 49) := ⟨_, rfl⟩
  have B0 : Below w.heap.size w y := by rw [hy]; exact below_new _
  have A : MiAt y w.heap.size m (.slice ad m.lg.length cap) := by rw [hy]; exact MiAt.new w _ _ _
  have S0 := A.lt
  have hv1 := hv.below B0 hB
  clear hv
  go_enter Try.func32, Try.ntmps32
  go_upto_region 1 with fail
  rw [← hy]
  clear hy
  have cc := A
  obtain ⟨x0, x1, x2, x3, x4, x5, x6⟩ := cc
  go_wp2_with fail
  go_at_call 47
  clear x0 x1 x2 x3 x4 x5 x6
  refine (inB m.li 0 100000 y).mono ?_
  rintro e v0 ⟨rfl, hw_⟩
  have A := (by rw [hw_]; exact A : MiAt v0 w.heap.size m (.slice ad m.lg.length cap))
  have hv1 := (by rw [hw_]; exact hv1 : FView ikEnc v0 ad m.lg)
  have Bx := (by rw [hw_]; exact B0 : Below w.heap.size w v0)
  clear hw_ B0
  have B1 := Bx
  clear Bx
  rw [show decide (0 ≤ m.li ∧ m.li ≤ 100000) = numB m.li from rfl]
  cases h_li : numB m.li
  · have hN : Hid (R = false) := by unfold Hid; rw [hR.out]; unfold miOk; rw [h_li]; rfl
    clear h_li
    go_wp2
    go_ret
    exact ⟨by rw [hN.out]; rfl, B1⟩
  · replace h_li : Hid _ := h_li
    have cc := A
    obtain ⟨x0, x1, x2, x3, x4, x5, x6⟩ := cc
    go_wp2_with fail
    go_at_call 47
    clear x0 x1 x2 x3 x4 x5 x6
    refine (inB m.ep 0 100000 v0).mono ?_
    rintro e v1 ⟨rfl, hw_⟩
    have A := (by rw [hw_]; exact A : MiAt v1 w.heap.size m (.slice ad m.lg.length cap))
    have hv1 := (by rw [hw_]; exact hv1 : FView ikEnc v1 ad m.lg)
    have Bx := (by rw [hw_]; exact B1 : Below w.heap.size w v1)
    clear hw_ B1
    have B2 := Bx
    clear Bx
    rw [show decide (0 ≤ m.ep ∧ m.ep ≤ 100000) = numB m.ep from rfl]
    cases h_ep : numB m.ep
    · have hN : Hid (R = false) := by unfold Hid; rw [hR.out]; unfold miOk; rw [h_li.out, h_ep]; rfl
      clear h_ep
      go_wp2
      go_ret
      exact ⟨by rw [hN.out]; rfl, B2⟩
    · replace h_ep : Hid _ := h_ep
      have cc := A
      obtain ⟨x0, x1, x2, x3, x4, x5, x6⟩ := cc
      go_wp2_with fail
      go_at_call 47
      clear x0 x1 x2 x3 x4 x5 x6
      refine (inB m.al 0 100000 v1).mono ?_
      rintro e v2 ⟨rfl, hw_⟩
      have A := (by rw [hw_]; exact A : MiAt v2 w.heap.size m (.slice ad m.lg.length cap))
      have hv1 := (by rw [hw_]; exact hv1 : FView ikEnc v2 ad m.lg)
      have Bx := (by rw [hw_]; exact B2 : Below w.heap.size w v2)
      clear hw_ B2
      have B3 := Bx
      clear Bx
      rw [show decide (0 ≤ m.al ∧ m.al ≤ 100000) = numB m.al from rfl]
      cases h_al : numB m.al
      · have hN : Hid (R = false) := by unfold Hid; rw [hR.out]; unfold miOk; rw [h_li.out, h_ep.out, h_al]; rfl
        clear h_al
        go_wp2
        go_ret
        exact ⟨by rw [hN.out]; rfl, B3⟩
      · replace h_al : Hid _ := h_al
        have cc := A
        obtain ⟨x0, x1, x2, x3, x4, x5, x6⟩ := cc
        go_wp2_with fail
        go_at_call 34
        clear x0 x1 x2 x3 x4 x5 x6
        refine (insS ad cap m.lg v2 hv1 hl).mono ?_
        rintro e v3 ⟨rfl, kq⟩
        have A := A.below kq A.lt
        have hv1 := hv1.below kq (hv1.lt ikEnc_len (by omega))
        have B4 := B3.trans (kq.mono B3.size)
        clear kq B3
        cases h_in : insB m.lg
        · have hN : Hid (R = false) := by unfold Hid; rw [hR.out]; unfold miOk; rw [h_li.out, h_ep.out, h_al.out, h_in]; rfl
          clear h_in
          go_wp2
          go_ret
          exact ⟨by rw [hN.out]; rfl, B4⟩
        · replace h_in : Hid _ := h_in
          have cc := A
          obtain ⟨x0, x1, x2, x3, x4, x5, x6⟩ := cc
          go_wp2_with fail
          go_at_call 47
          clear x0 x1 x2 x3 x4 x5 x6
          refine (inB m.sd 0 (m.lg.length : Int) v3).mono ?_
          rintro e v4 ⟨rfl, hw_⟩
          have A := (by rw [hw_]; exact A : MiAt v4 w.heap.size m (.slice ad m.lg.length cap))
          have hv1 := (by rw [hw_]; exact hv1 : FView ikEnc v4 ad m.lg)
          have Bx := (by rw [hw_]; exact B4 : Below w.heap.size w v4)
          clear hw_ B4
          have B5 := Bx
          clear Bx
          cases h_sd : decide (0 ≤ m.sd ∧ m.sd ≤ (m.lg.length : Int))
          · have hN : Hid (R = false) := by unfold Hid; rw [hR.out]; unfold miOk; rw [h_li.out, h_ep.out, h_al.out, h_in.out, h_sd]; rfl
            clear h_sd
            go_wp2
            go_ret
            exact ⟨by rw [hN.out]; rfl, B5⟩
          · replace h_sd : Hid _ := h_sd
            have cc := A
            obtain ⟨x0, x1, x2, x3, x4, x5, x6⟩ := cc
            go_wp2_with fail
            go_at_call 47
            clear x0 x1 x2 x3 x4 x5 x6
            refine (inB m.ac 0 (m.lg.length : Int) v4).mono ?_
            rintro e v5 ⟨rfl, hw_⟩
            have A := (by rw [hw_]; exact A : MiAt v5 w.heap.size m (.slice ad m.lg.length cap))
            have hv1 := (by rw [hw_]; exact hv1 : FView ikEnc v5 ad m.lg)
            have Bx := (by rw [hw_]; exact B5 : Below w.heap.size w v5)
            clear hw_ B5
            have B6 := Bx
            clear Bx
            cases h_ac : decide (0 ≤ m.ac ∧ m.ac ≤ (m.lg.length : Int))
            · have hN : Hid (R = false) := by unfold Hid; rw [hR.out]; unfold miOk; rw [h_li.out, h_ep.out, h_al.out, h_in.out, h_sd.out, h_ac]; rfl
              clear h_ac
              go_wp2
              go_ret
              exact ⟨by rw [hN.out]; rfl, B6⟩
            · replace h_ac : Hid _ := h_ac
              obtain ⟨x0, x1, x2, x3, x4, x5, x6⟩ := A
              cases hU : m.up
              · rw [hU] at x0
                by_cases e1 : m.ep = 0
                · have d1 : (m.ep == 0) = true := by simpa using e1
                  by_cases e2 : (m.lg.length : Int) = 0
                  · have d2 : ((m.lg.length : Int) == 0) = true := by simpa using e2
                    have e2' : m.lg.length = 0 := by omega
                    have hN : Hid (R = (m.al == 0)) := by unfold Hid; rw [hR.out]; unfold miOk; rw [h_li.out, h_ep.out, h_al.out, h_in.out, h_sd.out, h_ac.out, hU, decide_eq_true e1, decide_eq_true e2']; by_cases e3 : m.al = 0 <;> simp [e3]
                    clear e1 e2 e2'
                    go_wp2
                    go_ret
                    exact ⟨by rw [hN.out]; rfl, B6⟩
                  · have d2 : ((m.lg.length : Int) == 0) = false := by rw [beq_eq_false_iff_ne]; exact e2
                    have e2' : ¬ m.lg.length = 0 := by omega
                    have hN : Hid (R = false) := by unfold Hid; rw [hR.out]; unfold miOk; rw [h_li.out, h_ep.out, h_al.out, h_in.out, h_sd.out, h_ac.out, hU, decide_eq_false e2']; simp
                    clear e1 e2 e2'
                    go_wp2
                    go_ret
                    exact ⟨by rw [hN.out]; rfl, B6⟩
                · have d1 : (m.ep == 0) = false := by rw [beq_eq_false_iff_ne]; exact e1
                  have hN : Hid (R = false) := by unfold Hid; rw [hR.out]; unfold miOk; rw [h_li.out, h_ep.out, h_al.out, h_in.out, h_sd.out, h_ac.out, hU, decide_eq_false e1]; rfl
                  clear e1
                  go_wp2
                  go_ret
                  exact ⟨by rw [hN.out]; rfl, B6⟩
              · rw [hU] at x0
                have hN : Hid (R = true) := by unfold Hid; rw [hR.out]; unfold miOk; rw [h_li.out, h_ep.out, h_al.out, h_in.out, h_sd.out, h_ac.out, hU]; rfl
                go_wp2
                go_ret
                exact ⟨by rw [hN.out]; rfl, B6⟩

end Go.Proofs.Ytnpiljegdiconab
namespace Go.Proofs.Ytnpiljegdiconab
open Go.ChangeShapes Go.WideShapes Go.ChangeAt Go.RowKit
open Go.ChangeMaps (open_string shut_string)
set_option linter.unusedVariables false
set_option maxRecDepth 100000

set_option maxHeartbeats 2000000 in
theorem regOkS (r : Rg) (w : World) : Calls Try.prog 31 #[.agg #[.int .i64 r.ep, .int .i64 r.ow, .int .i64 r.pa]] w fun e w' => e = .returned (.bool (rgOk r)) ∧ Below w.heap.size w w' := by
  obtain ⟨R, hR⟩ : ∃ R, R = rgOk r := ⟨_, rfl⟩
  rw [← hR]
  replace hR : Hid _ := hR
  obtain ⟨y, hy⟩ : ∃ y, y = w.alloc (Obj.cells #[.int .i64 r.ep, .int .i64 r.ow, .int .i64 r.pa] 33) := ⟨_, rfl⟩
  have B0 : Below w.heap.size w y := by rw [hy]; exact below_new _
  have A : RgAt y w.heap.size r := by rw [hy]; exact RgAt.new w _ r
  go_enter Try.func31, Try.ntmps31
  go_upto_region 1 with fail
  rw [← hy]
  clear hy
  have cc := A
  obtain ⟨x0, x1, x2⟩ := cc
  go_wp2_with fail
  go_at_call 47
  refine (inB r.ep 1 100000 y).mono ?_
  rintro e v0 ⟨rfl, hw_⟩
  have A := (by rw [hw_]; exact A : RgAt v0 w.heap.size r)
  have B0 := (by rw [hw_]; exact B0 : Below w.heap.size w v0)
  clear hw_
  clear x0 x1 x2
  cases h1 : decide (1 ≤ r.ep ∧ r.ep ≤ 100000)
  · have hN : Hid (R = false) := by unfold Hid; rw [hR.out]; unfold rgOk; rw [h1]; rfl
    clear h1
    go_wp2
    go_ret
    exact ⟨by rw [hN.out]; rfl, B0⟩
  · replace h1 : Hid _ := h1
    have cc := A
    obtain ⟨x0, x1, x2⟩ := cc
    go_wp2_with fail
    go_at_call 47
    refine (inB r.ow 0 1 v0).mono ?_
    rintro e v1 ⟨rfl, hw_⟩
    have A := (by rw [hw_]; exact A : RgAt v1 w.heap.size r)
    have B0 := (by rw [hw_]; exact B0 : Below w.heap.size w v1)
    clear hw_
    clear x0 x1 x2
    cases h2 : decide (0 ≤ r.ow ∧ r.ow ≤ 1)
    · have hN : Hid (R = false) := by unfold Hid; rw [hR.out]; unfold rgOk; rw [h1.out, h2]; rfl
      clear h2
      go_wp2
      go_ret
      exact ⟨by rw [hN.out]; rfl, B0⟩
    · replace h2 : Hid _ := h2
      have cc := A
      obtain ⟨x0, x1, x2⟩ := cc
      go_wp2_with fail
      go_at_call 47
      refine (inB r.pa 0 100000 v1).mono ?_
      rintro e v2 ⟨rfl, hw_⟩
      have A := (by rw [hw_]; exact A : RgAt v2 w.heap.size r)
      have B0 := (by rw [hw_]; exact B0 : Below w.heap.size w v2)
      clear hw_
      clear x0 x1 x2
      rw [show decide (0 ≤ r.pa ∧ r.pa ≤ 100000) = numB r.pa from rfl]
      have hN : Hid (R = numB r.pa) := by unfold Hid; rw [hR.out]; unfold rgOk; rw [h1.out, h2.out]; rfl
      rw [← hN.out]
      go_wp2
      go_ret
      exact ⟨rfl, B0⟩
end Go.Proofs.Ytnpiljegdiconab
namespace Go.Proofs.Ytnpiljegdiconab
open Go.ChangeShapes Go.WideShapes Go.ChangeAt Go.RowKit
open Go.ChangeMaps (open_string shut_string)
set_option linter.unusedVariables false
set_option maxRecDepth 100000

/-- A wire's box. -/
structure WiAt (w : World) (q : Nat) (x : Wi) : Prop where
  c0 : w.cell? ⟨q, 0, none⟩ = some (.int .i64 x.fr)
  c1 : w.cell? ⟨q, 1, none⟩ = some (.bool x.ak)
  c2 : w.cell? ⟨q, 2, none⟩ = some (.int .i64 x.li)
  c3 : w.cell? ⟨q, 3, none⟩ = some (.int .i64 x.n)
  c4 : w.cell? ⟨q, 4, none⟩ = some (.int .i64 x.x.k)
  c5 : w.cell? ⟨q, 5, none⟩ = some (.int .i64 x.x.q)
  c6 : w.cell? ⟨q, 6, none⟩ = some (.int .i64 x.x.r)
  c7 : w.cell? ⟨q, 7, none⟩ = some (.int .i64 x.x.c)
  c8 : w.cell? ⟨q, 8, none⟩ = some (.int .i64 x.x.b)
  c9 : w.cell? ⟨q, 9, none⟩ = some (.int .i64 x.x.p)
  c10 : w.cell? ⟨q, 10, none⟩ = some (.int .i64 x.x.h)
  c11 : w.cell? ⟨q, 11, none⟩ = some (.bool x.x.up)
theorem WiAt.new (w : World) (t : TypeId) (x : Wi) : WiAt (w.alloc (Obj.cells #[.int .i64 x.fr, .bool x.ak, .int .i64 x.li, .int .i64 x.n, .int .i64 x.x.k, .int .i64 x.x.q, .int .i64 x.x.r, .int .i64 x.x.c, .int .i64 x.x.b, .int .i64 x.x.p, .int .i64 x.x.h, .bool x.x.up] t)) w.heap.size x := by
  refine ⟨?_, ?_, ?_, ?_, ?_, ?_, ?_, ?_, ?_, ?_, ?_, ?_⟩ <;> simp [go_sem]
theorem WiAt.keep {w w' : World} {q : Nat} {x : Wi} (h : WiAt w q x) (k : w'.heap[q]? = w.heap[q]?) : WiAt w' q x :=
  ⟨(World.cell?_of_block (a := ⟨q, 0, none⟩) k).trans h.c0, (World.cell?_of_block (a := ⟨q, 1, none⟩) k).trans h.c1, (World.cell?_of_block (a := ⟨q, 2, none⟩) k).trans h.c2, (World.cell?_of_block (a := ⟨q, 3, none⟩) k).trans h.c3, (World.cell?_of_block (a := ⟨q, 4, none⟩) k).trans h.c4, (World.cell?_of_block (a := ⟨q, 5, none⟩) k).trans h.c5, (World.cell?_of_block (a := ⟨q, 6, none⟩) k).trans h.c6, (World.cell?_of_block (a := ⟨q, 7, none⟩) k).trans h.c7, (World.cell?_of_block (a := ⟨q, 8, none⟩) k).trans h.c8, (World.cell?_of_block (a := ⟨q, 9, none⟩) k).trans h.c9, (World.cell?_of_block (a := ⟨q, 10, none⟩) k).trans h.c10, (World.cell?_of_block (a := ⟨q, 11, none⟩) k).trans h.c11⟩
theorem WiAt.below {w w' : World} {q n : Nat} {x : Wi} (h : WiAt w q x) (k : Below n w w') (hq : q < n) : WiAt w' q x := h.keep (k.block q hq)
theorem WiAt.lt {w : World} {q : Nat} {x : Wi} (h : WiAt w q x) : q < w.heap.size := World.block_lt_of_cell? w _ h.c0
theorem neqIn (x : Ik) (w : World) : (binOp .neq 78 (.agg #[.int .i64 x.k, .int .i64 x.q, .int .i64 x.r, .int .i64 x.c, .int .i64 x.b, .int .i64 x.p, .int .i64 x.h, .bool x.up]) (.agg #[.int .i64 0, .int .i64 0, .int .i64 0, .int .i64 0, .int .i64 0, .int .i64 0, .int .i64 0, .bool false])).run Try.prog w = .ok (.bool (!inNil x)) w := by
  have hE : (binOp .eql 78 (.agg #[.int .i64 x.k, .int .i64 x.q, .int .i64 x.r, .int .i64 x.c, .int .i64 x.b, .int .i64 x.p, .int .i64 x.h, .bool x.up]) (.agg #[.int .i64 0, .int .i64 0, .int .i64 0, .int .i64 0, .int .i64 0, .int .i64 0, .int .i64 0, .bool false])).run Try.prog w = .ok (.bool (inNil x)) w := by
    unfold inNil
    go_simp
    all_goals ((repeat' split) <;> first | (simp_all; done) | grind)
  unfold inNil
  go_simp
  all_goals ((repeat' split) <;> first | (simp_all; done) | grind)
set_option maxHeartbeats 4000000 in
theorem netS (x : BxD) (w : World) (hV : BxV w x) :
    Calls Try.prog 33 #[.agg #[.int .i64 x.id, .int .i64 x.po, .int .i64 x.rg.ep, .int .i64 x.rg.ow, .int .i64 x.rg.pa, .slice x.aT x.two.length x.cT, .slice x.aN x.net.length x.cN, .slice x.aG x.ga.length x.cG, .slice x.aL x.ln.length x.cL, .slice x.aS x.sd.length x.cS]] w fun e w' => e = .returned (.bool (x.net.all wiOk && decide (x.net.length ≤ 20))) ∧ Below w.heap.size w w' := by
  obtain ⟨R, hR⟩ : ∃ R, R = (x.net.all wiOk && decide (x.net.length ≤ 20)) := ⟨_, rfl⟩
  rw [← hR]
  replace hR : Hid _ := hR
  obtain ⟨y, hy⟩ : ∃ y, y = w.alloc (Obj.cells #[.int .i64 x.id, .int .i64 x.po, .int .i64 x.rg.ep, .int .i64 x.rg.ow, .int .i64 x.rg.pa, .slice x.aT x.two.length x.cT, .slice x.aN x.net.length x.cN, .slice x.aG x.ga.length x.cG, .slice x.aL x.ln.length x.cL, .slice x.aS x.sd.length x.cS] 39) := ⟨_, rfl⟩
  have B0 : Below w.heap.size w y := by rw [hy]; exact below_new _
  have A : BxAt y w.heap.size x := by rw [hy]; exact BxAt.new w _ x
  have V := hV.later B0
  have S0 := A.lt
  have bn := V.bn
  go_enter Try.func33, Try.ntmps33
  go_upto_region 1 with fail
  rw [← hy]
  clear hy hV
  go_wp2
  go_loopw [3] (fun i wr => ∃ k : Nat, k ≤ x.net.length ∧ i = .int .i64 k ∧ (x.net.take k).all wiOk = true ∧ Below y.heap.size y wr) (fun i _ => x.net.length - (intOf i).toNat)
  case atStart => exact ⟨0, Nat.zero_le _, rfl, rfl, Below.refl _ _⟩
  case round =>
    obtain ⟨k, hk, rfl, T, K⟩ := hrel
    replace T : Hid _ := T
    have A2 := A.below K S0
    have V2 := V.later K
    have cc := A2
    obtain ⟨a0, a1, a2, a3, a4, a5, a6, a7, a8, a9⟩ := cc
    by_cases hlt : k < x.net.length
    · obtain ⟨b, off, hat, _⟩ := V2.n (by omega)
      rw [hat] at a6
      obtain ⟨v, hh⟩ : ∃ v, x.net.getD k Wi.nil = v := ⟨_, rfl⟩
      have hck : WiAtO wr b (off + k * 12) v := by
        have ht := V2.n
        rw [hat] at ht
        rw [← hh]
        exact wiAtO_of (ht.at_ wiEnc_len Wi.nil hlt)
      have hT := all_take wiOk x.net Wi.nil hlt
      rw [T.out, hh, Bool.true_and] at hT
      have hNo : wiOk v = false → x.net.all wiOk = false := fun e => all_no wiOk x.net Wi.nil hlt (by rw [hh]; exact e)
      replace hT : Hid _ := hT
      replace hh : Hid _ := hh
      replace hat : Hid _ := hat
      obtain ⟨c0, c1, c2, c3, c4, c5, c6, c7, c8, c9, c10, c11⟩ := hck
      obtain ⟨u, hu⟩ : ∃ u, u = wr.alloc (Obj.cells #[.int .i64 v.fr, .bool v.ak, .int .i64 v.li, .int .i64 v.n, .int .i64 v.x.k, .int .i64 v.x.q, .int .i64 v.x.r, .int .i64 v.x.c, .int .i64 v.x.b, .int .i64 v.x.p, .int .i64 v.x.h, .bool v.x.up] 80) := ⟨_, rfl⟩
      have ku : Below wr.heap.size wr u := by rw [hu]; exact below_new _
      have U : WiAt u wr.heap.size v := by rw [hu]; exact WiAt.new wr _ v
      have K0 := K.trans (ku.mono K.size)
      go_upto_region 5 with fail
      rw [← hu]
      clear hu ku c0 c1 c2 c3 c4 c5 c6 c7 c8 c9 c10 c11 K A2 V2 a0 a1 a2 a3 a4 a5 a6 a7 a8 a9
      have cc := U
      obtain ⟨c0, c1, c2, c3, c4, c5, c6, c7, c8, c9, c10, c11⟩ := cc
      go_wp2_with fail
      go_at_call 47
      clear c0 c1 c2 c3 c4 c5 c6 c7 c8 c9 c10 c11
      refine (inB v.fr 0 1 u).mono ?_
      rintro e u1 ⟨rfl, hw_⟩
      have U := (by rw [hw_]; exact U : WiAt u1 wr.heap.size v)
      have K1 := (by rw [hw_]; exact K0 : Below y.heap.size y u1)
      clear hw_ K0
      cases h1 : decide (0 ≤ v.fr ∧ v.fr ≤ 1)
      · have hx : wiOk v = false := by unfold wiOk; rw [h1]; rfl
        have hN : Hid (R = false) := by unfold Hid; rw [hR.out, hNo hx]; rfl
        clear hx hNo h1
        go_wp2
        go_ret
        exact ⟨by rw [hN.out]; rfl, B0.trans (K1.mono B0.size)⟩
      · replace h1 : Hid _ := h1
        have cc := U
        obtain ⟨c0, c1, c2, c3, c4, c5, c6, c7, c8, c9, c10, c11⟩ := cc
        go_wp2_with fail
        go_at_call 47
        clear c0 c1 c2 c3 c4 c5 c6 c7 c8 c9 c10 c11
        refine (inB v.li 0 100000 u1).mono ?_
        rintro e u2 ⟨rfl, hw_⟩
        have U := (by rw [hw_]; exact U : WiAt u2 wr.heap.size v)
        have K2 := (by rw [hw_]; exact K1 : Below y.heap.size y u2)
        clear hw_ K1
        rw [show decide (0 ≤ v.li ∧ v.li ≤ 100000) = numB v.li from rfl]
        cases h2 : numB v.li
        · have hx : wiOk v = false := by unfold wiOk; rw [h1.out, h2]; rfl
          have hN : Hid (R = false) := by unfold Hid; rw [hR.out, hNo hx]; rfl
          clear hx hNo h2
          go_wp2
          go_ret
          exact ⟨by rw [hN.out]; rfl, B0.trans (K2.mono B0.size)⟩
        · replace h2 : Hid _ := h2
          have cc := U
          obtain ⟨c0, c1, c2, c3, c4, c5, c6, c7, c8, c9, c10, c11⟩ := cc
          go_wp2_with fail
          go_at_call 47
          clear c0 c1 c2 c3 c4 c5 c6 c7 c8 c9 c10 c11
          refine (inB v.n 0 100000 u2).mono ?_
          rintro e u3 ⟨rfl, hw_⟩
          have U := (by rw [hw_]; exact U : WiAt u3 wr.heap.size v)
          have K3 := (by rw [hw_]; exact K2 : Below y.heap.size y u3)
          clear hw_ K2
          rw [show decide (0 ≤ v.n ∧ v.n ≤ 100000) = numB v.n from rfl]
          cases h3 : numB v.n
          · have hx : wiOk v = false := by unfold wiOk; rw [h1.out, h2.out, h3]; rfl
            have hN : Hid (R = false) := by unfold Hid; rw [hR.out, hNo hx]; rfl
            clear hx hNo h3
            go_wp2
            go_ret
            exact ⟨by rw [hN.out]; rfl, B0.trans (K3.mono B0.size)⟩
          · replace h3 : Hid _ := h3
            cases h4 : v.ak
            · have cc := U
              obtain ⟨c0, c1, c2, c3, c4, c5, c6, c7, c8, c9, c10, c11⟩ := cc
              rw [h4] at c1
              replace h4 : Hid _ := h4
              go_wp2_with fail
              go_at_call 48
              clear c0 c1 c2 c3 c4 c5 c6 c7 c8 c9 c10 c11
              refine (inOkS v.x u3).mono ?_
              rintro e u4 ⟨rfl, k4⟩
              have K4 := K3.trans (k4.mono K3.size)
              clear k4 K3
              cases h5 : inOk v.x
              · have hx : wiOk v = false := by unfold wiOk; rw [h1.out, h2.out, h3.out, h4.out, if_neg (by decide), h5]; rfl
                have hN : Hid (R = false) := by unfold Hid; rw [hR.out, hNo hx]; rfl
                clear hx hNo h5
                go_wp2
                go_ret
                exact ⟨by rw [hN.out]; rfl, B0.trans (K4.mono B0.size)⟩
              · replace h5 : Hid _ := h5
                have hx : wiOk v = true := by unfold wiOk; rw [h1.out, h2.out, h3.out, h4.out, if_neg (by decide), h5.out]; rfl
                have hT2 : Hid ((x.net.take (k + 1)).all wiOk = true) := by unfold Hid; rw [hT.out, hx]
                clear hx hNo
                go_wp2
                go_roundw
                case rel => exact ⟨k + 1, by omega, by go_num, hT2.out, K4⟩
                case measure => simp [intOf]; omega
            · have eI := neqIn v.x
              have cc := U
              obtain ⟨c0, c1, c2, c3, c4, c5, c6, c7, c8, c9, c10, c11⟩ := cc
              rw [h4] at c1
              replace h4 : Hid _ := h4
              cases h5 : inNil v.x
              · rw [h5] at eI
                have hx : wiOk v = false := by unfold wiOk; rw [h1.out, h2.out, h3.out, h4.out, if_pos rfl, h5]; rfl
                have hN : Hid (R = false) := by unfold Hid; rw [hR.out, hNo hx]; rfl
                clear hx hNo h5
                go_wp2
                go_ret
                exact ⟨by rw [hN.out]; rfl, B0.trans (K3.mono B0.size)⟩
              · rw [h5] at eI
                replace h5 : Hid _ := h5
                have hx : wiOk v = true := by unfold wiOk; rw [h1.out, h2.out, h3.out, h4.out, if_pos rfl, h5.out]; rfl
                have hT2 : Hid ((x.net.take (k + 1)).all wiOk = true) := by unfold Hid; rw [hT.out, hx]
                clear hx hNo
                go_wp2
                go_roundw
                case rel => exact ⟨k + 1, by omega, by go_num, hT2.out, K3⟩
                case measure => simp [intOf]; omega
    · obtain rfl : k = x.net.length := by omega
      have hN : Hid (R = decide ((x.net.length : Int) ≤ 20)) := by
        unfold Hid; rw [hR.out]
        have := T.out
        rw [List.take_length] at this
        rw [this, Bool.true_and]
        by_cases h : x.net.length ≤ 20
        · rw [decide_eq_true h, decide_eq_true (by omega)]
        · rw [decide_eq_false h, decide_eq_false (by omega)]
      go_wp2
      go_ret
      exact ⟨by rw [hN.out]; rfl, B0.trans (K.mono B0.size)⟩

end Go.Proofs.Ytnpiljegdiconab
namespace Go.Proofs.Ytnpiljegdiconab
open Go.ChangeShapes Go.WideShapes Go.ChangeAt Go.RowKit
open Go.ChangeMaps (open_string shut_string)
set_option linter.unusedVariables false
set_option maxRecDepth 100000

theorem wiPut (w : World) (g o : Nat) (x : Wi) : putAll w g o (wiEnc x) = ((((((((((((w.setCell ⟨g, o, none⟩ (.int .i64 x.fr)).setCell ⟨g, o + 1, none⟩ (.bool x.ak)).setCell ⟨g, o + 2, none⟩ (.int .i64 x.li)).setCell ⟨g, o + 3, none⟩ (.int .i64 x.n)).setCell ⟨g, o + 4, none⟩ (.int .i64 x.x.k)).setCell ⟨g, o + 5, none⟩ (.int .i64 x.x.q)).setCell ⟨g, o + 6, none⟩ (.int .i64 x.x.r)).setCell ⟨g, o + 7, none⟩ (.int .i64 x.x.c)).setCell ⟨g, o + 8, none⟩ (.int .i64 x.x.b)).setCell ⟨g, o + 9, none⟩ (.int .i64 x.x.p)).setCell ⟨g, o + 10, none⟩ (.int .i64 x.x.h)).setCell ⟨g, o + 11, none⟩ (.bool x.x.up)) := rfl
theorem WiAtO.below {w w' : World} {q o n : Nat} {x : Wi} (h : WiAtO w q o x) (k : Below n w w') (hq : q < n) : WiAtO w' q o x :=
  ⟨(World.cell?_of_block (a := ⟨q, o, none⟩) (k.block q hq)).trans h.c0, (World.cell?_of_block (a := ⟨q, o + 1, none⟩) (k.block q hq)).trans h.c1, (World.cell?_of_block (a := ⟨q, o + 2, none⟩) (k.block q hq)).trans h.c2, (World.cell?_of_block (a := ⟨q, o + 3, none⟩) (k.block q hq)).trans h.c3, (World.cell?_of_block (a := ⟨q, o + 4, none⟩) (k.block q hq)).trans h.c4, (World.cell?_of_block (a := ⟨q, o + 5, none⟩) (k.block q hq)).trans h.c5, (World.cell?_of_block (a := ⟨q, o + 6, none⟩) (k.block q hq)).trans h.c6, (World.cell?_of_block (a := ⟨q, o + 7, none⟩) (k.block q hq)).trans h.c7, (World.cell?_of_block (a := ⟨q, o + 8, none⟩) (k.block q hq)).trans h.c8, (World.cell?_of_block (a := ⟨q, o + 9, none⟩) (k.block q hq)).trans h.c9, (World.cell?_of_block (a := ⟨q, o + 10, none⟩) (k.block q hq)).trans h.c10, (World.cell?_of_block (a := ⟨q, o + 11, none⟩) (k.block q hq)).trans h.c11⟩
set_option maxHeartbeats 2000000 in
theorem toWiI (x : Wi) (w : World) : Calls Try.prog 36 #[.agg #[.int .i64 x.fr, .bool x.ak, .int .i64 x.li, .int .i64 x.n, .int .i64 x.x.k, .int .i64 x.x.q, .int .i64 x.x.r, .int .i64 x.x.c, .int .i64 x.x.b, .int .i64 x.x.p, .int .i64 x.x.h, .bool x.x.up]] w fun e w' => e = .returned (.agg #[.int .i64 x.fr, .bool x.ak, .int .i64 x.li, .int .i64 x.n, .int .i64 x.x.k, .int .i64 x.x.q, .int .i64 x.x.r, .int .i64 x.x.c, .int .i64 x.x.b, .int .i64 x.x.p, .int .i64 x.x.h, .bool x.x.up]) ∧ Below w.heap.size w w' := by
  obtain ⟨w0, hw0⟩ : ∃ w0, w0 = ((w.alloc (Obj.cells #[.int .i64 x.fr, .bool x.ak, .int .i64 x.li, .int .i64 x.n, .int .i64 x.x.k, .int .i64 x.x.q, .int .i64 x.x.r, .int .i64 x.x.c, .int .i64 x.x.b, .int .i64 x.x.p, .int .i64 x.x.h, .bool x.x.up] 86)).alloc (Obj.cells #[.int .i64 0, .bool false, .int .i64 0, .int .i64 0, .int .i64 0, .int .i64 0, .int .i64 0, .int .i64 0, .int .i64 0, .int .i64 0, .int .i64 0, .bool false] 80)).alloc (Obj.cells #[.int .i64 x.fr, .bool x.ak, .int .i64 x.li, .int .i64 x.n, .int .i64 0, .int .i64 0, .int .i64 0, .int .i64 0, .int .i64 0, .int .i64 0, .int .i64 0, .bool false] 80) := ⟨_, rfl⟩
  have b0 : Below w.heap.size w w0 := by rw [hw0]; exact (((Below.refl _ _).alloc (Nat.le_refl _) _).alloc (by simp) _).alloc (by simp; omega) _
  have P0 : WiAt w0 w.heap.size x := by rw [hw0]; constructor <;> simp [go_sem]
  have Q0 : WiAt w0 (w.heap.size + 1) Wi.nil := by rw [hw0]; constructor <;> simp [go_sem, Wi.nil, ikN]
  have R0 : WiAt w0 (w.heap.size + 1 + 1) ⟨x.fr, x.ak, x.li, x.n, ⟨0, 0, 0, 0, 0, 0, 0, false⟩⟩ := by rw [hw0]; constructor <;> simp [go_sem]
  have QF : ∀ i, w0.frozen? ⟨w.heap.size + 1, i, none⟩ = false := fun i => by rw [hw0]; simp [go_sem]
  have RF : ∀ i, w0.frozen? ⟨w.heap.size + 1 + 1, i, none⟩ = false := fun i => by rw [hw0]; simp [go_sem]
  have S0 := R0.lt
  go_enter Try.func36, Try.ntmps36
  go_wp2_with fail
  go_at_call 37
  rw [← hw0]
  clear hw0
  refine (toInI x.x w0).mono ?_
  rintro e w1 ⟨rfl, k1⟩
  have b1 := b0.trans (k1.mono b0.size)
  obtain ⟨p0, p1, p2, p3, p4, p5, p6, p7, p8, p9, p10, p11⟩ := P0.below k1 (by omega)
  obtain ⟨r0, r1, r2, r3, r4, r5, r6, r7, r8, r9, r10, r11⟩ := R0.below k1 (by omega)
  obtain ⟨q0, q1, q2, q3, q4, q5, q6, q7, q8, q9, q10, q11⟩ := Q0.below k1 (by omega)
  have qf0 : w1.frozen? ⟨w.heap.size + 1, 0, none⟩ = false := (World.frozen?_of_block (a := ⟨w.heap.size + 1, 0, none⟩) (k1.block (w.heap.size + 1) (by omega))).trans (QF 0)
  have rf0 : w1.frozen? ⟨w.heap.size + 1 + 1, 0, none⟩ = false := (World.frozen?_of_block (a := ⟨w.heap.size + 1 + 1, 0, none⟩) (k1.block (w.heap.size + 1 + 1) (by omega))).trans (RF 0)
  have qf1 : w1.frozen? ⟨w.heap.size + 1, 1, none⟩ = false := (World.frozen?_of_block (a := ⟨w.heap.size + 1, 1, none⟩) (k1.block (w.heap.size + 1) (by omega))).trans (QF 1)
  have rf1 : w1.frozen? ⟨w.heap.size + 1 + 1, 1, none⟩ = false := (World.frozen?_of_block (a := ⟨w.heap.size + 1 + 1, 1, none⟩) (k1.block (w.heap.size + 1 + 1) (by omega))).trans (RF 1)
  have qf2 : w1.frozen? ⟨w.heap.size + 1, 2, none⟩ = false := (World.frozen?_of_block (a := ⟨w.heap.size + 1, 2, none⟩) (k1.block (w.heap.size + 1) (by omega))).trans (QF 2)
  have rf2 : w1.frozen? ⟨w.heap.size + 1 + 1, 2, none⟩ = false := (World.frozen?_of_block (a := ⟨w.heap.size + 1 + 1, 2, none⟩) (k1.block (w.heap.size + 1 + 1) (by omega))).trans (RF 2)
  have qf3 : w1.frozen? ⟨w.heap.size + 1, 3, none⟩ = false := (World.frozen?_of_block (a := ⟨w.heap.size + 1, 3, none⟩) (k1.block (w.heap.size + 1) (by omega))).trans (QF 3)
  have rf3 : w1.frozen? ⟨w.heap.size + 1 + 1, 3, none⟩ = false := (World.frozen?_of_block (a := ⟨w.heap.size + 1 + 1, 3, none⟩) (k1.block (w.heap.size + 1 + 1) (by omega))).trans (RF 3)
  have qf4 : w1.frozen? ⟨w.heap.size + 1, 4, none⟩ = false := (World.frozen?_of_block (a := ⟨w.heap.size + 1, 4, none⟩) (k1.block (w.heap.size + 1) (by omega))).trans (QF 4)
  have rf4 : w1.frozen? ⟨w.heap.size + 1 + 1, 4, none⟩ = false := (World.frozen?_of_block (a := ⟨w.heap.size + 1 + 1, 4, none⟩) (k1.block (w.heap.size + 1 + 1) (by omega))).trans (RF 4)
  have qf5 : w1.frozen? ⟨w.heap.size + 1, 5, none⟩ = false := (World.frozen?_of_block (a := ⟨w.heap.size + 1, 5, none⟩) (k1.block (w.heap.size + 1) (by omega))).trans (QF 5)
  have rf5 : w1.frozen? ⟨w.heap.size + 1 + 1, 5, none⟩ = false := (World.frozen?_of_block (a := ⟨w.heap.size + 1 + 1, 5, none⟩) (k1.block (w.heap.size + 1 + 1) (by omega))).trans (RF 5)
  have qf6 : w1.frozen? ⟨w.heap.size + 1, 6, none⟩ = false := (World.frozen?_of_block (a := ⟨w.heap.size + 1, 6, none⟩) (k1.block (w.heap.size + 1) (by omega))).trans (QF 6)
  have rf6 : w1.frozen? ⟨w.heap.size + 1 + 1, 6, none⟩ = false := (World.frozen?_of_block (a := ⟨w.heap.size + 1 + 1, 6, none⟩) (k1.block (w.heap.size + 1 + 1) (by omega))).trans (RF 6)
  have qf7 : w1.frozen? ⟨w.heap.size + 1, 7, none⟩ = false := (World.frozen?_of_block (a := ⟨w.heap.size + 1, 7, none⟩) (k1.block (w.heap.size + 1) (by omega))).trans (QF 7)
  have rf7 : w1.frozen? ⟨w.heap.size + 1 + 1, 7, none⟩ = false := (World.frozen?_of_block (a := ⟨w.heap.size + 1 + 1, 7, none⟩) (k1.block (w.heap.size + 1 + 1) (by omega))).trans (RF 7)
  have qf8 : w1.frozen? ⟨w.heap.size + 1, 8, none⟩ = false := (World.frozen?_of_block (a := ⟨w.heap.size + 1, 8, none⟩) (k1.block (w.heap.size + 1) (by omega))).trans (QF 8)
  have rf8 : w1.frozen? ⟨w.heap.size + 1 + 1, 8, none⟩ = false := (World.frozen?_of_block (a := ⟨w.heap.size + 1 + 1, 8, none⟩) (k1.block (w.heap.size + 1 + 1) (by omega))).trans (RF 8)
  have qf9 : w1.frozen? ⟨w.heap.size + 1, 9, none⟩ = false := (World.frozen?_of_block (a := ⟨w.heap.size + 1, 9, none⟩) (k1.block (w.heap.size + 1) (by omega))).trans (QF 9)
  have rf9 : w1.frozen? ⟨w.heap.size + 1 + 1, 9, none⟩ = false := (World.frozen?_of_block (a := ⟨w.heap.size + 1 + 1, 9, none⟩) (k1.block (w.heap.size + 1 + 1) (by omega))).trans (RF 9)
  have qf10 : w1.frozen? ⟨w.heap.size + 1, 10, none⟩ = false := (World.frozen?_of_block (a := ⟨w.heap.size + 1, 10, none⟩) (k1.block (w.heap.size + 1) (by omega))).trans (QF 10)
  have rf10 : w1.frozen? ⟨w.heap.size + 1 + 1, 10, none⟩ = false := (World.frozen?_of_block (a := ⟨w.heap.size + 1 + 1, 10, none⟩) (k1.block (w.heap.size + 1 + 1) (by omega))).trans (RF 10)
  have qf11 : w1.frozen? ⟨w.heap.size + 1, 11, none⟩ = false := (World.frozen?_of_block (a := ⟨w.heap.size + 1, 11, none⟩) (k1.block (w.heap.size + 1) (by omega))).trans (QF 11)
  have rf11 : w1.frozen? ⟨w.heap.size + 1 + 1, 11, none⟩ = false := (World.frozen?_of_block (a := ⟨w.heap.size + 1 + 1, 11, none⟩) (k1.block (w.heap.size + 1 + 1) (by omega))).trans (RF 11)
  clear P0 R0 Q0 QF RF k1 b0
  go_wp2
  refine bodyPost_ret (v := .agg #[.int .i64 x.fr, .bool x.ak, .int .i64 x.li, .int .i64 x.n, .int .i64 x.x.k, .int .i64 x.x.q, .int .i64 x.x.r, .int .i64 x.x.c, .int .i64 x.x.b, .int .i64 x.x.p, .int .i64 x.x.h, .bool x.x.up]) (by simp [results, Try.results36, go_sem, *]) rfl ⟨rfl, ?_⟩
  repeat' (first | with_reducible exact b1 | refine Below.setCell ?_ (by first | (show _ ≤ w.heap.size + 1; omega) | (show _ ≤ w.heap.size + 1 + 1; omega)) _)
set_option maxHeartbeats 2000000 in
theorem eqWiI (x : Wi) (w : World) :
    Calls Try.prog 42 #[.agg #[.int .i64 x.fr, .bool x.ak, .int .i64 x.li, .int .i64 x.n, .int .i64 x.x.k, .int .i64 x.x.q, .int .i64 x.x.r, .int .i64 x.x.c, .int .i64 x.x.b, .int .i64 x.x.p, .int .i64 x.x.h, .bool x.x.up], .agg #[.int .i64 x.fr, .bool x.ak, .int .i64 x.li, .int .i64 x.n, .int .i64 x.x.k, .int .i64 x.x.q, .int .i64 x.x.r, .int .i64 x.x.c, .int .i64 x.x.b, .int .i64 x.x.p, .int .i64 x.x.h, .bool x.x.up]] w fun e w' => e = .returned (.bool true) ∧ Below w.heap.size w w' := by
  obtain ⟨w0, hw0⟩ : ∃ w0, w0 = (w.alloc (Obj.cells #[.int .i64 x.fr, .bool x.ak, .int .i64 x.li, .int .i64 x.n, .int .i64 x.x.k, .int .i64 x.x.q, .int .i64 x.x.r, .int .i64 x.x.c, .int .i64 x.x.b, .int .i64 x.x.p, .int .i64 x.x.h, .bool x.x.up] 80)).alloc (Obj.cells #[.int .i64 x.fr, .bool x.ak, .int .i64 x.li, .int .i64 x.n, .int .i64 x.x.k, .int .i64 x.x.q, .int .i64 x.x.r, .int .i64 x.x.c, .int .i64 x.x.b, .int .i64 x.x.p, .int .i64 x.x.h, .bool x.x.up] 80) := ⟨_, rfl⟩
  have b0 : Below w.heap.size w w0 := by rw [hw0]; exact ((Below.refl _ _).alloc (Nat.le_refl _) _).alloc (by simp) _
  have P0 : WiAt w0 w.heap.size x := by rw [hw0]; constructor <;> simp [go_sem]
  have R0 : WiAt w0 (w.heap.size + 1) x := by rw [hw0]; constructor <;> simp [go_sem]
  have hle := R0.lt
  have hak : (x.ak != x.ak) = false := by simp
  go_enter Try.func42, Try.ntmps42
  go_wp2_with fail
  go_at_call 43
  rw [← hw0]
  clear hw0
  refine (eqInI x.x w0).mono ?_
  rintro e w1 ⟨rfl, k1⟩
  have b1 := b0.trans (k1.mono b0.size)
  clear P0 R0 k1 b0
  go_wp2
  go_ret
  exact ⟨rfl, b1⟩

end Go.Proofs.Ytnpiljegdiconab
namespace Go.Proofs.Ytnpiljegdiconab
open Go.ChangeShapes Go.WideShapes Go.ChangeAt Go.RowKit
open Go.ChangeMaps (open_string shut_string)
set_option linter.unusedVariables false
set_option maxRecDepth 100000

set_option maxRecDepth 100000 in
theorem wiRow_open {H : Type} {enc : TypeId × Value → H} {w : World} {n0 : Nat} {v : Value} {x : DataW H × List MemPlace} (hn : DataW.trod enc Try.prog w 0 (fun _ => true) true n0 25 [v] = some x) :
    ∃ ad cap L, v = .slice ad L.length cap ∧ L.length ≤ maxLen ∧ FView wiEnc w ad L ∧ (ad = none → cap = 0) := by
  have hs := Go.Deep.open_slice Try.underlying25 hn
  have hcell : ∀ x, [v] = [x] → v = x := fun x h => by simpa using h
  rcases hs with ⟨hcs, _⟩ | ⟨a, len, cap, m, n, D, Pl, hcs, _, hl, hm, hmm, _, hx⟩
  · exact ⟨none, 0, [], hcell _ hcs, by simp, FView.nil, fun _ => rfl⟩
  · simp at hmm
    subst hmm
    have each : ∀ i, i < m → ∃ q : Wi, w.cell? (a.add (i * 12)) = some (.int .i64 q.fr) ∧ w.cell? (a.add (i * 12 + 1)) = some (.bool q.ak) ∧ w.cell? (a.add (i * 12 + 2)) = some (.int .i64 q.li) ∧ w.cell? (a.add (i * 12 + 3)) = some (.int .i64 q.n) ∧ w.cell? (a.add (i * 12 + 4)) = some (.int .i64 q.x.k) ∧ w.cell? (a.add (i * 12 + 5)) = some (.int .i64 q.x.q) ∧ w.cell? (a.add (i * 12 + 6)) = some (.int .i64 q.x.r) ∧ w.cell? (a.add (i * 12 + 7)) = some (.int .i64 q.x.c) ∧ w.cell? (a.add (i * 12 + 8)) = some (.int .i64 q.x.b) ∧ w.cell? (a.add (i * 12 + 9)) = some (.int .i64 q.x.p) ∧ w.cell? (a.add (i * 12 + 10)) = some (.int .i64 q.x.h) ∧ w.cell? (a.add (i * 12 + 11)) = some (.bool q.x.up) := by
      intro i hi
      obtain ⟨cs', h1, h2⟩ := hx i hi
      rw [(by kernel_rfl : Try.prog.cellsOf 86 = 12)] at h1
      obtain ⟨_, hlen, hc⟩ := World.cells?_some h1
      obtain ⟨xs, k, hk, hxy, _, hxl, hf⟩ := DataW.trod_struct Try.underlying86 h2
      match xs, hxl, cs', hlen with
      | [y0, y1, y2, y3, y4], _, [c0, c1, c2, c3, c4, c5, c6, c7, c8, c9, c10, c11], _ =>
        have g0 : DataW.trod enc Try.prog w 0 (fun _ => true) true k 3 ((List.drop 0 [c0, c1, c2, c3, c4, c5, c6, c7, c8, c9, c10, c11]).take (Try.prog.cellsOf 3)) = some y0 := hf 0 _ rfl
        rw [(by kernel_rfl : Try.prog.cellsOf 3 = 1)] at g0
        have g1 : DataW.trod enc Try.prog w 0 (fun _ => true) true k 4 ((List.drop 1 [c0, c1, c2, c3, c4, c5, c6, c7, c8, c9, c10, c11]).take (Try.prog.cellsOf 4)) = some y1 := hf 1 _ rfl
        rw [(by kernel_rfl : Try.prog.cellsOf 4 = 1)] at g1
        have g2 : DataW.trod enc Try.prog w 0 (fun _ => true) true k 3 ((List.drop 2 [c0, c1, c2, c3, c4, c5, c6, c7, c8, c9, c10, c11]).take (Try.prog.cellsOf 3)) = some y2 := hf 2 _ rfl
        rw [(by kernel_rfl : Try.prog.cellsOf 3 = 1)] at g2
        have g3 : DataW.trod enc Try.prog w 0 (fun _ => true) true k 3 ((List.drop 3 [c0, c1, c2, c3, c4, c5, c6, c7, c8, c9, c10, c11]).take (Try.prog.cellsOf 3)) = some y3 := hf 3 _ rfl
        rw [(by kernel_rfl : Try.prog.cellsOf 3 = 1)] at g3
        have g4 : DataW.trod enc Try.prog w 0 (fun _ => true) true k 84 ((List.drop 4 [c0, c1, c2, c3, c4, c5, c6, c7, c8, c9, c10, c11]).take (Try.prog.cellsOf 84)) = some y4 := hf 4 _ rfl
        rw [(by kernel_rfl : Try.prog.cellsOf 84 = 8)] at g4
        obtain ⟨us4_, k4_, hk4_, hxy4_, _, hul4_, hg4_⟩ := DataW.trod_struct Try.underlying84 g4
        match us4_, hul4_ with
        | [u4_0, u4_1, u4_2, u4_3, u4_4], _ =>
          have g4_0 : DataW.trod enc Try.prog w 0 (fun _ => true) true k4_ 3 ((List.drop 0 [c4, c5, c6, c7, c8, c9, c10, c11]).take (Try.prog.cellsOf 3)) = some u4_0 := hg4_ 0 _ rfl
          rw [(by kernel_rfl : Try.prog.cellsOf 3 = 1)] at g4_0
          have g4_1 : DataW.trod enc Try.prog w 0 (fun _ => true) true k4_ 3 ((List.drop 1 [c4, c5, c6, c7, c8, c9, c10, c11]).take (Try.prog.cellsOf 3)) = some u4_1 := hg4_ 1 _ rfl
          rw [(by kernel_rfl : Try.prog.cellsOf 3 = 1)] at g4_1
          have g4_2 : DataW.trod enc Try.prog w 0 (fun _ => true) true k4_ 82 ((List.drop 2 [c4, c5, c6, c7, c8, c9, c10, c11]).take (Try.prog.cellsOf 82)) = some u4_2 := hg4_ 2 _ rfl
          rw [(by kernel_rfl : Try.prog.cellsOf 82 = 4)] at g4_2
          have g4_3 : DataW.trod enc Try.prog w 0 (fun _ => true) true k4_ 3 ((List.drop 6 [c4, c5, c6, c7, c8, c9, c10, c11]).take (Try.prog.cellsOf 3)) = some u4_3 := hg4_ 3 _ rfl
          rw [(by kernel_rfl : Try.prog.cellsOf 3 = 1)] at g4_3
          have g4_4 : DataW.trod enc Try.prog w 0 (fun _ => true) true k4_ 4 ((List.drop 7 [c4, c5, c6, c7, c8, c9, c10, c11]).take (Try.prog.cellsOf 4)) = some u4_4 := hg4_ 4 _ rfl
          rw [(by kernel_rfl : Try.prog.cellsOf 4 = 1)] at g4_4
          obtain ⟨us4_2_, k4_2_, hk4_2_, hxy4_2_, _, hul4_2_, hg4_2_⟩ := DataW.trod_struct Try.underlying82 g4_2
          match us4_2_, hul4_2_ with
          | [u4_2_0, u4_2_1, u4_2_2, u4_2_3], _ =>
            have g4_2_0 : DataW.trod enc Try.prog w 0 (fun _ => true) true k4_2_ 3 ((List.drop 0 [c6, c7, c8, c9]).take (Try.prog.cellsOf 3)) = some u4_2_0 := hg4_2_ 0 _ rfl
            rw [(by kernel_rfl : Try.prog.cellsOf 3 = 1)] at g4_2_0
            have g4_2_1 : DataW.trod enc Try.prog w 0 (fun _ => true) true k4_2_ 3 ((List.drop 1 [c6, c7, c8, c9]).take (Try.prog.cellsOf 3)) = some u4_2_1 := hg4_2_ 1 _ rfl
            rw [(by kernel_rfl : Try.prog.cellsOf 3 = 1)] at g4_2_1
            have g4_2_2 : DataW.trod enc Try.prog w 0 (fun _ => true) true k4_2_ 3 ((List.drop 2 [c6, c7, c8, c9]).take (Try.prog.cellsOf 3)) = some u4_2_2 := hg4_2_ 2 _ rfl
            rw [(by kernel_rfl : Try.prog.cellsOf 3 = 1)] at g4_2_2
            have g4_2_3 : DataW.trod enc Try.prog w 0 (fun _ => true) true k4_2_ 3 ((List.drop 3 [c6, c7, c8, c9]).take (Try.prog.cellsOf 3)) = some u4_2_3 := hg4_2_ 3 _ rfl
            rw [(by kernel_rfl : Try.prog.cellsOf 3 = 1)] at g4_2_3
            obtain ⟨z0, e0, _, _⟩ := DataW.trod_int Try.underlying3 g0
            obtain ⟨z1, e1, _⟩ := DataW.trod_bool Try.underlying4 g1
            obtain ⟨z2, e2, _, _⟩ := DataW.trod_int Try.underlying3 g2
            obtain ⟨z3, e3, _, _⟩ := DataW.trod_int Try.underlying3 g3
            obtain ⟨z4, e4, _, _⟩ := DataW.trod_int Try.underlying3 g4_0
            obtain ⟨z5, e5, _, _⟩ := DataW.trod_int Try.underlying3 g4_1
            obtain ⟨z6, e6, _, _⟩ := DataW.trod_int Try.underlying3 g4_2_0
            obtain ⟨z7, e7, _, _⟩ := DataW.trod_int Try.underlying3 g4_2_1
            obtain ⟨z8, e8, _, _⟩ := DataW.trod_int Try.underlying3 g4_2_2
            obtain ⟨z9, e9, _, _⟩ := DataW.trod_int Try.underlying3 g4_2_3
            obtain ⟨z10, e10, _, _⟩ := DataW.trod_int Try.underlying3 g4_3
            obtain ⟨z11, e11, _⟩ := DataW.trod_bool Try.underlying4 g4_4
            simp at e0 e1 e2 e3 e4 e5 e6 e7 e8 e9 e10 e11
            subst e0 e1 e2 e3 e4 e5 e6 e7 e8 e9 e10 e11
            have k_0 := hc 0 (by omega)
            have k_1 := hc 1 (by omega)
            have k_2 := hc 2 (by omega)
            have k_3 := hc 3 (by omega)
            have k_4 := hc 4 (by omega)
            have k_5 := hc 5 (by omega)
            have k_6 := hc 6 (by omega)
            have k_7 := hc 7 (by omega)
            have k_8 := hc 8 (by omega)
            have k_9 := hc 9 (by omega)
            have k_10 := hc 10 (by omega)
            have k_11 := hc 11 (by omega)
            rw [Go.Deep.add_add] at k_0 k_1 k_2 k_3 k_4 k_5 k_6 k_7 k_8 k_9 k_10 k_11
            exact ⟨⟨z0, z1, z2, z3, z4, z5, z6, z7, z8, z9, z10, z11⟩, by simpa using k_0, by simpa using k_1, by simpa using k_2, by simpa using k_3, by simpa using k_4, by simpa using k_5, by simpa using k_6, by simpa using k_7, by simpa using k_8, by simpa using k_9, by simpa using k_10, by simpa using k_11⟩
    haveI : Inhabited Wi := ⟨Wi.nil⟩
    obtain ⟨q, hq⟩ := Go.Deep.choose_lt each
    refine ⟨some a, m, (List.range len).map q, by simpa using hcell _ hcs, by simpa using Nat.le_trans hl hm, fun hp => ?_, fun e => by cases e⟩
    simp at hp
    obtain ⟨b, off, spot⟩ := a
    have hspot : spot = none := by simpa [Addr.add] using World.cell?_spot (hq 0 (by omega)).1
    subst hspot
    refine ⟨b, off, rfl, fun j v hv => ?_⟩
    have hjl : j < len * 12 := by
      have := (List.getElem?_eq_some_iff.1 hv).1
      rw [fcells_len wiEnc_len] at this
      simpa using this
    have hi : j / 12 < len := by omega
    have hr : j % 12 < 12 := Nat.mod_lt _ (by omega)
    have e : j = j / 12 * 12 + j % 12 := by omega
    rw [e, fcells_at wiEnc_len Wi.nil _ _ _ (by simpa using hi) hr, show ((List.range len).map q).getD (j / 12) Wi.nil = q (j / 12) by simp [List.getD, hi]] at hv
    obtain ⟨k0, k1, k2, k3, k4, k5, k6, k7, k8, k9, k10, k11⟩ := hq (j / 12) (by omega)
    simp only [add_plain] at k0 k1 k2 k3 k4 k5 k6 k7 k8 k9 k10 k11
    rw [e]
    generalize j % 12 = r at hv hr
    have hcase : r = 0 ∨ r = 1 ∨ r = 2 ∨ r = 3 ∨ r = 4 ∨ r = 5 ∨ r = 6 ∨ r = 7 ∨ r = 8 ∨ r = 9 ∨ r = 10 ∨ r = 11 := by omega
    rcases hcase with rfl | rfl | rfl | rfl | rfl | rfl | rfl | rfl | rfl | rfl | rfl | rfl
    · cases hv; simpa [Nat.add_assoc] using k0
    · cases hv; simpa [Nat.add_assoc] using k1
    · cases hv; simpa [Nat.add_assoc] using k2
    · cases hv; simpa [Nat.add_assoc] using k3
    · cases hv; simpa [Nat.add_assoc] using k4
    · cases hv; simpa [Nat.add_assoc] using k5
    · cases hv; simpa [Nat.add_assoc] using k6
    · cases hv; simpa [Nat.add_assoc] using k7
    · cases hv; simpa [Nat.add_assoc] using k8
    · cases hv; simpa [Nat.add_assoc] using k9
    · cases hv; simpa [Nat.add_assoc] using k10
    · cases hv; simpa [Nat.add_assoc] using k11
theorem wiSz (ad : Option Addr) (len cap : Nat) (left : Int) (w : World) (h0 : 0 ≤ left) (h1 : left ≤ 1048576) (hm : len ≤ maxLen) :
    Calls Try.prog 10 #[.slice ad len cap, .int .i64 left] w fun e w' => e = .returned (.int .i64 (if (len : Int) ≤ left then left - len else -1)) ∧ w' = w := by
  unfold maxLen at hm
  by_cases h : (len : Int) ≤ left
  · rw [if_pos h]
    have h2 : 0 ≤ left - (len : Int) := by omega
    go_enter Try.func10, Try.ntmps10
    go_wp2
    go_ret
    exact ⟨rfl, rfl⟩
  · rw [if_neg h]
    have h2 : left - (len : Int) < 0 := by omega
    go_enter Try.func10, Try.ntmps10
    go_wp2
    go_ret
    exact ⟨rfl, rfl⟩
theorem wiInfo2 : (Try.prog.info? 80).map (fun i => (i.zero, i.size, i.bytes)) = some (some (.agg #[.int .i64 0, .bool false, .int .i64 0, .int .i64 0, .int .i64 0, .int .i64 0, .int .i64 0, .int .i64 0, .int .i64 0, .int .i64 0, .int .i64 0, .bool false]), 12, 96) := by kernel_rfl
set_option maxHeartbeats 2000000 in
theorem wiToS (ad : Option Addr) (cap : Nat) (L : List Wi) (w : World) (hv : FView wiEnc w ad L) (hl : L.length ≤ 1048576) :
    Calls Try.prog 17 #[.slice ad L.length cap] w fun e w' => e = .returned (.slice (some ⟨w.heap.size, 0, none⟩) L.length L.length) ∧ FOwn wiEnc 12 80 w.heap.size w' (.slice (some ⟨w.heap.size, 0, none⟩) L.length L.length) L ∧ Below w.heap.size w w' := by
  obtain ⟨i0, hi, hz0, hz1, hz2⟩ := info_parts wiInfo2
  have hB := hv.lt wiEnc_len (by omega)
  go_enter Try.func17, Try.ntmps17
  go_wp2_with (first | (refine wpList_make_full _ rfl _ _ 35 rfl w.heap.size 80 i0 (.agg #[.int .i64 0, .bool false, .int .i64 0, .int .i64 0, .int .i64 0, .int .i64 0, .int .i64 0, .int .i64 0, .int .i64 0, .int .i64 0, .int .i64 0, .bool false]) 12 Try.underlying35 hi hz0 hz1 .i64 .i64 _ _ L.length rfl rfl rfl rfl ?c1 ?c2 ?c3 ?_))
  case c1 => rw [hz2]; omega
  case c2 => unfold maxLen; omega
  case c3 => exact Nat.le_refl _
  intro w1 hown hgrow
  have F0 : FFill wiEnc 12 80 w.heap.size w1 w.heap.size L 0 := FFill.start hown
  have B0 : Below w.heap.size w w1 := (Below.refl _ _).grown hgrow (Nat.le_refl _) (by simp)
  clear hown hgrow
  go_wp2
  go_loopw [4] (fun i wr => ∃ k : Nat, k ≤ L.length ∧ i = .int .i64 k ∧ FFill wiEnc 12 80 w.heap.size wr w.heap.size L k ∧ Below w.heap.size w wr) (fun i _ => L.length - (intOf i).toNat)
  case atStart => exact ⟨0, Nat.zero_le _, rfl, F0, B0⟩
  case round =>
    obtain ⟨k, hk, rfl, F, B⟩ := hrel
    clear F0 B0
    by_cases hlt : k < L.length
    · obtain ⟨b, off, rfl, _⟩ := hv (by omega)
      obtain ⟨h, hh⟩ : ∃ h, L.getD k Wi.nil = h := ⟨_, rfl⟩
      have hck : WiAtO wr b (off + k * 12) h := by
        rw [← hh]
        exact wiAtO_of ((hv.below B hB).at_ wiEnc_len Wi.nil hlt)
      obtain ⟨c0, c1, c2, c3, c4, c5, c6, c7, c8, c9, c10, c11⟩ := hck
      have hsz := F.lt
      go_wp2_with fail
      go_at_call 36
      refine (toWiI h wr).mono ?_
      rintro e w2 ⟨rfl, k2⟩
      have G := F.keep (k2.block _ hsz.2)
      have B2 := B.trans (k2.mono (Nat.le_of_lt hsz.2))
      obtain ⟨u0, hu0⟩ := G.cell (k * 12) (by omega)
      obtain ⟨u1, hu1⟩ := G.cell (k * 12 + 1) (by omega)
      obtain ⟨u2, hu2⟩ := G.cell (k * 12 + 2) (by omega)
      obtain ⟨u3, hu3⟩ := G.cell (k * 12 + 3) (by omega)
      obtain ⟨u4, hu4⟩ := G.cell (k * 12 + 4) (by omega)
      obtain ⟨u5, hu5⟩ := G.cell (k * 12 + 5) (by omega)
      obtain ⟨u6, hu6⟩ := G.cell (k * 12 + 6) (by omega)
      obtain ⟨u7, hu7⟩ := G.cell (k * 12 + 7) (by omega)
      obtain ⟨u8, hu8⟩ := G.cell (k * 12 + 8) (by omega)
      obtain ⟨u9, hu9⟩ := G.cell (k * 12 + 9) (by omega)
      obtain ⟨u10, hu10⟩ := G.cell (k * 12 + 10) (by omega)
      obtain ⟨u11, hu11⟩ := G.cell (k * 12 + 11) (by omega)
      have f0 := G.frozen (k * 12)
      have f1 := G.frozen (k * 12 + 1)
      have f2 := G.frozen (k * 12 + 2)
      have f3 := G.frozen (k * 12 + 3)
      have f4 := G.frozen (k * 12 + 4)
      have f5 := G.frozen (k * 12 + 5)
      have f6 := G.frozen (k * 12 + 6)
      have f7 := G.frozen (k * 12 + 7)
      have f8 := G.frozen (k * 12 + 8)
      have f9 := G.frozen (k * 12 + 9)
      have f10 := G.frozen (k * 12 + 10)
      have f11 := G.frozen (k * 12 + 11)
      have G1 := G.step wiEnc_len Wi.nil hlt
      have B3 := below_putAll (Nat.le_refl _) (wiEnc h) (k * 12) B2
      rw [hh, wiPut] at G1
      rw [wiPut] at B3
      clear F G B B2 hh hsz
      go_wp2
      go_roundw
      case rel => exact ⟨k + 1, by omega, by go_num, G1, B3⟩
      case measure => simp [intOf]; omega
    · obtain rfl : k = L.length := by omega
      go_wp2
      go_ret
      exact ⟨rfl, F.done wiEnc_len, B⟩

end Go.Proofs.Ytnpiljegdiconab
namespace Go.Proofs.Ytnpiljegdiconab
open Go.ChangeShapes Go.WideShapes Go.ChangeAt Go.RowKit
open Go.ChangeMaps (open_string shut_string)
set_option linter.unusedVariables false
set_option maxRecDepth 100000

theorem FView.ofB {w : World} {ad : Option Addr} {L : List Bool} (h : ViewB w ad L.length (fun i => L.getD i false)) : FView boEnc w ad L := fun hp => by
  obtain ⟨b, off, e, hc⟩ := h hp
  refine ⟨b, off, e, fun j v hv => ?_⟩
  have hj : j < L.length := by
    have := (List.getElem?_eq_some_iff.1 hv).1
    rw [fcells_len boEnc_len] at this
    omega
  have e2 : (fcells boEnc L)[j]? = some (.bool (L.getD j false)) := by
    have := fcells_at boEnc_len false L j 0 hj (by omega)
    rw [Nat.mul_one, Nat.add_zero] at this
    exact this
  rw [e2] at hv
  cases hv
  exact hc j hj
set_option maxRecDepth 100000 in
theorem boRow_open {H : Type} {enc : TypeId × Value → H} {w : World} {n0 : Nat} {v : Value} {x : DataW H × List MemPlace} (hn : DataW.trod enc Try.prog w 0 (fun _ => true) true n0 26 [v] = some x) :
    ∃ ad cap L, v = .slice ad L.length cap ∧ L.length ≤ maxLen ∧ FView boEnc w ad L ∧ (ad = none → cap = 0) := by
  rcases Go.Deep.open_bools Try.underlying26 Try.underlying4 (by kernel_rfl) hn with ⟨hcs, _⟩ | ⟨a, len, cap, B, hcs, _, hl, hm, _, hc⟩
  · exact ⟨none, 0, [], by simpa using hcs, by simp, FView.nil, fun _ => rfl⟩
  · refine ⟨some a, cap, (List.range len).map B, by simpa using hcs, by simpa using Nat.le_trans hl hm, FView.ofB (fun hp => ?_), fun e => by cases e⟩
    simp at hp
    obtain ⟨b, off, spot⟩ := a
    have hspot : spot = none := by simpa [Addr.add] using World.cell?_spot (hc 0 (by omega))
    subst hspot
    refine ⟨b, off, rfl, fun i hi => ?_⟩
    simp at hi
    have := hc i (by omega)
    rw [add_plain] at this
    rw [this]
    simp [List.getD, hi]
theorem boPut (w : World) (g o : Nat) (x : Bool) : putAll w g o (boEnc x) = w.setCell ⟨g, o, none⟩ (.bool x) := rfl
set_option maxHeartbeats 1000000 in
theorem boToS (ad : Option Addr) (cap : Nat) (L : List Bool) (w : World) (hv : FView boEnc w ad L) (hl : L.length ≤ 1048576) :
    Calls Try.prog 18 #[.slice ad L.length cap] w fun e w' => e = .returned (.slice (some ⟨w.heap.size, 0, none⟩) L.length L.length) ∧ FOwn boEnc 1 4 w.heap.size w' (.slice (some ⟨w.heap.size, 0, none⟩) L.length L.length) L ∧ Below w.heap.size w w' := by
  obtain ⟨i0, hi, hz0, hz1, hz2⟩ := info_parts boInfo
  have hB := hv.lt boEnc_len (by omega)
  go_enter Try.func18, Try.ntmps18
  go_wp2_with (first | (refine wpList_make_full _ rfl _ _ 26 rfl w.heap.size 4 i0 (.bool false) 1 Try.underlying26 hi hz0 hz1 .i64 .i64 _ _ L.length rfl rfl rfl rfl ?c1 ?c2 ?c3 ?_))
  case c1 => rw [hz2]; omega
  case c2 => unfold maxLen; omega
  case c3 => exact Nat.le_refl _
  intro w1 hown hgrow
  have F0 : FFill boEnc 1 4 w.heap.size w1 w.heap.size L 0 := FFill.start hown
  have B0 : Below w.heap.size w w1 := (Below.refl _ _).grown hgrow (Nat.le_refl _) (by simp)
  clear hown hgrow
  go_wp2
  go_loopw [4] (fun i wr => ∃ k : Nat, k ≤ L.length ∧ i = .int .i64 k ∧ FFill boEnc 1 4 w.heap.size wr w.heap.size L k ∧ Below w.heap.size w wr) (fun i _ => L.length - (intOf i).toNat)
  case atStart => exact ⟨0, Nat.zero_le _, rfl, F0, B0⟩
  case round =>
    obtain ⟨k, hk, rfl, F, B⟩ := hrel
    clear F0 B0
    by_cases hlt : k < L.length
    · obtain ⟨b, off, rfl, _⟩ := hv (by omega)
      obtain ⟨h, hh⟩ : ∃ h, L.getD k false = h := ⟨_, rfl⟩
      have hck : wr.cell? ⟨b, off + k, none⟩ = some (.bool h) := by
        have := (hv.below B hB).at_ boEnc_len false hlt 0 _ rfl
        rw [hh] at this
        simpa using this
      have hsz := F.lt
      obtain ⟨u0, hu0⟩ := F.cell (k * 1) (by omega)
      have f0 := F.frozen (k * 1)
      have G1 := F.step boEnc_len false hlt
      have B3 := below_putAll (Nat.le_refl _) (boEnc h) (k * 1) B
      rw [hh, boPut] at G1
      rw [boPut] at B3
      rw [Nat.mul_one] at hu0 f0 G1 B3
      clear F B hh hsz
      go_wp2
      go_roundw
      case rel => exact ⟨k + 1, by omega, by go_num, G1, B3⟩
      case measure => simp [intOf]; omega
    · obtain rfl : k = L.length := by omega
      go_wp2
      go_ret
      exact ⟨rfl, F.done boEnc_len, B⟩

end Go.Proofs.Ytnpiljegdiconab
namespace Go.Proofs.Ytnpiljegdiconab
open Go.ChangeShapes Go.WideShapes Go.ChangeAt Go.RowKit
open Go.ChangeMaps (open_string shut_string)
set_option linter.unusedVariables false
set_option maxRecDepth 100000

theorem ouIn_open {H : Type} {enc : TypeId × Value → H} {w : World} {r : Reach} {b0 : Nat} {v : Value} {d : DataW H} {p : List MemPlace} (hv : Value.okWide Try.prog w r b0 92 v) (h : DataW.Trod enc Try.prog w 0 (fun _ => true) true 92 v d p) :
    ∃ x : Ik, v = .agg #[.int .i64 x.k, .int .i64 x.q, .int .i64 x.r, .int .i64 x.c, .int .i64 x.b, .int .i64 x.p, .int .i64 x.h, .bool x.up] ∧ True := by
  obtain ⟨cs, rfl, hsz⟩ := okWide_struct Try.underlying92 hv
  rw [(by kernel_rfl : Try.prog.cellsOf 92 = 8)] at hsz
  obtain ⟨cs⟩ := cs
  obtain ⟨fuel, hf0⟩ := h
  simp only [Value.cells] at hf0
  have hlen : cs.length = 8 := by simpa using hsz
  obtain ⟨xs, k, hk, hxy, _, hxl, hf⟩ := DataW.trod_struct Try.underlying92 hf0
  match xs, hxl, cs, hlen with
  | [y0, y1, y2, y3, y4], _, [c0, c1, c2, c3, c4, c5, c6, c7], _ =>
    have g0 : DataW.trod enc Try.prog w 0 (fun _ => true) true k 3 ((List.drop 0 [c0, c1, c2, c3, c4, c5, c6, c7]).take (Try.prog.cellsOf 3)) = some y0 := hf 0 _ rfl
    rw [(by kernel_rfl : Try.prog.cellsOf 3 = 1)] at g0
    have g1 : DataW.trod enc Try.prog w 0 (fun _ => true) true k 3 ((List.drop 1 [c0, c1, c2, c3, c4, c5, c6, c7]).take (Try.prog.cellsOf 3)) = some y1 := hf 1 _ rfl
    rw [(by kernel_rfl : Try.prog.cellsOf 3 = 1)] at g1
    have g2 : DataW.trod enc Try.prog w 0 (fun _ => true) true k 82 ((List.drop 2 [c0, c1, c2, c3, c4, c5, c6, c7]).take (Try.prog.cellsOf 82)) = some y2 := hf 2 _ rfl
    rw [(by kernel_rfl : Try.prog.cellsOf 82 = 4)] at g2
    have g3 : DataW.trod enc Try.prog w 0 (fun _ => true) true k 3 ((List.drop 6 [c0, c1, c2, c3, c4, c5, c6, c7]).take (Try.prog.cellsOf 3)) = some y3 := hf 3 _ rfl
    rw [(by kernel_rfl : Try.prog.cellsOf 3 = 1)] at g3
    have g4 : DataW.trod enc Try.prog w 0 (fun _ => true) true k 4 ((List.drop 7 [c0, c1, c2, c3, c4, c5, c6, c7]).take (Try.prog.cellsOf 4)) = some y4 := hf 4 _ rfl
    rw [(by kernel_rfl : Try.prog.cellsOf 4 = 1)] at g4
    obtain ⟨us, k2, hk2, hxy2, _, hul, hg⟩ := DataW.trod_struct Try.underlying82 g2
    match us, hul with
    | [u0, u1, u2, u3], _ =>
      have q0 : DataW.trod enc Try.prog w 0 (fun _ => true) true k2 3 ((List.drop 0 [c2, c3, c4, c5]).take (Try.prog.cellsOf 3)) = some u0 := hg 0 _ rfl
      rw [(by kernel_rfl : Try.prog.cellsOf 3 = 1)] at q0
      have q1 : DataW.trod enc Try.prog w 0 (fun _ => true) true k2 3 ((List.drop 1 [c2, c3, c4, c5]).take (Try.prog.cellsOf 3)) = some u1 := hg 1 _ rfl
      rw [(by kernel_rfl : Try.prog.cellsOf 3 = 1)] at q1
      have q2 : DataW.trod enc Try.prog w 0 (fun _ => true) true k2 3 ((List.drop 2 [c2, c3, c4, c5]).take (Try.prog.cellsOf 3)) = some u2 := hg 2 _ rfl
      rw [(by kernel_rfl : Try.prog.cellsOf 3 = 1)] at q2
      have q3 : DataW.trod enc Try.prog w 0 (fun _ => true) true k2 3 ((List.drop 3 [c2, c3, c4, c5]).take (Try.prog.cellsOf 3)) = some u3 := hg 3 _ rfl
      rw [(by kernel_rfl : Try.prog.cellsOf 3 = 1)] at q3
      obtain ⟨z0, e0, _, _⟩ := DataW.trod_int Try.underlying3 g0
      obtain ⟨z1, e1, _, _⟩ := DataW.trod_int Try.underlying3 g1
      obtain ⟨z2, e2, _, _⟩ := DataW.trod_int Try.underlying3 q0
      obtain ⟨z3, e3, _, _⟩ := DataW.trod_int Try.underlying3 q1
      obtain ⟨z4, e4, _, _⟩ := DataW.trod_int Try.underlying3 q2
      obtain ⟨z5, e5, _, _⟩ := DataW.trod_int Try.underlying3 q3
      obtain ⟨z6, e6, _, _⟩ := DataW.trod_int Try.underlying3 g3
      obtain ⟨z7, e7, _⟩ := DataW.trod_bool Try.underlying4 g4
      simp at e0 e1 e2 e3 e4 e5 e6 e7
      subst e0 e1 e2 e3 e4 e5 e6 e7
      exact ⟨⟨z0, z1, z2, z3, z4, z5, z6, z7⟩, rfl, trivial⟩
set_option maxHeartbeats 2000000 in
theorem toOuI (x : Ik) (w : World) : Calls Try.prog 38 #[.agg #[.int .i64 x.k, .int .i64 x.q, .int .i64 x.r, .int .i64 x.c, .int .i64 x.b, .int .i64 x.p, .int .i64 x.h, .bool x.up]] w fun e w' => e = .returned (.agg #[.int .i64 x.k, .int .i64 x.q, .int .i64 x.r, .int .i64 x.c, .int .i64 x.b, .int .i64 x.p, .int .i64 x.h, .bool x.up]) ∧ Below w.heap.size w w' := by
  obtain ⟨w0, hw0⟩ : ∃ w0, w0 = ((w.alloc (Obj.cells #[.int .i64 x.k, .int .i64 x.q, .int .i64 x.r, .int .i64 x.c, .int .i64 x.b, .int .i64 x.p, .int .i64 x.h, .bool x.up] 92)).alloc (Obj.cells #[.int .i64 0, .int .i64 0, .int .i64 0, .int .i64 0, .int .i64 0, .int .i64 0, .int .i64 0, .bool false] 89)).alloc (Obj.cells #[.int .i64 x.k, .int .i64 x.q, .int .i64 0, .int .i64 0, .int .i64 0, .int .i64 0, .int .i64 0, .bool false] 89) := ⟨_, rfl⟩
  have b0 : Below w.heap.size w w0 := by rw [hw0]; exact (((Below.refl _ _).alloc (Nat.le_refl _) _).alloc (by simp) _).alloc (by simp; omega) _
  have P0 : InAt w0 w.heap.size x := by rw [hw0]; constructor <;> simp [go_sem]
  have Q0 : InAt w0 (w.heap.size + 1) ⟨0, 0, 0, 0, 0, 0, 0, false⟩ := by rw [hw0]; constructor <;> simp [go_sem]
  have R0 : InAt w0 (w.heap.size + 1 + 1) ⟨x.k, x.q, 0, 0, 0, 0, 0, false⟩ := by rw [hw0]; constructor <;> simp [go_sem]
  have QF : ∀ i, w0.frozen? ⟨w.heap.size + 1, i, none⟩ = false := fun i => by rw [hw0]; simp [go_sem]
  have RF : ∀ i, w0.frozen? ⟨w.heap.size + 1 + 1, i, none⟩ = false := fun i => by rw [hw0]; simp [go_sem]
  have S0 := R0.lt
  go_enter Try.func38, Try.ntmps38
  go_wp2_with fail
  go_at_call 49
  rw [← hw0]
  clear hw0
  refine (toV x.r x.c x.b x.p w0).mono ?_
  rintro e w1 ⟨rfl, k1⟩
  have b1 := b0.trans (k1.mono b0.size)
  obtain ⟨p0, p1, p2, p3, p4, p5, p6, p7⟩ := P0.below k1 (by omega)
  obtain ⟨r0, r1, r2, r3, r4, r5, r6, r7⟩ := R0.below k1 (by omega)
  obtain ⟨q0, q1, q2, q3, q4, q5, q6, q7⟩ := Q0.below k1 (by omega)
  have qf0 : w1.frozen? ⟨w.heap.size + 1, 0, none⟩ = false := (World.frozen?_of_block (a := ⟨w.heap.size + 1, 0, none⟩) (k1.block (w.heap.size + 1) (by omega))).trans (QF 0)
  have rf0 : w1.frozen? ⟨w.heap.size + 1 + 1, 0, none⟩ = false := (World.frozen?_of_block (a := ⟨w.heap.size + 1 + 1, 0, none⟩) (k1.block (w.heap.size + 1 + 1) (by omega))).trans (RF 0)
  have qf1 : w1.frozen? ⟨w.heap.size + 1, 1, none⟩ = false := (World.frozen?_of_block (a := ⟨w.heap.size + 1, 1, none⟩) (k1.block (w.heap.size + 1) (by omega))).trans (QF 1)
  have rf1 : w1.frozen? ⟨w.heap.size + 1 + 1, 1, none⟩ = false := (World.frozen?_of_block (a := ⟨w.heap.size + 1 + 1, 1, none⟩) (k1.block (w.heap.size + 1 + 1) (by omega))).trans (RF 1)
  have qf2 : w1.frozen? ⟨w.heap.size + 1, 2, none⟩ = false := (World.frozen?_of_block (a := ⟨w.heap.size + 1, 2, none⟩) (k1.block (w.heap.size + 1) (by omega))).trans (QF 2)
  have rf2 : w1.frozen? ⟨w.heap.size + 1 + 1, 2, none⟩ = false := (World.frozen?_of_block (a := ⟨w.heap.size + 1 + 1, 2, none⟩) (k1.block (w.heap.size + 1 + 1) (by omega))).trans (RF 2)
  have qf3 : w1.frozen? ⟨w.heap.size + 1, 3, none⟩ = false := (World.frozen?_of_block (a := ⟨w.heap.size + 1, 3, none⟩) (k1.block (w.heap.size + 1) (by omega))).trans (QF 3)
  have rf3 : w1.frozen? ⟨w.heap.size + 1 + 1, 3, none⟩ = false := (World.frozen?_of_block (a := ⟨w.heap.size + 1 + 1, 3, none⟩) (k1.block (w.heap.size + 1 + 1) (by omega))).trans (RF 3)
  have qf4 : w1.frozen? ⟨w.heap.size + 1, 4, none⟩ = false := (World.frozen?_of_block (a := ⟨w.heap.size + 1, 4, none⟩) (k1.block (w.heap.size + 1) (by omega))).trans (QF 4)
  have rf4 : w1.frozen? ⟨w.heap.size + 1 + 1, 4, none⟩ = false := (World.frozen?_of_block (a := ⟨w.heap.size + 1 + 1, 4, none⟩) (k1.block (w.heap.size + 1 + 1) (by omega))).trans (RF 4)
  have qf5 : w1.frozen? ⟨w.heap.size + 1, 5, none⟩ = false := (World.frozen?_of_block (a := ⟨w.heap.size + 1, 5, none⟩) (k1.block (w.heap.size + 1) (by omega))).trans (QF 5)
  have rf5 : w1.frozen? ⟨w.heap.size + 1 + 1, 5, none⟩ = false := (World.frozen?_of_block (a := ⟨w.heap.size + 1 + 1, 5, none⟩) (k1.block (w.heap.size + 1 + 1) (by omega))).trans (RF 5)
  have qf6 : w1.frozen? ⟨w.heap.size + 1, 6, none⟩ = false := (World.frozen?_of_block (a := ⟨w.heap.size + 1, 6, none⟩) (k1.block (w.heap.size + 1) (by omega))).trans (QF 6)
  have rf6 : w1.frozen? ⟨w.heap.size + 1 + 1, 6, none⟩ = false := (World.frozen?_of_block (a := ⟨w.heap.size + 1 + 1, 6, none⟩) (k1.block (w.heap.size + 1 + 1) (by omega))).trans (RF 6)
  have qf7 : w1.frozen? ⟨w.heap.size + 1, 7, none⟩ = false := (World.frozen?_of_block (a := ⟨w.heap.size + 1, 7, none⟩) (k1.block (w.heap.size + 1) (by omega))).trans (QF 7)
  have rf7 : w1.frozen? ⟨w.heap.size + 1 + 1, 7, none⟩ = false := (World.frozen?_of_block (a := ⟨w.heap.size + 1 + 1, 7, none⟩) (k1.block (w.heap.size + 1 + 1) (by omega))).trans (RF 7)
  clear P0 R0 Q0 QF RF k1 b0
  go_wp2
  refine bodyPost_ret (v := .agg #[.int .i64 x.k, .int .i64 x.q, .int .i64 x.r, .int .i64 x.c, .int .i64 x.b, .int .i64 x.p, .int .i64 x.h, .bool x.up]) (by simp [results, Try.results38, go_sem, *]) rfl ⟨rfl, ?_⟩
  repeat' (first | with_reducible exact b1 | refine Below.setCell ?_ (by first | (show _ ≤ w.heap.size + 1; omega) | (show _ ≤ w.heap.size + 1 + 1; omega)) _)

end Go.Proofs.Ytnpiljegdiconab
namespace Go.Proofs.Ytnpiljegdiconab
open Go.ChangeShapes Go.WideShapes Go.ChangeAt Go.RowKit
open Go.ChangeMaps (open_string shut_string)
set_option linter.unusedVariables false
set_option maxRecDepth 100000

theorem toOu (x : Ou) (w : World) : Calls Try.prog 38 #[.agg #[.int .i64 x.k, .int .i64 x.pt, .int .i64 x.r, .int .i64 x.c, .int .i64 x.b, .int .i64 x.p, .int .i64 x.h, .bool x.on]] w fun e w' => e = .returned (.agg #[.int .i64 x.k, .int .i64 x.pt, .int .i64 x.r, .int .i64 x.c, .int .i64 x.b, .int .i64 x.p, .int .i64 x.h, .bool x.on]) ∧ Below w.heap.size w w' := toOuI ⟨x.k, x.pt, x.r, x.c, x.b, x.p, x.h, x.on⟩ w
set_option maxRecDepth 100000 in
theorem ouRow_open {H : Type} {enc : TypeId × Value → H} {w : World} {n0 : Nat} {v : Value} {x : DataW H × List MemPlace} (hn : DataW.trod enc Try.prog w 0 (fun _ => true) true n0 28 [v] = some x) :
    ∃ ad cap L, v = .slice ad L.length cap ∧ L.length ≤ maxLen ∧ FView ouEnc w ad L ∧ (ad = none → cap = 0) := by
  have hs := Go.Deep.open_slice Try.underlying28 hn
  have hcell : ∀ x, [v] = [x] → v = x := fun x h => by simpa using h
  rcases hs with ⟨hcs, _⟩ | ⟨a, len, cap, m, n, D, Pl, hcs, _, hl, hm, hmm, _, hx⟩
  · exact ⟨none, 0, [], hcell _ hcs, by simp, FView.nil, fun _ => rfl⟩
  · simp at hmm
    subst hmm
    have each : ∀ i, i < m → ∃ q : Ou, w.cell? (a.add (i * 8)) = some (.int .i64 q.k) ∧ w.cell? (a.add (i * 8 + 1)) = some (.int .i64 q.pt) ∧ w.cell? (a.add (i * 8 + 2)) = some (.int .i64 q.r) ∧ w.cell? (a.add (i * 8 + 3)) = some (.int .i64 q.c) ∧ w.cell? (a.add (i * 8 + 4)) = some (.int .i64 q.b) ∧ w.cell? (a.add (i * 8 + 5)) = some (.int .i64 q.p) ∧ w.cell? (a.add (i * 8 + 6)) = some (.int .i64 q.h) ∧ w.cell? (a.add (i * 8 + 7)) = some (.bool q.on) := by
      intro i hi
      obtain ⟨cs', h1, h2⟩ := hx i hi
      rw [(by kernel_rfl : Try.prog.cellsOf 92 = 8)] at h1
      obtain ⟨_, hlen, hc⟩ := World.cells?_some h1
      obtain ⟨xs, k, hk, hxy, _, hxl, hf⟩ := DataW.trod_struct Try.underlying92 h2
      match xs, hxl, cs', hlen with
      | [y0, y1, y2, y3, y4], _, [c0, c1, c2, c3, c4, c5, c6, c7], _ =>
        have g0 : DataW.trod enc Try.prog w 0 (fun _ => true) true k 3 ((List.drop 0 [c0, c1, c2, c3, c4, c5, c6, c7]).take (Try.prog.cellsOf 3)) = some y0 := hf 0 _ rfl
        rw [(by kernel_rfl : Try.prog.cellsOf 3 = 1)] at g0
        have g1 : DataW.trod enc Try.prog w 0 (fun _ => true) true k 3 ((List.drop 1 [c0, c1, c2, c3, c4, c5, c6, c7]).take (Try.prog.cellsOf 3)) = some y1 := hf 1 _ rfl
        rw [(by kernel_rfl : Try.prog.cellsOf 3 = 1)] at g1
        have g2 : DataW.trod enc Try.prog w 0 (fun _ => true) true k 82 ((List.drop 2 [c0, c1, c2, c3, c4, c5, c6, c7]).take (Try.prog.cellsOf 82)) = some y2 := hf 2 _ rfl
        rw [(by kernel_rfl : Try.prog.cellsOf 82 = 4)] at g2
        have g3 : DataW.trod enc Try.prog w 0 (fun _ => true) true k 3 ((List.drop 6 [c0, c1, c2, c3, c4, c5, c6, c7]).take (Try.prog.cellsOf 3)) = some y3 := hf 3 _ rfl
        rw [(by kernel_rfl : Try.prog.cellsOf 3 = 1)] at g3
        have g4 : DataW.trod enc Try.prog w 0 (fun _ => true) true k 4 ((List.drop 7 [c0, c1, c2, c3, c4, c5, c6, c7]).take (Try.prog.cellsOf 4)) = some y4 := hf 4 _ rfl
        rw [(by kernel_rfl : Try.prog.cellsOf 4 = 1)] at g4
        obtain ⟨us2_, k2_, hk2_, hxy2_, _, hul2_, hg2_⟩ := DataW.trod_struct Try.underlying82 g2
        match us2_, hul2_ with
        | [u2_0, u2_1, u2_2, u2_3], _ =>
          have g2_0 : DataW.trod enc Try.prog w 0 (fun _ => true) true k2_ 3 ((List.drop 0 [c2, c3, c4, c5]).take (Try.prog.cellsOf 3)) = some u2_0 := hg2_ 0 _ rfl
          rw [(by kernel_rfl : Try.prog.cellsOf 3 = 1)] at g2_0
          have g2_1 : DataW.trod enc Try.prog w 0 (fun _ => true) true k2_ 3 ((List.drop 1 [c2, c3, c4, c5]).take (Try.prog.cellsOf 3)) = some u2_1 := hg2_ 1 _ rfl
          rw [(by kernel_rfl : Try.prog.cellsOf 3 = 1)] at g2_1
          have g2_2 : DataW.trod enc Try.prog w 0 (fun _ => true) true k2_ 3 ((List.drop 2 [c2, c3, c4, c5]).take (Try.prog.cellsOf 3)) = some u2_2 := hg2_ 2 _ rfl
          rw [(by kernel_rfl : Try.prog.cellsOf 3 = 1)] at g2_2
          have g2_3 : DataW.trod enc Try.prog w 0 (fun _ => true) true k2_ 3 ((List.drop 3 [c2, c3, c4, c5]).take (Try.prog.cellsOf 3)) = some u2_3 := hg2_ 3 _ rfl
          rw [(by kernel_rfl : Try.prog.cellsOf 3 = 1)] at g2_3
          obtain ⟨z0, e0, _, _⟩ := DataW.trod_int Try.underlying3 g0
          obtain ⟨z1, e1, _, _⟩ := DataW.trod_int Try.underlying3 g1
          obtain ⟨z2, e2, _, _⟩ := DataW.trod_int Try.underlying3 g2_0
          obtain ⟨z3, e3, _, _⟩ := DataW.trod_int Try.underlying3 g2_1
          obtain ⟨z4, e4, _, _⟩ := DataW.trod_int Try.underlying3 g2_2
          obtain ⟨z5, e5, _, _⟩ := DataW.trod_int Try.underlying3 g2_3
          obtain ⟨z6, e6, _, _⟩ := DataW.trod_int Try.underlying3 g3
          obtain ⟨z7, e7, _⟩ := DataW.trod_bool Try.underlying4 g4
          simp at e0 e1 e2 e3 e4 e5 e6 e7
          subst e0 e1 e2 e3 e4 e5 e6 e7
          have k_0 := hc 0 (by omega)
          have k_1 := hc 1 (by omega)
          have k_2 := hc 2 (by omega)
          have k_3 := hc 3 (by omega)
          have k_4 := hc 4 (by omega)
          have k_5 := hc 5 (by omega)
          have k_6 := hc 6 (by omega)
          have k_7 := hc 7 (by omega)
          rw [Go.Deep.add_add] at k_0 k_1 k_2 k_3 k_4 k_5 k_6 k_7
          exact ⟨⟨z0, z1, z2, z3, z4, z5, z6, z7⟩, by simpa using k_0, by simpa using k_1, by simpa using k_2, by simpa using k_3, by simpa using k_4, by simpa using k_5, by simpa using k_6, by simpa using k_7⟩
    haveI : Inhabited Ou := ⟨Ou.nil⟩
    obtain ⟨q, hq⟩ := Go.Deep.choose_lt each
    refine ⟨some a, m, (List.range len).map q, by simpa using hcell _ hcs, by simpa using Nat.le_trans hl hm, fun hp => ?_, fun e => by cases e⟩
    simp at hp
    obtain ⟨b, off, spot⟩ := a
    have hspot : spot = none := by simpa [Addr.add] using World.cell?_spot (hq 0 (by omega)).1
    subst hspot
    refine ⟨b, off, rfl, fun j v hv => ?_⟩
    have hjl : j < len * 8 := by
      have := (List.getElem?_eq_some_iff.1 hv).1
      rw [fcells_len ouEnc_len] at this
      simpa using this
    have hi : j / 8 < len := by omega
    have hr : j % 8 < 8 := Nat.mod_lt _ (by omega)
    have e : j = j / 8 * 8 + j % 8 := by omega
    rw [e, fcells_at ouEnc_len Ou.nil _ _ _ (by simpa using hi) hr, show ((List.range len).map q).getD (j / 8) Ou.nil = q (j / 8) by simp [List.getD, hi]] at hv
    obtain ⟨k0, k1, k2, k3, k4, k5, k6, k7⟩ := hq (j / 8) (by omega)
    simp only [add_plain] at k0 k1 k2 k3 k4 k5 k6 k7
    rw [e]
    generalize j % 8 = r at hv hr
    have hcase : r = 0 ∨ r = 1 ∨ r = 2 ∨ r = 3 ∨ r = 4 ∨ r = 5 ∨ r = 6 ∨ r = 7 := by omega
    rcases hcase with rfl | rfl | rfl | rfl | rfl | rfl | rfl | rfl
    · cases hv; simpa [Nat.add_assoc] using k0
    · cases hv; simpa [Nat.add_assoc] using k1
    · cases hv; simpa [Nat.add_assoc] using k2
    · cases hv; simpa [Nat.add_assoc] using k3
    · cases hv; simpa [Nat.add_assoc] using k4
    · cases hv; simpa [Nat.add_assoc] using k5
    · cases hv; simpa [Nat.add_assoc] using k6
    · cases hv; simpa [Nat.add_assoc] using k7
theorem ouSz (ad : Option Addr) (len cap : Nat) (left : Int) (w : World) (h0 : 0 ≤ left) (h1 : left ≤ 1048576) (hm : len ≤ maxLen) :
    Calls Try.prog 13 #[.slice ad len cap, .int .i64 left] w fun e w' => e = .returned (.int .i64 (if (len : Int) ≤ left then left - len else -1)) ∧ w' = w := by
  unfold maxLen at hm
  by_cases h : (len : Int) ≤ left
  · rw [if_pos h]
    have h2 : 0 ≤ left - (len : Int) := by omega
    go_enter Try.func13, Try.ntmps13
    go_wp2
    go_ret
    exact ⟨rfl, rfl⟩
  · rw [if_neg h]
    have h2 : left - (len : Int) < 0 := by omega
    go_enter Try.func13, Try.ntmps13
    go_wp2
    go_ret
    exact ⟨rfl, rfl⟩
theorem ouInfo2 : (Try.prog.info? 89).map (fun i => (i.zero, i.size, i.bytes)) = some (some (.agg #[.int .i64 0, .int .i64 0, .int .i64 0, .int .i64 0, .int .i64 0, .int .i64 0, .int .i64 0, .bool false]), 8, 64) := by kernel_rfl
set_option maxHeartbeats 2000000 in
theorem ouToS (ad : Option Addr) (cap : Nat) (L : List Ou) (w : World) (hv : FView ouEnc w ad L) (hl : L.length ≤ 1048576) :
    Calls Try.prog 20 #[.slice ad L.length cap] w fun e w' => e = .returned (.slice (some ⟨w.heap.size, 0, none⟩) L.length L.length) ∧ FOwn ouEnc 8 89 w.heap.size w' (.slice (some ⟨w.heap.size, 0, none⟩) L.length L.length) L ∧ Below w.heap.size w w' := by
  obtain ⟨i0, hi, hz0, hz1, hz2⟩ := info_parts ouInfo2
  have hB := hv.lt ouEnc_len (by omega)
  go_enter Try.func20, Try.ntmps20
  go_wp2_with (first | (refine wpList_make_full _ rfl _ _ 37 rfl w.heap.size 89 i0 (.agg #[.int .i64 0, .int .i64 0, .int .i64 0, .int .i64 0, .int .i64 0, .int .i64 0, .int .i64 0, .bool false]) 8 Try.underlying37 hi hz0 hz1 .i64 .i64 _ _ L.length rfl rfl rfl rfl ?c1 ?c2 ?c3 ?_))
  case c1 => rw [hz2]; omega
  case c2 => unfold maxLen; omega
  case c3 => exact Nat.le_refl _
  intro w1 hown hgrow
  have F0 : FFill ouEnc 8 89 w.heap.size w1 w.heap.size L 0 := FFill.start hown
  have B0 : Below w.heap.size w w1 := (Below.refl _ _).grown hgrow (Nat.le_refl _) (by simp)
  clear hown hgrow
  go_wp2
  go_loopw [4] (fun i wr => ∃ k : Nat, k ≤ L.length ∧ i = .int .i64 k ∧ FFill ouEnc 8 89 w.heap.size wr w.heap.size L k ∧ Below w.heap.size w wr) (fun i _ => L.length - (intOf i).toNat)
  case atStart => exact ⟨0, Nat.zero_le _, rfl, F0, B0⟩
  case round =>
    obtain ⟨k, hk, rfl, F, B⟩ := hrel
    clear F0 B0
    by_cases hlt : k < L.length
    · obtain ⟨b, off, rfl, _⟩ := hv (by omega)
      obtain ⟨h, hh⟩ : ∃ h, L.getD k Ou.nil = h := ⟨_, rfl⟩
      have hck : OuAtO wr b (off + k * 8) h := by
        rw [← hh]
        exact ouAtO_of ((hv.below B hB).at_ ouEnc_len Ou.nil hlt)
      obtain ⟨c0, c1, c2, c3, c4, c5, c6, c7⟩ := hck
      have hsz := F.lt
      go_wp2_with fail
      go_at_call 38
      refine (toOu h wr).mono ?_
      rintro e w2 ⟨rfl, k2⟩
      have G := F.keep (k2.block _ hsz.2)
      have B2 := B.trans (k2.mono (Nat.le_of_lt hsz.2))
      obtain ⟨u0, hu0⟩ := G.cell (k * 8) (by omega)
      obtain ⟨u1, hu1⟩ := G.cell (k * 8 + 1) (by omega)
      obtain ⟨u2, hu2⟩ := G.cell (k * 8 + 2) (by omega)
      obtain ⟨u3, hu3⟩ := G.cell (k * 8 + 3) (by omega)
      obtain ⟨u4, hu4⟩ := G.cell (k * 8 + 4) (by omega)
      obtain ⟨u5, hu5⟩ := G.cell (k * 8 + 5) (by omega)
      obtain ⟨u6, hu6⟩ := G.cell (k * 8 + 6) (by omega)
      obtain ⟨u7, hu7⟩ := G.cell (k * 8 + 7) (by omega)
      have f0 := G.frozen (k * 8)
      have f1 := G.frozen (k * 8 + 1)
      have f2 := G.frozen (k * 8 + 2)
      have f3 := G.frozen (k * 8 + 3)
      have f4 := G.frozen (k * 8 + 4)
      have f5 := G.frozen (k * 8 + 5)
      have f6 := G.frozen (k * 8 + 6)
      have f7 := G.frozen (k * 8 + 7)
      have G1 := G.step ouEnc_len Ou.nil hlt
      have B3 := below_putAll (Nat.le_refl _) (ouEnc h) (k * 8) B2
      rw [hh, ouPut] at G1
      rw [ouPut] at B3
      clear F G B B2 hh hsz
      go_wp2
      go_roundw
      case rel => exact ⟨k + 1, by omega, by go_num, G1, B3⟩
      case measure => simp [intOf]; omega
    · obtain rfl : k = L.length := by omega
      go_wp2
      go_ret
      exact ⟨rfl, F.done ouEnc_len, B⟩

end Go.Proofs.Ytnpiljegdiconab
namespace Go.Proofs.Ytnpiljegdiconab
open Go.ChangeShapes Go.WideShapes Go.ChangeAt Go.RowKit
open Go.ChangeMaps (open_string shut_string)
set_option linter.unusedVariables false
set_option maxRecDepth 100000

/-- What is known of a box that comes in. -/
structure BxIn (w : World) (x : BxD) : Prop where
  t : MV w x.aT x.two
  tm : x.two.length ≤ maxLen
  ts : ∀ i, i < x.two.length → (x.two.getD i MiD.nil).m.lg.length ≤ maxLen
  tc : x.two.length ≤ x.cT
  tn : x.aT = none → x.cT = 0
  n : FView wiEnc w x.aN x.net
  nm : x.net.length ≤ maxLen
  nn : x.aN = none → x.cN = 0
  g : FView boEnc w x.aG x.ga
  gm : x.ga.length ≤ maxLen
  gn : x.aG = none → x.cG = 0
  i : FView ikEnc w x.aL x.ln
  im : x.ln.length ≤ maxLen
  ic : x.aL = none → x.cL = 0
  s : FView ouEnc w x.aS x.sd
  sm : x.sd.length ≤ maxLen
  sn : x.aS = none → x.cS = 0
set_option maxRecDepth 100000 in
theorem bxIn_open {H : Type} {enc : TypeId × Value → H} {w : World} {r : Reach} {b0 : Nat} {v : Value} {d : DataW H} {p : List MemPlace} (hv : Value.okWide Try.prog w r b0 30 v) (h : DataW.Trod enc Try.prog w 0 (fun _ => true) true 30 v d p) :
    ∃ x : BxD, v = .agg #[.int .i64 x.id, .int .i64 x.po, .int .i64 x.rg.ep, .int .i64 x.rg.ow, .int .i64 x.rg.pa, .slice x.aT x.two.length x.cT, .slice x.aN x.net.length x.cN, .slice x.aG x.ga.length x.cG, .slice x.aL x.ln.length x.cL, .slice x.aS x.sd.length x.cS] ∧ BxIn w x := by
  obtain ⟨cs, rfl, hsz⟩ := okWide_struct Try.underlying30 hv
  rw [(by kernel_rfl : Try.prog.cellsOf 30 = 10)] at hsz
  obtain ⟨cs⟩ := cs
  obtain ⟨fuel, hf0⟩ := h
  simp only [Value.cells] at hf0
  have hlen : cs.length = 10 := by simpa using hsz
  obtain ⟨xs, k, hk, hxy, _, hxl, hf⟩ := DataW.trod_struct Try.underlying30 hf0
  match xs, hxl, cs, hlen with
  | [y0, y1, y2, y3, y4, y5, y6, y7], _, [c0, c1, c2, c3, c4, c5, c6, c7, c8, c9], _ =>
    have g0 : DataW.trod enc Try.prog w 0 (fun _ => true) true k 3 ((List.drop 0 [c0, c1, c2, c3, c4, c5, c6, c7, c8, c9]).take (Try.prog.cellsOf 3)) = some y0 := hf 0 _ rfl
    rw [(by kernel_rfl : Try.prog.cellsOf 3 = 1)] at g0
    have g1 : DataW.trod enc Try.prog w 0 (fun _ => true) true k 3 ((List.drop 1 [c0, c1, c2, c3, c4, c5, c6, c7, c8, c9]).take (Try.prog.cellsOf 3)) = some y1 := hf 1 _ rfl
    rw [(by kernel_rfl : Try.prog.cellsOf 3 = 1)] at g1
    have g2 : DataW.trod enc Try.prog w 0 (fun _ => true) true k 23 ((List.drop 2 [c0, c1, c2, c3, c4, c5, c6, c7, c8, c9]).take (Try.prog.cellsOf 23)) = some y2 := hf 2 _ rfl
    rw [(by kernel_rfl : Try.prog.cellsOf 23 = 3)] at g2
    have g3 : DataW.trod enc Try.prog w 0 (fun _ => true) true k 24 ((List.drop 5 [c0, c1, c2, c3, c4, c5, c6, c7, c8, c9]).take (Try.prog.cellsOf 24)) = some y3 := hf 3 _ rfl
    rw [(by kernel_rfl : Try.prog.cellsOf 24 = 1)] at g3
    have g4 : DataW.trod enc Try.prog w 0 (fun _ => true) true k 25 ((List.drop 6 [c0, c1, c2, c3, c4, c5, c6, c7, c8, c9]).take (Try.prog.cellsOf 25)) = some y4 := hf 4 _ rfl
    rw [(by kernel_rfl : Try.prog.cellsOf 25 = 1)] at g4
    have g5 : DataW.trod enc Try.prog w 0 (fun _ => true) true k 26 ((List.drop 7 [c0, c1, c2, c3, c4, c5, c6, c7, c8, c9]).take (Try.prog.cellsOf 26)) = some y5 := hf 5 _ rfl
    rw [(by kernel_rfl : Try.prog.cellsOf 26 = 1)] at g5
    have g6 : DataW.trod enc Try.prog w 0 (fun _ => true) true k 27 ((List.drop 8 [c0, c1, c2, c3, c4, c5, c6, c7, c8, c9]).take (Try.prog.cellsOf 27)) = some y6 := hf 6 _ rfl
    rw [(by kernel_rfl : Try.prog.cellsOf 27 = 1)] at g6
    have g7 : DataW.trod enc Try.prog w 0 (fun _ => true) true k 28 ((List.drop 9 [c0, c1, c2, c3, c4, c5, c6, c7, c8, c9]).take (Try.prog.cellsOf 28)) = some y7 := hf 7 _ rfl
    rw [(by kernel_rfl : Try.prog.cellsOf 28 = 1)] at g7
    obtain ⟨us, k2, hk2, hxy2, _, hul, hg⟩ := DataW.trod_struct Try.underlying23 g2
    match us, hul with
    | [u0, u1, u2], _ =>
      have q0 : DataW.trod enc Try.prog w 0 (fun _ => true) true k2 3 ((List.drop 0 [c2, c3, c4]).take (Try.prog.cellsOf 3)) = some u0 := hg 0 _ rfl
      rw [(by kernel_rfl : Try.prog.cellsOf 3 = 1)] at q0
      have q1 : DataW.trod enc Try.prog w 0 (fun _ => true) true k2 3 ((List.drop 1 [c2, c3, c4]).take (Try.prog.cellsOf 3)) = some u1 := hg 1 _ rfl
      rw [(by kernel_rfl : Try.prog.cellsOf 3 = 1)] at q1
      have q2 : DataW.trod enc Try.prog w 0 (fun _ => true) true k2 3 ((List.drop 2 [c2, c3, c4]).take (Try.prog.cellsOf 3)) = some u2 := hg 2 _ rfl
      rw [(by kernel_rfl : Try.prog.cellsOf 3 = 1)] at q2
      obtain ⟨z0, e0, _, _⟩ := DataW.trod_int Try.underlying3 g0
      obtain ⟨z1, e1, _, _⟩ := DataW.trod_int Try.underlying3 g1
      obtain ⟨z2, e2, _, _⟩ := DataW.trod_int Try.underlying3 q0
      obtain ⟨z3, e3, _, _⟩ := DataW.trod_int Try.underlying3 q1
      obtain ⟨z4, e4, _, _⟩ := DataW.trod_int Try.underlying3 q2
      simp at e0 e1 e2 e3 e4
      subst e0 e1 e2 e3 e4
      obtain ⟨aT, cT, D, d3, tm, t, ts, tn, tc⟩ := mdRow_open (by simpa using g3)
      obtain ⟨aN, cN, N, d4, nm, n, nn⟩ := wiRow_open (by simpa using g4)
      obtain ⟨aG, cG, G, d5, gm, g, gn⟩ := boRow_open (by simpa using g5)
      obtain ⟨aL, cL, L, d6, im, i, ic⟩ := ikRow_open (by simpa using g6)
      obtain ⟨aS, cS, S, d7, sm, s, sn⟩ := ouRow_open (by simpa using g7)
      subst d3 d4 d5 d6 d7
      exact ⟨⟨z0, z1, ⟨z2, z3, z4⟩, D, aT, cT, N, aN, cN, G, aG, cG, L, aL, cL, S, aS, cS⟩, rfl, t, tm, ts, tc, tn, n, nm, nn, g, gm, gn, i, im, ic, s, sm, sn⟩
theorem BxIn.below {w w' : World} {x : BxD} (h : BxIn w x) (k : Below w.heap.size w w') : BxIn w' x :=
  ⟨h.t.below k (Nat.le_refl _), h.tm, h.ts, h.tc, h.tn, h.n.below k (h.n.lt wiEnc_len (by omega)), h.nm, h.nn, h.g.below k (h.g.lt boEnc_len (by omega)), h.gm, h.gn, h.i.below k (h.i.lt ikEnc_len (by omega)), h.im, h.ic, h.s.below k (h.s.lt ouEnc_len (by omega)), h.sm, h.sn⟩
/-- A box whose size the laws bear. -/
structure BxSm (x : BxD) : Prop where
  t : x.two.length ≤ 1048576
  l : lToM x.two x.two.length ≤ 1048576
  n : x.net.length ≤ 1048576
  g : x.ga.length ≤ 1048576
  i : x.ln.length ≤ 1048576
  s : x.sd.length ≤ 1048576
theorem BxSm.ls {x : BxD} (h : BxSm x) : ∀ i, i < x.two.length → (x.two.getD i MiD.nil).m.lg.length ≤ 1048576 := fun i hi => Nat.le_trans (getLM_le x.two hi) h.l
theorem BxIn.v {w : World} {x : BxD} (h : BxIn w x) (k : BxSm x) : BxV w x :=
  ⟨h.t.row, h.t.nest, h.n, h.g, h.i, h.s, k.t, k.ls, k.n, k.g, k.i, k.s, h.tc⟩
/-- A box whose memory is its own, from lo on below hi. -/
structure BxM (lo hi : Nat) (w : World) (x : BxD) : Prop where
  t : MOwn lo hi w (.slice x.aT x.two.length x.cT) x.two
  n : FOwn wiEnc 12 80 lo w (.slice x.aN x.net.length x.cN) x.net
  g : FOwn boEnc 1 4 lo w (.slice x.aG x.ga.length x.cG) x.ga
  i : FOwn ikEnc 8 78 lo w (.slice x.aL x.ln.length x.cL) x.ln
  s : FOwn ouEnc 8 89 lo w (.slice x.aS x.sd.length x.cS) x.sd
  nh : ∀ b, (Value.slice x.aN x.net.length x.cN).ownBlock = some b → b < hi
  gh : ∀ b, (Value.slice x.aG x.ga.length x.cG).ownBlock = some b → b < hi
  ih : ∀ b, (Value.slice x.aL x.ln.length x.cL).ownBlock = some b → b < hi
  sh : ∀ b, (Value.slice x.aS x.sd.length x.cS).ownBlock = some b → b < hi
  ap : ∀ j, j < x.two.length → ∀ b, (x.two.getD j MiD.nil).v.ownBlock = some b → (Value.slice x.aL x.ln.length x.cL).ownBlock ≠ some b
theorem BxM.keep {lo hi : Nat} {w w' : World} {x : BxD} (h : BxM lo hi w x) (k : ∀ g, lo ≤ g → g < hi → w'.heap[g]? = w.heap[g]?) : BxM lo hi w' x :=
  ⟨h.t.keep k, h.n.keep (fun g e => k g (h.n.lt g e).1 (h.nh g e)), h.g.keep (fun g e => k g (h.g.lt g e).1 (h.gh g e)), h.i.keep (fun g e => k g (h.i.lt g e).1 (h.ih g e)), h.s.keep (fun g e => k g (h.s.lt g e).1 (h.sh g e)), h.nh, h.gh, h.ih, h.sh, h.ap⟩
theorem BxM.below {lo hi B : Nat} {w w' : World} {x : BxD} (h : BxM lo hi w x) (k : Below B w w') (hB : hi ≤ B) : BxM lo hi w' x := h.keep fun g _ hg => k.block _ (by omega)
theorem BxM.wide {lo hi lo' hi' : Nat} {w : World} {x : BxD} (h : BxM lo hi w x) (h1 : lo' ≤ lo) (h2 : hi ≤ hi') : BxM lo' hi' w x :=
  ⟨h.t.wide h1 h2, h.n.base h1, h.g.base h1, h.i.base h1, h.s.base h1, fun b e => Nat.lt_of_lt_of_le (h.nh b e) h2, fun b e => Nat.lt_of_lt_of_le (h.gh b e) h2, fun b e => Nat.lt_of_lt_of_le (h.ih b e) h2, fun b e => Nat.lt_of_lt_of_le (h.sh b e) h2, h.ap⟩
theorem BxM.in_ {lo hi : Nat} {w : World} {x : BxD} (h : BxM lo hi w x) (k : BxSm x) : BxIn w x := by
  have hm : (1048576 : Nat) ≤ maxLen := by unfold maxLen; omega
  exact ⟨h.t.view.2, Nat.le_trans k.t hm, fun i hi => Nat.le_trans (k.ls i hi) hm, h.t.row.capM, fun e => own_noneM (by have := h.t.row; rw [e] at this; exact this), h.n.view.2, Nat.le_trans k.n hm, fun e => own_noneM (by have := h.n; rw [e] at this; exact this), h.g.view.2, Nat.le_trans k.g hm, fun e => own_noneM (by have := h.g; rw [e] at this; exact this), h.i.view.2, Nat.le_trans k.i hm, fun e => own_noneM (by have := h.i; rw [e] at this; exact this), h.s.view.2, Nat.le_trans k.s hm, fun e => own_noneM (by have := h.s; rw [e] at this; exact this)⟩
theorem BxM.v {lo hi : Nat} {w : World} {x : BxD} (h : BxM lo hi w x) (k : BxSm x) : BxV w x := (h.in_ k).v k

end Go.Proofs.Ytnpiljegdiconab
namespace Go.Proofs.Ytnpiljegdiconab
open Go.ChangeShapes Go.WideShapes Go.ChangeAt Go.RowKit
open Go.ChangeMaps (open_string shut_string)
set_option linter.unusedVariables false
set_option maxRecDepth 100000

set_option maxHeartbeats 2000000 in
theorem bxSz (x : BxD) (w : World) (I : BxIn w x) :
    Calls Try.prog 4 #[.agg #[.int .i64 x.id, .int .i64 x.po, .int .i64 x.rg.ep, .int .i64 x.rg.ow, .int .i64 x.rg.pa, .slice x.aT x.two.length x.cT, .slice x.aN x.net.length x.cN, .slice x.aG x.ga.length x.cG, .slice x.aL x.ln.length x.cL, .slice x.aS x.sd.length x.cS], .int .i64 1048576] w fun e w' => ∃ c : Int, e = .returned (.int .i64 c) ∧ (c < 0 ∨ (0 ≤ c ∧ c ≤ 1048576 ∧ BxSm x)) ∧ Below w.heap.size w w' := by
  obtain ⟨y, hy⟩ : ∃ y, y = w.alloc (Obj.cells #[.int .i64 x.id, .int .i64 x.po, .int .i64 x.rg.ep, .int .i64 x.rg.ow, .int .i64 x.rg.pa, .slice x.aT x.two.length x.cT, .slice x.aN x.net.length x.cN, .slice x.aG x.ga.length x.cG, .slice x.aL x.ln.length x.cL, .slice x.aS x.sd.length x.cS] 30) := ⟨_, rfl⟩
  have B0 : Below w.heap.size w y := by rw [hy]; exact below_new _
  have A : BxAt y w.heap.size x := by rw [hy]; exact BxAt.new w _ x
  have I := I.below B0
  go_enter Try.func4, Try.ntmps4
  have cc := A
  obtain ⟨a0, a1, a2, a3, a4, a5, a6, a7, a8, a9⟩ := cc
  go_wp2_with fail
  go_at_call 9
  rw [← hy]
  clear hy a0 a1 a2 a3 a4 a5 a6 a7 a8 a9
  refine (mdSz x.aT x.cT x.two 1048576 y I.t (by decide) (by decide) I.tm I.ts).mono ?_
  rintro e u0 ⟨rfl, k0⟩
  have A := A.below k0 A.lt
  have B0 := B0.trans (k0.mono B0.size)
  clear k0
  by_cases h0 : ((x.two.length + lToM x.two x.two.length : Nat) : Int) ≤ 1048576
  rotate_left
  · rw [if_neg h0]
    go_wp2
    go_ret
    exact ⟨_, rfl, .inl (by decide), B0⟩
  rw [if_pos h0]
  have l0 : 0 ≤ 1048576 - ((x.two.length + lToM x.two x.two.length : Nat) : Int) := by omega
  have l1 : 1048576 - ((x.two.length + lToM x.two x.two.length : Nat) : Int) ≤ 1048576 := by omega
  generalize 1048576 - ((x.two.length + lToM x.two x.two.length : Nat) : Int) = c0 at l0 l1 ⊢
  have l2 : ¬ c0 < 0 := by omega
  have cc := A
  obtain ⟨a0, a1, a2, a3, a4, a5, a6, a7, a8, a9⟩ := cc
  go_wp2_with fail
  go_at_call 10
  clear a0 a1 a2 a3 a4 a5 a6 a7 a8 a9
  refine (wiSz x.aN x.net.length x.cN c0 u0 l0 l1 I.nm).mono ?_
  rintro e u1 ⟨rfl, hw⟩
  have A : BxAt u1 w.heap.size x := by rw [hw]; exact A
  have B0 : Below w.heap.size w u1 := by rw [hw]; exact B0
  clear hw
  by_cases h1 : (x.net.length : Int) ≤ c0
  rotate_left
  · rw [if_neg h1]
    go_wp2
    go_ret
    exact ⟨_, rfl, .inl (by decide), B0⟩
  rw [if_pos h1]
  have l0' : 0 ≤ c0 - (x.net.length : Int) := by omega
  have l1' : c0 - (x.net.length : Int) ≤ 1048576 := by omega
  replace h1 : x.net.length ≤ 1048576 := by omega
  clear l0 l1 l2
  generalize c0 - (x.net.length : Int) = c1 at l0' l1' ⊢
  have l0 := l0'
  have l1 := l1'
  have l2 : ¬ c1 < 0 := by omega
  clear l0' l1'
  have cc := A
  obtain ⟨a0, a1, a2, a3, a4, a5, a6, a7, a8, a9⟩ := cc
  go_wp2_with fail
  go_at_call 11
  clear a0 a1 a2 a3 a4 a5 a6 a7 a8 a9
  refine (szBo x.aG x.ga.length x.cG c1 u1 l0 l1 I.gm).mono ?_
  rintro e u2 ⟨rfl, hw⟩
  have A : BxAt u2 w.heap.size x := by rw [hw]; exact A
  have B0 : Below w.heap.size w u2 := by rw [hw]; exact B0
  clear hw
  by_cases h2 : (x.ga.length : Int) ≤ c1
  rotate_left
  · rw [if_neg h2]
    go_wp2
    go_ret
    exact ⟨_, rfl, .inl (by decide), B0⟩
  rw [if_pos h2]
  have l0' : 0 ≤ c1 - (x.ga.length : Int) := by omega
  have l1' : c1 - (x.ga.length : Int) ≤ 1048576 := by omega
  replace h2 : x.ga.length ≤ 1048576 := by omega
  clear l0 l1 l2
  generalize c1 - (x.ga.length : Int) = c2 at l0' l1' ⊢
  have l0 := l0'
  have l1 := l1'
  have l2 : ¬ c2 < 0 := by omega
  clear l0' l1'
  have cc := A
  obtain ⟨a0, a1, a2, a3, a4, a5, a6, a7, a8, a9⟩ := cc
  go_wp2_with fail
  go_at_call 12
  clear a0 a1 a2 a3 a4 a5 a6 a7 a8 a9
  refine (ikSz x.aL x.ln.length x.cL c2 u2 l0 l1 I.im).mono ?_
  rintro e u3 ⟨rfl, hw⟩
  have A : BxAt u3 w.heap.size x := by rw [hw]; exact A
  have B0 : Below w.heap.size w u3 := by rw [hw]; exact B0
  clear hw
  by_cases h3 : (x.ln.length : Int) ≤ c2
  rotate_left
  · rw [if_neg h3]
    go_wp2
    go_ret
    exact ⟨_, rfl, .inl (by decide), B0⟩
  rw [if_pos h3]
  have l0' : 0 ≤ c2 - (x.ln.length : Int) := by omega
  have l1' : c2 - (x.ln.length : Int) ≤ 1048576 := by omega
  replace h3 : x.ln.length ≤ 1048576 := by omega
  clear l0 l1 l2
  generalize c2 - (x.ln.length : Int) = c3 at l0' l1' ⊢
  have l0 := l0'
  have l1 := l1'
  have l2 : ¬ c3 < 0 := by omega
  clear l0' l1'
  have cc := A
  obtain ⟨a0, a1, a2, a3, a4, a5, a6, a7, a8, a9⟩ := cc
  go_wp2_with fail
  go_at_call 13
  clear a0 a1 a2 a3 a4 a5 a6 a7 a8 a9
  refine (ouSz x.aS x.sd.length x.cS c3 u3 l0 l1 I.sm).mono ?_
  rintro e u4 ⟨rfl, hw⟩
  have A : BxAt u4 w.heap.size x := by rw [hw]; exact A
  have B0 : Below w.heap.size w u4 := by rw [hw]; exact B0
  clear hw
  by_cases h4 : (x.sd.length : Int) ≤ c3
  rotate_left
  · rw [if_neg h4]
    go_wp2
    go_ret
    exact ⟨_, rfl, .inl (by decide), B0⟩
  rw [if_pos h4]
  have l0' : 0 ≤ c3 - (x.sd.length : Int) := by omega
  have l1' : c3 - (x.sd.length : Int) ≤ 1048576 := by omega
  replace h4 : x.sd.length ≤ 1048576 := by omega
  clear l0 l1 l2
  generalize c3 - (x.sd.length : Int) = c4 at l0' l1' ⊢
  have l0 := l0'
  have l1 := l1'
  have l2 : ¬ c4 < 0 := by omega
  clear l0' l1'
  go_wp2
  go_ret
  exact ⟨_, rfl, .inr ⟨l0, l1, by omega, by omega, h1, h2, h3, h4⟩, B0⟩

end Go.Proofs.Ytnpiljegdiconab
namespace Go.Proofs.Ytnpiljegdiconab
open Go.ChangeShapes Go.WideShapes Go.ChangeAt Go.RowKit
open Go.ChangeMaps (open_string shut_string)
set_option linter.unusedVariables false
set_option maxRecDepth 100000

/-- A box's box that may be written. -/
structure BxB (w : World) (q : Nat) (x : BxD) : Prop where
  at_ : BxAt w q x
  fr : ∀ i, w.frozen? ⟨q, i, none⟩ = false
theorem BxB.keep {w w' : World} {q : Nat} {x : BxD} (h : BxB w q x) (k : w'.heap[q]? = w.heap[q]?) : BxB w' q x :=
  ⟨h.at_.keep k, fun i => (World.frozen?_of_block (a := ⟨q, i, none⟩) k).trans (h.fr i)⟩
theorem BxB.below {w w' : World} {q n : Nat} {x : BxD} (h : BxB w q x) (k : Below n w w') (hq : q < n) : BxB w' q x := h.keep (k.block q hq)
theorem BxB.lt {w : World} {q : Nat} {x : BxD} (h : BxB w q x) : q < w.heap.size := h.at_.lt
def BxD.zero : BxD := ⟨0, 0, ⟨0, 0, 0⟩, [], none, 0, [], none, 0, [], none, 0, [], none, 0, [], none, 0⟩
theorem BxB.put {w : World} {q : Nat} {x0 : BxD} (h : BxB w q x0) (x : BxD) : BxB ((((((((((w.setCell ⟨q, 0, none⟩ (.int .i64 x.id)).setCell ⟨q, 1, none⟩ (.int .i64 x.po)).setCell ⟨q, 2, none⟩ (.int .i64 x.rg.ep)).setCell ⟨q, 3, none⟩ (.int .i64 x.rg.ow)).setCell ⟨q, 4, none⟩ (.int .i64 x.rg.pa)).setCell ⟨q, 5, none⟩ (.slice x.aT x.two.length x.cT)).setCell ⟨q, 6, none⟩ (.slice x.aN x.net.length x.cN)).setCell ⟨q, 7, none⟩ (.slice x.aG x.ga.length x.cG)).setCell ⟨q, 8, none⟩ (.slice x.aL x.ln.length x.cL)).setCell ⟨q, 9, none⟩ (.slice x.aS x.sd.length x.cS)) q x := by
  obtain ⟨⟨h0, h1, h2, h3, h4, h5, h6, h7, h8, h9⟩, hf⟩ := h
  have h0 : (w.setCell ⟨q, 0, none⟩ (.int .i64 x.id)).cell? ⟨q, 0, none⟩ = some (.int .i64 x.id) := pset_same h0
  have h1 : (w.setCell ⟨q, 0, none⟩ (.int .i64 x.id)).cell? ⟨q, 1, none⟩ = _ := (pset_else (by decide)).trans h1
  have h2 : (w.setCell ⟨q, 0, none⟩ (.int .i64 x.id)).cell? ⟨q, 2, none⟩ = _ := (pset_else (by decide)).trans h2
  have h3 : (w.setCell ⟨q, 0, none⟩ (.int .i64 x.id)).cell? ⟨q, 3, none⟩ = _ := (pset_else (by decide)).trans h3
  have h4 : (w.setCell ⟨q, 0, none⟩ (.int .i64 x.id)).cell? ⟨q, 4, none⟩ = _ := (pset_else (by decide)).trans h4
  have h5 : (w.setCell ⟨q, 0, none⟩ (.int .i64 x.id)).cell? ⟨q, 5, none⟩ = _ := (pset_else (by decide)).trans h5
  have h6 : (w.setCell ⟨q, 0, none⟩ (.int .i64 x.id)).cell? ⟨q, 6, none⟩ = _ := (pset_else (by decide)).trans h6
  have h7 : (w.setCell ⟨q, 0, none⟩ (.int .i64 x.id)).cell? ⟨q, 7, none⟩ = _ := (pset_else (by decide)).trans h7
  have h8 : (w.setCell ⟨q, 0, none⟩ (.int .i64 x.id)).cell? ⟨q, 8, none⟩ = _ := (pset_else (by decide)).trans h8
  have h9 : (w.setCell ⟨q, 0, none⟩ (.int .i64 x.id)).cell? ⟨q, 9, none⟩ = _ := (pset_else (by decide)).trans h9
  have h0 : ((w.setCell ⟨q, 0, none⟩ (.int .i64 x.id)).setCell ⟨q, 1, none⟩ (.int .i64 x.po)).cell? ⟨q, 0, none⟩ = _ := (pset_else (by decide)).trans h0
  have h1 : ((w.setCell ⟨q, 0, none⟩ (.int .i64 x.id)).setCell ⟨q, 1, none⟩ (.int .i64 x.po)).cell? ⟨q, 1, none⟩ = some (.int .i64 x.po) := pset_same h1
  have h2 : ((w.setCell ⟨q, 0, none⟩ (.int .i64 x.id)).setCell ⟨q, 1, none⟩ (.int .i64 x.po)).cell? ⟨q, 2, none⟩ = _ := (pset_else (by decide)).trans h2
  have h3 : ((w.setCell ⟨q, 0, none⟩ (.int .i64 x.id)).setCell ⟨q, 1, none⟩ (.int .i64 x.po)).cell? ⟨q, 3, none⟩ = _ := (pset_else (by decide)).trans h3
  have h4 : ((w.setCell ⟨q, 0, none⟩ (.int .i64 x.id)).setCell ⟨q, 1, none⟩ (.int .i64 x.po)).cell? ⟨q, 4, none⟩ = _ := (pset_else (by decide)).trans h4
  have h5 : ((w.setCell ⟨q, 0, none⟩ (.int .i64 x.id)).setCell ⟨q, 1, none⟩ (.int .i64 x.po)).cell? ⟨q, 5, none⟩ = _ := (pset_else (by decide)).trans h5
  have h6 : ((w.setCell ⟨q, 0, none⟩ (.int .i64 x.id)).setCell ⟨q, 1, none⟩ (.int .i64 x.po)).cell? ⟨q, 6, none⟩ = _ := (pset_else (by decide)).trans h6
  have h7 : ((w.setCell ⟨q, 0, none⟩ (.int .i64 x.id)).setCell ⟨q, 1, none⟩ (.int .i64 x.po)).cell? ⟨q, 7, none⟩ = _ := (pset_else (by decide)).trans h7
  have h8 : ((w.setCell ⟨q, 0, none⟩ (.int .i64 x.id)).setCell ⟨q, 1, none⟩ (.int .i64 x.po)).cell? ⟨q, 8, none⟩ = _ := (pset_else (by decide)).trans h8
  have h9 : ((w.setCell ⟨q, 0, none⟩ (.int .i64 x.id)).setCell ⟨q, 1, none⟩ (.int .i64 x.po)).cell? ⟨q, 9, none⟩ = _ := (pset_else (by decide)).trans h9
  have h0 : (((w.setCell ⟨q, 0, none⟩ (.int .i64 x.id)).setCell ⟨q, 1, none⟩ (.int .i64 x.po)).setCell ⟨q, 2, none⟩ (.int .i64 x.rg.ep)).cell? ⟨q, 0, none⟩ = _ := (pset_else (by decide)).trans h0
  have h1 : (((w.setCell ⟨q, 0, none⟩ (.int .i64 x.id)).setCell ⟨q, 1, none⟩ (.int .i64 x.po)).setCell ⟨q, 2, none⟩ (.int .i64 x.rg.ep)).cell? ⟨q, 1, none⟩ = _ := (pset_else (by decide)).trans h1
  have h2 : (((w.setCell ⟨q, 0, none⟩ (.int .i64 x.id)).setCell ⟨q, 1, none⟩ (.int .i64 x.po)).setCell ⟨q, 2, none⟩ (.int .i64 x.rg.ep)).cell? ⟨q, 2, none⟩ = some (.int .i64 x.rg.ep) := pset_same h2
  have h3 : (((w.setCell ⟨q, 0, none⟩ (.int .i64 x.id)).setCell ⟨q, 1, none⟩ (.int .i64 x.po)).setCell ⟨q, 2, none⟩ (.int .i64 x.rg.ep)).cell? ⟨q, 3, none⟩ = _ := (pset_else (by decide)).trans h3
  have h4 : (((w.setCell ⟨q, 0, none⟩ (.int .i64 x.id)).setCell ⟨q, 1, none⟩ (.int .i64 x.po)).setCell ⟨q, 2, none⟩ (.int .i64 x.rg.ep)).cell? ⟨q, 4, none⟩ = _ := (pset_else (by decide)).trans h4
  have h5 : (((w.setCell ⟨q, 0, none⟩ (.int .i64 x.id)).setCell ⟨q, 1, none⟩ (.int .i64 x.po)).setCell ⟨q, 2, none⟩ (.int .i64 x.rg.ep)).cell? ⟨q, 5, none⟩ = _ := (pset_else (by decide)).trans h5
  have h6 : (((w.setCell ⟨q, 0, none⟩ (.int .i64 x.id)).setCell ⟨q, 1, none⟩ (.int .i64 x.po)).setCell ⟨q, 2, none⟩ (.int .i64 x.rg.ep)).cell? ⟨q, 6, none⟩ = _ := (pset_else (by decide)).trans h6
  have h7 : (((w.setCell ⟨q, 0, none⟩ (.int .i64 x.id)).setCell ⟨q, 1, none⟩ (.int .i64 x.po)).setCell ⟨q, 2, none⟩ (.int .i64 x.rg.ep)).cell? ⟨q, 7, none⟩ = _ := (pset_else (by decide)).trans h7
  have h8 : (((w.setCell ⟨q, 0, none⟩ (.int .i64 x.id)).setCell ⟨q, 1, none⟩ (.int .i64 x.po)).setCell ⟨q, 2, none⟩ (.int .i64 x.rg.ep)).cell? ⟨q, 8, none⟩ = _ := (pset_else (by decide)).trans h8
  have h9 : (((w.setCell ⟨q, 0, none⟩ (.int .i64 x.id)).setCell ⟨q, 1, none⟩ (.int .i64 x.po)).setCell ⟨q, 2, none⟩ (.int .i64 x.rg.ep)).cell? ⟨q, 9, none⟩ = _ := (pset_else (by decide)).trans h9
  have h0 : ((((w.setCell ⟨q, 0, none⟩ (.int .i64 x.id)).setCell ⟨q, 1, none⟩ (.int .i64 x.po)).setCell ⟨q, 2, none⟩ (.int .i64 x.rg.ep)).setCell ⟨q, 3, none⟩ (.int .i64 x.rg.ow)).cell? ⟨q, 0, none⟩ = _ := (pset_else (by decide)).trans h0
  have h1 : ((((w.setCell ⟨q, 0, none⟩ (.int .i64 x.id)).setCell ⟨q, 1, none⟩ (.int .i64 x.po)).setCell ⟨q, 2, none⟩ (.int .i64 x.rg.ep)).setCell ⟨q, 3, none⟩ (.int .i64 x.rg.ow)).cell? ⟨q, 1, none⟩ = _ := (pset_else (by decide)).trans h1
  have h2 : ((((w.setCell ⟨q, 0, none⟩ (.int .i64 x.id)).setCell ⟨q, 1, none⟩ (.int .i64 x.po)).setCell ⟨q, 2, none⟩ (.int .i64 x.rg.ep)).setCell ⟨q, 3, none⟩ (.int .i64 x.rg.ow)).cell? ⟨q, 2, none⟩ = _ := (pset_else (by decide)).trans h2
  have h3 : ((((w.setCell ⟨q, 0, none⟩ (.int .i64 x.id)).setCell ⟨q, 1, none⟩ (.int .i64 x.po)).setCell ⟨q, 2, none⟩ (.int .i64 x.rg.ep)).setCell ⟨q, 3, none⟩ (.int .i64 x.rg.ow)).cell? ⟨q, 3, none⟩ = some (.int .i64 x.rg.ow) := pset_same h3
  have h4 : ((((w.setCell ⟨q, 0, none⟩ (.int .i64 x.id)).setCell ⟨q, 1, none⟩ (.int .i64 x.po)).setCell ⟨q, 2, none⟩ (.int .i64 x.rg.ep)).setCell ⟨q, 3, none⟩ (.int .i64 x.rg.ow)).cell? ⟨q, 4, none⟩ = _ := (pset_else (by decide)).trans h4
  have h5 : ((((w.setCell ⟨q, 0, none⟩ (.int .i64 x.id)).setCell ⟨q, 1, none⟩ (.int .i64 x.po)).setCell ⟨q, 2, none⟩ (.int .i64 x.rg.ep)).setCell ⟨q, 3, none⟩ (.int .i64 x.rg.ow)).cell? ⟨q, 5, none⟩ = _ := (pset_else (by decide)).trans h5
  have h6 : ((((w.setCell ⟨q, 0, none⟩ (.int .i64 x.id)).setCell ⟨q, 1, none⟩ (.int .i64 x.po)).setCell ⟨q, 2, none⟩ (.int .i64 x.rg.ep)).setCell ⟨q, 3, none⟩ (.int .i64 x.rg.ow)).cell? ⟨q, 6, none⟩ = _ := (pset_else (by decide)).trans h6
  have h7 : ((((w.setCell ⟨q, 0, none⟩ (.int .i64 x.id)).setCell ⟨q, 1, none⟩ (.int .i64 x.po)).setCell ⟨q, 2, none⟩ (.int .i64 x.rg.ep)).setCell ⟨q, 3, none⟩ (.int .i64 x.rg.ow)).cell? ⟨q, 7, none⟩ = _ := (pset_else (by decide)).trans h7
  have h8 : ((((w.setCell ⟨q, 0, none⟩ (.int .i64 x.id)).setCell ⟨q, 1, none⟩ (.int .i64 x.po)).setCell ⟨q, 2, none⟩ (.int .i64 x.rg.ep)).setCell ⟨q, 3, none⟩ (.int .i64 x.rg.ow)).cell? ⟨q, 8, none⟩ = _ := (pset_else (by decide)).trans h8
  have h9 : ((((w.setCell ⟨q, 0, none⟩ (.int .i64 x.id)).setCell ⟨q, 1, none⟩ (.int .i64 x.po)).setCell ⟨q, 2, none⟩ (.int .i64 x.rg.ep)).setCell ⟨q, 3, none⟩ (.int .i64 x.rg.ow)).cell? ⟨q, 9, none⟩ = _ := (pset_else (by decide)).trans h9
  have h0 : (((((w.setCell ⟨q, 0, none⟩ (.int .i64 x.id)).setCell ⟨q, 1, none⟩ (.int .i64 x.po)).setCell ⟨q, 2, none⟩ (.int .i64 x.rg.ep)).setCell ⟨q, 3, none⟩ (.int .i64 x.rg.ow)).setCell ⟨q, 4, none⟩ (.int .i64 x.rg.pa)).cell? ⟨q, 0, none⟩ = _ := (pset_else (by decide)).trans h0
  have h1 : (((((w.setCell ⟨q, 0, none⟩ (.int .i64 x.id)).setCell ⟨q, 1, none⟩ (.int .i64 x.po)).setCell ⟨q, 2, none⟩ (.int .i64 x.rg.ep)).setCell ⟨q, 3, none⟩ (.int .i64 x.rg.ow)).setCell ⟨q, 4, none⟩ (.int .i64 x.rg.pa)).cell? ⟨q, 1, none⟩ = _ := (pset_else (by decide)).trans h1
  have h2 : (((((w.setCell ⟨q, 0, none⟩ (.int .i64 x.id)).setCell ⟨q, 1, none⟩ (.int .i64 x.po)).setCell ⟨q, 2, none⟩ (.int .i64 x.rg.ep)).setCell ⟨q, 3, none⟩ (.int .i64 x.rg.ow)).setCell ⟨q, 4, none⟩ (.int .i64 x.rg.pa)).cell? ⟨q, 2, none⟩ = _ := (pset_else (by decide)).trans h2
  have h3 : (((((w.setCell ⟨q, 0, none⟩ (.int .i64 x.id)).setCell ⟨q, 1, none⟩ (.int .i64 x.po)).setCell ⟨q, 2, none⟩ (.int .i64 x.rg.ep)).setCell ⟨q, 3, none⟩ (.int .i64 x.rg.ow)).setCell ⟨q, 4, none⟩ (.int .i64 x.rg.pa)).cell? ⟨q, 3, none⟩ = _ := (pset_else (by decide)).trans h3
  have h4 : (((((w.setCell ⟨q, 0, none⟩ (.int .i64 x.id)).setCell ⟨q, 1, none⟩ (.int .i64 x.po)).setCell ⟨q, 2, none⟩ (.int .i64 x.rg.ep)).setCell ⟨q, 3, none⟩ (.int .i64 x.rg.ow)).setCell ⟨q, 4, none⟩ (.int .i64 x.rg.pa)).cell? ⟨q, 4, none⟩ = some (.int .i64 x.rg.pa) := pset_same h4
  have h5 : (((((w.setCell ⟨q, 0, none⟩ (.int .i64 x.id)).setCell ⟨q, 1, none⟩ (.int .i64 x.po)).setCell ⟨q, 2, none⟩ (.int .i64 x.rg.ep)).setCell ⟨q, 3, none⟩ (.int .i64 x.rg.ow)).setCell ⟨q, 4, none⟩ (.int .i64 x.rg.pa)).cell? ⟨q, 5, none⟩ = _ := (pset_else (by decide)).trans h5
  have h6 : (((((w.setCell ⟨q, 0, none⟩ (.int .i64 x.id)).setCell ⟨q, 1, none⟩ (.int .i64 x.po)).setCell ⟨q, 2, none⟩ (.int .i64 x.rg.ep)).setCell ⟨q, 3, none⟩ (.int .i64 x.rg.ow)).setCell ⟨q, 4, none⟩ (.int .i64 x.rg.pa)).cell? ⟨q, 6, none⟩ = _ := (pset_else (by decide)).trans h6
  have h7 : (((((w.setCell ⟨q, 0, none⟩ (.int .i64 x.id)).setCell ⟨q, 1, none⟩ (.int .i64 x.po)).setCell ⟨q, 2, none⟩ (.int .i64 x.rg.ep)).setCell ⟨q, 3, none⟩ (.int .i64 x.rg.ow)).setCell ⟨q, 4, none⟩ (.int .i64 x.rg.pa)).cell? ⟨q, 7, none⟩ = _ := (pset_else (by decide)).trans h7
  have h8 : (((((w.setCell ⟨q, 0, none⟩ (.int .i64 x.id)).setCell ⟨q, 1, none⟩ (.int .i64 x.po)).setCell ⟨q, 2, none⟩ (.int .i64 x.rg.ep)).setCell ⟨q, 3, none⟩ (.int .i64 x.rg.ow)).setCell ⟨q, 4, none⟩ (.int .i64 x.rg.pa)).cell? ⟨q, 8, none⟩ = _ := (pset_else (by decide)).trans h8
  have h9 : (((((w.setCell ⟨q, 0, none⟩ (.int .i64 x.id)).setCell ⟨q, 1, none⟩ (.int .i64 x.po)).setCell ⟨q, 2, none⟩ (.int .i64 x.rg.ep)).setCell ⟨q, 3, none⟩ (.int .i64 x.rg.ow)).setCell ⟨q, 4, none⟩ (.int .i64 x.rg.pa)).cell? ⟨q, 9, none⟩ = _ := (pset_else (by decide)).trans h9
  have h0 : ((((((w.setCell ⟨q, 0, none⟩ (.int .i64 x.id)).setCell ⟨q, 1, none⟩ (.int .i64 x.po)).setCell ⟨q, 2, none⟩ (.int .i64 x.rg.ep)).setCell ⟨q, 3, none⟩ (.int .i64 x.rg.ow)).setCell ⟨q, 4, none⟩ (.int .i64 x.rg.pa)).setCell ⟨q, 5, none⟩ (.slice x.aT x.two.length x.cT)).cell? ⟨q, 0, none⟩ = _ := (pset_else (by decide)).trans h0
  have h1 : ((((((w.setCell ⟨q, 0, none⟩ (.int .i64 x.id)).setCell ⟨q, 1, none⟩ (.int .i64 x.po)).setCell ⟨q, 2, none⟩ (.int .i64 x.rg.ep)).setCell ⟨q, 3, none⟩ (.int .i64 x.rg.ow)).setCell ⟨q, 4, none⟩ (.int .i64 x.rg.pa)).setCell ⟨q, 5, none⟩ (.slice x.aT x.two.length x.cT)).cell? ⟨q, 1, none⟩ = _ := (pset_else (by decide)).trans h1
  have h2 : ((((((w.setCell ⟨q, 0, none⟩ (.int .i64 x.id)).setCell ⟨q, 1, none⟩ (.int .i64 x.po)).setCell ⟨q, 2, none⟩ (.int .i64 x.rg.ep)).setCell ⟨q, 3, none⟩ (.int .i64 x.rg.ow)).setCell ⟨q, 4, none⟩ (.int .i64 x.rg.pa)).setCell ⟨q, 5, none⟩ (.slice x.aT x.two.length x.cT)).cell? ⟨q, 2, none⟩ = _ := (pset_else (by decide)).trans h2
  have h3 : ((((((w.setCell ⟨q, 0, none⟩ (.int .i64 x.id)).setCell ⟨q, 1, none⟩ (.int .i64 x.po)).setCell ⟨q, 2, none⟩ (.int .i64 x.rg.ep)).setCell ⟨q, 3, none⟩ (.int .i64 x.rg.ow)).setCell ⟨q, 4, none⟩ (.int .i64 x.rg.pa)).setCell ⟨q, 5, none⟩ (.slice x.aT x.two.length x.cT)).cell? ⟨q, 3, none⟩ = _ := (pset_else (by decide)).trans h3
  have h4 : ((((((w.setCell ⟨q, 0, none⟩ (.int .i64 x.id)).setCell ⟨q, 1, none⟩ (.int .i64 x.po)).setCell ⟨q, 2, none⟩ (.int .i64 x.rg.ep)).setCell ⟨q, 3, none⟩ (.int .i64 x.rg.ow)).setCell ⟨q, 4, none⟩ (.int .i64 x.rg.pa)).setCell ⟨q, 5, none⟩ (.slice x.aT x.two.length x.cT)).cell? ⟨q, 4, none⟩ = _ := (pset_else (by decide)).trans h4
  have h5 : ((((((w.setCell ⟨q, 0, none⟩ (.int .i64 x.id)).setCell ⟨q, 1, none⟩ (.int .i64 x.po)).setCell ⟨q, 2, none⟩ (.int .i64 x.rg.ep)).setCell ⟨q, 3, none⟩ (.int .i64 x.rg.ow)).setCell ⟨q, 4, none⟩ (.int .i64 x.rg.pa)).setCell ⟨q, 5, none⟩ (.slice x.aT x.two.length x.cT)).cell? ⟨q, 5, none⟩ = some (.slice x.aT x.two.length x.cT) := pset_same h5
  have h6 : ((((((w.setCell ⟨q, 0, none⟩ (.int .i64 x.id)).setCell ⟨q, 1, none⟩ (.int .i64 x.po)).setCell ⟨q, 2, none⟩ (.int .i64 x.rg.ep)).setCell ⟨q, 3, none⟩ (.int .i64 x.rg.ow)).setCell ⟨q, 4, none⟩ (.int .i64 x.rg.pa)).setCell ⟨q, 5, none⟩ (.slice x.aT x.two.length x.cT)).cell? ⟨q, 6, none⟩ = _ := (pset_else (by decide)).trans h6
  have h7 : ((((((w.setCell ⟨q, 0, none⟩ (.int .i64 x.id)).setCell ⟨q, 1, none⟩ (.int .i64 x.po)).setCell ⟨q, 2, none⟩ (.int .i64 x.rg.ep)).setCell ⟨q, 3, none⟩ (.int .i64 x.rg.ow)).setCell ⟨q, 4, none⟩ (.int .i64 x.rg.pa)).setCell ⟨q, 5, none⟩ (.slice x.aT x.two.length x.cT)).cell? ⟨q, 7, none⟩ = _ := (pset_else (by decide)).trans h7
  have h8 : ((((((w.setCell ⟨q, 0, none⟩ (.int .i64 x.id)).setCell ⟨q, 1, none⟩ (.int .i64 x.po)).setCell ⟨q, 2, none⟩ (.int .i64 x.rg.ep)).setCell ⟨q, 3, none⟩ (.int .i64 x.rg.ow)).setCell ⟨q, 4, none⟩ (.int .i64 x.rg.pa)).setCell ⟨q, 5, none⟩ (.slice x.aT x.two.length x.cT)).cell? ⟨q, 8, none⟩ = _ := (pset_else (by decide)).trans h8
  have h9 : ((((((w.setCell ⟨q, 0, none⟩ (.int .i64 x.id)).setCell ⟨q, 1, none⟩ (.int .i64 x.po)).setCell ⟨q, 2, none⟩ (.int .i64 x.rg.ep)).setCell ⟨q, 3, none⟩ (.int .i64 x.rg.ow)).setCell ⟨q, 4, none⟩ (.int .i64 x.rg.pa)).setCell ⟨q, 5, none⟩ (.slice x.aT x.two.length x.cT)).cell? ⟨q, 9, none⟩ = _ := (pset_else (by decide)).trans h9
  have h0 : (((((((w.setCell ⟨q, 0, none⟩ (.int .i64 x.id)).setCell ⟨q, 1, none⟩ (.int .i64 x.po)).setCell ⟨q, 2, none⟩ (.int .i64 x.rg.ep)).setCell ⟨q, 3, none⟩ (.int .i64 x.rg.ow)).setCell ⟨q, 4, none⟩ (.int .i64 x.rg.pa)).setCell ⟨q, 5, none⟩ (.slice x.aT x.two.length x.cT)).setCell ⟨q, 6, none⟩ (.slice x.aN x.net.length x.cN)).cell? ⟨q, 0, none⟩ = _ := (pset_else (by decide)).trans h0
  have h1 : (((((((w.setCell ⟨q, 0, none⟩ (.int .i64 x.id)).setCell ⟨q, 1, none⟩ (.int .i64 x.po)).setCell ⟨q, 2, none⟩ (.int .i64 x.rg.ep)).setCell ⟨q, 3, none⟩ (.int .i64 x.rg.ow)).setCell ⟨q, 4, none⟩ (.int .i64 x.rg.pa)).setCell ⟨q, 5, none⟩ (.slice x.aT x.two.length x.cT)).setCell ⟨q, 6, none⟩ (.slice x.aN x.net.length x.cN)).cell? ⟨q, 1, none⟩ = _ := (pset_else (by decide)).trans h1
  have h2 : (((((((w.setCell ⟨q, 0, none⟩ (.int .i64 x.id)).setCell ⟨q, 1, none⟩ (.int .i64 x.po)).setCell ⟨q, 2, none⟩ (.int .i64 x.rg.ep)).setCell ⟨q, 3, none⟩ (.int .i64 x.rg.ow)).setCell ⟨q, 4, none⟩ (.int .i64 x.rg.pa)).setCell ⟨q, 5, none⟩ (.slice x.aT x.two.length x.cT)).setCell ⟨q, 6, none⟩ (.slice x.aN x.net.length x.cN)).cell? ⟨q, 2, none⟩ = _ := (pset_else (by decide)).trans h2
  have h3 : (((((((w.setCell ⟨q, 0, none⟩ (.int .i64 x.id)).setCell ⟨q, 1, none⟩ (.int .i64 x.po)).setCell ⟨q, 2, none⟩ (.int .i64 x.rg.ep)).setCell ⟨q, 3, none⟩ (.int .i64 x.rg.ow)).setCell ⟨q, 4, none⟩ (.int .i64 x.rg.pa)).setCell ⟨q, 5, none⟩ (.slice x.aT x.two.length x.cT)).setCell ⟨q, 6, none⟩ (.slice x.aN x.net.length x.cN)).cell? ⟨q, 3, none⟩ = _ := (pset_else (by decide)).trans h3
  have h4 : (((((((w.setCell ⟨q, 0, none⟩ (.int .i64 x.id)).setCell ⟨q, 1, none⟩ (.int .i64 x.po)).setCell ⟨q, 2, none⟩ (.int .i64 x.rg.ep)).setCell ⟨q, 3, none⟩ (.int .i64 x.rg.ow)).setCell ⟨q, 4, none⟩ (.int .i64 x.rg.pa)).setCell ⟨q, 5, none⟩ (.slice x.aT x.two.length x.cT)).setCell ⟨q, 6, none⟩ (.slice x.aN x.net.length x.cN)).cell? ⟨q, 4, none⟩ = _ := (pset_else (by decide)).trans h4
  have h5 : (((((((w.setCell ⟨q, 0, none⟩ (.int .i64 x.id)).setCell ⟨q, 1, none⟩ (.int .i64 x.po)).setCell ⟨q, 2, none⟩ (.int .i64 x.rg.ep)).setCell ⟨q, 3, none⟩ (.int .i64 x.rg.ow)).setCell ⟨q, 4, none⟩ (.int .i64 x.rg.pa)).setCell ⟨q, 5, none⟩ (.slice x.aT x.two.length x.cT)).setCell ⟨q, 6, none⟩ (.slice x.aN x.net.length x.cN)).cell? ⟨q, 5, none⟩ = _ := (pset_else (by decide)).trans h5
  have h6 : (((((((w.setCell ⟨q, 0, none⟩ (.int .i64 x.id)).setCell ⟨q, 1, none⟩ (.int .i64 x.po)).setCell ⟨q, 2, none⟩ (.int .i64 x.rg.ep)).setCell ⟨q, 3, none⟩ (.int .i64 x.rg.ow)).setCell ⟨q, 4, none⟩ (.int .i64 x.rg.pa)).setCell ⟨q, 5, none⟩ (.slice x.aT x.two.length x.cT)).setCell ⟨q, 6, none⟩ (.slice x.aN x.net.length x.cN)).cell? ⟨q, 6, none⟩ = some (.slice x.aN x.net.length x.cN) := pset_same h6
  have h7 : (((((((w.setCell ⟨q, 0, none⟩ (.int .i64 x.id)).setCell ⟨q, 1, none⟩ (.int .i64 x.po)).setCell ⟨q, 2, none⟩ (.int .i64 x.rg.ep)).setCell ⟨q, 3, none⟩ (.int .i64 x.rg.ow)).setCell ⟨q, 4, none⟩ (.int .i64 x.rg.pa)).setCell ⟨q, 5, none⟩ (.slice x.aT x.two.length x.cT)).setCell ⟨q, 6, none⟩ (.slice x.aN x.net.length x.cN)).cell? ⟨q, 7, none⟩ = _ := (pset_else (by decide)).trans h7
  have h8 : (((((((w.setCell ⟨q, 0, none⟩ (.int .i64 x.id)).setCell ⟨q, 1, none⟩ (.int .i64 x.po)).setCell ⟨q, 2, none⟩ (.int .i64 x.rg.ep)).setCell ⟨q, 3, none⟩ (.int .i64 x.rg.ow)).setCell ⟨q, 4, none⟩ (.int .i64 x.rg.pa)).setCell ⟨q, 5, none⟩ (.slice x.aT x.two.length x.cT)).setCell ⟨q, 6, none⟩ (.slice x.aN x.net.length x.cN)).cell? ⟨q, 8, none⟩ = _ := (pset_else (by decide)).trans h8
  have h9 : (((((((w.setCell ⟨q, 0, none⟩ (.int .i64 x.id)).setCell ⟨q, 1, none⟩ (.int .i64 x.po)).setCell ⟨q, 2, none⟩ (.int .i64 x.rg.ep)).setCell ⟨q, 3, none⟩ (.int .i64 x.rg.ow)).setCell ⟨q, 4, none⟩ (.int .i64 x.rg.pa)).setCell ⟨q, 5, none⟩ (.slice x.aT x.two.length x.cT)).setCell ⟨q, 6, none⟩ (.slice x.aN x.net.length x.cN)).cell? ⟨q, 9, none⟩ = _ := (pset_else (by decide)).trans h9
  have h0 : ((((((((w.setCell ⟨q, 0, none⟩ (.int .i64 x.id)).setCell ⟨q, 1, none⟩ (.int .i64 x.po)).setCell ⟨q, 2, none⟩ (.int .i64 x.rg.ep)).setCell ⟨q, 3, none⟩ (.int .i64 x.rg.ow)).setCell ⟨q, 4, none⟩ (.int .i64 x.rg.pa)).setCell ⟨q, 5, none⟩ (.slice x.aT x.two.length x.cT)).setCell ⟨q, 6, none⟩ (.slice x.aN x.net.length x.cN)).setCell ⟨q, 7, none⟩ (.slice x.aG x.ga.length x.cG)).cell? ⟨q, 0, none⟩ = _ := (pset_else (by decide)).trans h0
  have h1 : ((((((((w.setCell ⟨q, 0, none⟩ (.int .i64 x.id)).setCell ⟨q, 1, none⟩ (.int .i64 x.po)).setCell ⟨q, 2, none⟩ (.int .i64 x.rg.ep)).setCell ⟨q, 3, none⟩ (.int .i64 x.rg.ow)).setCell ⟨q, 4, none⟩ (.int .i64 x.rg.pa)).setCell ⟨q, 5, none⟩ (.slice x.aT x.two.length x.cT)).setCell ⟨q, 6, none⟩ (.slice x.aN x.net.length x.cN)).setCell ⟨q, 7, none⟩ (.slice x.aG x.ga.length x.cG)).cell? ⟨q, 1, none⟩ = _ := (pset_else (by decide)).trans h1
  have h2 : ((((((((w.setCell ⟨q, 0, none⟩ (.int .i64 x.id)).setCell ⟨q, 1, none⟩ (.int .i64 x.po)).setCell ⟨q, 2, none⟩ (.int .i64 x.rg.ep)).setCell ⟨q, 3, none⟩ (.int .i64 x.rg.ow)).setCell ⟨q, 4, none⟩ (.int .i64 x.rg.pa)).setCell ⟨q, 5, none⟩ (.slice x.aT x.two.length x.cT)).setCell ⟨q, 6, none⟩ (.slice x.aN x.net.length x.cN)).setCell ⟨q, 7, none⟩ (.slice x.aG x.ga.length x.cG)).cell? ⟨q, 2, none⟩ = _ := (pset_else (by decide)).trans h2
  have h3 : ((((((((w.setCell ⟨q, 0, none⟩ (.int .i64 x.id)).setCell ⟨q, 1, none⟩ (.int .i64 x.po)).setCell ⟨q, 2, none⟩ (.int .i64 x.rg.ep)).setCell ⟨q, 3, none⟩ (.int .i64 x.rg.ow)).setCell ⟨q, 4, none⟩ (.int .i64 x.rg.pa)).setCell ⟨q, 5, none⟩ (.slice x.aT x.two.length x.cT)).setCell ⟨q, 6, none⟩ (.slice x.aN x.net.length x.cN)).setCell ⟨q, 7, none⟩ (.slice x.aG x.ga.length x.cG)).cell? ⟨q, 3, none⟩ = _ := (pset_else (by decide)).trans h3
  have h4 : ((((((((w.setCell ⟨q, 0, none⟩ (.int .i64 x.id)).setCell ⟨q, 1, none⟩ (.int .i64 x.po)).setCell ⟨q, 2, none⟩ (.int .i64 x.rg.ep)).setCell ⟨q, 3, none⟩ (.int .i64 x.rg.ow)).setCell ⟨q, 4, none⟩ (.int .i64 x.rg.pa)).setCell ⟨q, 5, none⟩ (.slice x.aT x.two.length x.cT)).setCell ⟨q, 6, none⟩ (.slice x.aN x.net.length x.cN)).setCell ⟨q, 7, none⟩ (.slice x.aG x.ga.length x.cG)).cell? ⟨q, 4, none⟩ = _ := (pset_else (by decide)).trans h4
  have h5 : ((((((((w.setCell ⟨q, 0, none⟩ (.int .i64 x.id)).setCell ⟨q, 1, none⟩ (.int .i64 x.po)).setCell ⟨q, 2, none⟩ (.int .i64 x.rg.ep)).setCell ⟨q, 3, none⟩ (.int .i64 x.rg.ow)).setCell ⟨q, 4, none⟩ (.int .i64 x.rg.pa)).setCell ⟨q, 5, none⟩ (.slice x.aT x.two.length x.cT)).setCell ⟨q, 6, none⟩ (.slice x.aN x.net.length x.cN)).setCell ⟨q, 7, none⟩ (.slice x.aG x.ga.length x.cG)).cell? ⟨q, 5, none⟩ = _ := (pset_else (by decide)).trans h5
  have h6 : ((((((((w.setCell ⟨q, 0, none⟩ (.int .i64 x.id)).setCell ⟨q, 1, none⟩ (.int .i64 x.po)).setCell ⟨q, 2, none⟩ (.int .i64 x.rg.ep)).setCell ⟨q, 3, none⟩ (.int .i64 x.rg.ow)).setCell ⟨q, 4, none⟩ (.int .i64 x.rg.pa)).setCell ⟨q, 5, none⟩ (.slice x.aT x.two.length x.cT)).setCell ⟨q, 6, none⟩ (.slice x.aN x.net.length x.cN)).setCell ⟨q, 7, none⟩ (.slice x.aG x.ga.length x.cG)).cell? ⟨q, 6, none⟩ = _ := (pset_else (by decide)).trans h6
  have h7 : ((((((((w.setCell ⟨q, 0, none⟩ (.int .i64 x.id)).setCell ⟨q, 1, none⟩ (.int .i64 x.po)).setCell ⟨q, 2, none⟩ (.int .i64 x.rg.ep)).setCell ⟨q, 3, none⟩ (.int .i64 x.rg.ow)).setCell ⟨q, 4, none⟩ (.int .i64 x.rg.pa)).setCell ⟨q, 5, none⟩ (.slice x.aT x.two.length x.cT)).setCell ⟨q, 6, none⟩ (.slice x.aN x.net.length x.cN)).setCell ⟨q, 7, none⟩ (.slice x.aG x.ga.length x.cG)).cell? ⟨q, 7, none⟩ = some (.slice x.aG x.ga.length x.cG) := pset_same h7
  have h8 : ((((((((w.setCell ⟨q, 0, none⟩ (.int .i64 x.id)).setCell ⟨q, 1, none⟩ (.int .i64 x.po)).setCell ⟨q, 2, none⟩ (.int .i64 x.rg.ep)).setCell ⟨q, 3, none⟩ (.int .i64 x.rg.ow)).setCell ⟨q, 4, none⟩ (.int .i64 x.rg.pa)).setCell ⟨q, 5, none⟩ (.slice x.aT x.two.length x.cT)).setCell ⟨q, 6, none⟩ (.slice x.aN x.net.length x.cN)).setCell ⟨q, 7, none⟩ (.slice x.aG x.ga.length x.cG)).cell? ⟨q, 8, none⟩ = _ := (pset_else (by decide)).trans h8
  have h9 : ((((((((w.setCell ⟨q, 0, none⟩ (.int .i64 x.id)).setCell ⟨q, 1, none⟩ (.int .i64 x.po)).setCell ⟨q, 2, none⟩ (.int .i64 x.rg.ep)).setCell ⟨q, 3, none⟩ (.int .i64 x.rg.ow)).setCell ⟨q, 4, none⟩ (.int .i64 x.rg.pa)).setCell ⟨q, 5, none⟩ (.slice x.aT x.two.length x.cT)).setCell ⟨q, 6, none⟩ (.slice x.aN x.net.length x.cN)).setCell ⟨q, 7, none⟩ (.slice x.aG x.ga.length x.cG)).cell? ⟨q, 9, none⟩ = _ := (pset_else (by decide)).trans h9
  have h0 : (((((((((w.setCell ⟨q, 0, none⟩ (.int .i64 x.id)).setCell ⟨q, 1, none⟩ (.int .i64 x.po)).setCell ⟨q, 2, none⟩ (.int .i64 x.rg.ep)).setCell ⟨q, 3, none⟩ (.int .i64 x.rg.ow)).setCell ⟨q, 4, none⟩ (.int .i64 x.rg.pa)).setCell ⟨q, 5, none⟩ (.slice x.aT x.two.length x.cT)).setCell ⟨q, 6, none⟩ (.slice x.aN x.net.length x.cN)).setCell ⟨q, 7, none⟩ (.slice x.aG x.ga.length x.cG)).setCell ⟨q, 8, none⟩ (.slice x.aL x.ln.length x.cL)).cell? ⟨q, 0, none⟩ = _ := (pset_else (by decide)).trans h0
  have h1 : (((((((((w.setCell ⟨q, 0, none⟩ (.int .i64 x.id)).setCell ⟨q, 1, none⟩ (.int .i64 x.po)).setCell ⟨q, 2, none⟩ (.int .i64 x.rg.ep)).setCell ⟨q, 3, none⟩ (.int .i64 x.rg.ow)).setCell ⟨q, 4, none⟩ (.int .i64 x.rg.pa)).setCell ⟨q, 5, none⟩ (.slice x.aT x.two.length x.cT)).setCell ⟨q, 6, none⟩ (.slice x.aN x.net.length x.cN)).setCell ⟨q, 7, none⟩ (.slice x.aG x.ga.length x.cG)).setCell ⟨q, 8, none⟩ (.slice x.aL x.ln.length x.cL)).cell? ⟨q, 1, none⟩ = _ := (pset_else (by decide)).trans h1
  have h2 : (((((((((w.setCell ⟨q, 0, none⟩ (.int .i64 x.id)).setCell ⟨q, 1, none⟩ (.int .i64 x.po)).setCell ⟨q, 2, none⟩ (.int .i64 x.rg.ep)).setCell ⟨q, 3, none⟩ (.int .i64 x.rg.ow)).setCell ⟨q, 4, none⟩ (.int .i64 x.rg.pa)).setCell ⟨q, 5, none⟩ (.slice x.aT x.two.length x.cT)).setCell ⟨q, 6, none⟩ (.slice x.aN x.net.length x.cN)).setCell ⟨q, 7, none⟩ (.slice x.aG x.ga.length x.cG)).setCell ⟨q, 8, none⟩ (.slice x.aL x.ln.length x.cL)).cell? ⟨q, 2, none⟩ = _ := (pset_else (by decide)).trans h2
  have h3 : (((((((((w.setCell ⟨q, 0, none⟩ (.int .i64 x.id)).setCell ⟨q, 1, none⟩ (.int .i64 x.po)).setCell ⟨q, 2, none⟩ (.int .i64 x.rg.ep)).setCell ⟨q, 3, none⟩ (.int .i64 x.rg.ow)).setCell ⟨q, 4, none⟩ (.int .i64 x.rg.pa)).setCell ⟨q, 5, none⟩ (.slice x.aT x.two.length x.cT)).setCell ⟨q, 6, none⟩ (.slice x.aN x.net.length x.cN)).setCell ⟨q, 7, none⟩ (.slice x.aG x.ga.length x.cG)).setCell ⟨q, 8, none⟩ (.slice x.aL x.ln.length x.cL)).cell? ⟨q, 3, none⟩ = _ := (pset_else (by decide)).trans h3
  have h4 : (((((((((w.setCell ⟨q, 0, none⟩ (.int .i64 x.id)).setCell ⟨q, 1, none⟩ (.int .i64 x.po)).setCell ⟨q, 2, none⟩ (.int .i64 x.rg.ep)).setCell ⟨q, 3, none⟩ (.int .i64 x.rg.ow)).setCell ⟨q, 4, none⟩ (.int .i64 x.rg.pa)).setCell ⟨q, 5, none⟩ (.slice x.aT x.two.length x.cT)).setCell ⟨q, 6, none⟩ (.slice x.aN x.net.length x.cN)).setCell ⟨q, 7, none⟩ (.slice x.aG x.ga.length x.cG)).setCell ⟨q, 8, none⟩ (.slice x.aL x.ln.length x.cL)).cell? ⟨q, 4, none⟩ = _ := (pset_else (by decide)).trans h4
  have h5 : (((((((((w.setCell ⟨q, 0, none⟩ (.int .i64 x.id)).setCell ⟨q, 1, none⟩ (.int .i64 x.po)).setCell ⟨q, 2, none⟩ (.int .i64 x.rg.ep)).setCell ⟨q, 3, none⟩ (.int .i64 x.rg.ow)).setCell ⟨q, 4, none⟩ (.int .i64 x.rg.pa)).setCell ⟨q, 5, none⟩ (.slice x.aT x.two.length x.cT)).setCell ⟨q, 6, none⟩ (.slice x.aN x.net.length x.cN)).setCell ⟨q, 7, none⟩ (.slice x.aG x.ga.length x.cG)).setCell ⟨q, 8, none⟩ (.slice x.aL x.ln.length x.cL)).cell? ⟨q, 5, none⟩ = _ := (pset_else (by decide)).trans h5
  have h6 : (((((((((w.setCell ⟨q, 0, none⟩ (.int .i64 x.id)).setCell ⟨q, 1, none⟩ (.int .i64 x.po)).setCell ⟨q, 2, none⟩ (.int .i64 x.rg.ep)).setCell ⟨q, 3, none⟩ (.int .i64 x.rg.ow)).setCell ⟨q, 4, none⟩ (.int .i64 x.rg.pa)).setCell ⟨q, 5, none⟩ (.slice x.aT x.two.length x.cT)).setCell ⟨q, 6, none⟩ (.slice x.aN x.net.length x.cN)).setCell ⟨q, 7, none⟩ (.slice x.aG x.ga.length x.cG)).setCell ⟨q, 8, none⟩ (.slice x.aL x.ln.length x.cL)).cell? ⟨q, 6, none⟩ = _ := (pset_else (by decide)).trans h6
  have h7 : (((((((((w.setCell ⟨q, 0, none⟩ (.int .i64 x.id)).setCell ⟨q, 1, none⟩ (.int .i64 x.po)).setCell ⟨q, 2, none⟩ (.int .i64 x.rg.ep)).setCell ⟨q, 3, none⟩ (.int .i64 x.rg.ow)).setCell ⟨q, 4, none⟩ (.int .i64 x.rg.pa)).setCell ⟨q, 5, none⟩ (.slice x.aT x.two.length x.cT)).setCell ⟨q, 6, none⟩ (.slice x.aN x.net.length x.cN)).setCell ⟨q, 7, none⟩ (.slice x.aG x.ga.length x.cG)).setCell ⟨q, 8, none⟩ (.slice x.aL x.ln.length x.cL)).cell? ⟨q, 7, none⟩ = _ := (pset_else (by decide)).trans h7
  have h8 : (((((((((w.setCell ⟨q, 0, none⟩ (.int .i64 x.id)).setCell ⟨q, 1, none⟩ (.int .i64 x.po)).setCell ⟨q, 2, none⟩ (.int .i64 x.rg.ep)).setCell ⟨q, 3, none⟩ (.int .i64 x.rg.ow)).setCell ⟨q, 4, none⟩ (.int .i64 x.rg.pa)).setCell ⟨q, 5, none⟩ (.slice x.aT x.two.length x.cT)).setCell ⟨q, 6, none⟩ (.slice x.aN x.net.length x.cN)).setCell ⟨q, 7, none⟩ (.slice x.aG x.ga.length x.cG)).setCell ⟨q, 8, none⟩ (.slice x.aL x.ln.length x.cL)).cell? ⟨q, 8, none⟩ = some (.slice x.aL x.ln.length x.cL) := pset_same h8
  have h9 : (((((((((w.setCell ⟨q, 0, none⟩ (.int .i64 x.id)).setCell ⟨q, 1, none⟩ (.int .i64 x.po)).setCell ⟨q, 2, none⟩ (.int .i64 x.rg.ep)).setCell ⟨q, 3, none⟩ (.int .i64 x.rg.ow)).setCell ⟨q, 4, none⟩ (.int .i64 x.rg.pa)).setCell ⟨q, 5, none⟩ (.slice x.aT x.two.length x.cT)).setCell ⟨q, 6, none⟩ (.slice x.aN x.net.length x.cN)).setCell ⟨q, 7, none⟩ (.slice x.aG x.ga.length x.cG)).setCell ⟨q, 8, none⟩ (.slice x.aL x.ln.length x.cL)).cell? ⟨q, 9, none⟩ = _ := (pset_else (by decide)).trans h9
  have h0 : ((((((((((w.setCell ⟨q, 0, none⟩ (.int .i64 x.id)).setCell ⟨q, 1, none⟩ (.int .i64 x.po)).setCell ⟨q, 2, none⟩ (.int .i64 x.rg.ep)).setCell ⟨q, 3, none⟩ (.int .i64 x.rg.ow)).setCell ⟨q, 4, none⟩ (.int .i64 x.rg.pa)).setCell ⟨q, 5, none⟩ (.slice x.aT x.two.length x.cT)).setCell ⟨q, 6, none⟩ (.slice x.aN x.net.length x.cN)).setCell ⟨q, 7, none⟩ (.slice x.aG x.ga.length x.cG)).setCell ⟨q, 8, none⟩ (.slice x.aL x.ln.length x.cL)).setCell ⟨q, 9, none⟩ (.slice x.aS x.sd.length x.cS)).cell? ⟨q, 0, none⟩ = _ := (pset_else (by decide)).trans h0
  have h1 : ((((((((((w.setCell ⟨q, 0, none⟩ (.int .i64 x.id)).setCell ⟨q, 1, none⟩ (.int .i64 x.po)).setCell ⟨q, 2, none⟩ (.int .i64 x.rg.ep)).setCell ⟨q, 3, none⟩ (.int .i64 x.rg.ow)).setCell ⟨q, 4, none⟩ (.int .i64 x.rg.pa)).setCell ⟨q, 5, none⟩ (.slice x.aT x.two.length x.cT)).setCell ⟨q, 6, none⟩ (.slice x.aN x.net.length x.cN)).setCell ⟨q, 7, none⟩ (.slice x.aG x.ga.length x.cG)).setCell ⟨q, 8, none⟩ (.slice x.aL x.ln.length x.cL)).setCell ⟨q, 9, none⟩ (.slice x.aS x.sd.length x.cS)).cell? ⟨q, 1, none⟩ = _ := (pset_else (by decide)).trans h1
  have h2 : ((((((((((w.setCell ⟨q, 0, none⟩ (.int .i64 x.id)).setCell ⟨q, 1, none⟩ (.int .i64 x.po)).setCell ⟨q, 2, none⟩ (.int .i64 x.rg.ep)).setCell ⟨q, 3, none⟩ (.int .i64 x.rg.ow)).setCell ⟨q, 4, none⟩ (.int .i64 x.rg.pa)).setCell ⟨q, 5, none⟩ (.slice x.aT x.two.length x.cT)).setCell ⟨q, 6, none⟩ (.slice x.aN x.net.length x.cN)).setCell ⟨q, 7, none⟩ (.slice x.aG x.ga.length x.cG)).setCell ⟨q, 8, none⟩ (.slice x.aL x.ln.length x.cL)).setCell ⟨q, 9, none⟩ (.slice x.aS x.sd.length x.cS)).cell? ⟨q, 2, none⟩ = _ := (pset_else (by decide)).trans h2
  have h3 : ((((((((((w.setCell ⟨q, 0, none⟩ (.int .i64 x.id)).setCell ⟨q, 1, none⟩ (.int .i64 x.po)).setCell ⟨q, 2, none⟩ (.int .i64 x.rg.ep)).setCell ⟨q, 3, none⟩ (.int .i64 x.rg.ow)).setCell ⟨q, 4, none⟩ (.int .i64 x.rg.pa)).setCell ⟨q, 5, none⟩ (.slice x.aT x.two.length x.cT)).setCell ⟨q, 6, none⟩ (.slice x.aN x.net.length x.cN)).setCell ⟨q, 7, none⟩ (.slice x.aG x.ga.length x.cG)).setCell ⟨q, 8, none⟩ (.slice x.aL x.ln.length x.cL)).setCell ⟨q, 9, none⟩ (.slice x.aS x.sd.length x.cS)).cell? ⟨q, 3, none⟩ = _ := (pset_else (by decide)).trans h3
  have h4 : ((((((((((w.setCell ⟨q, 0, none⟩ (.int .i64 x.id)).setCell ⟨q, 1, none⟩ (.int .i64 x.po)).setCell ⟨q, 2, none⟩ (.int .i64 x.rg.ep)).setCell ⟨q, 3, none⟩ (.int .i64 x.rg.ow)).setCell ⟨q, 4, none⟩ (.int .i64 x.rg.pa)).setCell ⟨q, 5, none⟩ (.slice x.aT x.two.length x.cT)).setCell ⟨q, 6, none⟩ (.slice x.aN x.net.length x.cN)).setCell ⟨q, 7, none⟩ (.slice x.aG x.ga.length x.cG)).setCell ⟨q, 8, none⟩ (.slice x.aL x.ln.length x.cL)).setCell ⟨q, 9, none⟩ (.slice x.aS x.sd.length x.cS)).cell? ⟨q, 4, none⟩ = _ := (pset_else (by decide)).trans h4
  have h5 : ((((((((((w.setCell ⟨q, 0, none⟩ (.int .i64 x.id)).setCell ⟨q, 1, none⟩ (.int .i64 x.po)).setCell ⟨q, 2, none⟩ (.int .i64 x.rg.ep)).setCell ⟨q, 3, none⟩ (.int .i64 x.rg.ow)).setCell ⟨q, 4, none⟩ (.int .i64 x.rg.pa)).setCell ⟨q, 5, none⟩ (.slice x.aT x.two.length x.cT)).setCell ⟨q, 6, none⟩ (.slice x.aN x.net.length x.cN)).setCell ⟨q, 7, none⟩ (.slice x.aG x.ga.length x.cG)).setCell ⟨q, 8, none⟩ (.slice x.aL x.ln.length x.cL)).setCell ⟨q, 9, none⟩ (.slice x.aS x.sd.length x.cS)).cell? ⟨q, 5, none⟩ = _ := (pset_else (by decide)).trans h5
  have h6 : ((((((((((w.setCell ⟨q, 0, none⟩ (.int .i64 x.id)).setCell ⟨q, 1, none⟩ (.int .i64 x.po)).setCell ⟨q, 2, none⟩ (.int .i64 x.rg.ep)).setCell ⟨q, 3, none⟩ (.int .i64 x.rg.ow)).setCell ⟨q, 4, none⟩ (.int .i64 x.rg.pa)).setCell ⟨q, 5, none⟩ (.slice x.aT x.two.length x.cT)).setCell ⟨q, 6, none⟩ (.slice x.aN x.net.length x.cN)).setCell ⟨q, 7, none⟩ (.slice x.aG x.ga.length x.cG)).setCell ⟨q, 8, none⟩ (.slice x.aL x.ln.length x.cL)).setCell ⟨q, 9, none⟩ (.slice x.aS x.sd.length x.cS)).cell? ⟨q, 6, none⟩ = _ := (pset_else (by decide)).trans h6
  have h7 : ((((((((((w.setCell ⟨q, 0, none⟩ (.int .i64 x.id)).setCell ⟨q, 1, none⟩ (.int .i64 x.po)).setCell ⟨q, 2, none⟩ (.int .i64 x.rg.ep)).setCell ⟨q, 3, none⟩ (.int .i64 x.rg.ow)).setCell ⟨q, 4, none⟩ (.int .i64 x.rg.pa)).setCell ⟨q, 5, none⟩ (.slice x.aT x.two.length x.cT)).setCell ⟨q, 6, none⟩ (.slice x.aN x.net.length x.cN)).setCell ⟨q, 7, none⟩ (.slice x.aG x.ga.length x.cG)).setCell ⟨q, 8, none⟩ (.slice x.aL x.ln.length x.cL)).setCell ⟨q, 9, none⟩ (.slice x.aS x.sd.length x.cS)).cell? ⟨q, 7, none⟩ = _ := (pset_else (by decide)).trans h7
  have h8 : ((((((((((w.setCell ⟨q, 0, none⟩ (.int .i64 x.id)).setCell ⟨q, 1, none⟩ (.int .i64 x.po)).setCell ⟨q, 2, none⟩ (.int .i64 x.rg.ep)).setCell ⟨q, 3, none⟩ (.int .i64 x.rg.ow)).setCell ⟨q, 4, none⟩ (.int .i64 x.rg.pa)).setCell ⟨q, 5, none⟩ (.slice x.aT x.two.length x.cT)).setCell ⟨q, 6, none⟩ (.slice x.aN x.net.length x.cN)).setCell ⟨q, 7, none⟩ (.slice x.aG x.ga.length x.cG)).setCell ⟨q, 8, none⟩ (.slice x.aL x.ln.length x.cL)).setCell ⟨q, 9, none⟩ (.slice x.aS x.sd.length x.cS)).cell? ⟨q, 8, none⟩ = _ := (pset_else (by decide)).trans h8
  have h9 : ((((((((((w.setCell ⟨q, 0, none⟩ (.int .i64 x.id)).setCell ⟨q, 1, none⟩ (.int .i64 x.po)).setCell ⟨q, 2, none⟩ (.int .i64 x.rg.ep)).setCell ⟨q, 3, none⟩ (.int .i64 x.rg.ow)).setCell ⟨q, 4, none⟩ (.int .i64 x.rg.pa)).setCell ⟨q, 5, none⟩ (.slice x.aT x.two.length x.cT)).setCell ⟨q, 6, none⟩ (.slice x.aN x.net.length x.cN)).setCell ⟨q, 7, none⟩ (.slice x.aG x.ga.length x.cG)).setCell ⟨q, 8, none⟩ (.slice x.aL x.ln.length x.cL)).setCell ⟨q, 9, none⟩ (.slice x.aS x.sd.length x.cS)).cell? ⟨q, 9, none⟩ = some (.slice x.aS x.sd.length x.cS) := pset_same h9
  refine ⟨⟨h0, h1, h2, h3, h4, h5, h6, h7, h8, h9⟩, fun i => ?_⟩
  rw [World.frozen?_setCell, World.frozen?_setCell, World.frozen?_setCell, World.frozen?_setCell, World.frozen?_setCell, World.frozen?_setCell, World.frozen?_setCell, World.frozen?_setCell, World.frozen?_setCell, World.frozen?_setCell]
  exact hf i

end Go.Proofs.Ytnpiljegdiconab
namespace Go.Proofs.Ytnpiljegdiconab
open Go.ChangeShapes Go.WideShapes Go.ChangeAt Go.RowKit
open Go.ChangeMaps (open_string shut_string)
set_option linter.unusedVariables false
set_option maxRecDepth 100000

theorem BxB.sT {w : World} {q : Nat} {x : BxD} (h : BxB w q x) (D : List MiD) (a : Option Addr) (n : Nat) (c : Nat) (hn : n = D.length) : BxB (w.setCell ⟨q, 5, none⟩ (.slice a n c)) q { x with two := D, aT := a, cT := c } := by
  subst hn
  obtain ⟨⟨h0, h1, h2, h3, h4, h5, h6, h7, h8, h9⟩, hf⟩ := h
  exact ⟨⟨(pset_else (by decide)).trans h0, (pset_else (by decide)).trans h1, (pset_else (by decide)).trans h2, (pset_else (by decide)).trans h3, (pset_else (by decide)).trans h4, pset_same h5, (pset_else (by decide)).trans h6, (pset_else (by decide)).trans h7, (pset_else (by decide)).trans h8, (pset_else (by decide)).trans h9⟩, fun i => by rw [World.frozen?_setCell]; exact hf i⟩
theorem BxB.sN {w : World} {q : Nat} {x : BxD} (h : BxB w q x) (D : List Wi) (a : Option Addr) (n : Nat) (c : Nat) (hn : n = D.length) : BxB (w.setCell ⟨q, 6, none⟩ (.slice a n c)) q { x with net := D, aN := a, cN := c } := by
  subst hn
  obtain ⟨⟨h0, h1, h2, h3, h4, h5, h6, h7, h8, h9⟩, hf⟩ := h
  exact ⟨⟨(pset_else (by decide)).trans h0, (pset_else (by decide)).trans h1, (pset_else (by decide)).trans h2, (pset_else (by decide)).trans h3, (pset_else (by decide)).trans h4, (pset_else (by decide)).trans h5, pset_same h6, (pset_else (by decide)).trans h7, (pset_else (by decide)).trans h8, (pset_else (by decide)).trans h9⟩, fun i => by rw [World.frozen?_setCell]; exact hf i⟩
theorem BxB.sG {w : World} {q : Nat} {x : BxD} (h : BxB w q x) (D : List Bool) (a : Option Addr) (n : Nat) (c : Nat) (hn : n = D.length) : BxB (w.setCell ⟨q, 7, none⟩ (.slice a n c)) q { x with ga := D, aG := a, cG := c } := by
  subst hn
  obtain ⟨⟨h0, h1, h2, h3, h4, h5, h6, h7, h8, h9⟩, hf⟩ := h
  exact ⟨⟨(pset_else (by decide)).trans h0, (pset_else (by decide)).trans h1, (pset_else (by decide)).trans h2, (pset_else (by decide)).trans h3, (pset_else (by decide)).trans h4, (pset_else (by decide)).trans h5, (pset_else (by decide)).trans h6, pset_same h7, (pset_else (by decide)).trans h8, (pset_else (by decide)).trans h9⟩, fun i => by rw [World.frozen?_setCell]; exact hf i⟩
theorem BxB.sL {w : World} {q : Nat} {x : BxD} (h : BxB w q x) (D : List Ik) (a : Option Addr) (n : Nat) (c : Nat) (hn : n = D.length) : BxB (w.setCell ⟨q, 8, none⟩ (.slice a n c)) q { x with ln := D, aL := a, cL := c } := by
  subst hn
  obtain ⟨⟨h0, h1, h2, h3, h4, h5, h6, h7, h8, h9⟩, hf⟩ := h
  exact ⟨⟨(pset_else (by decide)).trans h0, (pset_else (by decide)).trans h1, (pset_else (by decide)).trans h2, (pset_else (by decide)).trans h3, (pset_else (by decide)).trans h4, (pset_else (by decide)).trans h5, (pset_else (by decide)).trans h6, (pset_else (by decide)).trans h7, pset_same h8, (pset_else (by decide)).trans h9⟩, fun i => by rw [World.frozen?_setCell]; exact hf i⟩
theorem BxB.sS {w : World} {q : Nat} {x : BxD} (h : BxB w q x) (D : List Ou) (a : Option Addr) (n : Nat) (c : Nat) (hn : n = D.length) : BxB (w.setCell ⟨q, 9, none⟩ (.slice a n c)) q { x with sd := D, aS := a, cS := c } := by
  subst hn
  obtain ⟨⟨h0, h1, h2, h3, h4, h5, h6, h7, h8, h9⟩, hf⟩ := h
  exact ⟨⟨(pset_else (by decide)).trans h0, (pset_else (by decide)).trans h1, (pset_else (by decide)).trans h2, (pset_else (by decide)).trans h3, (pset_else (by decide)).trans h4, (pset_else (by decide)).trans h5, (pset_else (by decide)).trans h6, (pset_else (by decide)).trans h7, (pset_else (by decide)).trans h8, pset_same h9⟩, fun i => by rw [World.frozen?_setCell]; exact hf i⟩
theorem BxB.sR {w : World} {q : Nat} {x : BxD} (h : BxB w q x) (r : Rg) : BxB (((w.setCell ⟨q, 2, none⟩ (.int .i64 r.ep)).setCell ⟨q, 3, none⟩ (.int .i64 r.ow)).setCell ⟨q, 4, none⟩ (.int .i64 r.pa)) q { x with rg := r } := by
  obtain ⟨⟨h0, h1, h2, h3, h4, h5, h6, h7, h8, h9⟩, hf⟩ := h
  have h0 : (w.setCell ⟨q, 2, none⟩ (.int .i64 r.ep)).cell? ⟨q, 0, none⟩ = _ := (pset_else (by decide)).trans h0
  have h1 : (w.setCell ⟨q, 2, none⟩ (.int .i64 r.ep)).cell? ⟨q, 1, none⟩ = _ := (pset_else (by decide)).trans h1
  have h2 : (w.setCell ⟨q, 2, none⟩ (.int .i64 r.ep)).cell? ⟨q, 2, none⟩ = some (.int .i64 r.ep) := pset_same h2
  have h3 : (w.setCell ⟨q, 2, none⟩ (.int .i64 r.ep)).cell? ⟨q, 3, none⟩ = _ := (pset_else (by decide)).trans h3
  have h4 : (w.setCell ⟨q, 2, none⟩ (.int .i64 r.ep)).cell? ⟨q, 4, none⟩ = _ := (pset_else (by decide)).trans h4
  have h5 : (w.setCell ⟨q, 2, none⟩ (.int .i64 r.ep)).cell? ⟨q, 5, none⟩ = _ := (pset_else (by decide)).trans h5
  have h6 : (w.setCell ⟨q, 2, none⟩ (.int .i64 r.ep)).cell? ⟨q, 6, none⟩ = _ := (pset_else (by decide)).trans h6
  have h7 : (w.setCell ⟨q, 2, none⟩ (.int .i64 r.ep)).cell? ⟨q, 7, none⟩ = _ := (pset_else (by decide)).trans h7
  have h8 : (w.setCell ⟨q, 2, none⟩ (.int .i64 r.ep)).cell? ⟨q, 8, none⟩ = _ := (pset_else (by decide)).trans h8
  have h9 : (w.setCell ⟨q, 2, none⟩ (.int .i64 r.ep)).cell? ⟨q, 9, none⟩ = _ := (pset_else (by decide)).trans h9
  have h0 : ((w.setCell ⟨q, 2, none⟩ (.int .i64 r.ep)).setCell ⟨q, 3, none⟩ (.int .i64 r.ow)).cell? ⟨q, 0, none⟩ = _ := (pset_else (by decide)).trans h0
  have h1 : ((w.setCell ⟨q, 2, none⟩ (.int .i64 r.ep)).setCell ⟨q, 3, none⟩ (.int .i64 r.ow)).cell? ⟨q, 1, none⟩ = _ := (pset_else (by decide)).trans h1
  have h2 : ((w.setCell ⟨q, 2, none⟩ (.int .i64 r.ep)).setCell ⟨q, 3, none⟩ (.int .i64 r.ow)).cell? ⟨q, 2, none⟩ = _ := (pset_else (by decide)).trans h2
  have h3 : ((w.setCell ⟨q, 2, none⟩ (.int .i64 r.ep)).setCell ⟨q, 3, none⟩ (.int .i64 r.ow)).cell? ⟨q, 3, none⟩ = some (.int .i64 r.ow) := pset_same h3
  have h4 : ((w.setCell ⟨q, 2, none⟩ (.int .i64 r.ep)).setCell ⟨q, 3, none⟩ (.int .i64 r.ow)).cell? ⟨q, 4, none⟩ = _ := (pset_else (by decide)).trans h4
  have h5 : ((w.setCell ⟨q, 2, none⟩ (.int .i64 r.ep)).setCell ⟨q, 3, none⟩ (.int .i64 r.ow)).cell? ⟨q, 5, none⟩ = _ := (pset_else (by decide)).trans h5
  have h6 : ((w.setCell ⟨q, 2, none⟩ (.int .i64 r.ep)).setCell ⟨q, 3, none⟩ (.int .i64 r.ow)).cell? ⟨q, 6, none⟩ = _ := (pset_else (by decide)).trans h6
  have h7 : ((w.setCell ⟨q, 2, none⟩ (.int .i64 r.ep)).setCell ⟨q, 3, none⟩ (.int .i64 r.ow)).cell? ⟨q, 7, none⟩ = _ := (pset_else (by decide)).trans h7
  have h8 : ((w.setCell ⟨q, 2, none⟩ (.int .i64 r.ep)).setCell ⟨q, 3, none⟩ (.int .i64 r.ow)).cell? ⟨q, 8, none⟩ = _ := (pset_else (by decide)).trans h8
  have h9 : ((w.setCell ⟨q, 2, none⟩ (.int .i64 r.ep)).setCell ⟨q, 3, none⟩ (.int .i64 r.ow)).cell? ⟨q, 9, none⟩ = _ := (pset_else (by decide)).trans h9
  have h0 : (((w.setCell ⟨q, 2, none⟩ (.int .i64 r.ep)).setCell ⟨q, 3, none⟩ (.int .i64 r.ow)).setCell ⟨q, 4, none⟩ (.int .i64 r.pa)).cell? ⟨q, 0, none⟩ = _ := (pset_else (by decide)).trans h0
  have h1 : (((w.setCell ⟨q, 2, none⟩ (.int .i64 r.ep)).setCell ⟨q, 3, none⟩ (.int .i64 r.ow)).setCell ⟨q, 4, none⟩ (.int .i64 r.pa)).cell? ⟨q, 1, none⟩ = _ := (pset_else (by decide)).trans h1
  have h2 : (((w.setCell ⟨q, 2, none⟩ (.int .i64 r.ep)).setCell ⟨q, 3, none⟩ (.int .i64 r.ow)).setCell ⟨q, 4, none⟩ (.int .i64 r.pa)).cell? ⟨q, 2, none⟩ = _ := (pset_else (by decide)).trans h2
  have h3 : (((w.setCell ⟨q, 2, none⟩ (.int .i64 r.ep)).setCell ⟨q, 3, none⟩ (.int .i64 r.ow)).setCell ⟨q, 4, none⟩ (.int .i64 r.pa)).cell? ⟨q, 3, none⟩ = _ := (pset_else (by decide)).trans h3
  have h4 : (((w.setCell ⟨q, 2, none⟩ (.int .i64 r.ep)).setCell ⟨q, 3, none⟩ (.int .i64 r.ow)).setCell ⟨q, 4, none⟩ (.int .i64 r.pa)).cell? ⟨q, 4, none⟩ = some (.int .i64 r.pa) := pset_same h4
  have h5 : (((w.setCell ⟨q, 2, none⟩ (.int .i64 r.ep)).setCell ⟨q, 3, none⟩ (.int .i64 r.ow)).setCell ⟨q, 4, none⟩ (.int .i64 r.pa)).cell? ⟨q, 5, none⟩ = _ := (pset_else (by decide)).trans h5
  have h6 : (((w.setCell ⟨q, 2, none⟩ (.int .i64 r.ep)).setCell ⟨q, 3, none⟩ (.int .i64 r.ow)).setCell ⟨q, 4, none⟩ (.int .i64 r.pa)).cell? ⟨q, 6, none⟩ = _ := (pset_else (by decide)).trans h6
  have h7 : (((w.setCell ⟨q, 2, none⟩ (.int .i64 r.ep)).setCell ⟨q, 3, none⟩ (.int .i64 r.ow)).setCell ⟨q, 4, none⟩ (.int .i64 r.pa)).cell? ⟨q, 7, none⟩ = _ := (pset_else (by decide)).trans h7
  have h8 : (((w.setCell ⟨q, 2, none⟩ (.int .i64 r.ep)).setCell ⟨q, 3, none⟩ (.int .i64 r.ow)).setCell ⟨q, 4, none⟩ (.int .i64 r.pa)).cell? ⟨q, 8, none⟩ = _ := (pset_else (by decide)).trans h8
  have h9 : (((w.setCell ⟨q, 2, none⟩ (.int .i64 r.ep)).setCell ⟨q, 3, none⟩ (.int .i64 r.ow)).setCell ⟨q, 4, none⟩ (.int .i64 r.pa)).cell? ⟨q, 9, none⟩ = _ := (pset_else (by decide)).trans h9
  exact ⟨⟨h0, h1, h2, h3, h4, h5, h6, h7, h8, h9⟩, fun i => by rw [World.frozen?_setCell, World.frozen?_setCell, World.frozen?_setCell]; exact hf i⟩

end Go.Proofs.Ytnpiljegdiconab
