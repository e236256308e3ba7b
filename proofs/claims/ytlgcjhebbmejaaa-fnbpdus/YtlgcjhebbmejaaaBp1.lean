/- BpduOk and FlagsOf of both sides, walked. -/
import Derived.Test.YtlgcjhebbmejaaaRows
import Derived.WalkKit
import Derived.ProofKit
import Derived.OpenShut
import Derived.ShutString
import Derived.ChangeOld
import Derived.Below
import Derived.Deep.QuietTactic
import Derived.BigQuiet
import Derived.WalkSmall
import Derived.Laws.OwnMore
import Derived.WalkSpells
import Derived.WalkLawsBesides
import Derived.Deep.Cut
import Derived.BigQuiet
import Derived.Test.YtlgcjhebbmejaaaBp0
import Derived.Test.YtlgcjhebbmejaaaTakes
import Derived.Test.YtlgcjhebbmejaaaFlat
namespace Go.Proofs.Ytlgcjhebbmejaaa
open Go.ChangeShapes Go.WideShapes Go.ChangeAt Go.RowKit
open Go.ChangeMaps (open_string shut_string)
set_option linter.unusedVariables false
set_option maxRecDepth 100000

/-- What is BpduOk. -/
def bpOk (x : Bp) : Bool := decide (0 ≤ x.ro ∧ x.ro ≤ 3) && (vOk x.r x.c x.b x.p && decide (0 ≤ x.h ∧ x.h ≤ 8))
def bitZ (b : Bool) : Int := if b = true then 1 else 0
def roZ (r : Int) : Int := if r = 2 then 3 else if r = 1 then 2 else if r = 3 then 1 else 0
/-- The flags as one number. -/
def flZ (x : Bp) : Int := 4 * roZ x.ro + bitZ x.ch + 2 * bitZ x.ak + 16 * bitZ x.le + 32 * bitZ x.op + 64 * bitZ x.ag
theorem bitZ_le (b : Bool) : 0 ≤ bitZ b ∧ bitZ b ≤ 1 := by cases b <;> simp [bitZ]
theorem roZ_le (r : Int) : 0 ≤ roZ r ∧ roZ r ≤ 3 := by unfold roZ; (repeat' split) <;> omega
theorem flZ_le (x : Bp) : 0 ≤ flZ x ∧ flZ x ≤ 127 := by
  have := bitZ_le x.ch; have := bitZ_le x.ak; have := bitZ_le x.le; have := bitZ_le x.op; have := bitZ_le x.ag; have := roZ_le x.ro
  unfold flZ; omega
set_option maxHeartbeats 4000000 in
theorem bpOkS (x : Bp) (w : World) : Calls Try.prog 22 #[.agg #[.bool x.ch, .bool x.ak, .bool x.ag, .bool x.le, .bool x.op, .int .i64 x.ro, .int .i64 x.r, .int .i64 x.c, .int .i64 x.b, .int .i64 x.p, .int .i64 x.h]] w fun e w' => e = .returned (.bool (bpOk x)) ∧ Below w.heap.size w w' := by
  obtain ⟨R, hR⟩ : ∃ R, R = bpOk x := ⟨_, rfl⟩
  rw [← hR]
  have hR1 : Hid (R = (decide (0 ≤ x.ro ∧ x.ro ≤ 3) && (vOk x.r x.c x.b x.p && decide (0 ≤ x.h ∧ x.h ≤ 8)))) := hR
  clear hR
  obtain ⟨y, hy⟩ : ∃ y, y = w.alloc (Obj.cells #[.bool x.ch, .bool x.ak, .bool x.ag, .bool x.le, .bool x.op, .int .i64 x.ro, .int .i64 x.r, .int .i64 x.c, .int .i64 x.b, .int .i64 x.p, .int .i64 x.h] 27) := ⟨_, rfl⟩
  have B0 : Below w.heap.size w y := by rw [hy]; exact below_new _
  have A0 : BpAt y w.heap.size x := by rw [hy]; exact BpAt.new w _ x
  have S0 := A0.lt
  go_enter Try.func22, Try.ntmps22
  go_wp2_with fail
  go_at_call 46
  rw [← hy]
  clear hy
  refine (inB x.ro 0 3 y).mono ?_
  rintro e y1 ⟨rfl, rfl⟩
  obtain ⟨a0, a1, a2, a3, a4, a5, a6, a7, a8, a9, a10⟩ := A0
  have A0 : BpAt y1 w.heap.size x := ⟨a0, a1, a2, a3, a4, a5, a6, a7, a8, a9, a10⟩
  cases hF : decide (0 ≤ x.ro ∧ x.ro ≤ 3) with
  | false =>
    have hN : Hid (R = false) := by unfold Hid; rw [hR1.out, hF]; rfl
    clear hR1 hF
    go_wp2
    go_ret
    exact ⟨by rw [hN.out]; rfl, B0⟩
  | true =>
    have hR2 : Hid (R = (vOk x.r x.c x.b x.p && decide (0 ≤ x.h ∧ x.h ≤ 8))) := by unfold Hid; rw [hR1.out, hF]; rfl
    clear hR1 hF
    go_wp2_with fail
    go_at_call 47
    refine (vOkS x.r x.c x.b x.p y1).mono ?_
    rintro e y2 ⟨rfl, k2⟩
    have B2 := B0.trans (k2.mono B0.size)
    have A2 := A0.below k2 S0
    clear a0 a1 a2 a3 a4 a5 a6 a7 a8 a9 a10 A0 k2
    obtain ⟨a0, a1, a2, a3, a4, a5, a6, a7, a8, a9, a10⟩ := A2
    cases hF : vOk x.r x.c x.b x.p with
    | false =>
      have hN : Hid (R = false) := by unfold Hid; rw [hR2.out, hF]; rfl
      clear hR2 hF
      go_wp2
      go_ret
      exact ⟨by rw [hN.out]; rfl, B2⟩
    | true =>
      have hR3 : Hid (R = decide (0 ≤ x.h ∧ x.h ≤ 8)) := by unfold Hid; rw [hR2.out, hF]; rfl
      clear hR2 hF
      go_wp2_with fail
      go_at_call 46
      refine (inB x.h 0 8 y2).mono ?_
      rintro e y3 ⟨rfl, rfl⟩
      rw [← hR3.out]
      go_wp2
      go_ret
      exact ⟨rfl, B2⟩
set_option maxHeartbeats 4000000 in
theorem bpOkI (x : Bp) (w : World) : Calls Try.prog 21 #[.agg #[.bool x.ch, .bool x.ak, .bool x.ag, .bool x.le, .bool x.op, .int .i64 x.ro, .int .i64 x.r, .int .i64 x.c, .int .i64 x.b, .int .i64 x.p, .int .i64 x.h]] w fun e w' => e = .returned (.bool (bpOk x)) ∧ Below w.heap.size w w' := by
  obtain ⟨R, hR⟩ : ∃ R, R = bpOk x := ⟨_, rfl⟩
  rw [← hR]
  have hR1 : Hid (R = (decide (0 ≤ x.ro ∧ x.ro ≤ 3) && (vOk x.r x.c x.b x.p && decide (0 ≤ x.h ∧ x.h ≤ 8)))) := hR
  clear hR
  obtain ⟨y, hy⟩ : ∃ y, y = w.alloc (Obj.cells #[.bool x.ch, .bool x.ak, .bool x.ag, .bool x.le, .bool x.op, .int .i64 x.ro, .int .i64 x.r, .int .i64 x.c, .int .i64 x.b, .int .i64 x.p, .int .i64 x.h] 27) := ⟨_, rfl⟩
  have B0 : Below w.heap.size w y := by rw [hy]; exact below_new _
  have A0 : BpAt y w.heap.size x := by rw [hy]; exact BpAt.new w _ x
  have S0 := A0.lt
  by_cases h0 : 0 ≤ x.ro ∧ x.ro ≤ 3
  rotate_left
  · have hN : Hid (R = false) := by unfold Hid; rw [hR1.out, decide_eq_false h0]; rfl
    clear hR1
    by_cases h1 : 0 ≤ x.ro
    · have d1 : decide (x.ro ≤ 3) = false := decide_eq_false (fun q => h0 ⟨h1, q⟩)
      go_enter Try.func21, Try.ntmps21
      go_wp2
      go_ret
      exact ⟨by rw [hN.out]; rfl, below_new _⟩
    · have d1 : decide (0 ≤ x.ro) = false := decide_eq_false h1
      go_enter Try.func21, Try.ntmps21
      go_wp2
      go_ret
      exact ⟨by rw [hN.out]; rfl, below_new _⟩
  have hR2 : Hid (R = (vOk x.r x.c x.b x.p && decide (0 ≤ x.h ∧ x.h ≤ 8))) := by unfold Hid; rw [hR1.out, decide_eq_true h0]; rfl
  clear hR1
  obtain ⟨h0, h1⟩ := h0
  go_enter Try.func21, Try.ntmps21
  go_wp2_with fail
  go_at_call 44
  rw [← hy]
  clear hy
  obtain ⟨a0, a1, a2, a3, a4, a5, a6, a7, a8, a9, a10⟩ := A0
  have A0 : BpAt y w.heap.size x := ⟨a0, a1, a2, a3, a4, a5, a6, a7, a8, a9, a10⟩
  obtain ⟨y1, hy1⟩ : ∃ y1, y1 = y := ⟨_, rfl⟩
  subst hy1
  refine (vOkI x.r x.c x.b x.p y1).mono ?_
  rintro e y2 ⟨rfl, k2⟩
  have B2 := B0.trans (k2.mono B0.size)
  have A2 := A0.below k2 S0
  clear a0 a1 a2 a3 a4 a5 a6 a7 a8 a9 a10 A0 k2
  obtain ⟨a0, a1, a2, a3, a4, a5, a6, a7, a8, a9, a10⟩ := A2
  cases hF : vOk x.r x.c x.b x.p with
  | false =>
    have hN : Hid (R = false) := by unfold Hid; rw [hR2.out, hF]; rfl
    clear hR2 hF
    go_wp2
    go_ret
    exact ⟨by rw [hN.out]; rfl, B2⟩
  | true =>
    have hR3 : Hid (R = decide (0 ≤ x.h ∧ x.h ≤ 8)) := by unfold Hid; rw [hR2.out, hF]; rfl
    clear hR2 hF
    go_wp2_with fail
    go_at_call 45
    refine (hopsFitI x.h y2).mono ?_
    rintro e y3 ⟨rfl, rfl⟩
    rw [← hR3.out]
    go_wp2
    go_ret
    exact ⟨rfl, B2⟩
/-- A number that a call keeps in memory. -/
def NuB (w : World) (q : Nat) (n : Int) : Prop := w.cell? ⟨q, 0, none⟩ = some (.int .i64 n) ∧ w.frozen? ⟨q, 0, none⟩ = false
theorem NuB.lt {w : World} {q : Nat} {n : Int} (h : NuB w q n) : q < w.heap.size := World.block_lt_of_cell? w _ h.1
theorem NuB.set {w : World} {q : Nat} {n : Int} (h : NuB w q n) (m : Int) : NuB (w.setCell ⟨q, 0, none⟩ (.int .i64 m)) q m :=
  ⟨pset_same h.1, by simpa [go_sem] using h.2⟩
theorem NuB.keep {w w' : World} {q : Nat} {n : Int} (h : NuB w q n) (k : w'.heap[q]? = w.heap[q]?) : NuB w' q n :=
  ⟨(World.cell?_of_block (a := ⟨q, 0, none⟩) k).trans h.1, (World.frozen?_of_block (a := ⟨q, 0, none⟩) k).trans h.2⟩
theorem gr_refl (w : World) (q : Option Nat) : w.grownBy w q := ⟨rfl, rfl, rfl, Nat.le_refl _, fun _ _ _ => rfl⟩
theorem gr_set (w : World) (q : Nat) (v : Value) : w.grownBy (w.setCell ⟨q, 0, none⟩ v) (some q) := grown_putAll [v] 0 (gr_refl w (some q))
theorem gr_trans {w w1 w2 : World} {q : Option Nat} (h : w.grownBy w1 q) (k : w1.grownBy w2 q) : w.grownBy w2 q :=
  ⟨k.os.trans h.os, k.tape.trans h.tape, k.output.trans h.output, Nat.le_trans h.size k.size, fun j hj hne => (k.block j (Nat.lt_of_lt_of_le hj h.size) hne).trans (h.block j hj hne)⟩
set_option maxHeartbeats 1000000 in
theorem seeF (b q i : Nat) (v : Bool) (n m : Int) (w : World) (hc : w.cell? ⟨b, i, none⟩ = some (.bool v)) (hn : NuB w q n) (h0 : 0 ≤ n ∧ n ≤ 1000) (h1 : 0 ≤ m ∧ m ≤ 1000) :
    Calls Try.prog 50 #[.pointer (some ⟨b, i, none⟩), .int .i64 m, .pointer (some ⟨q, 0, none⟩)] w fun e w' => e = .returned (.tuple #[]) ∧ NuB w' q (n + m * bitZ v) ∧ w.grownBy w' (some q) := by
  obtain ⟨n0, n1⟩ := hn
  cases v with
  | false =>
    go_enter Try.func50, Try.ntmps50
    go_wp2
    go_end0
    exact ⟨rfl, ⟨by simpa [bitZ] using n0, n1⟩, gr_refl _ _⟩
  | true =>
    go_enter Try.func50, Try.ntmps50
    go_wp2
    go_end0
    exact ⟨rfl, by simpa [bitZ] using NuB.set ⟨n0, n1⟩ (n + m), gr_set _ _ _⟩
set_option maxHeartbeats 4000000 in
theorem eachI (b q : Nat) (x : Bp) (n : Int) (w : World) (hb : BpAt w b x) (hn : NuB w q n) (hne : b ≠ q) (h0 : 0 ≤ n ∧ n ≤ 12) :
    Calls Try.prog 49 #[.pointer (some ⟨b, 0, none⟩), .func (Fn.func 50) #[] #[.pointer (some ⟨q, 0, none⟩)]] w fun e w' => e = .returned (.tuple #[]) ∧ NuB w' q (n + bitZ x.ch + 2 * bitZ x.ak + 16 * bitZ x.le + 32 * bitZ x.op + 64 * bitZ x.ag) ∧ w.grownBy w' (some q) := by
  have t0 := bitZ_le x.ch; have t1 := bitZ_le x.ak; have t2 := bitZ_le x.le; have t3 := bitZ_le x.op; have t4 := bitZ_le x.ag
  have G0 := gr_refl w (some q)
  have L0 := hb.lt
  go_enter Try.func49, Try.ntmps49
  go_wp2_with fail
  go_at_call 50
  refine (seeF b q 0 x.ch (n) 1 w hb.c0 hn (by omega) (by omega)).mono ?_
  rintro e w1 ⟨rfl, N1, k1⟩
  have G1 := gr_trans G0 k1
  have A1 := hb.keep (G1.block b L0 (fun e => hne (Option.some.inj e)))
  clear k1 G0
  go_wp2_with fail
  go_at_call 50
  refine (seeF b q 1 x.ak (n + 1 * bitZ x.ch) 2 w1 A1.c1 N1 (by omega) (by omega)).mono ?_
  rintro e w2 ⟨rfl, N2, k2⟩
  have G2 := gr_trans G1 k2
  have A2 := hb.keep (G2.block b L0 (fun e => hne (Option.some.inj e)))
  clear k2 N1 A1 G1
  go_wp2_with fail
  go_at_call 50
  refine (seeF b q 3 x.le (n + 1 * bitZ x.ch + 2 * bitZ x.ak) 16 w2 A2.c3 N2 (by omega) (by omega)).mono ?_
  rintro e w3 ⟨rfl, N3, k3⟩
  have G3 := gr_trans G2 k3
  have A3 := hb.keep (G3.block b L0 (fun e => hne (Option.some.inj e)))
  clear k3 N2 A2 G2
  go_wp2_with fail
  go_at_call 50
  refine (seeF b q 4 x.op (n + 1 * bitZ x.ch + 2 * bitZ x.ak + 16 * bitZ x.le) 32 w3 A3.c4 N3 (by omega) (by omega)).mono ?_
  rintro e w4 ⟨rfl, N4, k4⟩
  have G4 := gr_trans G3 k4
  have A4 := hb.keep (G4.block b L0 (fun e => hne (Option.some.inj e)))
  clear k4 N3 A3 G3
  go_wp2_with fail
  go_at_call 50
  refine (seeF b q 2 x.ag (n + 1 * bitZ x.ch + 2 * bitZ x.ak + 16 * bitZ x.le + 32 * bitZ x.op) 64 w4 A4.c2 N4 (by omega) (by omega)).mono ?_
  rintro e w5 ⟨rfl, N5, k5⟩
  have G5 := gr_trans G4 k5
  have A5 := hb.keep (G5.block b L0 (fun e => hne (Option.some.inj e)))
  clear k5 N4 A4 G4
  go_wp2
  go_end0
  refine ⟨rfl, ?_, G5⟩
  simpa using N5
theorem roleI (r : Int) (w : World) : Calls Try.prog 48 #[.int .i64 r] w fun e w' => e = .returned (.int .i64 (roZ r)) ∧ w' = w := by
  by_cases h2 : r = 2
  · subst h2
    go_enter Try.func48, Try.ntmps48
    go_wp2
    go_ret
    exact ⟨rfl, rfl⟩
  have d2 : (r == 2) = false := by simpa using h2
  by_cases h1 : r = 1
  · subst h1
    go_enter Try.func48, Try.ntmps48
    go_wp2
    go_ret
    exact ⟨rfl, rfl⟩
  have d1 : (r == 1) = false := by simpa using h1
  by_cases h3 : r = 3
  · subst h3
    go_enter Try.func48, Try.ntmps48
    go_wp2
    go_ret
    exact ⟨rfl, rfl⟩
  have d3 : (r == 3) = false := by simpa using h3
  go_enter Try.func48, Try.ntmps48
  go_wp2
  go_ret
  exact ⟨by simp [roZ, h1, h2, h3], rfl⟩
set_option maxHeartbeats 4000000 in
theorem flagsI (x : Bp) (w : World) : Calls Try.prog 23 #[.agg #[.bool x.ch, .bool x.ak, .bool x.ag, .bool x.le, .bool x.op, .int .i64 x.ro, .int .i64 x.r, .int .i64 x.c, .int .i64 x.b, .int .i64 x.p, .int .i64 x.h]] w fun e w' => e = .returned (.int .i64 (flZ x)) ∧ Below w.heap.size w w' := by
  obtain ⟨y, hy⟩ : ∃ y, y = w.alloc (Obj.cells #[.bool x.ch, .bool x.ak, .bool x.ag, .bool x.le, .bool x.op, .int .i64 x.ro, .int .i64 x.r, .int .i64 x.c, .int .i64 x.b, .int .i64 x.p, .int .i64 x.h] 27) := ⟨_, rfl⟩
  have B0 : Below w.heap.size w y := by rw [hy]; exact below_new _
  have A0 : BpAt y w.heap.size x := by rw [hy]; exact BpAt.new w _ x
  have S0 := A0.lt
  have rl := roZ_le x.ro
  go_enter Try.func23, Try.ntmps23
  go_wp2_with fail
  go_at_call 48
  rw [← hy]
  clear hy
  refine (roleI x.ro y).mono ?_
  rintro e y1 ⟨rfl, hy1⟩
  obtain rfl : y1 = y := hy1
  obtain ⟨y2, hy2⟩ : ∃ y2, y2 = y1.alloc (Obj.cells #[.int .i64 (4 * roZ x.ro)] 3) := ⟨_, rfl⟩
  have k2 : Below y1.heap.size y1 y2 := by rw [hy2]; exact below_new _
  have N2 : NuB y2 y1.heap.size (4 * roZ x.ro) := by rw [hy2]; exact ⟨by simp [go_sem], by simp [go_sem]⟩
  have B2 := B0.trans (k2.mono B0.size)
  have A2 := A0.below k2 S0
  clear A0 k2 B0
  go_wp2_with fail
  go_at_call 49
  rw [← hy2]
  clear hy2
  refine (eachI w.heap.size y1.heap.size x _ y2 A2 N2 (by omega) (by omega)).mono ?_
  rintro e y3 ⟨rfl, N3, k3⟩
  have N3c := N3.1
  have B3 := B2.grown k3 B2.size (fun g e => by have := Option.some.inj e; omega)
  clear N2 A2 B2 k3
  go_wp2
  go_ret
  exact ⟨rfl, B3⟩
theorem l1BitS (o : Bool) (w : World) : Calls Try.prog 51 #[.bool o] w fun e w' => e = .returned (.int .i64 (bitZ o)) ∧ w' = w := by
  cases o
  · go_enter Try.func51, Try.ntmps51
    go_wp2
    go_ret
    exact ⟨rfl, rfl⟩
  · go_enter Try.func51, Try.ntmps51
    go_wp2
    go_ret
    exact ⟨rfl, rfl⟩
set_option maxHeartbeats 8000000 in
theorem flagsS (x : Bp) (w : World) : Calls Try.prog 24 #[.agg #[.bool x.ch, .bool x.ak, .bool x.ag, .bool x.le, .bool x.op, .int .i64 x.ro, .int .i64 x.r, .int .i64 x.c, .int .i64 x.b, .int .i64 x.p, .int .i64 x.h]] w fun e w' => e = .returned (.int .i64 (flZ x)) ∧ Below w.heap.size w w' := by
  obtain ⟨y, hy⟩ : ∃ y, y = w.alloc (Obj.cells #[.bool x.ch, .bool x.ak, .bool x.ag, .bool x.le, .bool x.op, .int .i64 x.ro, .int .i64 x.r, .int .i64 x.c, .int .i64 x.b, .int .i64 x.p, .int .i64 x.h] 27) := ⟨_, rfl⟩
  have B0 : Below w.heap.size w y := by rw [hy]; exact below_new _
  have A0 : BpAt y w.heap.size x := by rw [hy]; exact BpAt.new w _ x
  obtain ⟨a0, a1, a2, a3, a4, a5, a6, a7, a8, a9, a10⟩ := A0
  have t0 := bitZ_le x.ch; have t1 := bitZ_le x.ak; have t2 := bitZ_le x.le; have t3 := bitZ_le x.op; have t4 := bitZ_le x.ag
  obtain ⟨S, hS⟩ : ∃ S, S = bitZ x.ch + 2 * bitZ x.ak + 16 * bitZ x.le + 32 * bitZ x.op + 64 * bitZ x.ag := ⟨_, rfl⟩
  have hS0 : 0 ≤ S ∧ S ≤ 115 := by omega
  obtain ⟨F, hF⟩ : ∃ F, F = flZ x := ⟨_, rfl⟩
  rw [← hF]
  have hF2 : Hid (F = S + 4 * roZ x.ro) := by unfold Hid; rw [hF, hS]; unfold flZ; omega
  clear hF
  go_enter Try.func24, Try.ntmps24
  go_upto_region 1 with fail
  rw [← hy]
  clear hy
  go_quiet (first | (go_at_call 51; refine Calls.quiet_of_same (l1BitS x.ch _)) | (go_at_call 51; refine Calls.quiet_of_same (l1BitS x.ak _)) | (go_at_call 51; refine Calls.quiet_of_same (l1BitS x.le _)) | (go_at_call 51; refine Calls.quiet_of_same (l1BitS x.op _)) | (go_at_call 51; refine Calls.quiet_of_same (l1BitS x.ag _)))
  clear t0 t1 t2 t3 t4
  obtain ⟨y1, hy1⟩ : ∃ y1, y1 = y.drewN nq := ⟨_, rfl⟩
  have c5 : y1.cell? ⟨w.heap.size, 5, none⟩ = some (.int .i64 x.ro) := by rw [hy1]; exact a5
  have B1 : Below w.heap.size w y1 := by rw [hy1]; exact below_drewN B0 nq
  rw [← hS, ← hy1]
  clear hy1 a0 a1 a2 a3 a4 a5 a6 a7 a8 a9 a10 B0 hS
  by_cases h2 : x.ro = 2
  · have hF3 : Hid (F = S + 12) := by unfold Hid; rw [hF2.out, h2]; rfl
    rw [h2] at c5
    clear hF2
    go_wp2
    go_ret
    exact ⟨by rw [hF3.out]; rfl, B1⟩
  have d2 : (x.ro == 2) = false := by simpa using h2
  by_cases h1 : x.ro = 1
  · have hF3 : Hid (F = S + 8) := by unfold Hid; rw [hF2.out, h1]; rfl
    rw [h1] at c5
    clear hF2
    go_wp2
    go_ret
    exact ⟨by rw [hF3.out]; rfl, B1⟩
  have d1 : (x.ro == 1) = false := by simpa using h1
  by_cases h3 : x.ro = 3
  · have hF3 : Hid (F = S + 4) := by unfold Hid; rw [hF2.out, h3]; rfl
    rw [h3] at c5
    clear hF2
    go_wp2
    go_ret
    exact ⟨by rw [hF3.out]; rfl, B1⟩
  have d3 : (x.ro == 3) = false := by simpa using h3
  have hF3 : Hid (F = S) := by unfold Hid; rw [hF2.out]; simp [roZ, h1, h2, h3]
  clear hF2
  go_wp2
  go_ret
  exact ⟨by rw [hF3.out]; rfl, B1⟩

end Go.Proofs.Ytlgcjhebbmejaaa
