/- What comes in, behind its interface. -/
import Derived.Test.YtlgcjhebbmejaaaRows
import Derived.WalkKit
import Derived.ProofKit
import Derived.OpenShut
import Derived.ShutString
import Derived.ChangeOld
import Derived.Below
import Derived.Deep.QuietTactic
import Derived.BigQuiet
import Derived.WalkSmall
import Derived.Laws.OwnMore
import Derived.WalkSpells
import Derived.WalkLawsBesides
import Derived.Test.YtlgcjhebbmejaaaSmall9
namespace Go.Proofs.Ytlgcjhebbmejaaa
open Go.ChangeShapes Go.WideShapes Go.ChangeAt Go.RowKit
open Go.ChangeMaps (open_string shut_string)
set_option linter.unusedVariables false
set_option maxRecDepth 100000

/-- What comes in: eight cells. -/
structure Ik where
  k : Int
  q : Int
  r : Int
  c : Int
  b : Int
  p : Int
  h : Int
  up : Bool
/-- Its box. -/
structure InAt (w : World) (o : Nat) (x : Ik) : Prop where
  c0 : w.cell? ⟨o, 0, none⟩ = some (.int .i64 x.k)
  c1 : w.cell? ⟨o, 1, none⟩ = some (.int .i64 x.q)
  c2 : w.cell? ⟨o, 2, none⟩ = some (.int .i64 x.r)
  c3 : w.cell? ⟨o, 3, none⟩ = some (.int .i64 x.c)
  c4 : w.cell? ⟨o, 4, none⟩ = some (.int .i64 x.b)
  c5 : w.cell? ⟨o, 5, none⟩ = some (.int .i64 x.p)
  c6 : w.cell? ⟨o, 6, none⟩ = some (.int .i64 x.h)
  c7 : w.cell? ⟨o, 7, none⟩ = some (.bool x.up)
theorem InAt.keep {w w' : World} {o : Nat} {x : Ik} (h : InAt w o x) (k : w'.heap[o]? = w.heap[o]?) : InAt w' o x :=
  ⟨(World.cell?_of_block (a := ⟨o, 0, none⟩) k).trans h.c0, (World.cell?_of_block (a := ⟨o, 1, none⟩) k).trans h.c1, (World.cell?_of_block (a := ⟨o, 2, none⟩) k).trans h.c2, (World.cell?_of_block (a := ⟨o, 3, none⟩) k).trans h.c3, (World.cell?_of_block (a := ⟨o, 4, none⟩) k).trans h.c4, (World.cell?_of_block (a := ⟨o, 5, none⟩) k).trans h.c5, (World.cell?_of_block (a := ⟨o, 6, none⟩) k).trans h.c6, (World.cell?_of_block (a := ⟨o, 7, none⟩) k).trans h.c7⟩
theorem InAt.below {w w' : World} {o n : Nat} {x : Ik} (h : InAt w o x) (k : Below n w w') (ho : o < n) : InAt w' o x := h.keep (k.block o ho)
theorem InAt.lt {w : World} {o : Nat} {x : Ik} (h : InAt w o x) : o < w.heap.size := World.block_lt_of_cell? w _ h.c0
theorem InAt.new (w : World) (t : TypeId) (x : Ik) : InAt (w.alloc (Obj.cells #[.int .i64 x.k, .int .i64 x.q, .int .i64 x.r, .int .i64 x.c, .int .i64 x.b, .int .i64 x.p, .int .i64 x.h, .bool x.up] t)) w.heap.size x := by
  constructor <;> simp [go_sem]
/-- What comes in is right. -/
def inOk (x : Ik) : Bool :=
  if x.k = 1 then decide (0 ≤ x.q ∧ x.q ≤ 3) && (vOk x.r x.c x.b x.p && (decide (0 ≤ x.h ∧ x.h ≤ 8) && !x.up))
  else if x.k = 3 then decide (0 ≤ x.q ∧ x.q ≤ 3) && (decide (x.r = 0 ∧ x.c = 0 ∧ x.b = 0 ∧ x.p = 0) && (x.h == 0))
  else if x.k = 2 then decide (x.q = 0 ∧ x.r = 0 ∧ x.c = 0 ∧ x.b = 0 ∧ x.p = 0 ∧ x.h = 0 ∧ x.up = false)
  else false
/-- What it is, behind the interface. -/
def arrV (x : Ik) : Value :=
  if x.k = 1 then .iface 86 (.agg #[.int .i64 x.q, .int .i64 x.r, .int .i64 x.c, .int .i64 x.b, .int .i64 x.p, .int .i64 x.h])
  else if x.k = 2 then .iface 88 (.agg #[])
  else if x.k = 3 then .iface 90 (.agg #[.int .i64 x.q, .bool x.up])
  else .nilIface
set_option maxHeartbeats 1000000 in
theorem arrI (x : Ik) (w : World) : Calls Try.prog 52 #[.agg #[.int .i64 x.k, .int .i64 x.q, .int .i64 x.r, .int .i64 x.c, .int .i64 x.b, .int .i64 x.p, .int .i64 x.h, .bool x.up]] w fun e w' => e = .returned (arrV x) ∧ Below w.heap.size w w' := by
  obtain ⟨k, q, r, c, b, p, h, up⟩ := x
  dsimp only
  have B0 := below_new (w := w) (Obj.cells #[.int .i64 k, .int .i64 q, .int .i64 r, .int .i64 c, .int .i64 b, .int .i64 p, .int .i64 h, .bool up] 36)
  by_cases h1 : k = 1
  · subst h1
    rw [show arrV ⟨1, q, r, c, b, p, h, up⟩ = .iface 86 (.agg #[.int .i64 q, .int .i64 r, .int .i64 c, .int .i64 b, .int .i64 p, .int .i64 h]) from rfl]
    go_enter Try.func52, Try.ntmps52
    go_wp2
    go_ret
    exact ⟨rfl, B0⟩
  have d1 : (k == 1) = false := by simpa using h1
  by_cases h2 : k = 2
  · subst h2
    rw [show arrV ⟨2, q, r, c, b, p, h, up⟩ = .iface 88 (.agg #[]) from rfl]
    go_enter Try.func52, Try.ntmps52
    go_wp2
    go_ret
    exact ⟨rfl, B0⟩
  have d2 : (k == 2) = false := by simpa using h2
  by_cases h3 : k = 3
  · subst h3
    rw [show arrV ⟨3, q, r, c, b, p, h, up⟩ = .iface 90 (.agg #[.int .i64 q, .bool up]) from rfl]
    go_enter Try.func52, Try.ntmps52
    go_wp2
    go_ret
    exact ⟨rfl, B0⟩
  have d3 : (k == 3) = false := by simpa using h3
  have e : arrV ⟨k, q, r, c, b, p, h, up⟩ = .nilIface := by unfold arrV; rw [if_neg h1, if_neg h2, if_neg h3]
  rw [e]
  go_enter Try.func52, Try.ntmps52
  go_wp2
  go_ret
  exact ⟨rfl, B0⟩
theorem canBeI (q : Int) (w : World) : Calls Try.prog 83 #[.int .i64 q] w fun e w' => e = .returned (.bool (decide (0 ≤ q ∧ q ≤ 3))) ∧ w' = w := by
  by_cases h1 : 0 ≤ q
  · have d1 : decide (0 ≤ q) = true := decide_eq_true h1
    by_cases h2 : q < 4
    · have d2 : decide (q < 4) = true := decide_eq_true h2
      rw [decide_eq_true (show 0 ≤ q ∧ q ≤ 3 by omega)]
      clear h1 h2
      go_enter Try.func83, Try.ntmps83
      go_wp2
      go_ret
      exact ⟨rfl, rfl⟩
    · have d2 : decide (q < 4) = false := decide_eq_false h2
      rw [decide_eq_false (show ¬ (0 ≤ q ∧ q ≤ 3) by omega)]
      clear h1 h2
      go_enter Try.func83, Try.ntmps83
      go_wp2
      go_ret
      exact ⟨rfl, rfl⟩
  · have d1 : decide (0 ≤ q) = false := decide_eq_false h1
    rw [decide_eq_false (show ¬ (0 ≤ q ∧ q ≤ 3) by omega)]
    clear h1
    go_enter Try.func83, Try.ntmps83
    go_wp2
    go_ret
    exact ⟨rfl, rfl⟩
theorem ccFits (q r c b p h : Int) (w : World) : Calls Try.prog 81 #[.agg #[.int .i64 q, .int .i64 r, .int .i64 c, .int .i64 b, .int .i64 p, .int .i64 h]] w fun e w' => e = .returned (.bool (decide (0 ≤ q ∧ q ≤ 3) && (vOk r c b p && decide (0 ≤ h ∧ h ≤ 8)))) ∧ Below w.heap.size w w' := by
  obtain ⟨y, hy⟩ : ∃ y, y = w.alloc (Obj.cells #[.int .i64 q, .int .i64 r, .int .i64 c, .int .i64 b, .int .i64 p, .int .i64 h] 86) := ⟨_, rfl⟩
  have B0 : Below w.heap.size w y := by rw [hy]; exact below_new _
  have C0 : ∀ i v, (#[.int .i64 q, .int .i64 r, .int .i64 c, .int .i64 b, .int .i64 p, .int .i64 h] : Array Value)[i]? = some v → y.cell? ⟨w.heap.size, i, none⟩ = some v := by
    intro i v h
    rw [hy]
    have hi : i < 6 := (Array.getElem?_eq_some_iff.1 h).1
    rcases (by omega : i = 0 ∨ i = 1 ∨ i = 2 ∨ i = 3 ∨ i = 4 ∨ i = 5) with rfl | rfl | rfl | rfl | rfl | rfl <;> (cases h; simp [go_sem])
  have S0 : w.heap.size < y.heap.size := by rw [hy]; simp
  obtain ⟨R, hR⟩ : ∃ R, R = (decide (0 ≤ q ∧ q ≤ 3) && (vOk r c b p && decide (0 ≤ h ∧ h ≤ 8))) := ⟨_, rfl⟩
  rw [← hR]
  go_enter Try.func81, Try.ntmps81
  go_wp2_with fail
  go_at_call 83
  rw [← hy]
  clear hy
  refine (canBeI q y).mono ?_
  rintro e y1 ⟨rfl, rfl⟩
  cases h1 : decide (0 ≤ q ∧ q ≤ 3) with
  | false =>
    have hN : Hid (R = false) := by unfold Hid; rw [hR, h1]; rfl
    clear hR h1
    go_wp2
    go_ret
    exact ⟨by rw [hN.out]; rfl, B0⟩
  | true =>
    have hR2 : Hid (R = (vOk r c b p && decide (0 ≤ h ∧ h ≤ 8))) := by unfold Hid; rw [hR, h1]; rfl
    clear hR h1
    have c1 := C0 1 _ rfl
    have c2 := C0 2 _ rfl
    have c3 := C0 3 _ rfl
    have c4 := C0 4 _ rfl
    go_wp2_with fail
    go_at_call 44
    refine (vOkI r c b p y1).mono ?_
    rintro e y2 ⟨rfl, k2⟩
    have B2 := B0.trans (k2.mono B0.size)
    have c5 : y2.cell? ⟨w.heap.size, 5, none⟩ = some (.int .i64 h) := (World.cell?_of_block (a := ⟨w.heap.size, 5, none⟩) (k2.block _ S0)).trans (C0 5 _ rfl)
    clear c1 c2 c3 c4 C0 k2
    cases h2 : vOk r c b p with
    | false =>
      have hN : Hid (R = false) := by unfold Hid; rw [hR2.out, h2]; rfl
      clear hR2 h2
      go_wp2
      go_ret
      exact ⟨by rw [hN.out]; rfl, B2⟩
    | true =>
      have hR3 : Hid (decide (0 ≤ h ∧ h ≤ 8) = R) := by unfold Hid; rw [hR2.out, h2]; rfl
      clear hR2 h2
      go_wp2_with fail
      go_at_call 45
      refine (hopsFitI h y2).mono ?_
      rintro e y3 ⟨rfl, rfl⟩
      rw [hR3.out]
      go_wp2
      go_ret
      exact ⟨rfl, B2⟩
theorem ccRec (q r c b p h : Int) (w : World) : Calls Try.prog 82 #[.agg #[.int .i64 q, .int .i64 r, .int .i64 c, .int .i64 b, .int .i64 p, .int .i64 h]] w fun e w' => e = .returned (.agg #[.int .i64 1, .int .i64 q, .int .i64 r, .int .i64 c, .int .i64 b, .int .i64 p, .int .i64 h, .bool false]) ∧ Below w.heap.size w w' := by
  have B0 := ((Below.refl w.heap.size w).alloc (Nat.le_refl _) (Obj.cells #[.int .i64 q, .int .i64 r, .int .i64 c, .int .i64 b, .int .i64 p, .int .i64 h] 86)).alloc (by simp) (Obj.cells #[.int .i64 1, .int .i64 q, .int .i64 r, .int .i64 c, .int .i64 b, .int .i64 p, .int .i64 h, .bool false] 36)
  go_enter Try.func82, Try.ntmps82
  go_wp2
  refine bodyPost_ret (v := .agg #[.int .i64 1, .int .i64 q, .int .i64 r, .int .i64 c, .int .i64 b, .int .i64 p, .int .i64 h, .bool false]) (by simp [results, Try.results82, go_sem, *]) rfl ⟨rfl, B0⟩
theorem tcFits (w : World) : Calls Try.prog 84 #[.agg #[]] w fun e w' => e = .returned (.bool true) ∧ Below w.heap.size w w' := by
  go_enter Try.func84, Try.ntmps84
  go_wp2
  go_ret
  exact ⟨rfl, below_new _⟩
theorem tcRec (w : World) : Calls Try.prog 85 #[.agg #[]] w fun e w' => e = .returned (.agg #[.int .i64 2, .int .i64 0, .int .i64 0, .int .i64 0, .int .i64 0, .int .i64 0, .int .i64 0, .bool false]) ∧ Below w.heap.size w w' := by
  have B0 := ((Below.refl w.heap.size w).alloc (Nat.le_refl _) (Obj.cells #[] 88)).alloc (by simp) (Obj.cells #[.int .i64 2, .int .i64 0, .int .i64 0, .int .i64 0, .int .i64 0, .int .i64 0, .int .i64 0, .bool false] 36)
  go_enter Try.func85, Try.ntmps85
  go_wp2
  refine bodyPost_ret (v := .agg #[.int .i64 2, .int .i64 0, .int .i64 0, .int .i64 0, .int .i64 0, .int .i64 0, .int .i64 0, .bool false]) (by simp [results, Try.results85, go_sem, *]) rfl ⟨rfl, B0⟩
theorem lcFits (q : Int) (up : Bool) (w : World) : Calls Try.prog 86 #[.agg #[.int .i64 q, .bool up]] w fun e w' => e = .returned (.bool (decide (0 ≤ q ∧ q ≤ 3))) ∧ Below w.heap.size w w' := by
  have B0 := below_new (w := w) (Obj.cells #[.int .i64 q, .bool up] 90)
  obtain ⟨R, hR⟩ : ∃ R, decide (0 ≤ q ∧ q ≤ 3) = R := ⟨_, rfl⟩
  rw [hR]
  replace hR : Hid _ := hR
  go_enter Try.func86, Try.ntmps86
  go_wp2_with fail
  go_at_call 83
  refine (canBeI q _).mono ?_
  rintro e y1 ⟨rfl, rfl⟩
  rw [hR.out]
  go_wp2
  go_ret
  exact ⟨rfl, B0⟩
theorem lcRec (q : Int) (up : Bool) (w : World) : Calls Try.prog 87 #[.agg #[.int .i64 q, .bool up]] w fun e w' => e = .returned (.agg #[.int .i64 3, .int .i64 q, .int .i64 0, .int .i64 0, .int .i64 0, .int .i64 0, .int .i64 0, .bool up]) ∧ Below w.heap.size w w' := by
  have B0 := ((Below.refl w.heap.size w).alloc (Nat.le_refl _) (Obj.cells #[.int .i64 q, .bool up] 90)).alloc (by simp) (Obj.cells #[.int .i64 3, .int .i64 q, .int .i64 0, .int .i64 0, .int .i64 0, .int .i64 0, .int .i64 0, .bool up] 36)
  go_enter Try.func87, Try.ntmps87
  go_wp2
  refine bodyPost_ret (v := .agg #[.int .i64 3, .int .i64 q, .int .i64 0, .int .i64 0, .int .i64 0, .int .i64 0, .int .i64 0, .bool up]) (by simp [results, Try.results87, go_sem, *]) rfl ⟨rfl, B0⟩

end Go.Proofs.Ytlgcjhebbmejaaa
