/- What comes in, behind its interface. Numbers read, in plain lists. What is written and read of an In, in plain lists. What impl.inAt finds, in plain lists. Lists of In: cells; laws.eqIn, walked. -/
import Derived.Test.YthgcbihhdbpbdaaGreatDoorRows
import Derived.WalkKit
import Derived.ProofKit
import Derived.OpenShut
import Derived.ShutString
import Derived.ChangeOld
import Derived.Below
import Derived.Deep.QuietTactic
import Derived.BigQuiet
import Derived.WalkSmall
import Derived.Laws.OwnMore
import Derived.WalkSpells
import Derived.WalkLawsBesides
import Derived.Test.YthgcbihhdbpbdaaGreatDoorM5
import Derived.Test.YthgcbihhdbpbdaaGreatDoorM9
namespace Go.Proofs.YthgcbihhdbpbdaaGreatDoor
open Go.ChangeShapes Go.WideShapes Go.ChangeAt Go.RowKit
open Go.ChangeMaps (open_string shut_string)
set_option linter.unusedVariables false
set_option maxRecDepth 100000

/-- What comes in: eight cells. -/
structure Ik where
  k : Int
  q : Int
  r : Int
  c : Int
  b : Int
  p : Int
  h : Int
  up : Bool
/-- Its box. -/
structure InAt (w : World) (o : Nat) (x : Ik) : Prop where
  c0 : w.cell? ⟨o, 0, none⟩ = some (.int .i64 x.k)
  c1 : w.cell? ⟨o, 1, none⟩ = some (.int .i64 x.q)
  c2 : w.cell? ⟨o, 2, none⟩ = some (.int .i64 x.r)
  c3 : w.cell? ⟨o, 3, none⟩ = some (.int .i64 x.c)
  c4 : w.cell? ⟨o, 4, none⟩ = some (.int .i64 x.b)
  c5 : w.cell? ⟨o, 5, none⟩ = some (.int .i64 x.p)
  c6 : w.cell? ⟨o, 6, none⟩ = some (.int .i64 x.h)
  c7 : w.cell? ⟨o, 7, none⟩ = some (.bool x.up)
theorem InAt.keep {w w' : World} {o : Nat} {x : Ik} (h : InAt w o x) (k : w'.heap[o]? = w.heap[o]?) : InAt w' o x :=
  ⟨(World.cell?_of_block (a := ⟨o, 0, none⟩) k).trans h.c0, (World.cell?_of_block (a := ⟨o, 1, none⟩) k).trans h.c1, (World.cell?_of_block (a := ⟨o, 2, none⟩) k).trans h.c2, (World.cell?_of_block (a := ⟨o, 3, none⟩) k).trans h.c3, (World.cell?_of_block (a := ⟨o, 4, none⟩) k).trans h.c4, (World.cell?_of_block (a := ⟨o, 5, none⟩) k).trans h.c5, (World.cell?_of_block (a := ⟨o, 6, none⟩) k).trans h.c6, (World.cell?_of_block (a := ⟨o, 7, none⟩) k).trans h.c7⟩
theorem InAt.below {w w' : World} {o n : Nat} {x : Ik} (h : InAt w o x) (k : Below n w w') (ho : o < n) : InAt w' o x := h.keep (k.block o ho)
theorem InAt.lt {w : World} {o : Nat} {x : Ik} (h : InAt w o x) : o < w.heap.size := World.block_lt_of_cell? w _ h.c0
theorem InAt.new (w : World) (t : TypeId) (x : Ik) : InAt (w.alloc (Obj.cells #[.int .i64 x.k, .int .i64 x.q, .int .i64 x.r, .int .i64 x.c, .int .i64 x.b, .int .i64 x.p, .int .i64 x.h, .bool x.up] t)) w.heap.size x := by
  constructor <;> simp [go_sem]
/-- What comes in is right. -/
def inOk (x : Ik) : Bool :=
  if x.k = 1 then decide (0 ≤ x.q ∧ x.q ≤ 3) && (vOk x.r x.c x.b x.p && (decide (0 ≤ x.h ∧ x.h ≤ 8) && !x.up))
  else if x.k = 3 then decide (0 ≤ x.q ∧ x.q ≤ 3) && (decide (x.r = 0 ∧ x.c = 0 ∧ x.b = 0 ∧ x.p = 0) && (x.h == 0))
  else if x.k = 2 then decide (x.q = 0 ∧ x.r = 0 ∧ x.c = 0 ∧ x.b = 0 ∧ x.p = 0 ∧ x.h = 0 ∧ x.up = false)
  else false
/-- What it is, behind the interface. -/
def arrV (x : Ik) : Value :=
  if x.k = 1 then .iface 158 (.agg #[.int .i64 x.q, .int .i64 x.r, .int .i64 x.c, .int .i64 x.b, .int .i64 x.p, .int .i64 x.h])
  else if x.k = 2 then .iface 159 (.agg #[])
  else if x.k = 3 then .iface 161 (.agg #[.int .i64 x.q, .bool x.up])
  else .nilIface
set_option maxHeartbeats 1000000 in
theorem arrI (x : Ik) (w : World) : Calls Tryz.prog 65 #[.agg #[.int .i64 x.k, .int .i64 x.q, .int .i64 x.r, .int .i64 x.c, .int .i64 x.b, .int .i64 x.p, .int .i64 x.h, .bool x.up]] w fun e w' => e = .returned (arrV x) ∧ Below w.heap.size w w' := by
  obtain ⟨k, q, r, c, b, p, h, up⟩ := x
  dsimp only
  have B0 := below_new (w := w) (Obj.cells #[.int .i64 k, .int .i64 q, .int .i64 r, .int .i64 c, .int .i64 b, .int .i64 p, .int .i64 h, .bool up] 27)
  by_cases h1 : k = 1
  · subst h1
    rw [show arrV ⟨1, q, r, c, b, p, h, up⟩ = .iface 158 (.agg #[.int .i64 q, .int .i64 r, .int .i64 c, .int .i64 b, .int .i64 p, .int .i64 h]) from rfl]
    go_enter Tryz.func65, Tryz.ntmps65
    go_wp2
    go_ret
    exact ⟨rfl, B0⟩
  have d1 : (k == 1) = false := by simpa using h1
  by_cases h2 : k = 2
  · subst h2
    rw [show arrV ⟨2, q, r, c, b, p, h, up⟩ = .iface 159 (.agg #[]) from rfl]
    go_enter Tryz.func65, Tryz.ntmps65
    go_wp2
    go_ret
    exact ⟨rfl, B0⟩
  have d2 : (k == 2) = false := by simpa using h2
  by_cases h3 : k = 3
  · subst h3
    rw [show arrV ⟨3, q, r, c, b, p, h, up⟩ = .iface 161 (.agg #[.int .i64 q, .bool up]) from rfl]
    go_enter Tryz.func65, Tryz.ntmps65
    go_wp2
    go_ret
    exact ⟨rfl, B0⟩
  have d3 : (k == 3) = false := by simpa using h3
  have e : arrV ⟨k, q, r, c, b, p, h, up⟩ = .nilIface := by unfold arrV; rw [if_neg h1, if_neg h2, if_neg h3]
  rw [e]
  go_enter Tryz.func65, Tryz.ntmps65
  go_wp2
  go_ret
  exact ⟨rfl, B0⟩
theorem canBeI (q : Int) (w : World) : Calls Tryz.prog 201 #[.int .i64 q] w fun e w' => e = .returned (.bool (decide (0 ≤ q ∧ q ≤ 3))) ∧ w' = w := by
  by_cases h1 : 0 ≤ q
  · have d1 : decide (0 ≤ q) = true := decide_eq_true h1
    by_cases h2 : q < 4
    · have d2 : decide (q < 4) = true := decide_eq_true h2
      rw [decide_eq_true (show 0 ≤ q ∧ q ≤ 3 by omega)]
      clear h1 h2
      go_enter Tryz.func201, Tryz.ntmps201
      go_wp2
      go_ret
      exact ⟨rfl, rfl⟩
    · have d2 : decide (q < 4) = false := decide_eq_false h2
      rw [decide_eq_false (show ¬ (0 ≤ q ∧ q ≤ 3) by omega)]
      clear h1 h2
      go_enter Tryz.func201, Tryz.ntmps201
      go_wp2
      go_ret
      exact ⟨rfl, rfl⟩
  · have d1 : decide (0 ≤ q) = false := decide_eq_false h1
    rw [decide_eq_false (show ¬ (0 ≤ q ∧ q ≤ 3) by omega)]
    clear h1
    go_enter Tryz.func201, Tryz.ntmps201
    go_wp2
    go_ret
    exact ⟨rfl, rfl⟩
theorem ccFits (q r c b p h : Int) (w : World) : Calls Tryz.prog 199 #[.agg #[.int .i64 q, .int .i64 r, .int .i64 c, .int .i64 b, .int .i64 p, .int .i64 h]] w fun e w' => e = .returned (.bool (decide (0 ≤ q ∧ q ≤ 3) && (vOk r c b p && decide (0 ≤ h ∧ h ≤ 8)))) ∧ Below w.heap.size w w' := by
  obtain ⟨y, hy⟩ : ∃ y, y = w.alloc (Obj.cells #[.int .i64 q, .int .i64 r, .int .i64 c, .int .i64 b, .int .i64 p, .int .i64 h] 158) := ⟨_, rfl⟩
  have B0 : Below w.heap.size w y := by rw [hy]; exact below_new _
  have C0 : ∀ i v, (#[.int .i64 q, .int .i64 r, .int .i64 c, .int .i64 b, .int .i64 p, .int .i64 h] : Array Value)[i]? = some v → y.cell? ⟨w.heap.size, i, none⟩ = some v := by
    intro i v h
    rw [hy]
    have hi : i < 6 := (Array.getElem?_eq_some_iff.1 h).1
    rcases (by omega : i = 0 ∨ i = 1 ∨ i = 2 ∨ i = 3 ∨ i = 4 ∨ i = 5) with rfl | rfl | rfl | rfl | rfl | rfl <;> (cases h; simp [go_sem])
  have S0 : w.heap.size < y.heap.size := by rw [hy]; simp
  obtain ⟨R, hR⟩ : ∃ R, R = (decide (0 ≤ q ∧ q ≤ 3) && (vOk r c b p && decide (0 ≤ h ∧ h ≤ 8))) := ⟨_, rfl⟩
  rw [← hR]
  go_enter Tryz.func199, Tryz.ntmps199
  go_wp2_with fail
  go_at_call 201
  rw [← hy]
  clear hy
  refine (canBeI q y).mono ?_
  rintro e y1 ⟨rfl, rfl⟩
  cases h1 : decide (0 ≤ q ∧ q ≤ 3) with
  | false =>
    have hN : Hid (R = false) := by unfold Hid; rw [hR, h1]; rfl
    clear hR h1
    go_wp2
    go_ret
    exact ⟨by rw [hN.out]; rfl, B0⟩
  | true =>
    have hR2 : Hid (R = (vOk r c b p && decide (0 ≤ h ∧ h ≤ 8))) := by unfold Hid; rw [hR, h1]; rfl
    clear hR h1
    have c1 := C0 1 _ rfl
    have c2 := C0 2 _ rfl
    have c3 := C0 3 _ rfl
    have c4 := C0 4 _ rfl
    go_wp2_with fail
    go_at_call 202
    refine (vOkI r c b p y1).mono ?_
    rintro e y2 ⟨rfl, k2⟩
    have B2 := B0.trans (k2.mono B0.size)
    have c5 : y2.cell? ⟨w.heap.size, 5, none⟩ = some (.int .i64 h) := (World.cell?_of_block (a := ⟨w.heap.size, 5, none⟩) (k2.block _ S0)).trans (C0 5 _ rfl)
    clear c1 c2 c3 c4 C0 k2
    cases h2 : vOk r c b p with
    | false =>
      have hN : Hid (R = false) := by unfold Hid; rw [hR2.out, h2]; rfl
      clear hR2 h2
      go_wp2
      go_ret
      exact ⟨by rw [hN.out]; rfl, B2⟩
    | true =>
      have hR3 : Hid (decide (0 ≤ h ∧ h ≤ 8) = R) := by unfold Hid; rw [hR2.out, h2]; rfl
      clear hR2 h2
      go_wp2_with fail
      go_at_call 203
      refine (hopsFitI h y2).mono ?_
      rintro e y3 ⟨rfl, rfl⟩
      rw [hR3.out]
      go_wp2
      go_ret
      exact ⟨rfl, B2⟩
theorem ccRec (q r c b p h : Int) (w : World) : Calls Tryz.prog 200 #[.agg #[.int .i64 q, .int .i64 r, .int .i64 c, .int .i64 b, .int .i64 p, .int .i64 h]] w fun e w' => e = .returned (.agg #[.int .i64 1, .int .i64 q, .int .i64 r, .int .i64 c, .int .i64 b, .int .i64 p, .int .i64 h, .bool false]) ∧ Below w.heap.size w w' := by
  have B0 := ((Below.refl w.heap.size w).alloc (Nat.le_refl _) (Obj.cells #[.int .i64 q, .int .i64 r, .int .i64 c, .int .i64 b, .int .i64 p, .int .i64 h] 158)).alloc (by simp) (Obj.cells #[.int .i64 1, .int .i64 q, .int .i64 r, .int .i64 c, .int .i64 b, .int .i64 p, .int .i64 h, .bool false] 27)
  go_enter Tryz.func200, Tryz.ntmps200
  go_wp2
  refine bodyPost_ret (v := .agg #[.int .i64 1, .int .i64 q, .int .i64 r, .int .i64 c, .int .i64 b, .int .i64 p, .int .i64 h, .bool false]) (by simp [results, Tryz.results200, go_sem, *]) rfl ⟨rfl, B0⟩
theorem tcFits (w : World) : Calls Tryz.prog 204 #[.agg #[]] w fun e w' => e = .returned (.bool true) ∧ Below w.heap.size w w' := by
  go_enter Tryz.func204, Tryz.ntmps204
  go_wp2
  go_ret
  exact ⟨rfl, below_new _⟩
theorem tcRec (w : World) : Calls Tryz.prog 205 #[.agg #[]] w fun e w' => e = .returned (.agg #[.int .i64 2, .int .i64 0, .int .i64 0, .int .i64 0, .int .i64 0, .int .i64 0, .int .i64 0, .bool false]) ∧ Below w.heap.size w w' := by
  have B0 := ((Below.refl w.heap.size w).alloc (Nat.le_refl _) (Obj.cells #[] 159)).alloc (by simp) (Obj.cells #[.int .i64 2, .int .i64 0, .int .i64 0, .int .i64 0, .int .i64 0, .int .i64 0, .int .i64 0, .bool false] 27)
  go_enter Tryz.func205, Tryz.ntmps205
  go_wp2
  refine bodyPost_ret (v := .agg #[.int .i64 2, .int .i64 0, .int .i64 0, .int .i64 0, .int .i64 0, .int .i64 0, .int .i64 0, .bool false]) (by simp [results, Tryz.results205, go_sem, *]) rfl ⟨rfl, B0⟩
theorem lcFits (q : Int) (up : Bool) (w : World) : Calls Tryz.prog 206 #[.agg #[.int .i64 q, .bool up]] w fun e w' => e = .returned (.bool (decide (0 ≤ q ∧ q ≤ 3))) ∧ Below w.heap.size w w' := by
  have B0 := below_new (w := w) (Obj.cells #[.int .i64 q, .bool up] 161)
  obtain ⟨R, hR⟩ : ∃ R, decide (0 ≤ q ∧ q ≤ 3) = R := ⟨_, rfl⟩
  rw [hR]
  replace hR : Hid _ := hR
  go_enter Tryz.func206, Tryz.ntmps206
  go_wp2_with fail
  go_at_call 201
  refine (canBeI q _).mono ?_
  rintro e y1 ⟨rfl, rfl⟩
  rw [hR.out]
  go_wp2
  go_ret
  exact ⟨rfl, B0⟩
theorem lcRec (q : Int) (up : Bool) (w : World) : Calls Tryz.prog 207 #[.agg #[.int .i64 q, .bool up]] w fun e w' => e = .returned (.agg #[.int .i64 3, .int .i64 q, .int .i64 0, .int .i64 0, .int .i64 0, .int .i64 0, .int .i64 0, .bool up]) ∧ Below w.heap.size w w' := by
  have B0 := ((Below.refl w.heap.size w).alloc (Nat.le_refl _) (Obj.cells #[.int .i64 q, .bool up] 161)).alloc (by simp) (Obj.cells #[.int .i64 3, .int .i64 q, .int .i64 0, .int .i64 0, .int .i64 0, .int .i64 0, .int .i64 0, .bool up] 27)
  go_enter Tryz.func207, Tryz.ntmps207
  go_wp2
  refine bodyPost_ret (v := .agg #[.int .i64 3, .int .i64 q, .int .i64 0, .int .i64 0, .int .i64 0, .int .i64 0, .int .i64 0, .bool up]) (by simp [results, Tryz.results207, go_sem, *]) rfl ⟨rfl, B0⟩

end Go.Proofs.YthgcbihhdbpbdaaGreatDoor
namespace Go.Proofs.YthgcbihhdbpbdaaGreatDoor
open Go.ChangeShapes Go.WideShapes Go.ChangeAt Go.RowKit
open Go.ChangeMaps (open_string shut_string)
set_option linter.unusedVariables false
set_option maxRecDepth 100000

/-- The number of the first k bytes: seven bits a byte, the low ones first. -/
def val (g : Nat → Int) : Nat → Int
  | 0 => 0
  | k + 1 => val g k + g k % 128 * 128 ^ k
theorem val_bd (g : Nat → Int) (k : Nat) : 0 ≤ val g k ∧ val g k < 128 ^ k := by
  induction k with
  | zero => simp [val]
  | succ k ih =>
    simp only [val]
    have hp : (128 : Int) ^ (k + 1) = 128 * 128 ^ k := by rw [Int.pow_succ]; omega
    have h1 : 0 ≤ g k % 128 := by omega
    have h2 : g k % 128 ≤ 127 := by omega
    have h3 : g k % 128 * 128 ^ k ≤ 127 * 128 ^ k := Int.mul_le_mul_of_nonneg_right h2 (by omega)
    have h4 : 0 ≤ g k % 128 * 128 ^ k := Int.mul_nonneg h1 (by omega)
    rw [hp]
    omega
/-- What GetNum finds from the k-th byte on, with so many bytes more to look at. -/
def getFrom (len at_ : Int) (g : Nat → Int) : Nat → Nat → Option (Int × Int)
  | 0, _ => none
  | fuel + 1, k => if at_ < 0 ∨ len - k ≤ at_ then none else if g k < 128 then (if (0 < k ∧ g k = 0) ∨ 2147483647 < val g (k + 1) then none else some (val g (k + 1), at_ + k + 1)) else getFrom len at_ g fuel (k + 1)
theorem put_many {m : Nat} : ∀ k, m < 128 ^ (k + 1) → (put m).length ≤ k + 1
  | 0, h => by rw [put_lo (by omega)]; simp
  | k + 1, h => by
    by_cases hm : m ≤ 127
    · rw [put_lo hm]; simp
    · rw [put_hi hm, List.length_cons]
      have := put_many (m := m / 128) k (Nat.div_lt_of_lt_mul (by rw [Nat.pow_succ] at h; omega))
      omega
theorem put_few {m : Nat} : ∀ k, 128 ^ k ≤ m → k + 1 ≤ (put m).length
  | 0, _ => (put_len m).1
  | k + 1, h => by
    have h1 : 128 ^ (k + 1) = 128 * 128 ^ k := by rw [Nat.pow_succ]; omega
    have h2 : 0 < 128 ^ k := Nat.pow_pos (by omega)
    have hm : ¬ m ≤ 127 := by omega
    rw [put_hi hm, List.length_cons]
    have := put_few (m := m / 128) k ((Nat.le_div_iff_mul_le (by omega)).2 (by omega))
    omega
/-- A number is in the shortest form just where PutNum takes as many bytes for it. -/
theorem short_iff (g : Nat → Int) (k : Nat) (hg : 0 ≤ g k) (hlt : g k < 128) :
    ((putZ (val g (k + 1))).length : Int) = k + 1 ↔ ¬ ((0 < k ∧ g k = 0) ∨ 2147483647 < val g (k + 1)) := by
  have hb := val_bd g (k + 1)
  have hb0 := val_bd g k
  have hv : val g (k + 1) = val g k + g k * 128 ^ k := by simp only [val]; rw [show g k % 128 = g k by omega]
  by_cases hbig : 2147483647 < val g (k + 1)
  · have e : putZ (val g (k + 1)) = [] := by unfold putZ; rw [if_neg (by omega)]
    rw [e]
    simp [hbig]
    omega
  · have e : putZ (val g (k + 1)) = put (val g (k + 1)).toNat := by unfold putZ; rw [if_pos (by omega)]
    rw [e]
    have hpow : ∀ j : Nat, ((128 ^ j : Nat) : Int) = (128 : Int) ^ j := fun j => by simp
    by_cases hz : g k = 0
    · rw [hz] at hv
      by_cases hk : 0 < k
      · have h1 : (put (val g (k + 1)).toNat).length ≤ k := by
          obtain ⟨j, rfl⟩ : ∃ j, k = j + 1 := ⟨k - 1, by omega⟩
          refine put_many j ?_
          have := hpow (j + 1)
          omega
        simp [hk, hz]
        omega
      · obtain rfl : k = 0 := by omega
        have h0 : (val g (0 + 1)).toNat = 0 := by simp [val, hz]
        rw [h0, put_lo (by omega)]
        simp [hbig]
    · have h1 : (put (val g (k + 1)).toNat).length ≤ k + 1 := by
        refine put_many k ?_
        have := hpow (k + 1)
        omega
      have h2 : k + 1 ≤ (put (val g (k + 1)).toNat).length := by
        refine put_few k ?_
        have := hpow k
        have h3 : 1 * 128 ^ k ≤ g k * 128 ^ k := Int.mul_le_mul_of_nonneg_right (by omega) (by omega)
        omega
      simp [hz, hbig]
      omega

theorem or_i64_nat (a b : Nat) (ha : a < 9223372036854775808) (hb : b < 9223372036854775808) : bits .or .i64 (a : Int) (b : Int) = ((a ||| b : Nat) : Int) := by
  have hx : a ||| b < 2 ^ 63 := Nat.or_lt_two_pow (by omega) (by omega)
  have h1 : (BitVec.ofInt 64 (a : Int)).toNat = a := by
    rw [BitVec.ofInt_natCast, BitVec.toNat_ofNat]; exact Nat.mod_eq_of_lt (by omega)
  have h2 : (BitVec.ofInt 64 (b : Int)).toNat = b := by
    rw [BitVec.ofInt_natCast, BitVec.toNat_ofNat]; exact Nat.mod_eq_of_lt (by omega)
  show IntKind.i64.wrap ((BitVec.ofInt 64 (a : Int) ||| BitVec.ofInt 64 (b : Int)).toNat : Int) = _
  rw [BitVec.toNat_or, h1, h2, IntKind.wrap_i64]
  omega
/-- Two numbers whose bits do not meet: 'or' is the sum. -/
theorem or_sum (x d : Int) (i : Nat) (hx0 : 0 ≤ x) (hx : x < ((2 ^ i : Nat) : Int)) (hd0 : 0 ≤ d) (hd : d ≤ 127) (hi : i ≤ 28) : bits .or .i64 x (d * ((2 ^ i : Nat) : Int)) = x + d * ((2 ^ i : Nat) : Int) := by
  obtain ⟨a, rfl⟩ : ∃ a : Nat, x = a := ⟨x.toNat, by omega⟩
  obtain ⟨c, rfl⟩ : ∃ c : Nat, d = c := ⟨d.toNat, by omega⟩
  have hp : 2 ^ i ≤ 268435456 := Nat.pow_le_pow_right (by omega : 0 < 2) hi
  have hm : c * 2 ^ i ≤ 127 * 268435456 := Nat.mul_le_mul (by omega) hp
  have e : ((c : Int) * ((2 ^ i : Nat) : Int)) = ((c * 2 ^ i : Nat) : Int) := by simp
  rw [e, or_i64_nat a (c * 2 ^ i) (by omega) (by omega), Nat.or_comm, Nat.mul_comm c, ← Nat.two_pow_add_eq_or_of_lt (by omega)]
  omega
theorem getFrom_out {len at_ : Int} {g : Nat → Int} {fuel k : Nat} (h : at_ < 0 ∨ len - k ≤ at_) : getFrom len at_ g fuel k = none := by
  cases fuel with
  | zero => rfl
  | succ n => rw [getFrom, if_pos h]
theorem getFrom_next {len at_ : Int} {g : Nat → Int} {fuel k : Nat} (h : ¬ (at_ < 0 ∨ len - k ≤ at_)) (h2 : ¬ g k < 128) : getFrom len at_ g (fuel + 1) k = getFrom len at_ g fuel (k + 1) := by
  rw [getFrom, if_neg h, if_neg h2]
theorem getFrom_bad {len at_ : Int} {g : Nat → Int} {fuel k : Nat} (h : ¬ (at_ < 0 ∨ len - k ≤ at_)) (h2 : g k < 128) (h3 : (0 < k ∧ g k = 0) ∨ 2147483647 < val g (k + 1)) : getFrom len at_ g (fuel + 1) k = none := by
  rw [getFrom, if_neg h, if_pos h2, if_pos h3]
theorem getFrom_ok {len at_ : Int} {g : Nat → Int} {fuel k : Nat} (h : ¬ (at_ < 0 ∨ len - k ≤ at_)) (h2 : g k < 128) (h3 : ¬ ((0 < k ∧ g k = 0) ∨ 2147483647 < val g (k + 1))) : getFrom len at_ g (fuel + 1) k = some (val g (k + 1), at_ + k + 1) := by
  rw [getFrom, if_neg h, if_pos h2, if_neg h3]

theorem val_next (g : Nat → Int) (k : Nat) : val g (k + 1) = val g k + g k % 128 * 128 ^ k := rfl
theorem split_pow (m k : Nat) : ((m : Int) % 128) * 128 ^ k + ((m / 128 : Nat) : Int) * 128 ^ (k + 1) = (m : Int) * 128 ^ k := by
  have e : (m : Int) = (m : Int) % 128 + ((m / 128 : Nat) : Int) * 128 := by omega
  have p : (128 : Int) ^ (k + 1) = 128 * 128 ^ k := by rw [Int.pow_succ, Int.mul_comm]
  rw [p, ← Int.mul_assoc, ← Int.add_mul, ← e]
/-- GetNum finds what PutNum wrote. -/
theorem getFrom_put (len at_ : Int) (g : Nat → Int) : ∀ (m fuel k : Nat), (∀ j, j < (put m).length → g (k + j) = (put m).getD j 0) → (put m).length ≤ fuel → 0 ≤ at_ → at_ + k + (put m).length ≤ len → (k = 0 ∨ 1 ≤ m) → val g k + m * 128 ^ k ≤ 2147483647 →
    getFrom len at_ g fuel k = some (val g k + m * 128 ^ k, at_ + k + (put m).length) := by
  intro m
  induction m using Nat.strongRecOn with
  | ind m ih =>
    intro fuel k hg hf ha hl hk hs
    by_cases hm : m ≤ 127
    · rw [put_lo hm] at hg hf hl ⊢
      have g0 : g k = m := by simpa using hg 0 (by simp)
      obtain ⟨f, rfl⟩ : ∃ f, fuel = f + 1 := ⟨fuel - 1, by simp at hf; omega⟩
      have hv : val g (k + 1) = val g k + m * 128 ^ k := by rw [val_next, g0, show (m : Int) % 128 = m by omega]
      have hl' : at_ + k + 1 ≤ len := by simpa using hl
      rw [getFrom_ok (by omega) (by rw [g0]; omega) (by rw [hv, g0]; omega), hv]
      simp
    · rw [put_hi hm] at hg hf hl ⊢
      have g0 : g k = (m : Int) % 128 + 128 := by simpa using hg 0 (by simp)
      obtain ⟨f, rfl⟩ : ∃ f, fuel = f + 1 := ⟨fuel - 1, by simp at hf; omega⟩
      have hv : val g (k + 1) = val g k + (m : Int) % 128 * 128 ^ k := by rw [val_next, g0, show ((m : Int) % 128 + 128) % 128 = (m : Int) % 128 by omega]
      have hsp := split_pow m k
      have hl' : at_ + (k + 1 : Nat) + ((put (m / 128)).length : Nat) ≤ len := by simp at hl ⊢; omega
      have hp1 := (put_len (m / 128)).1
      rw [getFrom_next (by omega) (by rw [g0]; omega), ih (m / 128) (by omega) f (k + 1) (fun j hj => by
        have := hg (j + 1) (by simp; omega)
        rw [show k + 1 + j = k + (j + 1) by omega, this]
        simp) (by simp at hf; omega) ha hl' (.inr (by omega)) (by rw [hv]; omega)]
      rw [hv]
      congr 2
      · omega
      · simp; omega
/-- What GetNum found: where it stopped, and why. -/
theorem getFrom_some {len at_ : Int} {g : Nat → Int} {z s : Int} : ∀ (fuel k : Nat), getFrom len at_ g fuel k = some (z, s) →
    ∃ q, k ≤ q ∧ q < k + fuel ∧ (∀ j, k ≤ j → j < q → 128 ≤ g j) ∧ g q < 128 ∧ ¬ ((0 < q ∧ g q = 0) ∨ 2147483647 < val g (q + 1)) ∧ 0 ≤ at_ ∧ at_ + q < len ∧ z = val g (q + 1) ∧ s = at_ + q + 1
  | 0, k, h => by cases h
  | fuel + 1, k, h => by
    rw [getFrom] at h
    split at h
    · cases h
    · split at h
      · split at h
        · cases h
        · next h1 h2 h3 =>
          have h4 := Option.some.inj h
          rw [Prod.mk.injEq] at h4
          exact ⟨k, Nat.le_refl _, by omega, fun j a b => by omega, h2, h3, by omega, by omega, h4.1.symm, h4.2.symm⟩
      · next h1 h2 =>
        obtain ⟨q, a1, a2, a3, a4, a5, a6, a7, a8, a9⟩ := getFrom_some fuel (k + 1) h
        refine ⟨q, by omega, by omega, fun j b1 b2 => ?_, a4, a5, a6, a7, a8, a9⟩
        by_cases e : j = k
        · subst e; omega
        · exact a3 j (by omega) b2
theorem val_shift (g : Nat → Int) (k : Nat) : val g (k + 1) = g 0 % 128 + 128 * val (fun i => g (i + 1)) k := by
  induction k with
  | zero => simp [val]
  | succ k ih =>
    have p : (128 : Int) ^ (k + 1) = 128 * 128 ^ k := by rw [Int.pow_succ, Int.mul_comm]
    rw [val_next g (k + 1), ih, val_next (fun i => g (i + 1)) k, p, Int.mul_add, ← Int.mul_assoc 128, Int.mul_comm 128 (g (k + 1) % 128), Int.mul_assoc, Int.add_assoc]
/-- PutNum writes what GetNum read. -/
theorem put_val : ∀ (k : Nat) (g : Nat → Int), (∀ j, 0 ≤ g j ∧ g j ≤ 255) → (∀ j, j < k → 128 ≤ g j) → g k < 128 → (0 < k → g k ≠ 0) → put (val g (k + 1)).toNat = (List.range (k + 1)).map g
  | 0, g, hb, _, h1, _ => by
    have e : val g (0 + 1) = g 0 := by simp [val]; have := hb 0; omega
    have := hb 0
    rw [e, put_lo (by omega)]
    simp
    omega
  | k + 1, g, hb, h0, h1, h2 => by
    have ih := put_val k (fun i => g (i + 1)) (fun j => hb (j + 1)) (fun j hj => h0 (j + 1) (by omega)) h1 (fun _ => h2 (by omega))
    have hv := val_shift g (k + 1)
    have g0 := h0 0 (by omega)
    have g1 := hb 0
    have hbd := val_bd (fun i => g (i + 1)) (k + 1)
    have hlen : 1 ≤ val (fun i => g (i + 1)) (k + 1) := by
      have hz : (val (fun i => g (i + 1)) (k + 1)).toNat ≠ 0 := by
        intro e
        rw [e, put_lo (by omega), List.range_succ, List.map_append] at ih
        have hk : k = 0 := by have := congrArg List.length ih; simp at this; omega
        subst hk
        simp at ih
        exact h2 (by omega) ih.symm
      omega
    have hm : ¬ (val g (k + 1 + 1)).toNat ≤ 127 := by omega
    rw [put_hi hm, List.range_succ_eq_map, List.map_cons, List.map_map]
    congr 1
    · omega
    · have e : (val g (k + 1 + 1)).toNat / 128 = (val (fun i => g (i + 1)) (k + 1)).toNat := by omega
      rw [e, ih]
      rfl

end Go.Proofs.YthgcbihhdbpbdaaGreatDoor
namespace Go.Proofs.YthgcbihhdbpbdaaGreatDoor
open Go.ChangeShapes Go.WideShapes Go.ChangeAt Go.RowKit
open Go.ChangeMaps (open_string shut_string)
set_option linter.unusedVariables false
set_option maxRecDepth 100000

/-- A small byte is a number of its own. -/
theorem get_small {len at_ : Int} {g : Nat → Int} (h0 : 0 ≤ at_) (h1 : at_ < len) (g0 : 0 ≤ g 0) (g1 : g 0 < 128) : getFrom len at_ g 5 0 = some (g 0, at_ + 1) := by
  have hv : val g (0 + 1) = g 0 := by simp [val]; omega
  rw [getFrom, if_neg (by simp; omega), if_pos g1, if_neg (by rw [hv]; simp; omega), hv]
  simp
theorem get_out {len at_ : Int} {g : Nat → Int} (h : at_ < 0 ∨ len ≤ at_) : getFrom len at_ g 5 0 = none := by
  rw [getFrom, if_pos (by simp; omega)]
/-- What is read as a number below 128 is one byte. -/
theorem get_byte {len at_ n s : Int} {g : Nat → Int} (hg : ∀ j, 0 ≤ g j) (h : getFrom len at_ g 5 0 = some (n, s)) (hn : n < 128) : n = g 0 ∧ s = at_ + 1 ∧ 0 ≤ at_ ∧ at_ < len ∧ 0 ≤ n := by
  obtain ⟨q, _, _, _, q1, q2, q3, q4, rfl, rfl⟩ := getFrom_some _ _ h
  cases q with
  | zero =>
    have := hg 0
    refine ⟨by simp [val]; omega, by simp, q3, by simpa using q4, (val_bd _ _).1⟩
  | succ q =>
    exfalso
    rw [val_next] at hn
    have hb := (val_bd g (q + 1)).1
    have hz : g (q + 1) ≠ 0 := fun e => q2 (.inl ⟨by omega, e⟩)
    have := hg (q + 1)
    have hm : g (q + 1) % 128 = g (q + 1) := by omega
    rw [hm] at hn
    have hp : (128 : Int) ≤ 128 ^ (q + 1) := by
      have : (0 : Int) < 128 ^ q := Int.pow_pos (by decide)
      rw [Int.pow_succ]; omega
    have : (1 : Int) * 128 ^ (q + 1) ≤ g (q + 1) * 128 ^ (q + 1) := Int.mul_le_mul_of_nonneg_right (by omega) (by omega)
    omega
/-- The numbers of an In, as they are written. -/
def inN (x : Ik) : List Int :=
  if x.k = 1 then [x.k, x.q, x.r, x.c, x.b, x.p, x.h] else if x.k = 3 then [x.k, x.q, if x.up then 1 else 0] else [x.k, x.q]
/-- InBytes. -/
def inBy (x : Ik) : List Int := if inOk x = true then inN x ++ low4 (sumL (inN x)) else []
def Ik.nil : Ik := ⟨0, 0, 0, 0, 0, 0, 0, false⟩
/-- The only In that can begin with these numbers. -/
def inC (g : Nat → Int) : Ik :=
  if g 0 = 1 then ⟨1, g 1, g 2, g 3, g 4, g 5, g 6, false⟩ else if g 0 = 3 then ⟨3, g 1, 0, 0, 0, 0, 0, decide (g 2 = 1)⟩ else ⟨g 0, g 1, 0, 0, 0, 0, 0, false⟩
theorem inOk_N {x : Ik} (h : inOk x = true) : ∀ y ∈ inN x, 0 ≤ y ∧ y < 128 := by
  obtain ⟨k, q, r, c, b, p, hh, up⟩ := x
  unfold inOk at h
  unfold inN
  simp only [vOk] at h ⊢
  by_cases h1 : k = 1
  · simp only [h1, if_pos, Bool.and_eq_true, decide_eq_true_eq] at h ⊢
    obtain ⟨a, v, e, _⟩ := h
    simp
    omega
  · simp only [h1, if_false] at h ⊢
    by_cases h3 : k = 3
    · simp only [h3, if_pos, Bool.and_eq_true, decide_eq_true_eq] at h ⊢
      simp
      refine ⟨by omega, ?_⟩
      split <;> omega
    · simp only [h3, if_false] at h ⊢
      split at h
      · next h2 => have := h; simp at this; simp; omega
      · cases h
theorem inOk_ne {x : Ik} (h : inOk x = true) : 6 ≤ (inBy x).length ∧ (inBy x).length ≤ 11 := by
  unfold inBy
  rw [if_pos h]
  simp only [List.length_append, low4, List.length_cons, List.length_nil]
  unfold inN
  (repeat' split) <;> simp
/-- An In is told by its numbers. -/
theorem inC_N {x : Ik} (h : inOk x = true) {g : Nat → Int} (hg : ∀ j, j < (inN x).length → g j = (inN x).getD j 0) : inC g = x := by
  obtain ⟨k, q, r, c, b, p, hh, up⟩ := x
  unfold inOk at h
  unfold inN at hg
  simp only [vOk] at h hg
  unfold inC
  by_cases h1 : k = 1
  · simp only [h1, if_pos, Bool.and_eq_true, decide_eq_true_eq] at h hg
    have e0 := hg 0 (by simp); have e1 := hg 1 (by simp); have e2 := hg 2 (by simp); have e3 := hg 3 (by simp); have e4 := hg 4 (by simp); have e5 := hg 5 (by simp); have e6 := hg 6 (by simp)
    simp at e0 e1 e2 e3 e4 e5 e6
    rw [if_pos e0, e1, e2, e3, e4, e5, e6, h1]
    have := h.2.2.2
    simp at this
    rw [this]
  · simp only [h1, if_false] at h hg
    by_cases h3 : k = 3
    · simp only [h3, if_pos, Bool.and_eq_true, decide_eq_true_eq] at h hg
      have e0 := hg 0 (by simp); have e1 := hg 1 (by simp); have e2 := hg 2 (by simp)
      simp at e0 e1 e2
      rw [if_neg (by omega), if_pos e0, e1, e2, h3]
      have hz := h.2.2
      simp at hz
      obtain ⟨z1, z2, z3, z4⟩ := h.2.1
      subst z1 z2 z3 z4 hz
      cases up <;> simp
    · simp only [h3, if_false] at h hg
      have e0 := hg 0 (by simp); have e1 := hg 1 (by simp)
      simp at e0 e1
      split at h
      · simp at h
        obtain ⟨z0, z1, z2, z3, z4, z5, z6⟩ := h
        subst z1 z2 z3 z4 z5 z6
        rw [if_neg (by omega), if_neg (by omega), e0, e1]
      · cases h
/-- InOf. -/
def inAt (L : List Int) (a : Int) : Option (Ik × Int) :=
  let x := inC fun j => L.getD (a.toNat + j) 0
  if 0 ≤ a ∧ inBy x ≠ [] ∧ a + (inBy x).length ≤ L.length ∧ (L.drop a.toNat).take (inBy x).length = inBy x then some (x, a + (inBy x).length) else none
theorem inAt_yes {L : List Int} {a : Int} {x : Ik} (h : inOk x = true) (h0 : 0 ≤ a) (h1 : a + (inBy x).length ≤ L.length) (h2 : (L.drop a.toNat).take (inBy x).length = inBy x) : inAt L a = some (x, a + (inBy x).length) := by
  have hx : inC (fun j => L.getD (a.toNat + j) 0) = x := by
    apply inC_N h
    intro j hj
    have hb : inBy x = inN x ++ low4 (sumL (inN x)) := by unfold inBy; rw [if_pos h]
    have hl : (inN x).length ≤ (inBy x).length := by rw [hb]; simp
    have e : (inBy x).getD j 0 = (inN x).getD j 0 := by rw [hb]; simp [List.getD, List.getElem?_append_left hj]
    rw [← e, ← h2]
    simp only [List.getD, List.getElem?_take, List.getElem?_drop]
    rw [if_pos (by omega)]
  unfold inAt
  have hn : inBy x ≠ [] := fun e => by have := inOk_ne h; rw [e] at this; simp at this
  simp only [hx]
  rw [if_pos ⟨h0, hn, h1, h2⟩]
theorem inAt_some {L : List Int} {a s : Int} {x : Ik} (h : inAt L a = some (x, s)) : inOk x = true ∧ 0 ≤ a ∧ s = a + (inBy x).length ∧ a + (inBy x).length ≤ L.length ∧ (L.drop a.toNat).take (inBy x).length = inBy x := by
  unfold inAt at h
  simp only at h
  split at h
  · next c =>
    have e := Option.some.inj h
    rw [Prod.mk.injEq] at e
    obtain ⟨e1, e2⟩ := e
    rw [e1] at c e2
    refine ⟨?_, c.1, e2.symm, c.2.2.1, c.2.2.2⟩
    by_cases k : inOk x = true
    · exact k
    · exact absurd (by unfold inBy; rw [if_neg k]) c.2.1
  · cases h
/-- AllBytes, AllOf. -/
def allB (A : List Ik) : List Int := (A.map inBy).flatten
def allF (L : List Int) : Nat → Int → List Ik × Int
  | 0, a => ([], a)
  | f + 1, a => match inAt L a with
    | none => ([], a)
    | some (x, s) => (x :: (allF L f s).1, (allF L f s).2)
/-- What AllOf read, written again, is what was there. -/
theorem allF_back (L : List Int) : ∀ (f : Nat) (a : Int), 0 ≤ a → a ≤ L.length → a ≤ (allF L f a).2 ∧ (allF L f a).2 ≤ L.length ∧ allB (allF L f a).1 = (L.drop a.toNat).take ((allF L f a).2 - a).toNat ∧ ∀ x ∈ (allF L f a).1, inOk x = true
  | 0, a, h0, h1 => by simp [allF, allB]; omega
  | f + 1, a, h0, h1 => by
    rw [allF]
    cases hx : inAt L a with
    | none => simp [allB]; omega
    | some y =>
      obtain ⟨x, s⟩ := y
      obtain ⟨x0, x1, x2, x3, x4⟩ := inAt_some hx
      obtain ⟨i1, i2, i3, i4⟩ := allF_back L f s (by omega) (by omega)
      refine ⟨by simp; omega, i2, ?_, ?_⟩
      · simp only [allB, List.map_cons, List.flatten_cons]
        rw [show (List.map inBy (allF L f s).1).flatten = allB (allF L f s).1 from rfl, i3, ← x4]
        generalize (allF L f s).2 = e at *
        have hl : (List.take (inBy x).length (List.drop a.toNat L)).length = (inBy x).length := by rw [x4]
        rw [x4]
        generalize hB : inBy x = B at *
        have hs : s.toNat = a.toNat + B.length := by omega
        rw [hs, ← List.drop_drop, show (e - a).toNat = B.length + (e - s).toNat by omega, List.take_add, x4]
      · intro z hz
        simp at hz
        rcases hz with rfl | hz
        · exact x0
        · exact i4 z hz
/-- What AllBytes wrote is read as it was. -/
theorem allF_all : ∀ (A : List Ik) (P : List Int) (f : Nat), (∀ x ∈ A, inOk x = true) → A.length < f → allF (P ++ allB A) f P.length = (A, ((P ++ allB A).length : Int))
  | [], P, f, h, hf => by
    obtain ⟨f, rfl⟩ : ∃ k, f = k + 1 := ⟨f - 1, by simp at hf; omega⟩
    rw [allF]
    cases hx : inAt (P ++ allB []) (P.length : Int) with
    | none => simp [allB]
    | some y =>
      obtain ⟨x, s⟩ := y
      obtain ⟨x0, x1, x2, x3, x4⟩ := inAt_some hx
      have := (inOk_ne x0).1
      simp [allB] at x3
      omega
  | x :: A, P, f, h, hf => by
    obtain ⟨f, rfl⟩ : ∃ k, f = k + 1 := ⟨f - 1, by simp at hf; omega⟩
    have hc : P ++ allB (x :: A) = (P ++ inBy x) ++ allB A := by simp [allB]
    have hx : inAt (P ++ allB (x :: A)) (P.length : Int) = some (x, ((P ++ inBy x).length : Int)) := by
      rw [inAt_yes (h x (by simp)) (by omega) (by rw [hc]; simp; omega) (by rw [hc]; simp)]
      simp
    rw [allF, hx]
    simp only
    rw [hc, allF_all A (P ++ inBy x) f (fun y hy => h y (by simp [hy])) (by simp at hf; omega)]
/-- One number more, behind a cursor. -/
def rdN (L : List Int) (c : Int × Bool) : Int × (Int × Bool) :=
  match getFrom L.length c.1 (fun i => L.getD (c.1.toNat + i) 0) 5 0 with
  | none => (0, (c.1, false))
  | some (n, s) => if c.2 then (n, (s, true)) else (0, (c.1, false))
theorem rdN_bad (L : List Int) (a : Int) : rdN L (a, false) = (0, (a, false)) := by
  unfold rdN
  split <;> simp
theorem rdN_small {L : List Int} {a : Int} {v : Int} (h0 : 0 ≤ a) (h1 : a < L.length) (hv : L.getD a.toNat 0 = v) (v0 : 0 ≤ v) (v1 : v < 128) : rdN L (a, true) = (v, (a + 1, true)) := by
  unfold rdN
  rw [get_small h0 h1 (by simp only [Nat.add_zero]; rw [hv]; exact v0) (by simp only [Nat.add_zero]; rw [hv]; exact v1)]
  simp only [Nat.add_zero, if_pos, hv]
theorem rdN_out {L : List Int} {a : Int} {o : Bool} (h : a < 0) : rdN L (a, o) = (0, (a, false)) := by
  unfold rdN
  rw [get_out (.inl h)]
/-- The specification's way: numbers one behind the other. -/
def runN (L : List Int) (a : Int) : Ik × Bool :=
  let k := rdN L (a, true)
  let q := rdN L k.2
  if k.1 = 1 then
    let r := rdN L q.2
    let c := rdN L r.2
    let b := rdN L c.2
    let p := rdN L b.2
    let h := rdN L p.2
    (⟨k.1, q.1, r.1, c.1, b.1, p.1, h.1, false⟩, h.2.2)
  else if k.1 = 3 then
    let u := rdN L q.2
    (⟨k.1, q.1, 0, 0, 0, 0, 0, decide (u.1 = 1)⟩, u.2.2)
  else (⟨k.1, q.1, 0, 0, 0, 0, 0, false⟩, q.2.2)
theorem runN_of {L : List Int} {a : Int} {x : Ik} (h : inOk x = true) (h0 : 0 ≤ a) (h1 : a + (inBy x).length ≤ L.length) (h2 : (L.drop a.toNat).take (inBy x).length = inBy x) : runN L a = (x, true) := by
  have hb : inBy x = inN x ++ low4 (sumL (inN x)) := by unfold inBy; rw [if_pos h]
  have hl : (inBy x).length = (inN x).length + 4 := by rw [hb]; simp [low4]
  have hbd := inOk_N h
  have rd : ∀ j : Nat, j < (inN x).length → rdN L (a + j, true) = ((inN x).getD j 0, (a + (j + 1 : Nat), true)) := by
    intro j hj
    have e : (inBy x).getD j 0 = (inN x).getD j 0 := by rw [hb]; simp [List.getD, List.getElem?_append_left hj]
    have hd : L.getD (a + (j : Int)).toNat 0 = (inN x).getD j 0 := by
      rw [← e, ← h2, show (a + (j : Int)).toNat = a.toNat + j by omega]
      simp only [List.getD, List.getElem?_take, List.getElem?_drop]
      rw [if_pos (by omega)]
    have hm : (inN x).getD j 0 ∈ inN x := by
      simp only [List.getD, List.getElem?_eq_getElem hj, Option.getD_some]
      exact List.getElem_mem hj
    rw [rdN_small (by omega) (by omega) hd (hbd _ hm).1 (hbd _ hm).2]
    congr 2
    omega
  obtain ⟨k, q, r, c, b, p, hh, up⟩ := x
  unfold inOk at h
  unfold inN at rd
  unfold runN
  simp only at rd ⊢
  by_cases k1 : k = 1
  · simp only [k1, if_pos, Bool.and_eq_true, decide_eq_true_eq] at h rd
    have r0 := rd 0 (by simp); have r1 := rd 1 (by simp); have r2 := rd 2 (by simp); have r3 := rd 3 (by simp); have r4 := rd 4 (by simp); have r5 := rd 5 (by simp); have r6 := rd 6 (by simp)
    simp at r0 r1 r2 r3 r4 r5 r6
    simp only [r0, r1, r2, r3, r4, r5, r6, if_pos, k1]
    have := h.2.2.2
    simp at this
    rw [this]
  · simp only [k1, if_false] at h rd
    by_cases k3 : k = 3
    · simp only [k3, if_pos, Bool.and_eq_true, decide_eq_true_eq] at h rd
      have r0 := rd 0 (by simp); have r1 := rd 1 (by simp); have r2 := rd 2 (by simp)
      simp at r0 r1 r2
      obtain ⟨z1, z2, z3, z4⟩ := h.2.1
      have z5 := h.2.2
      simp at z5
      subst z1 z2 z3 z4 z5
      simp only [r0, r1, r2, k3]
      cases up <;> simp
    · simp only [k3, if_false] at h rd
      have r0 := rd 0 (by simp); have r1 := rd 1 (by simp)
      simp at r0 r1
      split at h
      · simp at h
        obtain ⟨z0, z1, z2, z3, z4, z5, z6⟩ := h
        subst z1 z2 z3 z4 z5 z6
        simp only [r0, r1, k1, k3, if_false]
      · cases h
theorem runN_out {L : List Int} {a : Int} (h : a < 0) : (runN L a).2 = false := by
  unfold runN
  simp only [rdN_out h]
  (repeat' split) <;> simp_all
/-- What the specification's InOf answers. -/
theorem run_inAt (L : List Int) (a : Int) : inAt L a = if (runN L a).2 = true ∧ inBy (runN L a).1 ≠ [] ∧ ((inBy (runN L a).1).length : Int) ≤ L.length - a ∧ (L.drop a.toNat).take (inBy (runN L a).1).length = inBy (runN L a).1 then some ((runN L a).1, a + (inBy (runN L a).1).length) else none := by
  split
  · next c =>
    obtain ⟨c1, c2, c3, c4⟩ := c
    have h0 : 0 ≤ a := by
      by_cases h : 0 ≤ a
      · exact h
      · rw [runN_out (by omega)] at c1; cases c1
    have hk : inOk (runN L a).1 = true := by
      by_cases k : inOk (runN L a).1 = true
      · exact k
      · exact absurd (by unfold inBy; rw [if_neg k]) c2
    exact inAt_yes hk h0 (by omega) c4
  · next c =>
    cases hx : inAt L a with
    | none => rfl
    | some y =>
      obtain ⟨x, s⟩ := y
      obtain ⟨x0, x1, x2, x3, x4⟩ := inAt_some hx
      have e := runN_of x0 x1 x3 x4
      rw [e] at c
      simp only at c
      have hn : inBy x ≠ [] := fun e => by have := inOk_ne x0; rw [e] at this; simp at this
      exact absurd ⟨trivial, hn, by omega, x4⟩ c
/-- From a place on; no fuel is lacking. -/
def allG (L : List Int) (a : Int) : List Ik × Int := allF L (L.length + 1) a
theorem allF_any (L : List Int) : ∀ (f g : Nat) (a : Int), 0 ≤ a → (L.length : Int) - a < f → (L.length : Int) - a < g → a ≤ L.length → allF L f a = allF L g a
  | 0, g, a, h0, h1, h2, h3 => by omega
  | f + 1, 0, a, h0, h1, h2, h3 => by omega
  | f + 1, g + 1, a, h0, h1, h2, h3 => by
    rw [allF, allF]
    cases hx : inAt L a with
    | none => rfl
    | some y =>
      obtain ⟨x, s⟩ := y
      obtain ⟨x0, x1, x2, x3, x4⟩ := inAt_some hx
      have := (inOk_ne x0).1
      simp only
      rw [allF_any L f g s (by omega) (by omega) (by omega) (by omega)]
theorem allG_none {L : List Int} {a : Int} (h : inAt L a = none) : allG L a = ([], a) := by
  rw [allG, allF, h]
theorem allG_some {L : List Int} {a s : Int} {x : Ik} (h : inAt L a = some (x, s)) : allG L a = (x :: (allG L s).1, (allG L s).2) ∧ a + 6 ≤ s ∧ 0 ≤ a ∧ s ≤ L.length := by
  obtain ⟨x0, x1, x2, x3, x4⟩ := inAt_some h
  have := (inOk_ne x0).1
  refine ⟨?_, by omega, by omega, by omega⟩
  rw [allG, allF, h]
  simp only
  rw [allF_any L L.length (L.length + 1) s (by omega) (by omega) (by omega) (by omega), allG]
theorem allG_back (L : List Int) : 0 ≤ (allG L 0).2 ∧ (allG L 0).2 ≤ L.length ∧ allB (allG L 0).1 = L.take (allG L 0).2.toNat ∧ ∀ x ∈ (allG L 0).1, inOk x = true := by
  have := allF_back L (L.length + 1) 0 (by omega) (by omega)
  simpa [allG] using this
theorem allB_long {A : List Ik} (h : ∀ x ∈ A, inOk x = true) : 6 * A.length ≤ (allB A).length := by
  induction A with
  | nil => simp
  | cons x A ih =>
    have h1 := (inOk_ne (h x (by simp))).1
    have h2 := ih fun y hy => h y (by simp [hy])
    simp only [allB, List.map_cons, List.flatten_cons, List.length_append, List.length_cons] at h2 ⊢
    omega
theorem allG_all {A : List Ik} (h : ∀ x ∈ A, inOk x = true) : allG (allB A) 0 = (A, ((allB A).length : Int)) := by
  have h1 := allB_long h
  have := allF_all A [] ((allB A).length + 1) h (by omega)
  simpa [allG] using this
theorem inAt_inB {x : Ik} (h : inOk x = true) : inAt (inBy x) 0 = some (x, ((inBy x).length : Int)) := by
  rw [inAt_yes h (by omega) (by omega) (by simp)]
  simp

end Go.Proofs.YthgcbihhdbpbdaaGreatDoor
namespace Go.Proofs.YthgcbihhdbpbdaaGreatDoor
open Go.ChangeShapes Go.WideShapes Go.ChangeAt Go.RowKit
open Go.ChangeMaps (open_string shut_string)
set_option linter.unusedVariables false
set_option maxRecDepth 100000

/-- One number at a place. -/
def numAtL (L : List Int) (a : Int) : Option (Int × Int) := getFrom L.length a (fun i => L.getD (a.toNat + i) 0) 5 0
/-- So many numbers, one behind the other. -/
def rdAll (L : List Int) : Nat → Int → Option (List Int × Int)
  | 0, a => some ([], a)
  | c + 1, a => match numAtL L a with
    | none => none
    | some (n, s) => match rdAll L c s with
      | none => none
      | some (M, e) => some (n :: M, e)
/-- How many numbers are written of a kind. -/
def cntK (k : Int) : Nat := if k = 1 then 7 else if k = 3 then 3 else 2
theorem cntK_inN (k q r c b p h : Int) (up : Bool) : (inN ⟨k, q, r, c, b, p, h, up⟩).length = cntK k := by
  unfold inN cntK
  simp only
  split
  · rfl
  · split <;> rfl
def kindAt (L : List Int) (a : Int) : Int := match numAtL L a with | none => 0 | some (n, _) => n
/-- What impl.inAt finds. -/
def implAt (L : List Int) (a : Int) : Option (Ik × Int) :=
  match rdAll L (cntK (kindAt L a)) a with
  | none => none
  | some (M, e) => if e + 4 ≤ L.length ∧ inBy (inC fun j => M.getD j 0) = (L.drop a.toNat).take (e + 4 - a).toNat then some (inC fun j => M.getD j 0, e + 4) else none
theorem numAtL_some {L : List Int} {a n s : Int} (h : numAtL L a = some (n, s)) : 0 ≤ a ∧ a < s ∧ s ≤ L.length := by
  obtain ⟨q, _, _, _, q1, q2, q3, q4, _, rfl⟩ := getFrom_some _ _ h
  omega
theorem rdAll_some {L : List Int} : ∀ {c : Nat} {a : Int} {M : List Int} {e : Int}, rdAll L c a = some (M, e) → M.length = c ∧ a + c ≤ e ∧ (0 < c → 0 ≤ a ∧ e ≤ L.length)
  | 0, a, M, e, h => by
    simp [rdAll] at h
    obtain ⟨rfl, rfl⟩ := h
    simp
  | c + 1, a, M, e, h => by
    rw [rdAll] at h
    split at h
    · cases h
    · next n s hs =>
      obtain ⟨s0, s1, s2⟩ := numAtL_some hs
      split at h
      · cases h
      · next M' e' hr =>
        simp only [Option.some.injEq, Prod.mk.injEq] at h
        obtain ⟨rfl, rfl⟩ := h
        obtain ⟨r1, r2, r3⟩ := rdAll_some hr
        refine ⟨by simp [r1], by push_cast; omega, fun _ => ⟨s0, ?_⟩⟩
        cases c with
        | zero => simp [rdAll] at hr; omega
        | succ c => exact (r3 (by omega)).2
theorem rdAll_head {L : List Int} {c : Nat} {a : Int} {M : List Int} {e : Int} (h : rdAll L (c + 1) a = some (M, e)) : M.getD 0 0 = kindAt L a := by
  rw [rdAll] at h
  unfold kindAt
  split at h
  · cases h
  · next n s hs =>
    split at h
    · cases h
    · simp only [Option.some.injEq, Prod.mk.injEq] at h
      obtain ⟨rfl, rfl⟩ := h
      rfl
theorem inC_ok (M : List Int) : (inC fun j => M.getD j 0).k = M.getD 0 0 := by
  unfold inC
  split
  · next h => exact h.symm
  · split
    · next h => exact h.symm
    · rfl
theorem numAt_small {L : List Int} {a v : Int} (h0 : 0 ≤ a) (h1 : a < L.length) (hv : L.getD a.toNat 0 = v) (v0 : 0 ≤ v) (v1 : v < 128) : numAtL L a = some (v, a + 1) := by
  unfold numAtL
  rw [get_small h0 h1 (by simp only [Nat.add_zero]; rw [hv]; exact v0) (by simp only [Nat.add_zero]; rw [hv]; exact v1)]
  simp only [Nat.add_zero, hv]
/-- Small numbers, one byte each, are read as they stand. -/
theorem rdAll_small {L : List Int} : ∀ (N : List Int) (a : Int), 0 ≤ a → a + N.length ≤ L.length → (∀ j, j < N.length → L.getD (a.toNat + j) 0 = N.getD j 0) → (∀ y ∈ N, 0 ≤ y ∧ y < 128) → rdAll L N.length a = some (N, a + N.length)
  | [], a, _, _, _, _ => by simp [rdAll]
  | n :: N, a, h0, h1, h2, h3 => by
    simp only [List.length_cons] at h1 h2 ⊢
    have hn := h3 n (by simp)
    have e0 := h2 0 (by omega)
    simp only [Nat.add_zero, List.getD_cons_zero] at e0
    rw [rdAll, numAt_small h0 (by omega) e0 hn.1 hn.2]
    simp only
    rw [rdAll_small N (a + 1) (by omega) (by omega) (fun j hj => by
      have := h2 (j + 1) (by omega)
      simp only [List.getD_cons_succ] at this
      rw [← this]
      congr 1
      omega) (fun y hy => h3 y (by simp [hy]))]
    simp only [Option.some.injEq, Prod.mk.injEq, true_and]
    omega
theorem implAt_eq (L : List Int) (a : Int) : implAt L a = inAt L a := by
  cases hx : inAt L a with
  | some y =>
    obtain ⟨x, s⟩ := y
    obtain ⟨x0, x1, x2, x3, x4⟩ := inAt_some hx
    have hb : inBy x = inN x ++ low4 (sumL (inN x)) := by unfold inBy; rw [if_pos x0]
    have hl : (inBy x).length = (inN x).length + 4 := by rw [hb]; simp [low4]
    have hg : ∀ j, j < (inN x).length → L.getD (a.toNat + j) 0 = (inN x).getD j 0 := by
      intro j hj
      have e : (inBy x).getD j 0 = (inN x).getD j 0 := by rw [hb]; simp [List.getD, List.getElem?_append_left hj]
      rw [← e, ← x4]
      simp only [List.getD, List.getElem?_take, List.getElem?_drop]
      rw [if_pos (by omega)]
    have hr := rdAll_small (L := L) (inN x) a x1 (by omega) hg (inOk_N x0)
    have hk : kindAt L a = x.k := by
      have h2 : (inN x).getD 0 0 = x.k := by unfold inN; (repeat' split) <;> rfl
      have h3 : 0 < (inN x).length := by unfold inN; (repeat' split) <;> simp
      obtain ⟨c, hc⟩ : ∃ c, (inN x).length = c + 1 := ⟨(inN x).length - 1, by omega⟩
      rw [hc] at hr
      rw [← h2, rdAll_head hr]
    have hc : (inN x).length = cntK x.k := by
      obtain ⟨k, q, r, c, b, p, h, up⟩ := x
      exact cntK_inN k q r c b p h up
    unfold implAt
    rw [hk, ← hc, hr]
    simp only
    have hC : inC (fun j => (inN x).getD j 0) = x := inC_N x0 (fun j _ => rfl)
    rw [hC, if_pos ⟨by omega, by rw [← x4]; congr 1; omega⟩]
    simp only [Option.some.injEq, Prod.mk.injEq, true_and]
    omega
  | none =>
    unfold implAt
    split
    · rfl
    · next M e hr =>
      split
      · next c =>
        exfalso
        obtain ⟨c1, c2⟩ := c
        obtain ⟨r1, r2, r3⟩ := rdAll_some hr
        have hp : 2 ≤ cntK (kindAt L a) := by unfold cntK; (repeat' split) <;> omega
        obtain ⟨r4, r5⟩ := r3 (by omega)
        have hlen : (inBy (inC fun j => M.getD j 0)).length = (e + 4 - a).toNat := by
          rw [c2, List.length_take, List.length_drop]
          omega
        have hk : inOk (inC fun j => M.getD j 0) = true := by
          by_cases k : inOk (inC fun j => M.getD j 0) = true
          · exact k
          · have : inBy (inC fun j => M.getD j 0) = [] := by unfold inBy; rw [if_neg k]
            rw [this] at hlen
            simp at hlen
            omega
        rw [inAt_yes hk r4 (by omega) (by rw [hlen, c2])] at hx
        cases hx
      · rfl

end Go.Proofs.YthgcbihhdbpbdaaGreatDoor
namespace Go.Proofs.YthgcbihhdbpbdaaGreatDoor
open Go.ChangeShapes Go.WideShapes Go.ChangeAt Go.RowKit
open Go.ChangeMaps (open_string shut_string)
set_option linter.unusedVariables false
set_option maxRecDepth 100000

def ikEnc (x : Ik) : List Value := [.int .i64 x.k, .int .i64 x.q, .int .i64 x.r, .int .i64 x.c, .int .i64 x.b, .int .i64 x.p, .int .i64 x.h, .bool x.up]
theorem ikEnc_len (x : Ik) : (ikEnc x).length = 8 := rfl
theorem ikEnc_ones (L : List Ik) : ∀ u ∈ fcells ikEnc L, u.oneCell' = true := by
  induction L with
  | nil => intro u h; cases h
  | cons x L ih =>
    intro u h
    simp only [fcells, ikEnc, List.mem_append, List.mem_cons, List.not_mem_nil, or_false] at h
    rcases h with (rfl | rfl | rfl | rfl | rfl | rfl | rfl | rfl) | h
    · rfl
    · rfl
    · rfl
    · rfl
    · rfl
    · rfl
    · rfl
    · rfl
    · exact ih u h
/-- What its cells hold, in a world. -/
structure IkAtO (w : World) (b o : Nat) (x : Ik) : Prop where
  c0 : w.cell? ⟨b, o, none⟩ = some (.int .i64 x.k)
  c1 : w.cell? ⟨b, o + 1, none⟩ = some (.int .i64 x.q)
  c2 : w.cell? ⟨b, o + 2, none⟩ = some (.int .i64 x.r)
  c3 : w.cell? ⟨b, o + 3, none⟩ = some (.int .i64 x.c)
  c4 : w.cell? ⟨b, o + 4, none⟩ = some (.int .i64 x.b)
  c5 : w.cell? ⟨b, o + 5, none⟩ = some (.int .i64 x.p)
  c6 : w.cell? ⟨b, o + 6, none⟩ = some (.int .i64 x.h)
  c7 : w.cell? ⟨b, o + 7, none⟩ = some (.bool x.up)
theorem ikAtO_of {w : World} {b o : Nat} {x : Ik} (h : ∀ j v, (ikEnc x)[j]? = some v → w.cell? ⟨b, o + j, none⟩ = some v) : IkAtO w b o x := ⟨h 0 _ rfl, h 1 _ rfl, h 2 _ rfl, h 3 _ rfl, h 4 _ rfl, h 5 _ rfl, h 6 _ rfl, h 7 _ rfl⟩
theorem ikPut (w : World) (g o : Nat) (x : Ik) : putAll w g o (ikEnc x) = ((((((((w.setCell ⟨g, o, none⟩ (.int .i64 x.k)).setCell ⟨g, o + 1, none⟩ (.int .i64 x.q)).setCell ⟨g, o + 2, none⟩ (.int .i64 x.r)).setCell ⟨g, o + 3, none⟩ (.int .i64 x.c)).setCell ⟨g, o + 4, none⟩ (.int .i64 x.b)).setCell ⟨g, o + 5, none⟩ (.int .i64 x.p)).setCell ⟨g, o + 6, none⟩ (.int .i64 x.h)).setCell ⟨g, o + 7, none⟩ (.bool x.up)) := rfl
theorem IkAtO.below {w w' : World} {q o n : Nat} {x : Ik} (h : IkAtO w q o x) (k : Below n w w') (hq : q < n) : IkAtO w' q o x :=
  ⟨(World.cell?_of_block (a := ⟨q, o, none⟩) (k.block q hq)).trans h.c0, (World.cell?_of_block (a := ⟨q, o + 1, none⟩) (k.block q hq)).trans h.c1, (World.cell?_of_block (a := ⟨q, o + 2, none⟩) (k.block q hq)).trans h.c2, (World.cell?_of_block (a := ⟨q, o + 3, none⟩) (k.block q hq)).trans h.c3, (World.cell?_of_block (a := ⟨q, o + 4, none⟩) (k.block q hq)).trans h.c4, (World.cell?_of_block (a := ⟨q, o + 5, none⟩) (k.block q hq)).trans h.c5, (World.cell?_of_block (a := ⟨q, o + 6, none⟩) (k.block q hq)).trans h.c6, (World.cell?_of_block (a := ⟨q, o + 7, none⟩) (k.block q hq)).trans h.c7⟩
end Go.Proofs.YthgcbihhdbpbdaaGreatDoor
