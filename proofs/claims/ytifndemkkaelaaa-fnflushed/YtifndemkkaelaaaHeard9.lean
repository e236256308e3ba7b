/- What leaves the map. -/
import Derived.Test.YtifndemkkaelaaaRows
import Derived.WalkKit
import Derived.ProofKit
import Derived.OpenShut
import Derived.ShutString
import Derived.ChangeOld
import Derived.Below
import Derived.Deep.QuietTactic
import Derived.BigQuiet
import Derived.WalkSmall
import Derived.Laws.OwnMore
import Derived.WalkSpells
import Derived.Maps.RangeWalk
import Derived.Maps.OwnSet
import Derived.Test.YtifndemkkaelaaaHeard8
namespace Go.Proofs.Ytifndemkkaelaaa
open Go.ChangeShapes Go.WideShapes Go.ChangeAt Go.RowKit
open Go.ChangeMaps (open_string shut_string)
set_option linter.unusedVariables false

theorem below_grown {w w' : World} (b : Below w.heap.size w w') (row : Option Nat) : w.grownBy w' row := ⟨b.os, b.tape, b.output, b.size, fun k hk _ => b.block k hk⟩
theorem keyInv {k : Value} {kl : Lit} (e : keyOf Try.prog 3 k = some kl) : ∃ x : Int, k = Value.int .i64 x := by
  obtain ⟨x, rfl, _⟩ := Go.Maps.keyOf_int_inv Try.underlying3 e
  exact ⟨x, rfl⟩
theorem valInv {v : Value} {y : DataW Unit × List MemPlace} (e : hdR v = some y) : ∃ h : Hd, v = Value.agg #[.int .i64 h.a, .int .i64 h.v, .int .i64 h.p, .int .i64 h.l] := by
  obtain ⟨h, rfl, _⟩ := hdR_inv e
  exact ⟨h, rfl⟩
theorem keyIs {x : Int} {kl : Lit} (e : keyOf Try.prog 3 (Value.int .i64 x) = some kl) : (Lit.int .i64 x).wf = true ∧ kl = .int .i64 x := by
  obtain ⟨x', ex, rfl, hwx⟩ := Go.Maps.keyOf_int_inv Try.underlying3 e
  cases ex
  exact ⟨hwx, rfl⟩
/-- What came in the round is one of the list. -/
theorem Keeps.came {D : DataW Unit} {L : List Hd} {p : Nat → Prop} {x : Int} {h : Hd} {y : DataW Unit × List MemPlace} (hK : Keeps D L p) (hv : hdR (Value.agg #[.int .i64 h.a, .int .i64 h.v, .int .i64 h.p, .int .i64 h.l]) = some y) (hat : ∀ z, D.atKey (.int .i64 x) z = y.1) : ∃ i, i < L.length ∧ x = (i : Int) ∧ L.getD i Hd.nil = h := by
  have hy : y = (hdD h, []) := by
    have := hdR_mk h
    unfold Hd.agg at this
    rw [this] at hv
    cases hv
    rfl
  subst hy
  obtain ⟨i, hi, hp, e⟩ := (hK.1 _).1 (Go.Maps.has_true_of_atKey hat)
  have ex : x = (i : Int) := by unfold key at e; simpa using e
  subst ex
  exact ⟨i, hi, rfl, (hdD_inj ((hat (.map [])).symm.trans (hK.2 i hi hp (.map [])))).symm⟩
theorem same_key {i j : Nat} : (key i).sameKey (key j) = decide (i = j) := by
  by_cases e : i = j
  · subst e; simp [key, Lit.sameKey]
  · rw [Go.Maps.sameKey_ne (fun q => e (key_inj q))]; simp [e]
theorem Keeps.struck {D : DataW Unit} {L : List Hd} {g : Nat → Prop} {left : Lit → Bool} {i : Nat} (h : Keeps D L (fun j => g j ∨ left (key j) = true)) (hl : left (.int .i64 (i : Int)) = true) (hg : ¬ g i) : Keeps (D.del (.int .i64 (i : Int))) L (fun j => g j ∨ (left (key j) && !(key j).sameKey (.int .i64 (i : Int))) = true) := by
  have hk : (Lit.int .i64 (i : Int)) = key i := rfl
  rw [hk] at hl ⊢
  refine ⟨fun kl => ?_, fun j h1 h2 z => ?_⟩
  · by_cases e : kl = key i
    · subst e
      rw [Go.Maps.has_del_same]
      constructor
      · intro q; cases q
      · rintro ⟨j, h1, h2, h3⟩
        obtain rfl := key_inj h3
        have h2' : g i ∨ (left (key i) && !(key i).sameKey (key i)) = true := h2
        rw [same_key] at h2'
        simp [hg] at h2'
    · rw [Go.Maps.has_del_other e, h.1]
      constructor
      · rintro ⟨j, h1, h2, rfl⟩
        refine ⟨j, h1, ?_, rfl⟩
        have hne : j ≠ i := fun q => e (by rw [q])
        show g j ∨ (left (key j) && !(key j).sameKey (key i)) = true
        rw [same_key]
        simpa [hne] using h2
      · rintro ⟨j, h1, h2, rfl⟩
        refine ⟨j, h1, ?_, rfl⟩
        have hne : j ≠ i := fun q => e (by rw [q])
        have h2' : g j ∨ (left (key j) && !(key j).sameKey (key i)) = true := h2
        rw [same_key] at h2'
        simpa [hne] using h2'
  · have h2' : g j ∨ (left (key j) && !(key j).sameKey (key i)) = true := h2
    rw [same_key] at h2'
    have hne : j ≠ i := by
      rintro rfl
      simp [hg] at h2'
    rw [Go.Maps.atKey_del_other (fun q => hne (key_inj q))]
    exact h.2 j h1 (by simpa [hne] using h2') z
theorem Keeps.stays {D : DataW Unit} {L : List Hd} {g : Nat → Prop} {left : Lit → Bool} {i : Nat} (h : Keeps D L (fun j => g j ∨ left (key j) = true)) (hg : g i) : Keeps D L (fun j => g j ∨ (left (key j) && !(key j).sameKey (.int .i64 (i : Int))) = true) := by
  have hk : (Lit.int .i64 (i : Int)) = key i := rfl
  rw [hk]
  refine h.congr fun j hj => ?_
  rw [same_key]
  by_cases e : j = i
  · subst e; simp [hg]
  · simp [e]
def goneA (h : Hd) : Bool := decide (h.l ≤ 1)
def goneF (n : Int) (h : Hd) : Bool := h.p == n
theorem closF (h : Hd) (n : Int) (q : Nat) (w : World) (c : w.cell? ⟨q, 0, none⟩ = some (.int .i64 n)) : Calls Try.prog 31 #[.agg #[.int .i64 h.a, .int .i64 h.v, .int .i64 h.p, .int .i64 h.l], .pointer (some ⟨q, 0, none⟩)] w fun e w' => e = .returned (.bool (goneF n h)) ∧ Below w.heap.size w w' := by
  have hq : q < w.heap.size := World.block_lt_of_cell? w _ c
  have c1 : (w.alloc (Obj.cells #[.int .i64 h.a, .int .i64 h.v, .int .i64 h.p, .int .i64 h.l] 60)).cell? ⟨q, 0, none⟩ = some (.int .i64 n) := ((below_box w _).cell (p := ⟨q, 0, none⟩) hq).trans c
  go_enter Try.func31, Try.ntmps31
  go_wp2
  go_ret
  exact ⟨rfl, below_box w _⟩
set_option maxHeartbeats 2000000 in
theorem dropF (b n : Nat) (D0 : DataW Unit) (L : List Hd) (n0 : Int) (q0 : Nat) (w : World) (hown : w.ownsMap Try.prog 3 hdR b n D0) (hK0 : Keeps D0 L (fun _ => True)) (hq0 : q0 ≠ b) (hc0 : w.cell? ⟨q0, 0, none⟩ = some (.int .i64 n0)) :
    Calls Try.prog 30 #[.map (some b), .func (Fn.func 31) #[] #[.pointer (some ⟨q0, 0, none⟩)]] w fun e w' => e = .returned (.tuple #[]) ∧ ∃ D, w'.ownsMap Try.prog 3 hdR b n D ∧ Keeps D L (fun i => goneF n0 (L.getD i Hd.nil) = false) ∧ w.grownBy w' (some b) := by
  have hbl := hown.lt
  go_enter Try.func30, Try.ntmps30
  go_wp2_with (first
    | (at_range; refine wpList_range_own _ rfl _ 62 rfl 3 60 law3 Try.underlying62 hdR b n D0 rfl hown ?_; intro w0 hrg0 hg0 hs0; go_frame)
    | go_in)
  go_loopw [4] (fun _ wr => ∃ (D : DataW Unit) (left : Lit → Bool) (cnt : Nat), wr.ranges Try.prog 3 hdR b w.heap.size n D left cnt ∧ Keeps D L (fun i => goneF n0 (L.getD i Hd.nil) = false ∨ left (key i) = true) ∧ w.grownBy wr (some b)) (fun _ wr => wr.rangeLeft b w.heap.size)
  case atStart => exact ⟨D0, _, _, hrg0, hK0.congr (fun i hi => ⟨fun _ => .inr ((hK0.1 _).2 ⟨i, hi, trivial, rfl⟩), fun _ => trivial⟩), hg0.but _⟩
  case round =>
    obtain ⟨D, left, cnt, hrg, hK, hgw⟩ := hrel
    clear hrg0 hg0 hs0
    go_wp2_with (first
      | (at_next; refine wpList_next_ranges _ rfl _ rfl 3 law3 hdR (fun x : Int => Value.int .i64 x) (fun h : Hd => Value.agg #[.int .i64 h.a, .int .i64 h.v, .int .i64 h.p, .int .i64 h.l]) (fun k kl e => keyInv e) (fun v y e => valInv e) b w.heap.size n D left cnt rfl hrg ?_ ?_)
      | go_in)
    · intro _ hl0
      go_wp2
      go_end0
      exact ⟨rfl, D, hrg.owns, hK.congr (fun i hi => ⟨fun q => q.resolve_right (by rw [hl0]; simp), .inl⟩), hgw⟩
    · intro x h kl yd yp w1 cnt1 hkey hlk hv hat hrg1 hlt hg1 hs1 hen
      obtain ⟨hwx, rfl⟩ := keyIs hkey
      obtain ⟨i, hi, rfl, hhi⟩ := hK.came (y := (yd, yp)) hv hat
      have hgw1 := hgw.andThen hg1 (fun j hj => by cases hj; exact Or.inl (Nat.le_refl _))
      have hsz1 := hgw1.size
      have hq1 : (w1.alloc (Obj.cells #[.int .i64 h.a, .int .i64 h.v, .int .i64 h.p, .int .i64 h.l] 60)).cell? ⟨q0, 0, none⟩ = some (.int .i64 n0) := by
        have hql : q0 < w.heap.size := World.block_lt_of_cell? w _ hc0
        have e1 : w1.heap[q0]? = w.heap[q0]? := hgw1.block q0 hql (by simp; omega)
        exact ((below_box w1 _).cell (p := ⟨q0, 0, none⟩) (by show q0 < _; omega)).trans ((World.cell?_of_block (a := ⟨q0, 0, none⟩) e1).trans hc0)
      clear hat hv hkey hg1 hgw
      cases hgn : goneF n0 h with
      | true =>
        have hK2 := hK.struck hlk (g := fun i => goneF n0 (L.getD i Hd.nil) = false) (by rw [hhi, hgn]; simp)
        clear hK hhi
        go_wp2_with fail
        go_at_call 31
        refine (closF h n0 q0 (w1.alloc (Obj.cells #[.int .i64 h.a, .int .i64 h.v, .int .i64 h.p, .int .i64 h.l] 60)) hq1).mono ?_
        rintro e w2 ⟨rfl, k2⟩
        rw [hgn]
        clear hgn
        have hrg2 := ((hrg1.alloc (Obj.cells #[.int .i64 h.a, .int .i64 h.v, .int .i64 h.p, .int .i64 h.l] 60)).kept (below_grown k2 none) (by simp) (by simp))
        have hgw2 := (hgw1.andThen (World.grownBy_alloc w1 (Obj.cells #[.int .i64 h.a, .int .i64 h.v, .int .i64 h.p, .int .i64 h.l] 60) none) (fun j hj => by cases hj)).andThen (below_grown k2 none) (fun j hj => by cases hj)
        clear hgw1 k2
        go_wp2_with (first
          | (at_delete; refine wpList_delete_ranges _ rfl _ _ 62 3 rfl 60 law3 Try.underlying62 hdR b w.heap.size n D _ cnt1 rfl hrg2 _ _ rfl (Go.Maps.keyOf_int_mk Try.underlying3 hwx) ?_; intro w3 cnt3 hrg3 hle hturn; go_frame)
          | go_in)
        rw [Go.Maps.strike_twice] at hrg3
        go_roundw
        case rel => exact ⟨_, _, cnt3, hrg3, hK2, hgw2.andThen hturn.grown (fun j hj => by cases hj; exact Or.inr rfl)⟩
        case measure => rw [hrg3.left_eq, hrg.left_eq]; omega
      | false =>
        have hK2 := hK.stays (i := i) (g := fun i => goneF n0 (L.getD i Hd.nil) = false) (by rw [hhi, hgn])
        clear hK hhi
        go_wp2_with fail
        go_at_call 31
        refine (closF h n0 q0 (w1.alloc (Obj.cells #[.int .i64 h.a, .int .i64 h.v, .int .i64 h.p, .int .i64 h.l] 60)) hq1).mono ?_
        rintro e w2 ⟨rfl, k2⟩
        rw [hgn]
        clear hgn
        have hrg2 := ((hrg1.alloc (Obj.cells #[.int .i64 h.a, .int .i64 h.v, .int .i64 h.p, .int .i64 h.l] 60)).kept (below_grown k2 none) (by simp) (by simp))
        have hgw2 := (hgw1.andThen (World.grownBy_alloc w1 (Obj.cells #[.int .i64 h.a, .int .i64 h.v, .int .i64 h.p, .int .i64 h.l] 60) none) (fun j hj => by cases hj)).andThen (below_grown k2 none) (fun j hj => by cases hj)
        clear hgw1 k2
        go_wp2
        go_roundw
        case rel => exact ⟨_, _, cnt1, hrg2, hK2, hgw2⟩
        case measure => rw [hrg2.left_eq, hrg.left_eq]; omega

end Go.Proofs.Ytifndemkkaelaaa
