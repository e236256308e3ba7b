/- Both Fade, walked. -/
import Derived.Test.YthgcbihhdbpbdaaGreatDoorRows
import Derived.WalkKit
import Derived.ProofKit
import Derived.OpenShut
import Derived.ShutString
import Derived.ChangeOld
import Derived.Below
import Derived.Deep.QuietTactic
import Derived.BigQuiet
import Derived.WalkSmall
import Derived.Laws.OwnMore
import Derived.WalkSpells
import Derived.WalkLawsBesides
import Derived.Test.YthgcbihhdbpbdaaGreatDoorM3
namespace Go.Proofs.YthgcbihhdbpbdaaGreatDoor
open Go.ChangeShapes Go.WideShapes Go.ChangeAt Go.RowKit
open Go.ChangeMaps (open_string shut_string)
set_option linter.unusedVariables false
set_option maxRecDepth 100000

/-- What Fade answers. -/
def fadeR (x : Pt) : Pt := if pOk x && x.has then (if x.l = 1 then x.bare else ⟨x.up, x.has, x.r, x.c, x.b, x.p, x.h, x.l - 1, x.ro, x.wa, x.op⟩) else x
theorem pOk_has {x : Pt} (h : pOk x = true) (hh : x.has = true) : x.up = true ∧ vOk x.r x.c x.b x.p = true ∧ 0 ≤ x.h ∧ x.h ≤ 8 ∧ 1 ≤ x.l ∧ x.l ≤ 3 := by
  rw [pOk_spec _ _ rfl] at h
  simp only [Bool.and_eq_true] at h
  have hf := h.1
  simp only [fitsB, hh, if_true, Bool.and_eq_true, decide_eq_true_eq] at hf
  exact ⟨hf.1, hf.2.1, hf.2.2.1.1, hf.2.2.1.2, hf.2.2.2.1, hf.2.2.2.2⟩
set_option maxHeartbeats 4000000 in
theorem fadeS (x : Pt) (w : World) : Calls Tryz.prog 124 #[.agg #[.bool x.up, .bool x.has, .int .i64 x.r, .int .i64 x.c, .int .i64 x.b, .int .i64 x.p, .int .i64 x.h, .int .i64 x.l, .int .i64 x.ro, .int .i64 x.wa, .bool x.op]] w fun e w' => e = .returned (.agg #[.bool (fadeR x).up, .bool (fadeR x).has, .int .i64 (fadeR x).r, .int .i64 (fadeR x).c, .int .i64 (fadeR x).b, .int .i64 (fadeR x).p, .int .i64 (fadeR x).h, .int .i64 (fadeR x).l, .int .i64 (fadeR x).ro, .int .i64 (fadeR x).wa, .bool (fadeR x).op]) ∧ Below w.heap.size w w' := by
  have hok := @pOk_has x
  obtain ⟨up, has, r, c, b, p, h, l, ro, wa, op⟩ := x
  dsimp only at hok ⊢
  have hY : Hid (fadeR ⟨up, has, r, c, b, p, h, l, ro, wa, op⟩ = if pOk ⟨up, has, r, c, b, p, h, l, ro, wa, op⟩ && has then (if l = 1 then ⟨up, false, 0, 0, 0, 0, 0, 0, ro, wa, op⟩ else ⟨up, has, r, c, b, p, h, l - 1, ro, wa, op⟩) else ⟨up, has, r, c, b, p, h, l, ro, wa, op⟩) := rfl
  replace hok : Hid (pOk ⟨up, has, r, c, b, p, h, l, ro, wa, op⟩ = true → has = true → 1 ≤ l ∧ l ≤ 3) := fun h h' => (hok h h').2.2.2.2
  generalize fadeR ⟨up, has, r, c, b, p, h, l, ro, wa, op⟩ = Y at hY ⊢
  obtain ⟨y, hy⟩ : ∃ y, y = (w.alloc (Obj.cells #[.bool up, .bool has, .int .i64 r, .int .i64 c, .int .i64 b, .int .i64 p, .int .i64 h, .int .i64 l, .int .i64 ro, .int .i64 wa, .bool op] 47)).alloc (Obj.cells #[.bool false, .bool false, .int .i64 0, .int .i64 0, .int .i64 0, .int .i64 0, .int .i64 0, .int .i64 0, .int .i64 0, .int .i64 0, .bool false] 47) := ⟨_, rfl⟩
  have P0 : PBox y w.heap.size ⟨up, has, r, c, b, p, h, l, ro, wa, op⟩ := by rw [hy]; refine ⟨?_, fun i => by simp [go_sem]⟩; constructor <;> simp [go_sem]
  have Q0 : PBox y (w.heap.size + 1) ⟨false, false, 0, 0, 0, 0, 0, 0, 0, 0, false⟩ := by rw [hy]; refine ⟨?_, fun i => by simp [go_sem]⟩; constructor <;> simp [go_sem]
  have B0 : Below w.heap.size w y := by rw [hy]; exact ((Below.refl _ _).alloc (Nat.le_refl _) _).alloc (by simp) _
  have S0 : w.heap.size + 1 < y.heap.size := Q0.lt
  go_enter Tryz.func124, Tryz.ntmps124
  go_wp2_with fail
  go_at_call 112
  rw [← hy]
  clear hy
  refine (pOkS ⟨up, has, r, c, b, p, h, l, ro, wa, op⟩ y).mono ?_
  rintro e w1 ⟨rfl, k1⟩
  have B1 := B0.trans (k1.mono B0.size)
  have S1 := Nat.lt_of_lt_of_le S0 k1.size
  replace P0 := P0.below k1 (by omega)
  have P1 := P0
  replace Q0 := Q0.below k1 (by omega)
  have Q1 := Q0
  clear P0 Q0 B0 S0 k1
  generalize pOk ⟨up, has, r, c, b, p, h, l, ro, wa, op⟩ = ok at hY hok ⊢
  cases ok
  · obtain ⟨cp0, cp1, cp2, cp3, cp4, cp5, cp6, cp7, cp8, cp9, cp10⟩ := P1.at_
    obtain ⟨⟨cq0, cq1, cq2, cq3, cq4, cq5, cq6, cq7, cq8, cq9, cq10⟩, cqf⟩ := Q1
    replace hY : Hid (Y = ⟨up, has, r, c, b, p, h, l, ro, wa, op⟩) := hY.out
    go_wp2
    refine bodyPost_ret (v := .agg #[.bool up, .bool has, .int .i64 r, .int .i64 c, .int .i64 b, .int .i64 p, .int .i64 h, .int .i64 l, .int .i64 ro, .int .i64 wa, .bool op]) (by simp [results, Tryz.results124, go_sem, *]) rfl ⟨by rw [hY.out], ?_⟩
    repeat' (first | with_reducible exact B1 | with_reducible refine Below.setCell ?_ (by simp <;> omega) _ | with_reducible refine Below.drew ?_)
  cases has
  · obtain ⟨cp0, cp1, cp2, cp3, cp4, cp5, cp6, cp7, cp8, cp9, cp10⟩ := P1.at_
    obtain ⟨⟨cq0, cq1, cq2, cq3, cq4, cq5, cq6, cq7, cq8, cq9, cq10⟩, cqf⟩ := Q1
    replace hY : Hid (Y = ⟨up, false, r, c, b, p, h, l, ro, wa, op⟩) := hY.out
    go_wp2
    refine bodyPost_ret (v := .agg #[.bool up, .bool false, .int .i64 r, .int .i64 c, .int .i64 b, .int .i64 p, .int .i64 h, .int .i64 l, .int .i64 ro, .int .i64 wa, .bool op]) (by simp [results, Tryz.results124, go_sem, *]) rfl ⟨by rw [hY.out], ?_⟩
    repeat' (first | with_reducible exact B1 | with_reducible refine Below.setCell ?_ (by simp <;> omega) _ | with_reducible refine Below.drew ?_)
  obtain ⟨l1, l3⟩ := hok.out rfl rfl
  clear hok
  replace hY : Hid (Y = if l = 1 then ⟨up, false, 0, 0, 0, 0, 0, 0, ro, wa, op⟩ else ⟨up, true, r, c, b, p, h, l - 1, ro, wa, op⟩) := hY.out
  have hw : IntKind.i64.wrap (l - 1) = l - 1 := by rw [IntKind.wrap_i64]; omega
  obtain ⟨m, hm⟩ : ∃ m, m = l - 1 := ⟨_, rfl⟩
  by_cases hl : l = 1
  · subst hl
    replace hY : Hid (Y = ⟨up, false, 0, 0, 0, 0, 0, 0, ro, wa, op⟩) := hY.out
    clear hw hm
    obtain ⟨⟨cp0, cp1, cp2, cp3, cp4, cp5, cp6, cp7, cp8, cp9, cp10⟩, cpf⟩ := P1
    obtain ⟨⟨cq0, cq1, cq2, cq3, cq4, cq5, cq6, cq7, cq8, cq9, cq10⟩, cqf⟩ := Q1
    go_wp2
    refine bodyPost_ret (v := .agg #[.bool up, .bool false, .int .i64 0, .int .i64 0, .int .i64 0, .int .i64 0, .int .i64 0, .int .i64 0, .int .i64 ro, .int .i64 wa, .bool op]) (by simp [results, Tryz.results124, go_sem, *]) rfl ⟨by rw [hY.out], ?_⟩
    repeat' (first | with_reducible exact B1 | with_reducible refine Below.setCell ?_ (by simp <;> omega) _ | with_reducible refine Below.drew ?_)
  have hlb : ((l - 1) == 0) = false := by simp; omega
  replace hY : Hid (Y = ⟨up, true, r, c, b, p, h, m, ro, wa, op⟩) := hY.out.trans (by rw [if_neg hl, hm])
  rw [← hm] at hw hlb
  replace hw : IntKind.i64.wrap (l - 1) = m := by rw [← hm]; exact hw
  clear hm
  obtain ⟨⟨cp0, cp1, cp2, cp3, cp4, cp5, cp6, cp7, cp8, cp9, cp10⟩, cpf⟩ := P1
  obtain ⟨⟨cq0, cq1, cq2, cq3, cq4, cq5, cq6, cq7, cq8, cq9, cq10⟩, cqf⟩ := Q1
  go_wp2
  refine bodyPost_ret (v := .agg #[.bool up, .bool true, .int .i64 r, .int .i64 c, .int .i64 b, .int .i64 p, .int .i64 h, .int .i64 m, .int .i64 ro, .int .i64 wa, .bool op]) (by simp [results, Tryz.results124, go_sem, *]) rfl ⟨by rw [hY.out], ?_⟩
  repeat' (first | with_reducible exact B1 | with_reducible refine Below.setCell ?_ (by simp <;> omega) _ | with_reducible refine Below.drew ?_)


end Go.Proofs.YthgcbihhdbpbdaaGreatDoor
