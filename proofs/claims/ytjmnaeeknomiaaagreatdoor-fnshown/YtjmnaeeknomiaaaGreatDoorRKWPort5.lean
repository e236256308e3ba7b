import Derived.Test.YtjmnaeeknomiaaaGreatDoorRKWPort4
namespace Go.Proofs.YtjmnaeeknomiaaaGreatDoor
open Go.ChangeShapes Go.WideShapes Go.ChangeAt Go.RowKit
open Go.ChangeMaps (open_string shut_string)
set_option linter.unusedVariables false
set_option maxRecDepth 100000
set_option maxHeartbeats 32000000
set_option linter.unusedSimpArgs false
open Go.Proofs.Tryz
attribute [local go_sem] ji ja
def Aq (x : Pt) : Pt := if Ae x && x.has then (if x.l = 1 then x.bare else ⟨x.up, x.has, x.r, x.c, x.b, x.p, x.h, x.l - 1, x.ro, x.wa, x.op⟩) else x
theorem FW {x : Pt} (h : Ae x = true) (hh : x.has = true) : x.up = true ∧ Bc x.r x.c x.b x.p = true ∧ 0 ≤ x.h ∧ x.h ≤ 8 ∧ 1 ≤ x.l ∧ x.l ≤ 3 := by
 rw [Ea _ _ rfl] at h;simp only [Bool.and_eq_true] at h;have hf := h.1;simp only [Ci, hh, if_true, Bool.and_eq_true, decide_eq_true_eq] at hf;exact ⟨hf.1, hf.2.1, hf.2.2.1.1, hf.2.2.1.2, hf.2.2.2.1, hf.2.2.2.2⟩
theorem Id (x : Pt) (w : World) : Calls prog 124 #[.agg #[.bool x.up, .bool x.has, ji x.r, ji x.c, ji x.b, ji x.p, ji x.h, ji x.l, ji x.ro, ji x.wa, .bool x.op]] w fun e w' => e = .returned (.agg #[.bool (Aq x).up, .bool (Aq x).has, ji (Aq x).r, ji (Aq x).c, ji (Aq x).b, ji (Aq x).p, ji (Aq x).h, ji (Aq x).l, ji (Aq x).ro, ji (Aq x).wa, .bool (Aq x).op]) ∧ Bw w w' := by
 have hok := @FW x;obtain ⟨up, has, r, c, b, p, h, l, ro, wa, op⟩ := x;dsimp only at hok ⊢;have hY : Hid (Aq ⟨up, has, r, c, b, p, h, l, ro, wa, op⟩ = if Ae ⟨up, has, r, c, b, p, h, l, ro, wa, op⟩ && has then (if l = 1 then ⟨up, false, 0, 0, 0, 0, 0, 0, ro, wa, op⟩ else ⟨up, has, r, c, b, p, h, l - 1, ro, wa, op⟩) else ⟨up, has, r, c, b, p, h, l, ro, wa, op⟩) := rfl;replace hok : Hid (Ae ⟨up, has, r, c, b, p, h, l, ro, wa, op⟩ = true → has = true → 1 ≤ l ∧ l ≤ 3) := fun h h' => (hok h h').2.2.2.2
 generalize Aq ⟨up, has, r, c, b, p, h, l, ro, wa, op⟩ = Y at hY ⊢
 obtain ⟨y, hy⟩ := AC ((w.alloc (Obj.cells #[.bool up, .bool has, ji r, ji c, ji b, ji p, ji h, ji l, ji ro, ji wa, .bool op] 47)).alloc (Obj.cells #[.bool false, .bool false, ji 0, ji 0, ji 0, ji 0, ji 0, ji 0, ji 0, ji 0, .bool false] 47));have P0 : AO y w.heap.size ⟨up, has, r, c, b, p, h, l, ro, wa, op⟩ := by rw [hy]; refine ⟨?_, fun i => by simp [go_sem]⟩; constructor <;> simp [go_sem]
 have Q0 : AO y (w.heap.size + 1) ⟨false, false, 0, 0, 0, 0, 0, 0, 0, 0, false⟩ := by rw [hy]; refine ⟨?_, fun i => by simp [go_sem]⟩; constructor <;> simp [go_sem]
 have B0 : Bw w y := by rw [hy]; exact ((Below.refl _ _).alloc (Nat.le_refl _) _).alloc (by simp) _
 have S0 : w.heap.size + 1 < y.heap.size := Q0.lt;go_enter func124, ntmps124
 go_wp2_with fail
 go_at_call 112
 rw [← hy];clear hy;refine (GQ ⟨up, has, r, c, b, p, h, l, ro, wa, op⟩ y).mono ?_;rintro e w1 ⟨rfl, k1⟩;have B1 := AG B0 k1;have S1 := Nat.lt_of_lt_of_le S0 k1.size;replace P0 := P0.below k1 (by omega);have P1 := P0;replace Q0 := Q0.below k1 (by omega);have Q1 := Q0;clear P0 Q0 B0 S0 k1;generalize Ae ⟨up, has, r, c, b, p, h, l, ro, wa, op⟩ = ok at hY hok ⊢
 cases ok
 ·
  have cp0 := P1.at_.all;obtain ⟨⟨cq0, cq1, cq2, cq3, cq4, cq5, cq6, cq7, cq8, cq9, cq10⟩, cqf⟩ := Q1;replace hY : Hid (Y = ⟨up, has, r, c, b, p, h, l, ro, wa, op⟩) := hY.out;go_wp2
  refine bodyPost_ret (v := .agg #[.bool up, .bool has, ji r, ji c, ji b, ji p, ji h, ji l, ji ro, ji wa, .bool op]) (by simp [results, results124, go_sem, *]) rfl ⟨by rw [hY.out], ?_⟩;repeat' (first | with_reducible exact B1 | with_reducible refine Below.setCell ?_ (by simp <;> omega) _ | with_reducible refine Below.drew ?_)
 cases has
 ·
  have cp0 := P1.at_.all;obtain ⟨⟨cq0, cq1, cq2, cq3, cq4, cq5, cq6, cq7, cq8, cq9, cq10⟩, cqf⟩ := Q1;replace hY : Hid (Y = ⟨up, false, r, c, b, p, h, l, ro, wa, op⟩) := hY.out;go_wp2
  refine bodyPost_ret (v := .agg #[.bool up, .bool false, ji r, ji c, ji b, ji p, ji h, ji l, ji ro, ji wa, .bool op]) (by simp [results, results124, go_sem, *]) rfl ⟨by rw [hY.out], ?_⟩;repeat' (first | with_reducible exact B1 | with_reducible refine Below.setCell ?_ (by simp <;> omega) _ | with_reducible refine Below.drew ?_)
 obtain ⟨l1, l3⟩ := hok.out rfl rfl;clear hok;replace hY : Hid (Y = if l = 1 then ⟨up, false, 0, 0, 0, 0, 0, 0, ro, wa, op⟩ else ⟨up, true, r, c, b, p, h, l - 1, ro, wa, op⟩) := hY.out;have hw : IntKind.i64.wrap (l - 1) = l - 1 := by rw [IntKind.wrap_i64]; omega
 obtain ⟨m, hm⟩ := AC (l - 1);by_cases hl : l = 1
 ·
  subst hl;replace hY : Hid (Y = ⟨up, false, 0, 0, 0, 0, 0, 0, ro, wa, op⟩) := hY.out;clear hw hm;obtain ⟨⟨cp0, cp1, cp2, cp3, cp4, cp5, cp6, cp7, cp8, cp9, cp10⟩, cpf⟩ := P1;obtain ⟨⟨cq0, cq1, cq2, cq3, cq4, cq5, cq6, cq7, cq8, cq9, cq10⟩, cqf⟩ := Q1;go_wp2
  refine bodyPost_ret (v := .agg #[.bool up, .bool false, ji 0, ji 0, ji 0, ji 0, ji 0, ji 0, ji ro, ji wa, .bool op]) (by simp [results, results124, go_sem, *]) rfl ⟨by rw [hY.out], ?_⟩;repeat' (first | with_reducible exact B1 | with_reducible refine Below.setCell ?_ (by simp <;> omega) _ | with_reducible refine Below.drew ?_)
 have hlb : ((l - 1) == 0) = false := by simp; omega
 replace hY : Hid (Y = ⟨up, true, r, c, b, p, h, m, ro, wa, op⟩) := hY.out.trans (by rw [if_neg hl, hm]);rw [← hm] at hw hlb;replace hw : IntKind.i64.wrap (l - 1) = m := by rw [← hm]; exact hw
 clear hm;obtain ⟨⟨cp0, cp1, cp2, cp3, cp4, cp5, cp6, cp7, cp8, cp9, cp10⟩, cpf⟩ := P1;obtain ⟨⟨cq0, cq1, cq2, cq3, cq4, cq5, cq6, cq7, cq8, cq9, cq10⟩, cqf⟩ := Q1;go_wp2
 refine bodyPost_ret (v := .agg #[.bool up, .bool true, ji r, ji c, ji b, ji p, ji h, ji m, ji ro, ji wa, .bool op]) (by simp [results, results124, go_sem, *]) rfl ⟨by rw [hY.out], ?_⟩;repeat' (first | with_reducible exact B1 | with_reducible refine Below.setCell ?_ (by simp <;> omega) _ | with_reducible refine Below.drew ?_)
end Go.Proofs.YtjmnaeeknomiaaaGreatDoor
