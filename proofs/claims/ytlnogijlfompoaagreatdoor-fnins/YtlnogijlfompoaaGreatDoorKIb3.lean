/- spec.InBytes, walked. -/
import Derived.Test.YtlnogijlfompoaaGreatDoorRows
import Derived.WalkKit
import Derived.ProofKit
import Derived.OpenShut
import Derived.ShutString
import Derived.ChangeOld
import Derived.Below
import Derived.Deep.QuietTactic
import Derived.BigQuiet
import Derived.WalkSmall
import Derived.Laws.OwnMore
import Derived.WalkSpells
import Derived.WalkLawsBesides
import Derived.Deep.Cut
import Derived.Test.YtlnogijlfompoaaGreatDoorM9
import Derived.Test.YtlnogijlfompoaaGreatDoorM5
namespace Go.Proofs.YtlnogijlfompoaaGreatDoor
open Go.ChangeShapes Go.WideShapes Go.ChangeAt Go.RowKit
open Go.ChangeMaps (open_string shut_string)
set_option linter.unusedVariables false
set_option maxRecDepth 100000

theorem own_some {w : World} {base E n : Nat} {v : Value} {xs : List Value} (h : w.ownsRow base E 1 v n xs) (hn : 0 < n) : v.ownBlock ≠ none := by
  rcases h.2 with ⟨_, h0⟩ | ⟨g, cap, cur, rfl, _⟩
  · omega
  · simp [Value.ownBlock]
set_option maxHeartbeats 4000000 in
theorem inBS (x : Ik) (w : World) : Calls Tryz.prog 17 #[.agg #[.int .i64 x.k, .int .i64 x.q, .int .i64 x.r, .int .i64 x.c, .int .i64 x.b, .int .i64 x.p, .int .i64 x.h, .bool x.up]] w fun e w' => ∃ v, e = .returned v ∧ w'.ownsRow w.heap.size 5 1 v (inBy x).length ((inBy x).map (Value.int .u8)) ∧ Below w.heap.size w w' ∧ v.ownBlock ≠ none := by
  cases hok : inOk x with
  | false =>
    have e : inBy x = [] := by unfold inBy; rw [if_neg (by rw [hok]; simp)]
    rw [e]
    clear e
    obtain ⟨y, hy⟩ : ∃ y, y = w.alloc (Obj.cells #[.int .i64 x.k, .int .i64 x.q, .int .i64 x.r, .int .i64 x.c, .int .i64 x.b, .int .i64 x.p, .int .i64 x.h, .bool x.up] 27) := ⟨_, rfl⟩
    have A0 : InAt y w.heap.size x := by rw [hy]; exact InAt.new w _ x
    have B0 : Below w.heap.size w y := by rw [hy]; exact below_new _
    obtain ⟨a0, a1, a2, a3, a4, a5, a6, a7⟩ := A0
    go_enter Tryz.func17, Tryz.ntmps17
    go_upto_region 1 with fail
    rw [← hy]
    clear hy
    go_wp2_with fail
    go_at_call 24
    refine (inOkS x y).mono ?_
    rintro e y1 ⟨rfl, k1⟩
    rw [hok]
    have B1 := B0.trans (k1.mono B0.size)
    go_wp2
    go_ret
    exact ⟨_, rfl, own_base (own_empty y1 5) B1.size, B1.alloc B1.size _, by simp [Value.ownBlock]⟩
  | true =>
    have e : inBy x = inN x ++ low4 (sumL (inN x)) := by unfold inBy; rw [if_pos hok]
    rw [e]
    clear e
    have hbd := inOk_N hok
    have HB := sumL_bd (inN x)
    have hgd := getD_bd (inN_bd hok)
    obtain ⟨L, hL⟩ : ∃ L, inN x = L := ⟨_, rfl⟩
    rw [hL] at HB hgd ⊢
    obtain ⟨s, hsum⟩ : ∃ s, sumL L = s := ⟨_, rfl⟩
    rw [hsum] at HB ⊢
    replace hsum : Hid _ := hsum
    replace hok : Hid _ := hok
    have hk : x.k = 1 ∨ x.k = 2 ∨ x.k = 3 := by
      have hok := hok.out
      unfold inOk at hok
      by_cases h1 : x.k = 1
      · exact .inl h1
      by_cases h3 : x.k = 3
      · exact .inr (.inr h3)
      by_cases h2 : x.k = 2
      · exact .inr (.inl h2)
      rw [if_neg h1, if_neg h3, if_neg h2] at hok
      cases hok
    obtain ⟨k, q, r, c, b, p, h, up⟩ := x
    dsimp only at hk ⊢
    rcases hk with rfl | rfl | rfl
    · rw [show inN ⟨1, q, r, c, b, p, h, up⟩ = [1, q, r, c, b, p, h] from rfl] at hL hbd
      subst hL
      obtain ⟨y, hy⟩ : ∃ y, y = w.alloc (Obj.cells #[.int .i64 1, .int .i64 q, .int .i64 r, .int .i64 c, .int .i64 b, .int .i64 p, .int .i64 h, .bool up] 27) := ⟨_, rfl⟩
      have A0 : InAt y w.heap.size ⟨1, q, r, c, b, p, h, up⟩ := by rw [hy]; exact InAt.new w _ ⟨1, q, r, c, b, p, h, up⟩
      have B0 : Below w.heap.size w y := by rw [hy]; exact below_new _
      have E0 := A0.lt
      go_enter Tryz.func17, Tryz.ntmps17
      go_upto_region 1 with fail
      rw [← hy]
      clear hy
      have cc := A0
      obtain ⟨a0, a1, a2, a3, a4, a5, a6, a7⟩ := cc
      go_wp2_with fail
      go_at_call 24
      clear a0 a1 a2 a3 a4 a5 a6 a7
      refine (inOkS ⟨1, q, r, c, b, p, h, up⟩ y).mono ?_
      rintro e y1 ⟨rfl, k1⟩
      rw [hok.out]
      have B1 := B0.trans (k1.mono B0.size)
      have A1 := A0.below k1 E0
      clear A0 k1
      have E1 := A1.lt
      have cc := A1
      obtain ⟨a0, a1, a2, a3, a4, a5, a6, a7⟩ := cc
      obtain ⟨uN, huN⟩ : ∃ y_, y_ = y1.alloc (Obj.cells #[.int .i64 1, .int .i64 q] 3) := ⟨_, rfl⟩
      have VN : FView iEnc uN (some ⟨y1.heap.size, 0, none⟩) [1, q] := by rw [huN]; exact iView_lit y1 [1, q] (by simp)
      have jN : Below y1.heap.size y1 uN := by rw [huN]; exact below_new _
      go_wp2_with fail
      go_at_call 44
      rw [← huN]
      clear huN
      refine (l9NumsS _ 2 [1, q] uN VN (by intro z hz; exact hbd z (by simp at hz ⊢; omega)) (by simp)).mono ?_
      rintro e y2 ⟨vN, rfl, ON, kN⟩
      have kN := jN.trans (kN.mono jN.size)
      have ON := own_base ON jN.size
      have B2 := B1.trans (kN.mono B1.size)
      have A2 := A1.below kN E1
      clear a0 a1 a2 a3 a4 a5 a6 a7 A1 VN jN
      have E2 := A2.lt
      obtain ⟨_, adN, capN, rfl, wN, _, _⟩ := own_view ON
      obtain ⟨a0, a1, a2, a3, a4, a5, a6, a7⟩ := A2
      obtain ⟨uM, huM⟩ : ∃ y_, y_ = y2.alloc (Obj.cells #[.int .i64 r, .int .i64 c, .int .i64 b, .int .i64 p, .int .i64 h] 3) := ⟨_, rfl⟩
      have VM : FView iEnc uM (some ⟨y2.heap.size, 0, none⟩) [r, c, b, p, h] := by rw [huM]; exact iView_lit y2 [r, c, b, p, h] (by simp)
      have jM : Below y2.heap.size y2 uM := by rw [huM]; exact below_new _
      go_wp2_with fail
      go_at_call 44
      rw [← huM]
      clear huM
      refine (l9NumsS _ 5 [r, c, b, p, h] uM VM (by intro z hz; exact hbd z (by simp at hz ⊢; omega)) (by simp)).mono ?_
      rintro e y3 ⟨vM, rfl, OM, kM⟩
      have kM := jM.trans (kM.mono jM.size)
      have OM := own_base OM jM.size
      have B3 := B2.trans (kM.mono B2.size)
      have ON := own_carry ON kM
      have s3 := kM.size
      obtain ⟨_, adM, capM, rfl, wM, _, _⟩ := own_view OM
      clear a0 a1 a2 a3 a4 a5 a6 a7 VM jM wN
      go_wp2_with (first | (at_builtin; refine app_view rfl _ _ rfl y1.heap.size _ [1, q] rfl ON adM capM [r, c, b, p, h] rfl wM ?n11 ?n12 ?n13 ?_))
      case n11 => exact fun h => by simp at h
      try case n12 => simp
      try case n13 => have := kN.size; omega
      intro v4 y4 O4 k4
      have O4 : y4.ownsRow y1.heap.size 5 1 v4 ([1, q] ++ [r, c, b, p, h]).length (([1, q] ++ [r, c, b, p, h]).map (Value.int .u8)) := by simpa using O4
      have B4 := B3.trans (k4.mono B1.size)
      clear ON OM wM
      have O4 : y4.ownsRow y1.heap.size 5 1 v4 7 ([1, q, r, c, b, p, h].map (Value.int .u8)) := by simpa using O4
      obtain ⟨_, ad5, cap5, hv5, w5, _, _⟩ := own_view O4
      subst hv5
      go_wp2_with fail
      go_at_call 47
      refine (sumSpec _ 7 _ (fun i => [1, q, r, c, b, p, h].getD i 0) y4 w5 (by omega) hgd).mono ?_
      rintro e w1 ⟨rfl, hw_⟩
      rw [hw_]
      clear hw_ w1
      rw [show sy (fun i => [1, q, r, c, b, p, h].getD i 0) 7 * 65536 + sx (fun i => [1, q, r, c, b, p, h].getD i 0) 7 = s from hsum.out]
      go_wp2_with fail
      go_at_call 46
      refine (l2sum s y4 HB.1 HB.2).mono ?_
      rintro e y6 ⟨v6, rfl, O6, k6⟩
      have O4 := own_carry O4 k6
      have B6 := B4.trans (k6.mono B4.size)
      obtain ⟨_, ad6, cap6, rfl, w6, _, _⟩ := own_view O6
      have s6 := k6.size
      have e4 : (low4 s).length = 4 := rfl
      go_wp2_with (first | (at_builtin; refine app_view rfl _ _ rfl y1.heap.size _ [1, q, r, c, b, p, h] rfl O4 ad6 cap6 (low4 s) rfl w6 ?m11 ?m12 ?m13 ?_))
      case m11 => exact fun h => by simp [low4] at h
      try case m12 => simp [low4]
      try case m13 => have := kN.size; have := k4.size; omega
      intro v7 y7 O7 k7
      clear e4
      have O7 : y7.ownsRow y1.heap.size 5 1 v7 ([1, q, r, c, b, p, h] ++ low4 s).length (([1, q, r, c, b, p, h] ++ low4 s).map (Value.int .u8)) := by simpa [low4] using O7
      have B7 := B6.trans (k7.mono B1.size)
      go_wp2
      go_ret
      exact ⟨_, rfl, own_base O7 B1.size, B7, own_some O7 (by simp)⟩
    · rw [show inN ⟨2, q, r, c, b, p, h, up⟩ = [2, q] from rfl] at hL hbd
      subst hL
      obtain ⟨y, hy⟩ : ∃ y, y = w.alloc (Obj.cells #[.int .i64 2, .int .i64 q, .int .i64 r, .int .i64 c, .int .i64 b, .int .i64 p, .int .i64 h, .bool up] 27) := ⟨_, rfl⟩
      have A0 : InAt y w.heap.size ⟨2, q, r, c, b, p, h, up⟩ := by rw [hy]; exact InAt.new w _ ⟨2, q, r, c, b, p, h, up⟩
      have B0 : Below w.heap.size w y := by rw [hy]; exact below_new _
      have E0 := A0.lt
      go_enter Tryz.func17, Tryz.ntmps17
      go_upto_region 1 with fail
      rw [← hy]
      clear hy
      have cc := A0
      obtain ⟨a0, a1, a2, a3, a4, a5, a6, a7⟩ := cc
      go_wp2_with fail
      go_at_call 24
      clear a0 a1 a2 a3 a4 a5 a6 a7
      refine (inOkS ⟨2, q, r, c, b, p, h, up⟩ y).mono ?_
      rintro e y1 ⟨rfl, k1⟩
      rw [hok.out]
      have B1 := B0.trans (k1.mono B0.size)
      have A1 := A0.below k1 E0
      clear A0 k1
      have E1 := A1.lt
      have cc := A1
      obtain ⟨a0, a1, a2, a3, a4, a5, a6, a7⟩ := cc
      obtain ⟨uN, huN⟩ : ∃ y_, y_ = y1.alloc (Obj.cells #[.int .i64 2, .int .i64 q] 3) := ⟨_, rfl⟩
      have VN : FView iEnc uN (some ⟨y1.heap.size, 0, none⟩) [2, q] := by rw [huN]; exact iView_lit y1 [2, q] (by simp)
      have jN : Below y1.heap.size y1 uN := by rw [huN]; exact below_new _
      go_wp2_with fail
      go_at_call 44
      rw [← huN]
      clear huN
      refine (l9NumsS _ 2 [2, q] uN VN (by intro z hz; exact hbd z (by simp at hz ⊢; omega)) (by simp)).mono ?_
      rintro e y2 ⟨vN, rfl, ON, kN⟩
      have kN := jN.trans (kN.mono jN.size)
      have ON := own_base ON jN.size
      have B2 := B1.trans (kN.mono B1.size)
      have A2 := A1.below kN E1
      clear a0 a1 a2 a3 a4 a5 a6 a7 A1 VN jN
      have E2 := A2.lt
      obtain ⟨_, adN, capN, rfl, wN, _, _⟩ := own_view ON
      obtain ⟨a0, a1, a2, a3, a4, a5, a6, a7⟩ := A2
      have O3 := ON
      have B3 := B2
      have y3e : y2 = y2 := rfl
      clear y3e
      have O3 : y2.ownsRow y1.heap.size 5 1 (.slice adN 2 capN) 2 ([2, q].map (Value.int .u8)) := by exact O3
      obtain ⟨_, ad5, cap5, hv5, w5, _, _⟩ := own_view O3
      simp only [Value.slice.injEq] at hv5
      obtain ⟨rfl, _, rfl⟩ := hv5
      go_wp2_with fail
      go_at_call 47
      refine (sumSpec _ 2 _ (fun i => [2, q].getD i 0) y2 w5 (by omega) hgd).mono ?_
      rintro e w1 ⟨rfl, hw_⟩
      rw [hw_]
      clear hw_ w1
      rw [show sy (fun i => [2, q].getD i 0) 2 * 65536 + sx (fun i => [2, q].getD i 0) 2 = s from hsum.out]
      go_wp2_with fail
      go_at_call 46
      refine (l2sum s y2 HB.1 HB.2).mono ?_
      rintro e y6 ⟨v6, rfl, O6, k6⟩
      have O3 := own_carry O3 k6
      have B6 := B3.trans (k6.mono B3.size)
      obtain ⟨_, ad6, cap6, rfl, w6, _, _⟩ := own_view O6
      have s6 := k6.size
      have e4 : (low4 s).length = 4 := rfl
      go_wp2_with (first | (at_builtin; refine app_view rfl _ _ rfl y1.heap.size _ [2, q] rfl O3 ad6 cap6 (low4 s) rfl w6 ?m21 ?m22 ?m23 ?_))
      case m21 => exact fun h => by simp [low4] at h
      try case m22 => simp [low4]
      try case m23 => have := kN.size; omega
      intro v7 y7 O7 k7
      clear e4
      have O7 : y7.ownsRow y1.heap.size 5 1 v7 ([2, q] ++ low4 s).length (([2, q] ++ low4 s).map (Value.int .u8)) := by simpa [low4] using O7
      have B7 := B6.trans (k7.mono B1.size)
      go_wp2
      go_ret
      exact ⟨_, rfl, own_base O7 B1.size, B7, own_some O7 (by simp)⟩
    · rw [show inN ⟨3, q, r, c, b, p, h, up⟩ = [3, q, if up then 1 else 0] from rfl] at hL hbd
      obtain ⟨m, hm⟩ : ∃ m : Int, (if up = true then (1 : Int) else 0) = m := ⟨_, rfl⟩
      rw [hm] at hL hbd
      replace hm : Hid _ := hm
      subst hL
      obtain ⟨y, hy⟩ : ∃ y, y = w.alloc (Obj.cells #[.int .i64 3, .int .i64 q, .int .i64 r, .int .i64 c, .int .i64 b, .int .i64 p, .int .i64 h, .bool up] 27) := ⟨_, rfl⟩
      have A0 : InAt y w.heap.size ⟨3, q, r, c, b, p, h, up⟩ := by rw [hy]; exact InAt.new w _ ⟨3, q, r, c, b, p, h, up⟩
      have B0 : Below w.heap.size w y := by rw [hy]; exact below_new _
      have E0 := A0.lt
      go_enter Tryz.func17, Tryz.ntmps17
      go_upto_region 1 with fail
      rw [← hy]
      clear hy
      have cc := A0
      obtain ⟨a0, a1, a2, a3, a4, a5, a6, a7⟩ := cc
      go_wp2_with fail
      go_at_call 24
      clear a0 a1 a2 a3 a4 a5 a6 a7
      refine (inOkS ⟨3, q, r, c, b, p, h, up⟩ y).mono ?_
      rintro e y1 ⟨rfl, k1⟩
      rw [hok.out]
      have B1 := B0.trans (k1.mono B0.size)
      have A1 := A0.below k1 E0
      clear A0 k1
      have E1 := A1.lt
      have cc := A1
      obtain ⟨a0, a1, a2, a3, a4, a5, a6, a7⟩ := cc
      obtain ⟨uN, huN⟩ : ∃ y_, y_ = y1.alloc (Obj.cells #[.int .i64 3, .int .i64 q] 3) := ⟨_, rfl⟩
      have VN : FView iEnc uN (some ⟨y1.heap.size, 0, none⟩) [3, q] := by rw [huN]; exact iView_lit y1 [3, q] (by simp)
      have jN : Below y1.heap.size y1 uN := by rw [huN]; exact below_new _
      go_wp2_with fail
      go_at_call 44
      rw [← huN]
      clear huN
      refine (l9NumsS _ 2 [3, q] uN VN (by intro z hz; exact hbd z (by simp at hz ⊢; omega)) (by simp)).mono ?_
      rintro e y2 ⟨vN, rfl, ON, kN⟩
      have kN := jN.trans (kN.mono jN.size)
      have ON := own_base ON jN.size
      have B2 := B1.trans (kN.mono B1.size)
      have A2 := A1.below kN E1
      clear a0 a1 a2 a3 a4 a5 a6 a7 A1 VN jN
      have E2 := A2.lt
      obtain ⟨_, adN, capN, rfl, wN, _, _⟩ := own_view ON
      obtain ⟨a0, a1, a2, a3, a4, a5, a6, a7⟩ := A2
      go_wp2_with fail
      go_at_call 45
      refine (l1BitS up m hm.out _).mono ?_
      rintro e v1 ⟨rfl, hv1⟩
      rw [hv1]
      clear hv1 v1
      obtain ⟨uM, huM⟩ : ∃ y_, y_ = y2.alloc (Obj.cells #[.int .i64 m] 3) := ⟨_, rfl⟩
      have VM : FView iEnc uM (some ⟨y2.heap.size, 0, none⟩) [m] := by rw [huM]; exact iView_lit y2 [m] (by simp)
      have jM : Below y2.heap.size y2 uM := by rw [huM]; exact below_new _
      go_wp2_with fail
      go_at_call 44
      rw [← huM]
      clear huM
      refine (l9NumsS _ 1 [m] uM VM (by intro z hz; exact hbd z (by simp at hz ⊢; omega)) (by simp)).mono ?_
      rintro e y3 ⟨vM, rfl, OM, kM⟩
      have kM := jM.trans (kM.mono jM.size)
      have OM := own_base OM jM.size
      have B3 := B2.trans (kM.mono B2.size)
      have ON := own_carry ON kM
      have s3 := kM.size
      obtain ⟨_, adM, capM, rfl, wM, _, _⟩ := own_view OM
      clear a0 a1 a2 a3 a4 a5 a6 a7 VM jM wN
      go_wp2_with (first | (at_builtin; refine app_view rfl _ _ rfl y1.heap.size _ [3, q] rfl ON adM capM [m] rfl wM ?n31 ?n32 ?n33 ?_))
      case n31 => exact fun h => by simp at h
      try case n32 => simp
      try case n33 => have := kN.size; omega
      intro v4 y4 O4 k4
      have O4 : y4.ownsRow y1.heap.size 5 1 v4 ([3, q] ++ [m]).length (([3, q] ++ [m]).map (Value.int .u8)) := by simpa using O4
      have B4 := B3.trans (k4.mono B1.size)
      clear ON OM wM
      have O4 : y4.ownsRow y1.heap.size 5 1 v4 3 ([3, q, m].map (Value.int .u8)) := by simpa using O4
      obtain ⟨_, ad5, cap5, hv5, w5, _, _⟩ := own_view O4
      subst hv5
      go_wp2_with fail
      go_at_call 47
      refine (sumSpec _ 3 _ (fun i => [3, q, m].getD i 0) y4 w5 (by omega) hgd).mono ?_
      rintro e w1 ⟨rfl, hw_⟩
      rw [hw_]
      clear hw_ w1
      rw [show sy (fun i => [3, q, m].getD i 0) 3 * 65536 + sx (fun i => [3, q, m].getD i 0) 3 = s from hsum.out]
      go_wp2_with fail
      go_at_call 46
      refine (l2sum s y4 HB.1 HB.2).mono ?_
      rintro e y6 ⟨v6, rfl, O6, k6⟩
      have O4 := own_carry O4 k6
      have B6 := B4.trans (k6.mono B4.size)
      obtain ⟨_, ad6, cap6, rfl, w6, _, _⟩ := own_view O6
      have s6 := k6.size
      have e4 : (low4 s).length = 4 := rfl
      go_wp2_with (first | (at_builtin; refine app_view rfl _ _ rfl y1.heap.size _ [3, q, m] rfl O4 ad6 cap6 (low4 s) rfl w6 ?m31 ?m32 ?m33 ?_))
      case m31 => exact fun h => by simp [low4] at h
      try case m32 => simp [low4]
      try case m33 => have := kN.size; have := k4.size; omega
      intro v7 y7 O7 k7
      clear e4
      have O7 : y7.ownsRow y1.heap.size 5 1 v7 ([3, q, m] ++ low4 s).length (([3, q, m] ++ low4 s).map (Value.int .u8)) := by simpa [low4] using O7
      have B7 := B6.trans (k7.mono B1.size)
      go_wp2
      go_ret
      exact ⟨_, rfl, own_base O7 B1.size, B7, own_some O7 (by simp)⟩

end Go.Proofs.YtlnogijlfompoaaGreatDoor
