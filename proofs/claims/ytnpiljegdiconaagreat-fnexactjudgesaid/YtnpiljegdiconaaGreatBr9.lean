/- impl.BridgeNew, walked. -/
import Derived.Test.YtnpiljegdiconaaGreatRows
import Derived.WalkKit
import Derived.ProofKit
import Derived.OpenShut
import Derived.ShutString
import Derived.ChangeOld
import Derived.Below
import Derived.Deep.QuietTactic
import Derived.BigQuiet
import Derived.WalkSmall
import Derived.Laws.OwnMore
import Derived.WalkSpells
import Derived.WalkLawsBesides
import Derived.Deep.Cut
import Derived.Test.YtnpiljegdiconaaGreatBr4
namespace Go.Proofs.YtnpiljegdiconaaGreat
open Go.ChangeShapes Go.WideShapes Go.ChangeAt Go.RowKit
open Go.ChangeMaps (open_string shut_string)
set_option linter.unusedVariables false
set_option maxRecDepth 100000

/-- Whether a new bridge is right. -/
def nOk (id n : Int) : Bool := decide (1 ≤ id ∧ id ≤ 9) && decide (1 ≤ n ∧ n ≤ 4)
theorem bOk_new {id : Int} {k : Nat} : bOk id (List.replicate k Pt.nil) = nOk id k := by
  unfold bOk nOk
  have e : (List.replicate k Pt.nil).all pOk = true := by
    rw [List.all_eq_true]; intro x hx; rw [List.eq_of_mem_replicate hx]; exact pOk_nil
  rw [e, List.length_replicate, Bool.and_true]
  congr 1
  exact decide_eq_decide.2 (by omega)
/-- What BridgeNew answers: its number, its ports. -/
def newI (id n : Int) : Int := if nOk id n then id else 0
def newL (id n : Int) : List Pt := if nOk id n then List.replicate n.toNat Pt.nil else []
theorem made_nil {n : Nat} (h : n ≤ 4) : (madeCells (Value.cells (.agg #[.bool false, .bool false, .int .i64 0, .int .i64 0, .int .i64 0, .int .i64 0, .int .i64 0, .int .i64 0, .int .i64 0, .int .i64 0, .bool false])) (n * 11)).toList = fcells ptEnc (List.replicate n Pt.nil) := by
  rcases (by omega : n = 0 ∨ n = 1 ∨ n = 2 ∨ n = 3 ∨ n = 4) with rfl | rfl | rfl | rfl | rfl
  · simp only [madeCells, Array.toList_map, Array.toList_range]; rfl
  · simp only [madeCells, Array.toList_map, Array.toList_range]; rfl
  · simp only [madeCells, Array.toList_map, Array.toList_range]; rfl
  · simp only [madeCells, Array.toList_map, Array.toList_range]; rfl
  · simp only [madeCells, Array.toList_map, Array.toList_range]; rfl
theorem FView.one (w : World) (t : TypeId) (x : Pt) : FView ptEnc (w.alloc (Obj.cells #[.bool x.up, .bool x.has, .int .i64 x.r, .int .i64 x.c, .int .i64 x.b, .int .i64 x.p, .int .i64 x.h, .int .i64 x.l, .int .i64 x.ro, .int .i64 x.wa, .bool x.op] t)) (some ⟨w.heap.size, 0, none⟩) [x] := by
  intro _
  refine ⟨w.heap.size, 0, rfl, fun j v hv => ?_⟩
  have hj : j < 11 := by
    have := (List.getElem?_eq_some_iff.1 hv).1
    simpa [fcells, ptEnc] using this
  rcases (by omega : j = 0 ∨ j = 1 ∨ j = 2 ∨ j = 3 ∨ j = 4 ∨ j = 5 ∨ j = 6 ∨ j = 7 ∨ j = 8 ∨ j = 9 ∨ j = 10) with rfl | rfl | rfl | rfl | rfl | rfl | rfl | rfl | rfl | rfl | rfl
  · cases hv; simp [go_sem]
  · cases hv; simp [go_sem]
  · cases hv; simp [go_sem]
  · cases hv; simp [go_sem]
  · cases hv; simp [go_sem]
  · cases hv; simp [go_sem]
  · cases hv; simp [go_sem]
  · cases hv; simp [go_sem]
  · cases hv; simp [go_sem]
  · cases hv; simp [go_sem]
  · cases hv; simp [go_sem]
theorem minS (a b : Int) (w : World) : Calls Tryz.prog 80 #[.int .i64 a, .int .i64 b] w fun e w' => e = .returned (.int .i64 (if a < b then a else b)) ∧ w' = w := by
  by_cases h : a < b
  · rw [if_pos h]
    have d : decide (a < b) = true := decide_eq_true h
    clear h
    go_enter Tryz.func80, Tryz.ntmps80
    go_wp2
    go_ret
    exact ⟨rfl, rfl⟩
  · rw [if_neg h]
    have d : decide (a < b) = false := decide_eq_false h
    clear h
    go_enter Tryz.func80, Tryz.ntmps80
    go_wp2
    go_ret
    exact ⟨rfl, rfl⟩
set_option maxHeartbeats 2000000 in
theorem newBI (id n : Int) (w : World) :
    Calls Tryz.prog 29 #[.int .i64 id, .int .i64 n] w fun e w' => ∃ ad' cap', e = .returned (.tuple #[.agg #[.int .i64 (newI id n), .slice ad' (newL id n).length cap'], .bool (nOk id n)]) ∧ FOwn ptEnc 11 109 w.heap.size w' (.slice ad' (newL id n).length cap') (newL id n) ∧ Below w.heap.size w w' := by
  obtain ⟨i0, hi, hz0, hz1, hz2⟩ := info_parts ptInfo
  obtain ⟨y, hy⟩ : ∃ y, y = w.alloc (Obj.cells #[.int .i64 0, .slice none 0 0] 56) := ⟨_, rfl⟩
  have B0 : Below w.heap.size w y := by rw [hy]; exact below_new _
  have R0 : BBox y w.heap.size 0 (.slice none 0 0) := by rw [hy]; exact BBox.new w _ _ _
  have S0 := R0.lt
  obtain ⟨IV, hI⟩ : ∃ v, v = newI id n := ⟨_, rfl⟩
  obtain ⟨LV, hM⟩ : ∃ v, v = newL id n := ⟨_, rfl⟩
  obtain ⟨NV, hN⟩ : ∃ v, v = nOk id n := ⟨_, rfl⟩
  rw [← hI, ← hM, ← hN]
  by_cases hn0 : 0 ≤ n ∧ n ≤ 4
  rotate_left
  · have e : nOk id n = false := by unfold nOk; rw [decide_eq_false (show ¬ (1 ≤ n ∧ n ≤ 4) by omega), Bool.and_false]
    replace hI : Hid (IV = 0) := by unfold Hid; rw [hI]; unfold newI; rw [e]; rfl
    replace hM : Hid (LV = []) := by unfold Hid; rw [hM]; unfold newL; rw [e]; rfl
    replace hN : Hid (NV = false) := by unfold Hid; rw [hN, e]
    by_cases h1 : n < 0
    · have d1 : decide (n < 0) = true := decide_eq_true h1
      clear h1 hn0 e
      go_enter Tryz.func29, Tryz.ntmps29
      go_upto_region 2 with fail
      rw [← hy]
      clear hy
      have RP := R0.put 0 (.slice none 0 0)
      obtain ⟨⟨r0, r1⟩, rf⟩ := R0
      have BZ := (B0.setCell (p := ⟨w.heap.size, 0, none⟩) (Nat.le_refl w.heap.size) (.int .i64 0)).setCell (p := ⟨w.heap.size, 1, none⟩) (Nat.le_refl w.heap.size) (.slice none 0 0)
      obtain ⟨⟨p0, p1⟩, _⟩ := RP
      go_wp2
      refine bodyPost_ret (v := .tuple #[.agg #[.int .i64 0, .slice none 0 0], .bool false]) (by simp [results, Tryz.results29, go_sem, *]) rfl ⟨none, 0, by rw [hI.out, hM.out, hN.out]; rfl, by rw [hM.out]; exact FOwn.nil, BZ⟩
    · have d1 : decide (n < 0) = false := decide_eq_false h1
      have d2 : decide (4 < n) = true := decide_eq_true (by omega)
      clear h1 hn0 e
      go_enter Tryz.func29, Tryz.ntmps29
      go_upto_region 2 with fail
      rw [← hy]
      clear hy
      have RP := R0.put 0 (.slice none 0 0)
      obtain ⟨⟨r0, r1⟩, rf⟩ := R0
      have BZ := (B0.setCell (p := ⟨w.heap.size, 0, none⟩) (Nat.le_refl w.heap.size) (.int .i64 0)).setCell (p := ⟨w.heap.size, 1, none⟩) (Nat.le_refl w.heap.size) (.slice none 0 0)
      obtain ⟨⟨p0, p1⟩, _⟩ := RP
      go_wp2
      refine bodyPost_ret (v := .tuple #[.agg #[.int .i64 0, .slice none 0 0], .bool false]) (by simp [results, Tryz.results29, go_sem, *]) rfl ⟨none, 0, by rw [hI.out, hM.out, hN.out]; rfl, by rw [hM.out]; exact FOwn.nil, BZ⟩
  obtain ⟨k, rfl⟩ : ∃ k : Nat, n = (k : Int) := ⟨n.toNat, by omega⟩
  have hk : k ≤ 4 := by omega
  have d1 : decide ((k : Int) < 0) = false := decide_eq_false (by omega)
  have d2 : decide (4 < (k : Int)) = false := decide_eq_false (by omega)
  clear hn0
  go_enter Tryz.func29, Tryz.ntmps29
  go_upto_region 3 with fail
  rw [← hy]
  clear hy
  go_wp2_with (first | (refine wpList_make_full _ rfl _ _ 54 rfl y.heap.size 109 i0 (.agg #[.bool false, .bool false, .int .i64 0, .int .i64 0, .int .i64 0, .int .i64 0, .int .i64 0, .int .i64 0, .int .i64 0, .int .i64 0, .bool false]) 11 Tryz.underlying54 hi hz0 hz1 .i64 .i64 _ _ k rfl rfl rfl rfl ?c1 ?c2 ?c3 ?_))
  case c1 => rw [hz2]; omega
  case c2 => unfold maxLen; omega
  case c3 => exact Nat.le_refl _
  intro w1 hown hgrow
  have O1 : FOwn ptEnc 11 109 y.heap.size w1 (.slice (some ⟨y.heap.size, 0, none⟩) k k) (List.replicate k Pt.nil) := by
    unfold FOwn
    rw [List.length_replicate, ← made_nil hk]
    exact hown
  have k1 : Below y.heap.size y w1 := (Below.refl _ _).grown hgrow (Nat.le_refl _) (by simp)
  clear hown hgrow
  have R1 := R0.below k1 S0
  have B1 := B0.trans (k1.mono B0.size)
  have S1 := R1.lt
  have gl := (O1.lt y.heap.size rfl).2
  obtain ⟨y2, hy2⟩ : ∃ y_, y_ = w1.alloc (Obj.cells #[.int .i64 id, .slice (some ⟨y.heap.size, 0, none⟩) k k] 56) := ⟨_, rfl⟩
  have kn : Below w1.heap.size w1 y2 := by rw [hy2]; exact below_new _
  have A2 : BrAt y2 w1.heap.size id (.slice (some ⟨y.heap.size, 0, none⟩) k k) := by rw [hy2]; exact BrAt.new w1 _ _ _
  have R2 := R1.below kn S1
  have O2 := O1.later kn
  have B2 := B1.trans (kn.mono B1.size)
  have S2 := A2.lt
  go_upto_region 4 with fail
  rw [← hy2]
  clear hy2 kn R0 R1 O1 k1 B0 B1
  generalize y.heap.size = g at S0 O2 gl A2 ⊢
  generalize w1.heap.size = Q at S1 gl A2 S2 ⊢
  obtain ⟨a0, a1⟩ := A2
  have A2 : BrAt y2 Q id (.slice (some ⟨g, 0, none⟩) k k) := ⟨a0, a1⟩
  go_wp2_with fail
  go_at_call 79
  clear a0 a1
  obtain ⟨Rk, hRk⟩ : ∃ Rk, Rk = List.replicate k Pt.nil := ⟨_, rfl⟩
  rw [← hRk] at O2
  have hRl : Rk.length = k := by rw [hRk, List.length_replicate]
  have hc := bOkI id (some ⟨g, 0, none⟩) k Rk y2 (by have := O2.view.2; exact this) (by omega)
  rw [hRl] at hc
  refine hc.mono ?_
  rintro e w3 ⟨rfl, k3⟩
  have B3 := B2.trans (k3.mono B2.size)
  have A3 := A2.below k3 S2
  have R3 := R2.below k3 R2.lt
  have O3 := O2.later k3
  rw [hRk, bOk_new]
  clear hc k3 A2 R2 O2 B2
  cases he : nOk id (k : Int) with
  | false =>
    replace hI : Hid (IV = 0) := by unfold Hid; rw [hI]; unfold newI; rw [he]; rfl
    replace hM : Hid (LV = []) := by unfold Hid; rw [hM]; unfold newL; rw [he]; rfl
    replace hN : Hid (NV = false) := by unfold Hid; rw [hN, he]
    clear he hRk hRl
    have RP := R3.put 0 (.slice none 0 0)
    obtain ⟨⟨r0, r1⟩, rf⟩ := R3
    have BZ := (B3.setCell (p := ⟨w.heap.size, 0, none⟩) (Nat.le_refl w.heap.size) (.int .i64 0)).setCell (p := ⟨w.heap.size, 1, none⟩) (Nat.le_refl w.heap.size) (.slice none 0 0)
    obtain ⟨⟨p0, p1⟩, _⟩ := RP
    go_wp2
    refine bodyPost_ret (v := .tuple #[.agg #[.int .i64 0, .slice none 0 0], .bool false]) (by simp [results, Tryz.results29, go_sem, *]) rfl ⟨none, 0, by rw [hI.out, hM.out, hN.out]; rfl, by rw [hM.out]; exact FOwn.nil, BZ⟩
  | true =>
    replace hI : Hid (IV = id) := by unfold Hid; rw [hI]; unfold newI; rw [he]; rfl
    replace hM : Hid (LV = Rk) := by unfold Hid; rw [hM, hRk]; unfold newL; rw [he]; rfl
    replace hN : Hid (NV = true) := by unfold Hid; rw [hN, he]
    replace hRl : Hid _ := hRl
    clear he hRk
    have RP := R3.put id (.slice (some ⟨g, 0, none⟩) k k)
    obtain ⟨⟨r0, r1⟩, rf⟩ := R3
    obtain ⟨a0, a1⟩ := A3
    have BZ := (B3.setCell (p := ⟨w.heap.size, 0, none⟩) (Nat.le_refl w.heap.size) (.int .i64 id)).setCell (p := ⟨w.heap.size, 1, none⟩) (Nat.le_refl w.heap.size) (.slice (some ⟨g, 0, none⟩) k k)
    have OZ : FOwn ptEnc 11 109 w.heap.size ((w3.setCell ⟨w.heap.size, 0, none⟩ (.int .i64 id)).setCell ⟨w.heap.size, 1, none⟩ (.slice (some ⟨g, 0, none⟩) k k)) (.slice (some ⟨g, 0, none⟩) k k) Rk := (O3.base (by omega)).keep fun g' e => by
      obtain rfl : g = g' := by simpa [Value.ownBlock] using e
      rw [Below.heap_setCell _ _ _ _ (by show g ≠ w.heap.size; omega), Below.heap_setCell _ _ _ _ (by show g ≠ w.heap.size; omega)]
    obtain ⟨⟨p0, p1⟩, _⟩ := RP
    go_wp2
    refine bodyPost_ret (v := .tuple #[.agg #[.int .i64 id, .slice (some ⟨g, 0, none⟩) k k], .bool true]) (by simp [results, Tryz.results29, go_sem, *]) rfl ⟨some ⟨g, 0, none⟩, k, by rw [hI.out, hM.out, hN.out, hRl.out], by rw [hM.out, hRl.out]; exact OZ, BZ⟩

end Go.Proofs.YtnpiljegdiconaaGreat
