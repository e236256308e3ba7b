/- Bridges held against each other, walked. -/
import Derived.Test.YtemibefbkjpnaabRows
import Derived.WalkKit
import Derived.ProofKit
import Derived.OpenShut
import Derived.ShutString
import Derived.ChangeOld
import Derived.Below
import Derived.Deep.QuietTactic
import Derived.BigQuiet
import Derived.WalkSmall
import Derived.Laws.OwnMore
import Derived.WalkSpells
import Derived.WalkLawsBesides
import Derived.Deep.Cut
import Derived.Laws.StructEq
import Derived.Test.YtemibefbkjpnaabSm1b
import Derived.Test.YtemibefbkjpnaabBr1
namespace Go.Proofs.Ytemibefbkjpnaab
open Go.ChangeShapes Go.WideShapes Go.ChangeAt Go.RowKit
open Go.ChangeMaps (open_string shut_string)
set_option linter.unusedVariables false
set_option maxRecDepth 100000

set_option maxHeartbeats 4000000 in
theorem alikeI (id id' : Int) (ad ad' : Option Addr) (cap cap' : Nat) (L L' : List Pt) (w : World) (hv : FView ptEnc w ad L) (hv' : FView ptEnc w ad' L') (hl : L.length ≤ 1048576) (hl' : L'.length ≤ 1048576) :
    Calls Try.prog 15 #[.agg #[.int .i64 id, .slice ad L.length cap], .agg #[.int .i64 id', .slice ad' L'.length cap']] w fun e w' => YN e (id = id' ∧ L = L') ∧ Below w.heap.size w w' := by
  suffices H : ∀ Q : Prop, Hid (Q ↔ id = id' ∧ L = L') → Calls Try.prog 15 #[.agg #[.int .i64 id, .slice ad L.length cap], .agg #[.int .i64 id', .slice ad' L'.length cap']] w fun e w' => YN e Q ∧ Below w.heap.size w w' from H _ Iff.rfl
  intro Q hQ
  have hB := hv.lt ptEnc_len (by omega)
  have hB' := hv'.lt ptEnc_len (by omega)
  obtain ⟨y, hy⟩ : ∃ y, y = (w.alloc (Obj.cells #[.int .i64 id, .slice ad L.length cap] 39)).alloc (Obj.cells #[.int .i64 id', .slice ad' L'.length cap'] 39) := ⟨_, rfl⟩
  have B0 : Below w.heap.size w y := by rw [hy]; exact ((Below.refl _ _).alloc (Nat.le_refl _) _).alloc (by simp) _
  have A0 : BrAt y w.heap.size id (.slice ad L.length cap) := by rw [hy]; constructor <;> simp [go_sem]
  have A1 : BrAt y (w.heap.size + 1) id' (.slice ad' L'.length cap') := by rw [hy]; constructor <;> simp [go_sem]
  by_cases h1 : id = id'
  rotate_left
  · have e1 : (id == id') = false := by simp [h1]
    have e2 : decide (id = id') = false := decide_eq_false h1
    replace hQ : Hid (¬ Q) := fun h => h1 (hQ.out.1 h).1
    clear h1
    go_enter Try.func15, Try.ntmps15
    go_wp2
    rw [← hy]
    go_ret
    exact ⟨YN.no hQ.out, B0⟩
  have e1 : (id == id') = true := by simp [h1]
  have e2 : decide (id = id') = true := decide_eq_true h1
  replace hQ : Hid (Q ↔ L = L') := hQ.out.trans ⟨fun h => h.2, fun h => ⟨h1, h⟩⟩
  clear h1
  go_enter Try.func15, Try.ntmps15
  go_wp2_with fail
  go_at_call 22
  rw [← hy]
  clear hy
  refine (ptEql ad ad' cap cap' L L' y (hv.below B0 hB) (hv'.below B0 hB') hl hl').mono ?_
  rintro e w1 ⟨⟨R, rfl, hR⟩, k1⟩
  have B1 := B0.trans (k1.mono B0.size)
  replace hR : Hid _ := hR
  clear k1 B0 A0 A1
  go_wp2
  go_ret
  exact ⟨YN.is (hR.out.trans hQ.out.symm), B1⟩
set_option maxHeartbeats 8000000 in
theorem alikeS (id id' : Int) (ad ad' : Option Addr) (cap cap' : Nat) (L L' : List Pt) (w : World) (hv : FView ptEnc w ad L) (hv' : FView ptEnc w ad' L') (hl : L.length ≤ 1048576) (hl' : L'.length ≤ 1048576) :
    Calls Try.prog 11 #[.agg #[.int .i64 id, .slice ad L.length cap], .agg #[.int .i64 id', .slice ad' L'.length cap']] w fun e w' => YN e (id = id' ∧ L = L') ∧ Below w.heap.size w w' := by
  suffices H : ∀ Q : Prop, Hid (Q ↔ id = id' ∧ L = L') → Calls Try.prog 11 #[.agg #[.int .i64 id, .slice ad L.length cap], .agg #[.int .i64 id', .slice ad' L'.length cap']] w fun e w' => YN e Q ∧ Below w.heap.size w w' from H _ Iff.rfl
  intro Q hQ
  have hB := hv.lt ptEnc_len (by omega)
  have hB' := hv'.lt ptEnc_len (by omega)
  obtain ⟨y, hy⟩ : ∃ y, y = (w.alloc (Obj.cells #[.int .i64 id, .slice ad L.length cap] 39)).alloc (Obj.cells #[.int .i64 id', .slice ad' L'.length cap'] 39) := ⟨_, rfl⟩
  have B0 : Below w.heap.size w y := by rw [hy]; exact ((Below.refl _ _).alloc (Nat.le_refl _) _).alloc (by simp) _
  have A0 : BrAt y w.heap.size id (.slice ad L.length cap) := by rw [hy]; constructor <;> simp [go_sem]
  have A1 : BrAt y (w.heap.size + 1) id' (.slice ad' L'.length cap') := by rw [hy]; constructor <;> simp [go_sem]
  by_cases h1 : id = id'
  rotate_left
  · have e1 : (id != id') = true := by simp [h1]
    have e2 : decide (id = id') = false := decide_eq_false h1
    replace hQ : Hid (¬ Q) := fun h => h1 (hQ.out.1 h).1
    clear h1
    go_enter Try.func11, Try.ntmps11
    go_wp2
    rw [← hy]
    go_ret
    exact ⟨YN.no hQ.out, B0⟩
  have e1 : (id != id') = false := by simp [h1]
  have e2 : decide (id = id') = true := decide_eq_true h1
  replace hQ : Hid (Q ↔ L = L') := hQ.out.trans ⟨fun h => h.2, fun h => ⟨h1, h⟩⟩
  clear h1
  by_cases hle : (L.length : Int) = (L'.length : Int)
  rotate_left
  · have d1 : ((L.length : Int) != (L'.length : Int)) = true := by simp; omega
    have d2 : decide ((L.length : Int) = (L'.length : Int)) = false := decide_eq_false hle
    replace hQ : Hid (¬ Q) := fun h => by
      have := congrArg List.length (hQ.out.1 h)
      omega
    replace hle : Hid _ := hle
    go_enter Try.func11, Try.ntmps11
    go_wp2
    rw [← hy]
    go_ret
    exact ⟨YN.no hQ.out, B0⟩
  have hll : Hid (L'.length = L.length) := by unfold Hid; omega
  rw [hll.out] at A1 hy ⊢
  clear hle
  go_enter Try.func11, Try.ntmps11
  go_wp2
  rw [← hy]
  clear hy e1 e2
  go_loopw [5] (fun i wr => ∃ k : Nat, k ≤ L.length ∧ i = .int .i64 k ∧ Hid (∀ j, j < k → L.getD j Pt.nil = L'.getD j Pt.nil) ∧ Below w.heap.size w wr ∧ BrAt wr w.heap.size id (.slice ad L.length cap) ∧ BrAt wr (w.heap.size + 1) id' (.slice ad' L.length cap')) (fun i _ => L.length - (intOf i).toNat)
  case atStart => exact ⟨0, Nat.zero_le _, rfl, fun j hj => absurd hj (by omega), B0, A0, A1⟩
  case round =>
    clear B0 A0 A1
    obtain ⟨k, hk, rfl, hF, hb, A0, A1⟩ := hrel
    have cc := A0
    obtain ⟨a0, a1⟩ := cc
    by_cases hlt : k < L.length
    · obtain ⟨b, off, rfl, _⟩ := hv (by omega)
      obtain ⟨b', off', rfl, _⟩ := hv' (by have := hll.out; omega)
      obtain ⟨h, hh⟩ : ∃ h, L.getD k Pt.nil = h := ⟨_, rfl⟩
      obtain ⟨h', hh'⟩ : ∃ h, L'.getD k Pt.nil = h := ⟨_, rfl⟩
      have hc : ∀ Y, Below wr.heap.size wr Y → PtAtO Y b (off + k * 11) h := fun Y hY => by rw [← hh]; exact ptAtO_of ((hv.below (hb.trans (hY.mono hb.size)) hB).at_ ptEnc_len Pt.nil hlt)
      have hc' : ∀ Y, Below wr.heap.size wr Y → PtAtO Y b' (off' + k * 11) h' := fun Y hY => by rw [← hh']; exact ptAtO_of ((hv'.below (hb.trans (hY.mono hb.size)) hB').at_ ptEnc_len Pt.nil (by have := hll.out; omega))
      replace hh : Hid _ := hh
      replace hh' : Hid _ := hh'
      clear hv hv' hB hB'
      by_cases he : h = h'
      · have heq : ∀ w, (binOp .neq 54 (.agg #[.bool h.up, .bool h.has, .int .i64 h.r, .int .i64 h.c, .int .i64 h.b, .int .i64 h.p, .int .i64 h.h, .int .i64 h.l, .int .i64 h.ro, .int .i64 h.wa, .bool h.op]) (.agg #[.bool h'.up, .bool h'.has, .int .i64 h'.r, .int .i64 h'.c, .int .i64 h'.b, .int .i64 h'.p, .int .i64 h'.h, .int .i64 h'.l, .int .i64 h'.ro, .int .i64 h'.wa, .bool h'.op])).run Try.prog w = .ok (.bool false) w := fun w => by subst he; exact neqPt_same h w
        replace he : Hid _ := he
        go_upto_region 6 with fail
        refine wp_region_held (S := fun Y => Below wr.heap.size wr Y) (by kernel_rfl) ?_
        change wpAnyH _ _ _ _ _ _ _ _ (World.drew _)
        have hb0 : Below wr.heap.size wr wr.drew := (Below.refl _ _).drew
        obtain ⟨u0, hy0⟩ : ∃ y_, y_ = wr.drew := ⟨_, rfl⟩
        rw [← hy0] at hb0 ⊢
        clear hy0
        refine takeW 0 27 (.pointer (some ⟨w.heap.size, 1, none⟩)) rfl rfl (by kernel_rfl) (by kernel_rfl) (by kernel_rfl) (fun _ _ _ h => h) (by kernel_rfl) (by (intro w hSw; go_simp)) (by assumption) ?_
        simp only [List.set_cons_zero, List.set_cons_succ]
        refine takeW 1 28 (.slice (some ⟨b, off, none⟩) L.length cap) rfl rfl (by kernel_rfl) (by kernel_rfl) (by kernel_rfl) (fun _ _ _ h => h) (by kernel_rfl) (by (intro Y hSw; obtain ⟨X0, X1⟩ := A0.below hSw A0.lt; go_simp)) (by assumption) ?_
        simp only [List.set_cons_zero, List.set_cons_succ]
        refine takeW 2 29 (.int .i64 (k : Int)) rfl rfl (by kernel_rfl) (by kernel_rfl) (by kernel_rfl) (fun _ _ _ h => h) (by kernel_rfl) (by (intro w hSw; go_simp)) (by assumption) ?_
        simp only [List.set_cons_zero, List.set_cons_succ]
        refine takeW 3 30 (.pointer (some ⟨b, off + k * 11, none⟩)) rfl rfl (by kernel_rfl) (by kernel_rfl) (by kernel_rfl) (fun _ _ _ h => h) (by kernel_rfl) (by (intro Y hSw; go_simp; try omega)) (by assumption) ?_
        simp only [List.set_cons_zero, List.set_cons_succ]
        refine takeW 4 31 (.agg #[.bool h.up, .bool h.has, .int .i64 h.r, .int .i64 h.c, .int .i64 h.b, .int .i64 h.p, .int .i64 h.h, .int .i64 h.l, .int .i64 h.ro, .int .i64 h.wa, .bool h.op]) rfl rfl (by kernel_rfl) (by kernel_rfl) (by kernel_rfl) (fun _ _ _ h => h) (by kernel_rfl) (by (intro Y hSw; obtain ⟨X0, X1, X2, X3, X4, X5, X6, X7, X8, X9, X10⟩ := hc Y hSw; go_simp)) (by assumption) ?_
        simp only [List.set_cons_zero, List.set_cons_succ]
        refine takeW 5 32 (.pointer (some ⟨(w.heap.size + 1), 1, none⟩)) rfl rfl (by kernel_rfl) (by kernel_rfl) (by kernel_rfl) (fun _ _ _ h => h) (by kernel_rfl) (by (intro w hSw; go_simp)) (by assumption) ?_
        simp only [List.set_cons_zero, List.set_cons_succ]
        refine takeW 6 33 (.slice (some ⟨b', off', none⟩) L.length cap') rfl rfl (by kernel_rfl) (by kernel_rfl) (by kernel_rfl) (fun _ _ _ h => h) (by kernel_rfl) (by (intro Y hSw; obtain ⟨X0, X1⟩ := A1.below hSw A1.lt; go_simp)) (by assumption) ?_
        simp only [List.set_cons_zero, List.set_cons_succ]
        refine takeW 7 34 (.int .i64 (k : Int)) rfl rfl (by kernel_rfl) (by kernel_rfl) (by kernel_rfl) (fun _ _ _ h => h) (by kernel_rfl) (by (intro w hSw; go_simp)) (by assumption) ?_
        simp only [List.set_cons_zero, List.set_cons_succ]
        refine takeW 8 35 (.pointer (some ⟨b', off' + k * 11, none⟩)) rfl rfl (by kernel_rfl) (by kernel_rfl) (by kernel_rfl) (fun _ _ _ h => h) (by kernel_rfl) (by (intro Y hSw; go_simp; try omega)) (by assumption) ?_
        simp only [List.set_cons_zero, List.set_cons_succ]
        refine takeW 9 36 (.agg #[.bool h'.up, .bool h'.has, .int .i64 h'.r, .int .i64 h'.c, .int .i64 h'.b, .int .i64 h'.p, .int .i64 h'.h, .int .i64 h'.l, .int .i64 h'.ro, .int .i64 h'.wa, .bool h'.op]) rfl rfl (by kernel_rfl) (by kernel_rfl) (by kernel_rfl) (fun _ _ _ h => h) (by kernel_rfl) (by (intro Y hSw; obtain ⟨X0, X1, X2, X3, X4, X5, X6, X7, X8, X9, X10⟩ := hc' Y hSw; go_simp)) (by assumption) ?_
        simp only [List.set_cons_zero, List.set_cons_succ]
        refine takeW 10 37 (.bool false) rfl rfl (by kernel_rfl) (by kernel_rfl) (by kernel_rfl) (fun _ _ _ h => h) (by kernel_rfl) (by (intro w hSw; have hq := heq w; go_simp)) (by assumption) ?_
        simp only [List.set_cons_zero, List.set_cons_succ]
        refine wpAnyH_done (by kernel_rfl) ?_ _
        go_wp2
        go_roundw
        case rel =>
          refine ⟨k + 1, by omega, by go_num, fun j hj => ?_, hb.trans (hb0.mono hb.size), A0.below hb0 A0.lt, A1.below hb0 A1.lt⟩
          by_cases ej : j = k
          · rw [ej, hh.out, hh'.out]; exact he.out
          · exact hF.out j (by omega)
        case measure => simp [intOf]; omega
      · have heq : ∀ w, (binOp .neq 54 (.agg #[.bool h.up, .bool h.has, .int .i64 h.r, .int .i64 h.c, .int .i64 h.b, .int .i64 h.p, .int .i64 h.h, .int .i64 h.l, .int .i64 h.ro, .int .i64 h.wa, .bool h.op]) (.agg #[.bool h'.up, .bool h'.has, .int .i64 h'.r, .int .i64 h'.c, .int .i64 h'.b, .int .i64 h'.p, .int .i64 h'.h, .int .i64 h'.l, .int .i64 h'.ro, .int .i64 h'.wa, .bool h'.op])).run Try.prog w = .ok (.bool true) w := fun w => neqPt_else he w
        replace he : Hid _ := he
        go_upto_region 6 with fail
        refine wp_region_held (S := fun Y => Below wr.heap.size wr Y) (by kernel_rfl) ?_
        change wpAnyH _ _ _ _ _ _ _ _ (World.drew _)
        have hb0 : Below wr.heap.size wr wr.drew := (Below.refl _ _).drew
        obtain ⟨u0, hy0⟩ : ∃ y_, y_ = wr.drew := ⟨_, rfl⟩
        rw [← hy0] at hb0 ⊢
        clear hy0
        refine takeW 0 27 (.pointer (some ⟨w.heap.size, 1, none⟩)) rfl rfl (by kernel_rfl) (by kernel_rfl) (by kernel_rfl) (fun _ _ _ h => h) (by kernel_rfl) (by (intro w hSw; go_simp)) (by assumption) ?_
        simp only [List.set_cons_zero, List.set_cons_succ]
        refine takeW 1 28 (.slice (some ⟨b, off, none⟩) L.length cap) rfl rfl (by kernel_rfl) (by kernel_rfl) (by kernel_rfl) (fun _ _ _ h => h) (by kernel_rfl) (by (intro Y hSw; obtain ⟨X0, X1⟩ := A0.below hSw A0.lt; go_simp)) (by assumption) ?_
        simp only [List.set_cons_zero, List.set_cons_succ]
        refine takeW 2 29 (.int .i64 (k : Int)) rfl rfl (by kernel_rfl) (by kernel_rfl) (by kernel_rfl) (fun _ _ _ h => h) (by kernel_rfl) (by (intro w hSw; go_simp)) (by assumption) ?_
        simp only [List.set_cons_zero, List.set_cons_succ]
        refine takeW 3 30 (.pointer (some ⟨b, off + k * 11, none⟩)) rfl rfl (by kernel_rfl) (by kernel_rfl) (by kernel_rfl) (fun _ _ _ h => h) (by kernel_rfl) (by (intro Y hSw; go_simp; try omega)) (by assumption) ?_
        simp only [List.set_cons_zero, List.set_cons_succ]
        refine takeW 4 31 (.agg #[.bool h.up, .bool h.has, .int .i64 h.r, .int .i64 h.c, .int .i64 h.b, .int .i64 h.p, .int .i64 h.h, .int .i64 h.l, .int .i64 h.ro, .int .i64 h.wa, .bool h.op]) rfl rfl (by kernel_rfl) (by kernel_rfl) (by kernel_rfl) (fun _ _ _ h => h) (by kernel_rfl) (by (intro Y hSw; obtain ⟨X0, X1, X2, X3, X4, X5, X6, X7, X8, X9, X10⟩ := hc Y hSw; go_simp)) (by assumption) ?_
        simp only [List.set_cons_zero, List.set_cons_succ]
        refine takeW 5 32 (.pointer (some ⟨(w.heap.size + 1), 1, none⟩)) rfl rfl (by kernel_rfl) (by kernel_rfl) (by kernel_rfl) (fun _ _ _ h => h) (by kernel_rfl) (by (intro w hSw; go_simp)) (by assumption) ?_
        simp only [List.set_cons_zero, List.set_cons_succ]
        refine takeW 6 33 (.slice (some ⟨b', off', none⟩) L.length cap') rfl rfl (by kernel_rfl) (by kernel_rfl) (by kernel_rfl) (fun _ _ _ h => h) (by kernel_rfl) (by (intro Y hSw; obtain ⟨X0, X1⟩ := A1.below hSw A1.lt; go_simp)) (by assumption) ?_
        simp only [List.set_cons_zero, List.set_cons_succ]
        refine takeW 7 34 (.int .i64 (k : Int)) rfl rfl (by kernel_rfl) (by kernel_rfl) (by kernel_rfl) (fun _ _ _ h => h) (by kernel_rfl) (by (intro w hSw; go_simp)) (by assumption) ?_
        simp only [List.set_cons_zero, List.set_cons_succ]
        refine takeW 8 35 (.pointer (some ⟨b', off' + k * 11, none⟩)) rfl rfl (by kernel_rfl) (by kernel_rfl) (by kernel_rfl) (fun _ _ _ h => h) (by kernel_rfl) (by (intro Y hSw; go_simp; try omega)) (by assumption) ?_
        simp only [List.set_cons_zero, List.set_cons_succ]
        refine takeW 9 36 (.agg #[.bool h'.up, .bool h'.has, .int .i64 h'.r, .int .i64 h'.c, .int .i64 h'.b, .int .i64 h'.p, .int .i64 h'.h, .int .i64 h'.l, .int .i64 h'.ro, .int .i64 h'.wa, .bool h'.op]) rfl rfl (by kernel_rfl) (by kernel_rfl) (by kernel_rfl) (fun _ _ _ h => h) (by kernel_rfl) (by (intro Y hSw; obtain ⟨X0, X1, X2, X3, X4, X5, X6, X7, X8, X9, X10⟩ := hc' Y hSw; go_simp)) (by assumption) ?_
        simp only [List.set_cons_zero, List.set_cons_succ]
        refine takeW 10 37 (.bool true) rfl rfl (by kernel_rfl) (by kernel_rfl) (by kernel_rfl) (fun _ _ _ h => h) (by kernel_rfl) (by (intro w hSw; have hq := heq w; go_simp)) (by assumption) ?_
        simp only [List.set_cons_zero, List.set_cons_succ]
        refine wpAnyH_done (by kernel_rfl) ?_ _
        go_wp2
        go_ret
        refine ⟨YN.no (fun q => ?_), hb.trans (hb0.mono hb.size)⟩
        have := hQ.out.1 q
        exact he.out (hh.out.symm.trans ((congrArg (fun z => z.getD k Pt.nil) this).trans hh'.out))
    · obtain rfl : k = L.length := by omega
      go_wp2
      go_ret
      refine ⟨YN.yes (hQ.out.2 ?_), hb⟩
      refine List.ext_getElem hll.out.symm fun i h1 h2 => ?_
      have := hF.out i h1
      simpa [List.getD, h1, h2] using this

end Go.Proofs.Ytemibefbkjpnaab
