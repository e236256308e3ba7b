/- impl.netsIn, impl.MemberOk. -/
import Derived.Test.YtifndemkkaelaaaGreatRows
import Derived.WalkKit
import Derived.ProofKit
import Derived.OpenShut
import Derived.ShutString
import Derived.ChangeOld
import Derived.Below
import Derived.Deep.QuietTactic
import Derived.BigQuiet
import Derived.WalkSmall
import Derived.Laws.OwnMore
import Derived.WalkSpells
import Derived.WalkLawsBesides
import Derived.Test.YtifndemkkaelaaaGreatZl2
import Derived.Test.YtifndemkkaelaaaGreatZl1
namespace Go.Proofs.YtifndemkkaelaaaGreat
open Go.ChangeShapes Go.WideShapes Go.ChangeAt Go.RowKit
open Go.ChangeMaps (open_string shut_string)
set_option linter.unusedVariables false

def MemAt (w : World) (p : Nat) (own : Int) (ad : Option Addr) (len cap : Nat) : Prop :=
  w.cell? ⟨p, 0, none⟩ = some (.int .i64 own) ∧ w.cell? ⟨p, 1, none⟩ = some (.slice ad len cap)
theorem MemAt.same {w w' : World} {p : Nat} {own : Int} {ad : Option Addr} {len cap : Nat} (h : MemAt w p own ad len cap) (e : w'.heap[p]? = w.heap[p]?) : MemAt w' p own ad len cap :=
  ⟨(World.cell?_of_block (a := ⟨p, 0, none⟩) e).trans h.1, (World.cell?_of_block (a := ⟨p, 1, none⟩) e).trans h.2⟩
theorem MemAt.below {w w' : World} {p : Nat} {own : Int} {ad : Option Addr} {len cap B : Nat} (h : MemAt w p own ad len cap) (bl : Below B w w') (hp : p < B) : MemAt w' p own ad len cap := h.same (bl.block _ hp)
theorem NetAt.below {w w' : World} {p B : Nat} {b1 b2 b3 b4 : Bool} (h : NetAt w p b1 b2 b3 b4) (bl : Below B w w') (hp : p < B) : NetAt w' p b1 b2 b3 b4 := h.same (bl.block _ hp)
theorem fz_below {w w' : World} {p B : Nat} (h : ∀ i, w.frozen? ⟨p, i, none⟩ = false) (bl : Below B w w') (hp : p < B) : ∀ i, w'.frozen? ⟨p, i, none⟩ = false :=
  fun i => (World.frozen?_of_block (a := ⟨p, i, none⟩) (bl.block _ hp)).trans (h i)
theorem mOk_eq {f : Nat → Int} {len : Nat} (own : Int) (h : srtB f len = true) : hasB own (good f len && hasIn f len 1) (good f len && hasIn f len 2) (good f len && hasIn f len 3) (good f len && hasIn f len 4) = mOk own f len := by
  rw [hasB_in]
  unfold mOk
  rw [asc_eq, h, Bool.and_true]
theorem mOk_good {own : Int} {f : Nat → Int} {len : Nat} (h : mOk own f len = true) : good f len = true := by
  unfold mOk at h
  rw [asc_eq] at h
  simp only [Bool.and_eq_true] at h
  exact h.1.1
theorem mOk_srt {own : Int} {f : Nat → Int} {len : Nat} (h : srtB f len = false) : mOk own f len = false := by
  unfold mOk
  rw [asc_eq, h, Bool.and_false, Bool.false_and]
theorem below_drewN' {B : Nat} {w w' : World} (h : Below B w w') (n : Nat) : Below B w (w'.drewN n) := ⟨h.os, h.tape, h.output, h.size, h.block⟩

set_option maxHeartbeats 1000000 in
theorem netsIn (own : Int) (ad : Option Addr) (len cap : Nat) (f : Nat → Int) (w : World) (hv : ViewI w ad len f) (hm : len ≤ maxLen) :
    Calls Tryz.prog 59 #[.agg #[.int .i64 own, .slice ad len cap]] w fun e w' => e = .returned (.agg #[.bool (mOk own f len && hasIn f len 1), .bool (mOk own f len && hasIn f len 2), .bool (mOk own f len && hasIn f len 3), .bool (mOk own f len && hasIn f len 4)]) ∧ Below w.heap.size w w' := by
  obtain ⟨x0, hx0⟩ : ∃ x, x = (w.alloc (Obj.cells #[.int .i64 own, .slice ad len cap] 50)).alloc (Obj.cells #[.bool false, .bool false, .bool false, .bool false] 92) := ⟨_, rfl⟩
  have B0 : Below w.heap.size w x0 := by rw [hx0]; exact ((Below.refl _ _).alloc (Nat.le_refl _) _).alloc (by simp) _
  have T0 : w.heap.size + 1 < x0.heap.size := by rw [hx0]; simp
  have M0 : MemAt x0 w.heap.size own ad len cap := by rw [hx0]; refine ⟨?_, ?_⟩ <;> simp [go_sem]
  have R0 : NetAt x0 (w.heap.size + 1) false false false false := by rw [hx0]; refine ⟨?_, ?_, ?_, ?_⟩ <;> simp [go_sem]
  have Z0 : ∀ i, x0.frozen? ⟨w.heap.size + 1, i, none⟩ = false := by intro i; rw [hx0]; simp [go_sem]
  go_enter Tryz.func59, Tryz.ntmps59
  go_wp2_with fail
  go_at_call 106
  rw [← hx0]
  clear hx0
  refine (netsOf ad len cap f x0 (hv.below B0 (Nat.le_refl _)) hm).mono ?_
  rintro e x1 ⟨rfl, k1⟩
  have s1 := k1.size
  generalize hA1 : (good f len && hasIn f len 1) = A1
  generalize hA2 : (good f len && hasIn f len 2) = A2
  generalize hA3 : (good f len && hasIn f len 3) = A3
  generalize hA4 : (good f len && hasIn f len 4) = A4
  obtain ⟨x2, hx2⟩ : ∃ x, x = x1.alloc (Obj.cells #[.bool A1, .bool A2, .bool A3, .bool A4] 92) := ⟨_, rfl⟩
  have k2 : Below x1.heap.size x1 x2 := by rw [hx2]; exact (Below.refl _ _).alloc (Nat.le_refl _) _
  have s2 : x1.heap.size < x2.heap.size := by rw [hx2]; simp
  have N2 : NetAt x2 x1.heap.size A1 A2 A3 A4 := by rw [hx2]; refine ⟨?_, ?_, ?_, ?_⟩ <;> simp [go_sem]
  have B2 := (B0.trans (k1.mono (by omega))).trans (k2.mono (by omega))
  have M2 := (M0.below k1 (by omega)).below k2 (by omega)
  have R2 := (R0.below k1 (by omega)).below k2 (by omega)
  have Z2 := fz_below (fz_below Z0 k1 (by omega)) k2 (by omega)
  obtain ⟨C1, C2⟩ := M2
  rw [hx2] at C1 C2
  go_wp2_with fail
  go_at_call 107
  rw [← hx2] at C1 C2 ⊢
  clear hx2 M0 R0 Z0
  refine (isSorted ad len cap f x2 (hv.below B2 (Nat.le_refl _)) hm).mono ?_
  rintro e x3 ⟨rfl, n, rfl⟩
  obtain ⟨R1, R2, R3, R4⟩ := R2
  have f0 := Z2 0
  have f1 := Z2 1
  have f2 := Z2 2
  have f3 := Z2 3
  cases hs : srtB f len with
  | false =>
    have hmk : Hid (mOk own f len = false) := mOk_srt hs
    clear hs
    go_wp2
    refine bodyPost_ret (v := .agg #[.bool false, .bool false, .bool false, .bool false]) (by simp [results, Tryz.results59, go_sem, *]) rfl ⟨by rw [hmk.out]; rfl, ?_⟩
    exact ((((below_drewN' B2 n).setCell (by simp) _).setCell (by simp) _).setCell (by simp) _).setCell (by simp) _
  | true =>
    have hmk : Hid (hasB own A1 A2 A3 A4 = mOk own f len) := by rw [← hA1, ← hA2, ← hA3, ← hA4]; exact mOk_eq own hs
    obtain ⟨D1, D2, D3, D4⟩ := N2
    clear hs
    go_wp2_with fail
    go_at_call 60
    refine (hasN A1 A2 A3 A4 own _).mono ?_
    rintro e x4 ⟨rfl, k4⟩
    have s4 := k4.size
    have B4 := (below_drewN' B2 n).trans (k4.mono B2.size)
    rw [hmk.out]
    have lt1 : w.heap.size + 1 < (x2.drewN n).heap.size := by show _ < x2.heap.size; omega
    have lt2 : x1.heap.size < (x2.drewN n).heap.size := s2
    have R' : NetAt x4 (w.heap.size + 1) false false false false := NetAt.below (w := x2.drewN n) ⟨R1, R2, R3, R4⟩ k4 lt1
    have N' : NetAt x4 x1.heap.size A1 A2 A3 A4 := NetAt.below (w := x2.drewN n) ⟨D1, D2, D3, D4⟩ k4 lt2
    have Z' := fz_below (w := x2.drewN n) Z2 k4 lt1
    clear D1 D2 D3 D4 R1 R2 R3 R4 f0 f1 f2 f3
    obtain ⟨R1, R2, R3, R4⟩ := R'
    obtain ⟨D1, D2, D3, D4⟩ := N'
    have f0 := Z' 0
    have f1 := Z' 1
    have f2 := Z' 2
    have f3 := Z' 3
    cases hmo : mOk own f len with
    | false =>
      have hmo' : Hid (mOk own f len = false) := hmo
      go_wp2
      refine bodyPost_ret (v := .agg #[.bool false, .bool false, .bool false, .bool false]) (by simp [results, Tryz.results59, go_sem, *]) rfl ⟨by rw [hmo'.out]; rfl, ?_⟩
      exact (((B4.setCell (by simp) _).setCell (by simp) _).setCell (by simp) _).setCell (by simp) _
    | true =>
      have hg := mOk_good hmo
      rw [hg, Bool.true_and] at hA1 hA2 hA3 hA4
      have hmo' : Hid (mOk own f len = true) := hmo
      clear hg hmo hmk
      go_wp2
      refine bodyPost_ret (v := .agg #[.bool A1, .bool A2, .bool A3, .bool A4]) (by simp [results, Tryz.results59, go_sem, *]) rfl ⟨by rw [hmo'.out, hA1, hA2, hA3, hA4]; rfl, ?_⟩
      exact (((B4.setCell (by simp) _).setCell (by simp) _).setCell (by simp) _).setCell (by simp) _
theorem mOk_none {own : Int} {f : Nat → Int} {len : Nat} : (!((mOk own f len && hasIn f len 1) == false && ((mOk own f len && hasIn f len 2) == false && ((mOk own f len && hasIn f len 3) == false && (mOk own f len && hasIn f len 4) == false)))) = mOk own f len := by
  cases h : mOk own f len
  · rfl
  · have h' : (asc f len && (decide (1 ≤ own ∧ own ≤ 4) && hasIn f len own)) = true := h
    simp only [Bool.and_eq_true, decide_eq_true_eq] at h'
    obtain ⟨_, ⟨h1, h2⟩, h3⟩ := h'
    rcases (by omega : own = 1 ∨ own = 2 ∨ own = 3 ∨ own = 4) with rfl | rfl | rfl | rfl <;> simp [h3]
set_option maxHeartbeats 1000000 in
theorem memberOkI (own : Int) (ad : Option Addr) (len cap : Nat) (f : Nat → Int) (w : World) (hv : ViewI w ad len f) (hm : len ≤ maxLen) :
    Calls Tryz.prog 121 #[.agg #[.int .i64 own, .slice ad len cap]] w fun e w' => e = .returned (.bool (mOk own f len)) ∧ Below w.heap.size w w' := by
  have B0 : Below w.heap.size w (w.alloc (Obj.cells #[.int .i64 own, .slice ad len cap] 50)) := (Below.refl _ _).alloc (Nat.le_refl _) _
  have hv0 := hv.below B0 (Nat.le_refl _)
  go_enter Tryz.func121, Tryz.ntmps121
  go_wp2_with fail
  go_at_call 59
  refine (netsIn own ad len cap f _ hv0 hm).mono ?_
  rintro e x1 ⟨rfl, k1⟩
  have B1 := B0.trans (k1.mono B0.size)
  have hE := eqNets x1 (mOk own f len && hasIn f len 1) (mOk own f len && hasIn f len 2) (mOk own f len && hasIn f len 3) (mOk own f len && hasIn f len 4) false false false false
  have hq : Hid _ := mOk_none (own := own) (f := f) (len := len)
  generalize (mOk own f len && hasIn f len 1) = A1 at *
  generalize (mOk own f len && hasIn f len 2) = A2 at *
  generalize (mOk own f len && hasIn f len 3) = A3 at *
  generalize (mOk own f len && hasIn f len 4) = A4 at *
  generalize (A1 == false && (A2 == false && (A3 == false && A4 == false))) = E at *
  go_wp2
  go_ret
  exact ⟨by rw [← hq.out]; rfl, B1⟩

end Go.Proofs.YtifndemkkaelaaaGreat
