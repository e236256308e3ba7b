/- spec.Reach, walked. -/
import Derived.Test.YtdfjfodfnildiaaRows
import Derived.WalkKit
import Derived.ProofKit
import Derived.OpenShut
import Derived.ShutString
import Derived.ChangeOld
import Derived.Below
import Derived.Deep.QuietTactic
import Derived.BigQuiet
import Derived.WalkSmall
import Derived.Laws.OwnMore
import Derived.WalkSpells
import Derived.WalkLawsBesides
import Derived.Deep.Cut
import Derived.Laws.StructEq
import Derived.Maps.AppendAt
import Derived.Test.YtdfjfodfnildiaaTr8
namespace Go.Proofs.Ytdfjfodfnildiaa
open Go.ChangeShapes Go.WideShapes Go.ChangeAt Go.RowKit
open Go.ChangeMaps (open_string shut_string)
set_option linter.unusedVariables false
set_option maxRecDepth 100000

/-- Who can be come to: nobody of what is not right. -/
def ReachIs (B : List Bg) (K : List Lk) (m : Int) (al : Bool) (L : List Int) : Prop :=
  (¬ (NetP B K ∧ 0 ≤ m ∧ m < (B.length : Int)) ∧ L = []) ∨ (NetP B K ∧ ∃ f : Nat, m = (f : Int) ∧ f < B.length ∧ ∃ M, Marks (if al = true then K else K.filter (openB B)) B.length (f : Int) M ∧ L = idx 0 M)
theorem ReachIs.unique {B : List Bg} {K : List Lk} {m : Int} {al : Bool} {L M : List Int} (h : ReachIs B K m al L) (k : ReachIs B K m al M) : L = M := by
  rcases h with ⟨h1, rfl⟩ | ⟨h1, f, rfl, hf, M1, m1, rfl⟩
  · rcases k with ⟨_, rfl⟩ | ⟨k1, f, rfl, hf, _⟩
    · rfl
    · exact absurd ⟨k1, by omega, by omega⟩ h1
  · rcases k with ⟨k1, _⟩ | ⟨_, f', e, _, M2, m2, rfl⟩
    · exact absurd ⟨h1, by omega, by omega⟩ k1
    · obtain rfl : f = f' := by omega
      rw [m1.unique m2]
theorem reach_small {B : List Bg} {K : List Lk} {m : Int} {al : Bool} {L : List Int} (h : ReachIs B K m al L) : L.length ≤ 1048576 := by
  rcases h with ⟨_, rfl⟩ | ⟨h1, f, _, _, M, hM, rfl⟩
  · simp
  · have h2 := idx_len M 0
    have h3 := hM.len
    have h4 := h1.many.2
    omega
theorem sel_none (B : List Bg) (al : Bool) (K : List Lk) : selL (pickF B al (-1)) 0 K = if al = true then K else K.filter (openB B) := by
  cases al
  · rw [if_neg (by decide)]
    refine selL_filter _ _ K 0 (fun j l _ _ => ?_)
    have : decide ((j : Int) ≠ -1) = true := decide_eq_true (by omega)
    simp only [pickF, this, Bool.true_and, Bool.false_or]
  · rw [if_pos rfl]
    refine selL_all _ K (fun j l => ?_) 0
    have : decide ((j : Int) ≠ -1) = true := decide_eq_true (by omega)
    simp only [pickF, this, Bool.true_and, Bool.true_or]
theorem sel_one (B : List Bg) (A : List Lk) (x : Lk) (C : List Lk) : selL (pickF B false (A.length : Int)) 0 (A ++ x :: C) = (A ++ C).filter (openB B) := by
  rw [selL_app, Nat.zero_add, List.filter_append]
  congr 1
  · refine selL_filter _ _ A 0 (fun j l _ h => ?_)
    have : decide ((j : Int) ≠ (A.length : Int)) = true := decide_eq_true (by omega)
    simp only [pickF, this, Bool.true_and, Bool.false_or]
  · have : pickF B false (A.length : Int) A.length x = false := by simp [pickF]
    simp only [selL, this]
    refine selL_filter _ _ C (A.length + 1) (fun j l h _ => ?_)
    have : decide ((j : Int) ≠ (A.length : Int)) = true := decide_eq_true (by omega)
    simp only [pickF, this, Bool.true_and, Bool.false_or]
set_option maxHeartbeats 8000000 in
theorem reachS (adB : Option Addr) (capB : Nat) (Bs : List Bd) (adK : Option Addr) (capK : Nat) (K : List Lk) (m : Int) (al : Bool) (w : World) (h : NN w adB Bs adK K) :
    Calls Try.prog 16 #[.agg #[.slice adB Bs.length capB, .slice adK K.length capK], .int .i64 m, .bool al] w fun e w' => ∃ L a c, ReachIs (dB Bs) K m al L ∧ e = .returned (.slice a (List.length L) c) ∧ FOwn ivEnc 1 3 w.heap.size w' (.slice a L.length c) L ∧ Below w.heap.size w w' := by
  obtain ⟨y, hy⟩ : ∃ y, y = w.alloc (Obj.cells #[.slice adB Bs.length capB, .slice adK K.length capK] 27) := ⟨_, rfl⟩
  have B0 : Below w.heap.size w y := by rw [hy]; exact below_new _
  have A : NeAt y w.heap.size (.slice adB Bs.length capB) (.slice adK K.length capK) := by rw [hy]; exact NeAt.new w _
  have hN := h.later B0
  have hk := h.hk
  have hlB := h.hl
  clear h
  by_cases hok : NetP (dB Bs) K
  rotate_left
  · replace hok : Hid _ := hok
    go_enter Try.func16, Try.ntmps16
    go_wp2_with fail
    go_at_call 42
    rw [← hy]
    clear hy
    refine (netOkS adB capB Bs adK capK K y hN).mono ?_
    rintro e y1 ⟨⟨R1, rfl, hR1⟩, kq⟩
    obtain rfl := bool_no hR1 hok.out
    clear hR1
    have B1 := B0.trans (kq.mono B0.size)
    have A := A.below kq A.lt
    have hN := hN.later kq
    clear kq B0
    have E : FOwn ivEnc 1 3 y1.heap.size (y1.alloc (Obj.cells #[] 3)) (.slice (some ⟨y1.heap.size, 0, none⟩) 0 0) ([] : List Int) := FOwn.empty y1
    have bE := B1.alloc B1.size (Obj.cells #[] 3)
    have sE := B1.size
    go_wp2
    go_ret
    exact ⟨[], _, _, .inl ⟨fun q => hok.out q.1, rfl⟩, rfl, E.base sE, bE⟩
  replace hok : Hid _ := hok
  go_enter Try.func16, Try.ntmps16
  go_wp2_with fail
  go_at_call 42
  rw [← hy]
  clear hy
  refine (netOkS adB capB Bs adK capK K y hN).mono ?_
  rintro e y1 ⟨⟨R1, rfl, hR1⟩, kq⟩
  obtain rfl : R1 = true := hR1.2 hok.out
  clear hR1
  have B1 := B0.trans (kq.mono B0.size)
  have A := A.below kq A.lt
  have hN := hN.later kq
  clear kq B0
  have cc := A
  obtain ⟨a0, a1⟩ := cc
  by_cases h1 : 0 ≤ m ∧ m ≤ (Bs.length : Int) - 1
  rotate_left
  · have h1n : m < 0 ∨ (Bs.length : Int) - 1 < m := by omega
    replace h1 : Hid _ := h1
    have E : FOwn ivEnc 1 3 y1.heap.size (y1.alloc (Obj.cells #[] 3)) (.slice (some ⟨y1.heap.size, 0, none⟩) 0 0) ([] : List Int) := FOwn.empty y1
    have bE := B1.alloc B1.size (Obj.cells #[] 3)
    have sE := B1.size
    go_wp2_with fail
    go_at_call 43
    refine (inNo _ _ _ _ h1n).mono ?_
    rintro e w' ⟨rfl, hw'⟩
    obtain rfl := hw'.symm
    go_wp2
    go_ret
    exact ⟨[], _, _, .inl ⟨fun q => h1.out ⟨q.2.1, by have := q.2.2; rw [dB_len] at this; omega⟩, rfl⟩, rfl, E.base sE, bE⟩
  obtain ⟨f, rfl⟩ := Int.eq_ofNat_of_zero_le h1.1
  have hf : f < Bs.length := by omega
  go_wp2_with fail
  go_at_call 43
  refine (inYes _ _ _ _ h1).mono ?_
  rintro e w' ⟨rfl, hw'⟩
  obtain rfl := hw'.symm
  go_wp2_with fail
  go_at_call 44
  clear a0 a1
  refine (reachL adB capB Bs adK capK K f al (-1) y1 hN hok hf).mono ?_
  rintro e z ⟨M, a, c, hM, rfl, O, kz⟩
  rw [sel_none] at hM
  replace hM : Hid _ := hM
  have OZ := O.base B1.size
  have bZ := B1.trans (kz.mono B1.size)
  clear O kz
  go_wp2
  go_ret
  exact ⟨idx 0 M, a, c, .inr ⟨hok.out, f, rfl, by rw [dB_len]; exact hf, M, by rw [dB_len]; exact hM.out, rfl⟩, rfl, OZ, bZ⟩

end Go.Proofs.Ytdfjfodfnildiaa
