/- Marks of five, in memory. -/
import Derived.Test.YtdfjfodfnildiaaRows
import Derived.WalkKit
import Derived.ProofKit
import Derived.OpenShut
import Derived.ShutString
import Derived.ChangeOld
import Derived.Below
import Derived.Deep.QuietTactic
import Derived.BigQuiet
import Derived.WalkSmall
import Derived.Laws.OwnMore
import Derived.WalkSpells
import Derived.WalkLawsBesides
import Derived.Deep.Cut
import Derived.Test.YtdfjfodfnildiaaTr0
import Derived.Test.YtdfjfodfnildiaaBase
namespace Go.Proofs.Ytdfjfodfnildiaa
open Go.ChangeShapes Go.WideShapes Go.ChangeAt Go.RowKit
open Go.ChangeMaps (open_string shut_string)
set_option linter.unusedVariables false
set_option maxRecDepth 100000

/-- An array of five marks in memory. -/
structure B5 (w : World) (q : Nat) (M : List Bool) : Prop where
  at_ : ∀ i, i < 5 → w.cell? ⟨q, i, none⟩ = some (.bool (M.getD i false))
  fr : ∀ i, w.frozen? ⟨q, i, none⟩ = false
theorem B5.keep {w w' : World} {q : Nat} {M : List Bool} (h : B5 w q M) (k : w'.heap[q]? = w.heap[q]?) : B5 w' q M := ⟨fun i hi => (World.cell?_of_block (a := ⟨q, i, none⟩) k).trans (h.at_ i hi), fun i => (World.frozen?_of_block (a := ⟨q, i, none⟩) k).trans (h.fr i)⟩
theorem B5.below {w w' : World} {q n : Nat} {M : List Bool} (h : B5 w q M) (k : Below n w w') (hq : q < n) : B5 w' q M := h.keep (k.block q hq)
theorem B5.lt {w : World} {q : Nat} {M : List Bool} (h : B5 w q M) : q < w.heap.size := World.block_lt_of_cell? w _ (h.at_ 0 (by omega))
theorem B5.set {w : World} {q x : Nat} {M : List Bool} (h : B5 w q M) (hx : x < 5) (hl : M.length = 5) : B5 (w.setCell ⟨q, x, none⟩ (.bool true)) q (M.set x true) := by
  refine ⟨fun i hi => ?_, fun i => by rw [World.frozen?_setCell]; exact h.fr i⟩
  rw [getD_set (by omega)]
  by_cases e : x = i
  · subst e
    rw [World.cell?_setCell_same _ _ _ (h.at_ x hx), if_pos rfl]
  · rw [World.cell?_setCell_other _ _ _ _ (by intro q; simp only [Addr.mk.injEq] at q; omega), h.at_ i hi, if_neg e]
theorem B5.other {w : World} {q r x : Nat} {M : List Bool} {v : Value} (h : B5 w q M) (hr : r ≠ q) : B5 (w.setCell ⟨r, x, none⟩ v) q M := ⟨fun i hi => by
  rw [World.cell?_setCell_other _ _ _ _ (by intro q; simp only [Addr.mk.injEq] at q; omega), h.at_ i hi], fun i => by rw [World.frozen?_setCell]; exact h.fr i⟩
theorem B5.new5 (w : World) (t : TypeId) : B5 (w.alloc (Obj.cells #[.bool false, .bool false, .bool false, .bool false, .bool false] t)) w.heap.size (List.replicate 5 false) := by
  refine ⟨fun i hi => ?_, fun i => by simp [go_sem]⟩
  rcases (by omega : i = 0 ∨ i = 1 ∨ i = 2 ∨ i = 3 ∨ i = 4) with rfl | rfl | rfl | rfl | rfl <;> simp [go_sem]
/-- A mark that is there. -/
def tst : Option Value → Bool
  | some (.bool b) => b
  | _ => false
/-- How many are marked, of an array of five. -/
def cntAt (w : World) (q : Nat) : Nat := ([tst (w.cell? ⟨q, 0, none⟩), tst (w.cell? ⟨q, 1, none⟩), tst (w.cell? ⟨q, 2, none⟩), tst (w.cell? ⟨q, 3, none⟩), tst (w.cell? ⟨q, 4, none⟩)] : List Bool).count true
theorem list5 {M : List Bool} (hl : M.length = 5) : M = [M.getD 0 false, M.getD 1 false, M.getD 2 false, M.getD 3 false, M.getD 4 false] := by
  obtain ⟨a, b, c, d, e, rfl⟩ : ∃ a b c d e, M = [a, b, c, d, e] := by
    match M, hl with
    | [a, b, c, d, e], _ => exact ⟨a, b, c, d, e, rfl⟩
  rfl
theorem cnt_at {w : World} {q : Nat} {M : List Bool} (h : B5 w q M) (hl : M.length = 5) : cntAt w q = M.count true := by
  unfold cntAt
  rw [h.at_ 0 (by omega), h.at_ 1 (by omega), h.at_ 2 (by omega), h.at_ 3 (by omega), h.at_ 4 (by omega)]
  simp only [tst]
  rw [← list5 hl]
theorem cnt5 (M : List Bool) (hl : M.length = 5) : M.count true ≤ 5 := by
  have : M.count true ≤ M.length := List.count_le_length
  omega
set_option maxHeartbeats 1000000 in
theorem markC (q x : Nat) (M : List Bool) (w : World) (h : B5 w q M) (hx : x < 5) :
    Calls Try.prog 65 #[.int .i64 (x : Int), .pointer (some ⟨q, 0, none⟩)] w fun e w' => e = .returned (.bool (!M.getD x false)) ∧ w' = w.setCell ⟨q, x, none⟩ (.bool true) := by
  have c := h.at_ x hx
  have ff := h.fr x
  obtain ⟨o, ho⟩ : ∃ o, M.getD x false = o := ⟨_, rfl⟩
  rw [ho] at c ⊢
  have b1 : (x : Int) < 5 := by omega
  have b2 : (0 : Int) ≤ (x : Int) := by omega
  clear h ho
  go_enter Try.func65, Try.ntmps65
  go_wp2
  go_ret
  exact ⟨rfl, rfl⟩

end Go.Proofs.Ytdfjfodfnildiaa
