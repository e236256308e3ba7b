/- Contracts of the functions over members: how great, copied, alike. -/
import Derived.Test.YtifndemkkaelaaaRows
import Derived.WalkKit
import Derived.ProofKit
import Derived.OpenShut
import Derived.ShutString
import Derived.ChangeOld
import Derived.Below
import Derived.Deep.QuietTactic
import Derived.BigQuiet
import Derived.WalkSmall
import Derived.Laws.OwnMore
import Derived.WalkSpells
import Derived.WalkLawsBesides
import Derived.Test.YtifndemkkaelaaaInts
import Derived.Test.YtifndemkkaelaaaNets4
import Derived.Test.YtifndemkkaelaaaOwn
namespace Go.Proofs.Ytifndemkkaelaaa
open Go.ChangeShapes Go.WideShapes Go.ChangeAt Go.RowKit
open Go.ChangeMaps (open_string shut_string)
set_option linter.unusedVariables false

theorem szM (own : Int) (ad : Option Addr) (len cap : Nat) (l : Int) (w : World) (hl0 : 0 ≤ l) (hl1 : l ≤ 1048576) (hm : len ≤ maxLen) :
    Calls Try.prog 64 #[.agg #[.int .i64 own, .slice ad len cap], .int .i64 l] w fun e w' => (e = .returned (.int .i64 (if (len : Int) ≤ l then l - len else -1))) ∧ Below w.heap.size w w' := by
  by_cases h : (len : Int) ≤ l
  · go_enter Try.func64, Try.ntmps64
    go_wp2_with fail
    go_at_call 84
    refine (szI ad len cap l _ hl0 hl1 hm).mono ?_
    rintro e w1 ⟨rfl, rfl⟩
    rw [if_pos h]
    have h1 : 0 ≤ l - (len : Int) := by omega
    go_wp2
    go_ret
    exact ⟨rfl, (Below.refl _ _).alloc (Nat.le_refl _) _⟩
  · go_enter Try.func64, Try.ntmps64
    go_wp2_with fail
    go_at_call 84
    refine (szI ad len cap l _ hl0 hl1 hm).mono ?_
    rintro e w1 ⟨rfl, rfl⟩
    rw [if_neg (by omega)]
    go_wp2
    go_ret
    exact ⟨rfl, (Below.refl _ _).alloc (Nat.le_refl _) _⟩
set_option maxHeartbeats 1000000 in
theorem toM (own : Int) (ad : Option Addr) (len cap : Nat) (f : Nat → Int) (w : World) (hv : ViewI w ad len f) (hl : len ≤ 1048576) :
    Calls Try.prog 67 #[.agg #[.int .i64 own, .slice ad len cap]] w fun e w' => ∃ N, e = .returned (.agg #[.int .i64 own, .slice (some ⟨N, 0, none⟩) len len]) ∧ w.heap.size ≤ N ∧ N < w'.heap.size ∧ ViewI w' (some ⟨N, 0, none⟩) len f ∧ Room w' (some ⟨N, 0, none⟩) len ∧ Below w.heap.size w w' := by
  go_enter Try.func67, Try.ntmps67
  go_wp2_with fail
  go_at_call 85
  obtain ⟨w0, hw0⟩ : ∃ w0, w0 = (((w.alloc (Obj.cells #[Value.int IntKind.i64 own, Value.slice ad len cap] 90)).alloc (Obj.cells #[Value.int IntKind.i64 0, Value.slice none 0 0] 55)).alloc (Obj.cells #[Value.int IntKind.i64 own, Value.slice none 0 0] 55)) := ⟨_, rfl⟩
  have hs0 : w0.heap.size = w.heap.size + 3 := by rw [hw0]; simp
  have b0 : Below w.heap.size w w0 := by rw [hw0]; exact (((Below.refl _ _).alloc (Nat.le_refl _) _).alloc (by simp) _).alloc (by simp; omega) _
  have c0 : MemAt w0 (w.heap.size + 1) 0 none 0 0 := by rw [hw0]; refine ⟨?_, ?_⟩ <;> simp [go_sem]
  have g0 : ∀ i, w0.frozen? ⟨w.heap.size + 1, i, none⟩ = false := by intro i; rw [hw0]; simp [go_sem]
  have d0 : MemAt w0 (w.heap.size + 1 + 1) own none 0 0 := by rw [hw0]; refine ⟨?_, ?_⟩ <;> simp [go_sem]
  have e0 : ∀ i, w0.frozen? ⟨w.heap.size + 1 + 1, i, none⟩ = false := by intro i; rw [hw0]; simp [go_sem]
  rw [← hw0]
  clear hw0
  refine (toInts ad len cap f w0 (hv.below b0 (Nat.le_refl _)) hl (fun x h hp => by have := hv.lt x h hp; omega)).mono ?_
  rintro e w1 ⟨rfl, F⟩
  obtain ⟨f1, f2, f3, f4, f5⟩ := F
  rw [hs0] at f1 f2 f3 f4 f5
  obtain ⟨D1, D2⟩ := d0.below f1 (by omega)
  obtain ⟨C1, C2⟩ := c0.below f1 (by omega)
  have D5 := fz_below e0 f1 (by omega) 1
  have G := fz_below g0 f1 (by omega)
  have G0 := G 0
  have G1 := G 1
  have bb : Below w.heap.size w w1 := b0.trans (f1.mono (by omega))
  rw [hs0]
  clear e0 g0 G hs0 c0 d0
  go_wp2
  refine bodyPost_ret (v := .agg #[.int .i64 own, .slice (some ⟨w.heap.size + 3, 0, none⟩) len len]) (by simp [results, Try.results67, go_sem, *]) rfl ⟨w.heap.size + 3, rfl, by omega, ?_, ?_, ?_, ?_⟩
  · simp; omega
  · refine ViewI.mk0 fun i hi => ?_
    simp [go_sem, f5 i hi]
  · refine fun _ => ⟨_, _, rfl, fun i hi => ⟨⟨.int .i64 (f i), ?_⟩, ?_⟩⟩
    · rw [Nat.zero_add]; simp [go_sem, f5 i hi]
    · rw [Nat.zero_add]; simp [go_sem, f4 i hi]
  · exact ((bb.setCell (by show _ ≤ w.heap.size + 1 + 1; omega) _).setCell (by simp) _).setCell (by simp) _
set_option maxHeartbeats 400000 in
theorem eqM (own : Int) (ad ad' : Option Addr) (len cap cap' : Nat) (f : Nat → Int) (w : World) (hv : ViewI w ad len f) (hv' : ViewI w ad' len f) (hl : len ≤ 1048576) :
    Calls Try.prog 69 #[.agg #[.int .i64 own, .slice ad len cap], .agg #[.int .i64 own, .slice ad' len cap']] w fun e w' => e = .returned (.bool true) ∧ Below w.heap.size w w' := by
  go_enter Try.func69, Try.ntmps69
  go_wp2_with fail
  go_at_call 86
  obtain ⟨w0, hw0⟩ : ∃ w0, w0 = ((w.alloc (Obj.cells #[Value.int IntKind.i64 own, Value.slice ad len cap] 55)).alloc (Obj.cells #[Value.int IntKind.i64 own, Value.slice ad' len cap'] 55)) := ⟨_, rfl⟩
  have b0 : Below w.heap.size w w0 := by rw [hw0]; exact ((Below.refl _ _).alloc (Nat.le_refl _) _).alloc (by simp) _
  rw [← hw0]
  clear hw0
  refine (eqInts ad ad' len cap cap' f w0 (hv.below b0 (Nat.le_refl _)) (hv'.below b0 (Nat.le_refl _)) hl).mono ?_
  rintro e w1 ⟨rfl, n, rfl⟩
  go_wp2
  go_ret
  exact ⟨rfl, below_drewN' b0 n⟩

end Go.Proofs.Ytifndemkkaelaaa
