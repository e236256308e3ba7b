/- What is drawn for GetNum. -/
import Derived.Test.YtpddgladbodkbaaDoorRows
import Derived.WalkKit
import Derived.ProofKit
import Derived.OpenShut
import Derived.ShutString
import Derived.ChangeOld
import Derived.Below
import Derived.Deep.QuietTactic
import Derived.BigQuiet
import Derived.WalkSmall
import Derived.Laws.OwnMore
import Derived.WalkSpells
import Derived.WalkLawsBesides
import Derived.Test.YtpddgladbodkbaaDoorDraws2
namespace Go.Proofs.YtpddgladbodkbaaDoor
open Go.ChangeShapes Go.WideShapes Go.ChangeAt Go.RowKit
open Go.ChangeMaps (open_string shut_string)
set_option linter.unusedVariables false

set_option maxHeartbeats 2000000 in
theorem drawGet {w : World} {ad : Option Addr} {len cap : Nat} {f : Nat → Int} (h : Code0 w ad len f) :
    Calls Tryd.prog 22 #[.slice ad len cap] w fun e w' => ∃ (v : Value) (L : List Int) (x : Int), e = .returned (.tuple #[v, .int .i64 x]) ∧ w'.ownsRow (w.heap.size + 1) 5 1 v L.length (L.map (Value.int .u8)) ∧ (∀ x ∈ L, 0 ≤ x ∧ x ≤ 255) ∧ L.length ≤ 100 ∧ InI x ∧ Below w.heap.size w w' := by
  have had := h.lt
  go_enter Tryd.func22, Tryd.ntmps22
  go_wp2_with fail
  go_at_call 33
  refine (drawNew ad len cap f w h.view h.lt h.small h.bytes).mono ?_
  rintro e w1 ⟨rfl, hs, hb, hzz⟩
  have hz : w.heap.size < w1.heap.size := by omega
  clear hzz h
  go_wp2_with fail
  go_at_call 42
  refine (drawNums hs hb hz had).mono ?_
  rintro e w2 ⟨v, L, rfl, M, hL⟩
  obtain ⟨hn, adv, capv, rfl, _, _, _⟩ := own_view M.own
  have hlit : ∀ i, i < 7 → ∃ y, (w2.alloc (.cells #[.int .i64 0, .int .i64 0, .int .i64 1, .int .i64 (L.length : Int), .int .i64 ((L.length : Int) - 5), .int .i64 (-1), .int .i64 9223372036854775807] 3)).cell? ⟨w2.heap.size, i, none⟩ = some (.int .i64 y) ∧ InI y := by
    intro i hi
    have hc : i = 0 ∨ i = 1 ∨ i = 2 ∨ i = 3 ∨ i = 4 ∨ i = 5 ∨ i = 6 := by omega
    rcases hc with rfl | rfl | rfl | rfl | rfl | rfl | rfl <;> exact ⟨_, lit_at w2 _ _ _ rfl, by constructor <;> omega⟩
  have M2 := M.later (w' := w2.alloc (.cells #[.int .i64 0, .int .i64 0, .int .i64 1, .int .i64 (L.length : Int), .int .i64 ((L.length : Int) - 5), .int .i64 (-1), .int .i64 9223372036854775807] 3)) ((Below.refl _ _).alloc (Nat.le_refl _) _)
  have hsz := M.sz
  clear M hs hb hz hn
  go_wp2_with fail
  go_at_call 32
  refine (pickIntP M2.src InI w2.heap.size 7 7 (by omega) (by omega) (by omega) hlit).mono ?_
  rintro e w3 ⟨x, rfl, hx, hs3, hg3⟩
  have M3 := M2.grown hs3 hg3
  clear hs3 hg3 M2 hlit
  go_wp2
  exact bodyPost_ret (v := .tuple #[.slice adv L.length capv, .int .i64 x]) (by simp [results, Tryd.results22, go_sem]) rfl ⟨_, L, x, rfl, M3.own, M3.bytes, hL, hx, M3.bel⟩

end Go.Proofs.YtpddgladbodkbaaDoor
