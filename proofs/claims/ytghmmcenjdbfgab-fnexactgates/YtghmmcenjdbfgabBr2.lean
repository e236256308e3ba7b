/- Bridges: marked. -/
import Derived.Test.YtghmmcenjdbfgabRows
import Derived.WalkKit
import Derived.ProofKit
import Derived.OpenShut
import Derived.ShutString
import Derived.ChangeOld
import Derived.Below
import Derived.Deep.QuietTactic
import Derived.BigQuiet
import Derived.WalkSmall
import Derived.Laws.OwnMore
import Derived.WalkSpells
import Derived.WalkLawsBesides
import Derived.Test.YtghmmcenjdbfgabBr1
import Derived.Test.YtghmmcenjdbfgabPts3
namespace Go.Proofs.Ytghmmcenjdbfgab
open Go.ChangeShapes Go.WideShapes Go.ChangeAt Go.RowKit
open Go.ChangeMaps (open_string shut_string)
set_option linter.unusedVariables false
set_option maxRecDepth 100000

theorem brMark (id : Int) (ad : Option Addr) (cap : Nat) (s : Int) (base : Nat) (L : List Pt) (w : World) (hr : FOwn ptEnc 11 62 base w (.slice ad L.length cap) L) (hl : L.length ≤ 1048576) (s0 : 0 ≤ s) (s1 : s ≤ 1000000000000) :
    Calls Try.prog 12 #[.agg #[.int .i64 id, .slice ad L.length cap], .int .i64 s] w fun e w' => e = .returned (.int .i64 (s + 11 * (L.length : Int))) ∧ FOwn ptEnc 11 62 base w' (.slice ad L.length cap) ((List.range L.length).map (ptMk s)) ∧ w.grownBy w' (Value.slice ad L.length cap).ownBlock := by
  obtain ⟨y, hy⟩ : ∃ y, y = w.alloc (Obj.cells #[.int .i64 id, .slice ad L.length cap] 30) := ⟨_, rfl⟩
  have B0 : Below w.heap.size w y := by rw [hy]; exact below_new _
  have O0 := hr.later B0
  obtain ⟨K, hK⟩ : ∃ K, K = s + 11 * (L.length : Int) := ⟨_, rfl⟩
  rw [← hK]
  replace hK : Hid _ := hK
  go_enter Try.func12, Try.ntmps12
  go_wp2_with fail
  go_at_call 28
  rw [← hy]
  clear hy
  refine (ptMark ad cap s base L y O0 hl s0 s1).mono ?_
  rintro e w1 ⟨rfl, O1, g1⟩
  have G : w.grownBy w1 (Value.slice ad L.length cap).ownBlock := ⟨g1.os.trans B0.os, g1.tape.trans B0.tape, g1.output.trans B0.output, Nat.le_trans B0.size g1.size, fun k hk hne => (g1.block k (Nat.lt_of_lt_of_le hk B0.size) hne).trans (B0.block k hk)⟩
  clear g1 B0 hr O0
  rw [← hK.out]
  go_wp2
  go_ret
  exact ⟨rfl, O1, G⟩
end Go.Proofs.Ytghmmcenjdbfgab
