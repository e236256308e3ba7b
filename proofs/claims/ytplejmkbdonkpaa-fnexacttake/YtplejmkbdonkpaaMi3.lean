/- Minders: marked, held. -/
import Derived.Test.YtplejmkbdonkpaaRows
import Derived.WalkKit
import Derived.ProofKit
import Derived.OpenShut
import Derived.ShutString
import Derived.ChangeOld
import Derived.Below
import Derived.Deep.QuietTactic
import Derived.BigQuiet
import Derived.WalkSmall
import Derived.Laws.OwnMore
import Derived.WalkSpells
import Derived.WalkLawsBesides
import Derived.Test.YtplejmkbdonkpaaMi1
import Derived.Test.YtplejmkbdonkpaaIs5
namespace Go.Proofs.Ytplejmkbdonkpaa
open Go.ChangeShapes Go.WideShapes Go.ChangeAt Go.RowKit
open Go.ChangeMaps (open_string shut_string)
set_option linter.unusedVariables false
set_option maxRecDepth 100000

theorem miMark (m : Mi) (ad : Option Addr) (cap : Nat) (s : Int) (base : Nat) (w : World) (hr : FOwn ikEnc 8 30 base w (.slice ad m.lg.length cap) m.lg) (hl : m.lg.length ≤ 1048576) (s0 : 0 ≤ s) (s1 : s ≤ 1000000000000) :
    Calls Try.prog 30 #[.agg #[.bool m.up, .int .i64 m.li, .int .i64 m.ep, .slice ad m.lg.length cap, .int .i64 m.sd, .int .i64 m.ac, .int .i64 m.al], .int .i64 s] w fun e w' => e = .returned (.int .i64 (s + 8 * (m.lg.length : Int))) ∧ FOwn ikEnc 8 30 base w' (.slice ad m.lg.length cap) ((List.range m.lg.length).map (ikMk s)) ∧ w.grownBy w' (Value.slice ad m.lg.length cap).ownBlock := by
  obtain ⟨y, hy⟩ : ∃ y, y = w.alloc (Obj.cells #[.bool m.up, .int .i64 m.li, .int .i64 m.ep, .slice ad m.lg.length cap, .int .i64 m.sd, .int .i64 m.ac, .int .i64 m.al] 26) := ⟨_, rfl⟩
  have B0 : Below w.heap.size w y := by rw [hy]; exact below_new _
  have O0 := hr.later B0
  obtain ⟨K, hK⟩ : ∃ K, K = s + 8 * (m.lg.length : Int) := ⟨_, rfl⟩
  rw [← hK]
  replace hK : Hid _ := hK
  go_enter Try.func30, Try.ntmps30
  go_wp2_with fail
  go_at_call 57
  rw [← hy]
  clear hy
  refine (ikMark ad cap s base m.lg y O0 hl s0 s1).mono ?_
  rintro e w1 ⟨rfl, O1, g1⟩
  have G : w.grownBy w1 (Value.slice ad m.lg.length cap).ownBlock := ⟨g1.os.trans B0.os, g1.tape.trans B0.tape, g1.output.trans B0.output, Nat.le_trans B0.size g1.size, fun k hk hne => (g1.block k (Nat.lt_of_lt_of_le hk B0.size) hne).trans (B0.block k hk)⟩
  clear g1 B0 hr O0
  rw [← hK.out]
  go_wp2
  go_ret
  exact ⟨rfl, O1, G⟩
theorem miHeld (m : Mi) (ad : Option Addr) (cap : Nat) (s : Int) (w : World) (hv : FView ikEnc w ad ((List.range m.lg.length).map (ikMk s))) (hl : m.lg.length ≤ 1048576) (s0 : 0 ≤ s) (s1 : s ≤ 1000000000000) :
    Calls Try.prog 31 #[.agg #[.bool m.up, .int .i64 m.li, .int .i64 m.ep, .slice ad m.lg.length cap, .int .i64 m.sd, .int .i64 m.ac, .int .i64 m.al], .int .i64 s] w fun e w' => e = .returned (.int .i64 (s + 8 * (m.lg.length : Int))) ∧ Below w.heap.size w w' := by
  have hB := hv.lt ikEnc_len (by omega)
  obtain ⟨y, hy⟩ : ∃ y, y = w.alloc (Obj.cells #[.bool m.up, .int .i64 m.li, .int .i64 m.ep, .slice ad m.lg.length cap, .int .i64 m.sd, .int .i64 m.ac, .int .i64 m.al] 26) := ⟨_, rfl⟩
  have B0 : Below w.heap.size w y := by rw [hy]; exact below_new _
  have K0 : 0 ≤ s + 8 * (m.lg.length : Int) := by omega
  obtain ⟨K, hK⟩ : ∃ K, K = s + 8 * (m.lg.length : Int) := ⟨_, rfl⟩
  rw [← hK] at K0 ⊢
  replace hK : Hid _ := hK
  go_enter Try.func31, Try.ntmps31
  go_wp2_with fail
  go_at_call 58
  rw [← hy]
  clear hy
  refine (ikHeld ad m.lg.length cap s y (hv.below B0 hB) hl s0 s1).mono ?_
  rintro e w1 ⟨rfl, rfl⟩
  rw [← hK.out]
  go_wp2
  go_ret
  exact ⟨rfl, B0⟩

end Go.Proofs.Ytplejmkbdonkpaa
