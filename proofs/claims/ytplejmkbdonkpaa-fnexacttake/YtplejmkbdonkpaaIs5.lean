/- Lists of In: held. -/
import Derived.Test.YtplejmkbdonkpaaRows
import Derived.WalkKit
import Derived.ProofKit
import Derived.OpenShut
import Derived.ShutString
import Derived.ChangeOld
import Derived.Below
import Derived.Deep.QuietTactic
import Derived.BigQuiet
import Derived.WalkSmall
import Derived.Laws.OwnMore
import Derived.WalkSpells
import Derived.WalkLawsBesides
import Derived.Test.YtplejmkbdonkpaaIs4
namespace Go.Proofs.Ytplejmkbdonkpaa
open Go.ChangeShapes Go.WideShapes Go.ChangeAt Go.RowKit
open Go.ChangeMaps (open_string shut_string)
set_option linter.unusedVariables false
set_option maxRecDepth 100000

set_option maxHeartbeats 4000000 in
theorem ikHeld (ad : Option Addr) (len cap : Nat) (s : Int) (w : World) (hv : FView ikEnc w ad ((List.range len).map (ikMk s))) (hl : len ≤ 1048576) (s0 : 0 ≤ s) (s1 : s ≤ 1000000000000) :
    Calls Try.prog 58 #[.slice ad len cap, .int .i64 s] w fun e w' => e = .returned (.int .i64 (s + 8 * (len : Int))) ∧ w' = w := by
  go_enter Try.func58, Try.ntmps58
  go_wp2
  go_loop [1, 5] (fun q i => ∃ k : Nat, k ≤ len ∧ i = .int .i64 k ∧ q = .int .i64 (s + 8 * (k : Int))) (fun _ i => len - (intOf i).toNat)
  case atStart => exact ⟨0, Nat.zero_le _, rfl, by simp⟩
  case round =>
    obtain ⟨k, hk, rfl, rfl⟩ := hrel
    by_cases hlt : k < len
    · obtain ⟨b, off, rfl, _⟩ := hv (by simpa using Nat.lt_of_le_of_lt (Nat.zero_le _) hlt)
      have hck : IkAtO w b (off + k * 8) (ikMk s k) := by
        have := ikAtO_of (hv.at_ ikEnc_len Ik.nil (i := k) (by simpa using hlt))
        rwa [show ((List.range len).map (ikMk s)).getD k Ik.nil = ikMk s k by simp [List.getD, hlt]] at this
      obtain ⟨c0, c1, c2, c3, c4, c5, c6, c7⟩ := hck
      unfold ikMk at c0 c1 c2 c3 c4 c5 c6 c7
      dsimp only at c0 c1 c2 c3 c4 c5 c6 c7
      generalize hK : s + 8 * (k : Int) = K at c0 c1 c2 c3 c4 c5 c6 c7 ⊢
      have K0 : 0 ≤ K := by omega
      have K1 : K ≤ 1100000000000 := by omega
      replace hK : Hid _ := hK
      have tq : ∀ x : Int, (!decide (x % 3 = 0) == (x % 3 == 0)) = false := fun x => by by_cases q : x % 3 = 0 <;> simp [q]
      go_wp2
      go_round
      case rel => exact ⟨k + 1, by omega, by go_num, by have := hK.out; go_num⟩
      case measure => simp [intOf]; omega
    · obtain rfl : k = len := by omega
      go_wp2
      go_ret
      exact ⟨rfl, rfl⟩

end Go.Proofs.Ytplejmkbdonkpaa
