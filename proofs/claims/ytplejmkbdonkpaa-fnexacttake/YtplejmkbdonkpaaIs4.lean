/- Lists of In: marked. -/
import Derived.Test.YtplejmkbdonkpaaRows
import Derived.WalkKit
import Derived.ProofKit
import Derived.OpenShut
import Derived.ShutString
import Derived.ChangeOld
import Derived.Below
import Derived.Deep.QuietTactic
import Derived.BigQuiet
import Derived.WalkSmall
import Derived.Laws.OwnMore
import Derived.WalkSpells
import Derived.WalkLawsBesides
import Derived.Test.YtplejmkbdonkpaaIs1
namespace Go.Proofs.Ytplejmkbdonkpaa
open Go.ChangeShapes Go.WideShapes Go.ChangeAt Go.RowKit
open Go.ChangeMaps (open_string shut_string)
set_option linter.unusedVariables false
set_option maxRecDepth 100000

/-- The marks that the law lays upon one, from s on. -/
def ikMk (s : Int) (i : Nat) : Ik := ⟨(s + 8 * (i : Int)), (s + 8 * (i : Int)) + 1, (s + 8 * (i : Int)) + 1 + 1, (s + 8 * (i : Int)) + 1 + 1 + 1, (s + 8 * (i : Int)) + 1 + 1 + 1 + 1, (s + 8 * (i : Int)) + 1 + 1 + 1 + 1 + 1, (s + 8 * (i : Int)) + 1 + 1 + 1 + 1 + 1 + 1, decide (((s + 8 * (i : Int)) + 1 + 1 + 1 + 1 + 1 + 1 + 1) % 3 = 0)⟩
set_option maxHeartbeats 4000000 in
theorem ikMark (ad : Option Addr) (cap : Nat) (s : Int) (base : Nat) (L : List Ik) (w : World) (hr : FOwn ikEnc 8 30 base w (.slice ad L.length cap) L) (hl : L.length ≤ 1048576) (s0 : 0 ≤ s) (s1 : s ≤ 1000000000000) :
    Calls Try.prog 57 #[.slice ad L.length cap, .int .i64 s] w fun e w' => e = .returned (.int .i64 (s + 8 * (L.length : Int))) ∧ FOwn ikEnc 8 30 base w' (.slice ad L.length cap) ((List.range L.length).map (ikMk s)) ∧ w.grownBy w' (Value.slice ad L.length cap).ownBlock := by
  by_cases hz : L.length = 0
  · obtain rfl : L = [] := List.eq_nil_of_length_eq_zero hz
    go_enter Try.func57, Try.ntmps57
    go_wp2
    refine wp_loop_rounds 1 ?_; rw [rounds_succ]
    go_wp2
    go_ret
    exact ⟨by simp, hr, ⟨rfl, rfl, rfl, Nat.le_refl _, fun _ _ _ => rfl⟩⟩
  obtain ⟨g, rfl⟩ : ∃ g, ad = some ⟨g, 0, none⟩ := by
    rcases hr.2 with ⟨_, q⟩ | ⟨g, cap, cur, q, _⟩
    · omega
    · simp only [Value.slice.injEq] at q
      exact ⟨g, q.1⟩
  have M0 : FOwn ikEnc 8 30 base w (.slice (some ⟨g, 0, none⟩) L.length cap) (markd (ikMk s) L 0) := by rw [markd_zero]; exact hr
  have g0 : w.grownBy w (some g) := ⟨rfl, rfl, rfl, Nat.le_refl _, fun _ _ _ => rfl⟩
  clear hr hz
  go_enter Try.func57, Try.ntmps57
  go_wp2
  go_loopw [1, 5] (fun q i wr => ∃ k : Nat, k ≤ L.length ∧ i = .int .i64 k ∧ q = .int .i64 (s + 8 * (k : Int)) ∧ FOwn ikEnc 8 30 base wr (.slice (some ⟨g, 0, none⟩) L.length cap) (markd (ikMk s) L k) ∧ w.grownBy wr (some g)) (fun _ i _ => L.length - (intOf i).toNat)
  case atStart => exact ⟨0, Nat.zero_le _, rfl, by simp, M0, g0⟩
  case round =>
    obtain ⟨k, hk, rfl, rfl, M, gr⟩ := hrel
    clear M0 g0
    have hml := markd_len (mk := ikMk s) hk
    by_cases hlt : k < L.length
    · rw [← hml] at M
      have hk2 : k < (markd (ikMk s) L k).length := by rw [hml]; exact hlt
      obtain ⟨h, hh⟩ : ∃ h, (markd (ikMk s) L k).getD k Ik.nil = h := ⟨_, rfl⟩
      have hck : IkAtO wr g (k * 8) h := by
        rw [← hh]
        exact ikAtO_of (M.cell ikEnc_len Ik.nil hk2)
      have ff := M.frozen
      have f0 := ff (k * 8)
      have f1 := ff (k * 8 + 1)
      have f2 := ff (k * 8 + 2)
      have f3 := ff (k * 8 + 3)
      have f4 := ff (k * 8 + 4)
      have f5 := ff (k * 8 + 5)
      have f6 := ff (k * 8 + 6)
      have f7 := ff (k * 8 + 7)
      have M1 := M.set ikEnc_len (by omega) hk2 (ikMk s k)
      rw [markd_set hlt, ikPut, hml] at M1
      have G1 := grown_putAll (ikEnc (ikMk s k)) (k * 8) gr
      rw [ikPut] at G1
      unfold ikMk at M1 G1
      dsimp only at M1 G1
      clear M gr ff hh hml hk2
      obtain ⟨c0, c1, c2, c3, c4, c5, c6, c7⟩ := hck
      generalize hK : s + 8 * (k : Int) = K at M1 G1 ⊢
      have K0 : 0 ≤ K := by omega
      have K1 : K ≤ 1100000000000 := by omega
      replace hK : Hid _ := hK
      go_wp2
      go_roundw
      case rel => exact ⟨k + 1, by omega, by go_num, by have := hK.out; go_num, M1, G1⟩
      case measure => simp [intOf]; omega
    · obtain rfl : k = L.length := by omega
      rw [markd_all] at M
      go_wp2
      go_ret
      exact ⟨rfl, M, gr⟩

end Go.Proofs.Ytplejmkbdonkpaa
