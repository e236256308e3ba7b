/- Lists of links, marked. -/
import Derived.Test.YtdfjfodfnildiabRows
import Derived.WalkKit
import Derived.ProofKit
import Derived.OpenShut
import Derived.ShutString
import Derived.ChangeOld
import Derived.Below
import Derived.Deep.QuietTactic
import Derived.BigQuiet
import Derived.WalkSmall
import Derived.Laws.OwnMore
import Derived.WalkSpells
import Derived.WalkLawsBesides
import Derived.Test.YtdfjfodfnildiabLk1
namespace Go.Proofs.Ytdfjfodfnildiab
open Go.ChangeShapes Go.WideShapes Go.ChangeAt Go.RowKit
open Go.ChangeMaps (open_string shut_string)
set_option linter.unusedVariables false
set_option maxRecDepth 100000

/-- The marks that the law lays upon one, from s on. -/
def lkMk (s : Int) (i : Nat) : Lk := ⟨(s + 4 * (i : Int)), (s + 4 * (i : Int)) + 1, (s + 4 * (i : Int)) + 1 + 1, (s + 4 * (i : Int)) + 1 + 1 + 1⟩
set_option maxHeartbeats 4000000 in
theorem lkMark (ad : Option Addr) (cap : Nat) (s : Int) (base : Nat) (L : List Lk) (w : World) (hr : FOwn lkEnc 4 70 base w (.slice ad L.length cap) L) (hl : L.length ≤ 1048576) (s0 : 0 ≤ s) (s1 : s ≤ 1000000000000) :
    Calls Try.prog 33 #[.slice ad L.length cap, .int .i64 s] w fun e w' => e = .returned (.int .i64 (s + 4 * (L.length : Int))) ∧ FOwn lkEnc 4 70 base w' (.slice ad L.length cap) ((List.range L.length).map (lkMk s)) ∧ w.grownBy w' (Value.slice ad L.length cap).ownBlock := by
  by_cases hz : L.length = 0
  · obtain rfl : L = [] := List.eq_nil_of_length_eq_zero hz
    go_enter Try.func33, Try.ntmps33
    go_wp2
    refine wp_loop_rounds 1 ?_; rw [rounds_succ]
    go_wp2
    go_ret
    exact ⟨by simp, hr, ⟨rfl, rfl, rfl, Nat.le_refl _, fun _ _ _ => rfl⟩⟩
  obtain ⟨g, rfl⟩ : ∃ g, ad = some ⟨g, 0, none⟩ := by
    rcases hr.2 with ⟨_, q⟩ | ⟨g, cap, cur, q, _⟩
    · omega
    · simp only [Value.slice.injEq] at q
      exact ⟨g, q.1⟩
  have M0 : FOwn lkEnc 4 70 base w (.slice (some ⟨g, 0, none⟩) L.length cap) (markd (lkMk s) L 0) := by rw [markd_zero]; exact hr
  have g0 : w.grownBy w (some g) := ⟨rfl, rfl, rfl, Nat.le_refl _, fun _ _ _ => rfl⟩
  clear hr hz
  go_enter Try.func33, Try.ntmps33
  go_wp2
  go_loopw [1, 5] (fun q i wr => ∃ k : Nat, k ≤ L.length ∧ i = .int .i64 k ∧ q = .int .i64 (s + 4 * (k : Int)) ∧ FOwn lkEnc 4 70 base wr (.slice (some ⟨g, 0, none⟩) L.length cap) (markd (lkMk s) L k) ∧ w.grownBy wr (some g)) (fun _ i _ => L.length - (intOf i).toNat)
  case atStart => exact ⟨0, Nat.zero_le _, rfl, by simp, M0, g0⟩
  case round =>
    obtain ⟨k, hk, rfl, rfl, M, gr⟩ := hrel
    clear M0 g0
    have hml := markd_len (mk := lkMk s) hk
    by_cases hlt : k < L.length
    · rw [← hml] at M
      have hk2 : k < (markd (lkMk s) L k).length := by rw [hml]; exact hlt
      obtain ⟨h, hh⟩ : ∃ h, (markd (lkMk s) L k).getD k Lk.nil = h := ⟨_, rfl⟩
      have hck : LkAtO wr g (k * 4) h := by
        rw [← hh]
        exact lkAtO_of (M.cell lkEnc_len Lk.nil hk2)
      have ff := M.frozen
      have f0 := ff (k * 4)
      have f1 := ff (k * 4 + 1)
      have f2 := ff (k * 4 + 2)
      have f3 := ff (k * 4 + 3)
      have M1 := M.set lkEnc_len (by omega) hk2 (lkMk s k)
      rw [markd_set hlt, lkPut, hml] at M1
      have G1 := grown_putAll (lkEnc (lkMk s k)) (k * 4) gr
      rw [lkPut] at G1
      unfold lkMk at M1 G1
      dsimp only at M1 G1
      clear M gr ff hh hml hk2
      obtain ⟨c0, c1, c2, c3⟩ := hck
      generalize hK : s + 4 * (k : Int) = K at M1 G1 ⊢
      have K0 : 0 ≤ K := by omega
      have K1 : K ≤ 1100000000000 := by omega
      replace hK : Hid _ := hK
      go_wp2
      go_roundw
      case rel => exact ⟨k + 1, by omega, by go_num, by have := hK.out; go_num, M1, G1⟩
      case measure => simp [intOf]; omega
    · obtain rfl : k = L.length := by omega
      rw [markd_all] at M
      go_wp2
      go_ret
      exact ⟨rfl, M, gr⟩
end Go.Proofs.Ytdfjfodfnildiab
