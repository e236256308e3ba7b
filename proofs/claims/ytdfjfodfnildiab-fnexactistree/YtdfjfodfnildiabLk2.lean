/- Lists of links, copied. -/
import Derived.Test.YtdfjfodfnildiabRows
import Derived.WalkKit
import Derived.ProofKit
import Derived.OpenShut
import Derived.ShutString
import Derived.ChangeOld
import Derived.Below
import Derived.Deep.QuietTactic
import Derived.BigQuiet
import Derived.WalkSmall
import Derived.Laws.OwnMore
import Derived.WalkSpells
import Derived.WalkLawsBesides
import Derived.Test.YtdfjfodfnildiabLk1
namespace Go.Proofs.Ytdfjfodfnildiab
open Go.ChangeShapes Go.WideShapes Go.ChangeAt Go.RowKit
open Go.ChangeMaps (open_string shut_string)
set_option linter.unusedVariables false
set_option maxRecDepth 100000

theorem lkInfo : (Try.prog.info? 70).map (fun i => (i.zero, i.size, i.bytes)) = some (some (.agg #[.int .i64 0, .int .i64 0, .int .i64 0, .int .i64 0]), 4, 32) := by kernel_rfl
set_option maxHeartbeats 2000000 in
theorem lkToS (ad : Option Addr) (cap : Nat) (L : List Lk) (w : World) (hv : FView lkEnc w ad L) (hl : L.length ≤ 1048576) :
    Calls Try.prog 24 #[.slice ad L.length cap] w fun e w' => e = .returned (.slice (some ⟨w.heap.size, 0, none⟩) L.length L.length) ∧ FOwn lkEnc 4 70 w.heap.size w' (.slice (some ⟨w.heap.size, 0, none⟩) L.length L.length) L ∧ Below w.heap.size w w' := by
  obtain ⟨i0, hi, hz0, hz1, hz2⟩ := info_parts lkInfo
  have hB := hv.lt lkEnc_len (by omega)
  go_enter Try.func24, Try.ntmps24
  go_wp2_with (first | (refine wpList_make_full _ rfl _ _ 29 rfl w.heap.size 70 i0 (.agg #[.int .i64 0, .int .i64 0, .int .i64 0, .int .i64 0]) 4 Try.underlying29 hi hz0 hz1 .i64 .i64 _ _ L.length rfl rfl rfl rfl ?c1 ?c2 ?c3 ?_))
  case c1 => rw [hz2]; omega
  case c2 => unfold maxLen; omega
  case c3 => exact Nat.le_refl _
  intro w1 hown hgrow
  have F0 : FFill lkEnc 4 70 w.heap.size w1 w.heap.size L 0 := FFill.start hown
  have B0 : Below w.heap.size w w1 := (Below.refl _ _).grown hgrow (Nat.le_refl _) (by simp)
  clear hown hgrow
  go_wp2
  go_loopw [4] (fun i wr => ∃ k : Nat, k ≤ L.length ∧ i = .int .i64 k ∧ FFill lkEnc 4 70 w.heap.size wr w.heap.size L k ∧ Below w.heap.size w wr) (fun i _ => L.length - (intOf i).toNat)
  case atStart => exact ⟨0, Nat.zero_le _, rfl, F0, B0⟩
  case round =>
    obtain ⟨k, hk, rfl, F, B⟩ := hrel
    clear F0 B0
    by_cases hlt : k < L.length
    · obtain ⟨b, off, rfl, _⟩ := hv (by omega)
      obtain ⟨h, hh⟩ : ∃ h, L.getD k Lk.nil = h := ⟨_, rfl⟩
      have hck : LkAtO wr b (off + k * 4) h := by
        rw [← hh]
        exact lkAtO_of ((hv.below B hB).at_ lkEnc_len Lk.nil hlt)
      obtain ⟨c0, c1, c2, c3⟩ := hck
      have hsz := F.lt
      go_wp2_with fail
      go_at_call 45
      refine (toLk h wr).mono ?_
      rintro e w2 ⟨rfl, k2⟩
      have G := F.keep (k2.block _ hsz.2)
      have B2 := B.trans (k2.mono (Nat.le_of_lt hsz.2))
      obtain ⟨u0, hu0⟩ := G.cell (k * 4) (by omega)
      obtain ⟨u1, hu1⟩ := G.cell (k * 4 + 1) (by omega)
      obtain ⟨u2, hu2⟩ := G.cell (k * 4 + 2) (by omega)
      obtain ⟨u3, hu3⟩ := G.cell (k * 4 + 3) (by omega)
      have f0 := G.frozen (k * 4)
      have f1 := G.frozen (k * 4 + 1)
      have f2 := G.frozen (k * 4 + 2)
      have f3 := G.frozen (k * 4 + 3)
      have G1 := G.step lkEnc_len Lk.nil hlt
      have B3 := below_putAll (Nat.le_refl _) (lkEnc h) (k * 4) B2
      rw [hh, lkPut] at G1
      rw [lkPut] at B3
      clear F G B B2 hh hsz
      go_wp2
      go_roundw
      case rel => exact ⟨k + 1, by omega, by go_num, G1, B3⟩
      case measure => simp [intOf]; omega
    · obtain rfl : k = L.length := by omega
      go_wp2
      go_ret
      exact ⟨rfl, F.done lkEnc_len, B⟩

end Go.Proofs.Ytdfjfodfnildiab
