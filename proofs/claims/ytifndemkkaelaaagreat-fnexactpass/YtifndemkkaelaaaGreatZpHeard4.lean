/- laws.eqHeardS and impl.inHeardOrder, walked. -/
import Derived.Test.YtifndemkkaelaaaGreatRows
import Derived.WalkKit
import Derived.ProofKit
import Derived.OpenShut
import Derived.ShutString
import Derived.ChangeOld
import Derived.Below
import Derived.Deep.QuietTactic
import Derived.BigQuiet
import Derived.WalkSmall
import Derived.Laws.OwnMore
import Derived.WalkSpells
import Derived.Test.YtifndemkkaelaaaGreatZp11
namespace Go.Proofs.YtifndemkkaelaaaGreat
open Go.ChangeShapes Go.WideShapes Go.ChangeAt Go.RowKit
open Go.ChangeMaps (open_string shut_string)
set_option linter.unusedVariables false

set_option maxHeartbeats 1000000 in
theorem eqHS (ad ad' : Option Addr) (cap cap' : Nat) (L : List Hd) (w : World) (hv : HView w ad L) (hv' : HView w ad' L) (hl : L.length ≤ 1048576) (hB : HIs ad L (· < w.heap.size)) (hB' : HIs ad' L (· < w.heap.size)) :
    Calls Tryz.prog 72 #[.slice ad L.length cap, .slice ad' L.length cap'] w fun e w' => e = .returned (.bool true) ∧ Below w.heap.size w w' := by
  go_enter Tryz.func72, Tryz.ntmps72
  go_wp2
  go_loopw [5] (fun i wr => ∃ k : Nat, k ≤ L.length ∧ i = .int .i64 k ∧ Below w.heap.size w wr) (fun i _ => L.length - (intOf i).toNat)
  case atStart => exact ⟨0, Nat.zero_le _, rfl, Below.refl _ _⟩
  case round =>
    obtain ⟨k, hk, rfl, hb⟩ := hrel
    by_cases hlt : k < L.length
    · obtain ⟨b, off, rfl, hc0⟩ := hv (by omega)
      obtain ⟨b', off', rfl, hc0'⟩ := hv' (by omega)
      obtain ⟨h, hh⟩ : ∃ h, L.getD k Hd.nil = h := ⟨_, rfl⟩
      have hc : ∀ Y, Below w.heap.size w Y → HAt Y b (off + k * 4) h := fun Y hY => by rw [← hh]; exact (hc0 k hlt).of_block (hY.block _ (hB ⟨b, off, none⟩ rfl (by omega)))
      have hc' : ∀ Y, Below w.heap.size w Y → HAt Y b' (off' + k * 4) h := fun Y hY => by rw [← hh]; exact (hc0' k hlt).of_block (hY.block _ (hB' ⟨b', off', none⟩ rfl (by omega)))
      clear hh hc0 hc0' hv hv'
      go_wp2_with fail
      refine wp_region_held (S := fun Y => Below w.heap.size w Y) (by kernel_rfl) ?_
      change wpAnyH _ _ _ _ _ _ _ _ (World.drew _)
      have hb0 : Below w.heap.size w wr.drew := hb.drew
      refine takeW 0 17 (.slice (some ⟨b, off, none⟩) L.length cap) rfl rfl (by kernel_rfl) (by kernel_rfl) (by kernel_rfl) (fun _ _ _ h => h) (by kernel_rfl) (by (intro w hSw; go_simp)) (by assumption) ?_
      simp only [List.set_cons_zero, List.set_cons_succ]
      refine takeW 1 18 (.int .i64 k) rfl rfl (by kernel_rfl) (by kernel_rfl) (by kernel_rfl) (fun _ _ _ h => h) (by kernel_rfl) (by (intro w hSw; go_simp)) (by assumption) ?_
      simp only [List.set_cons_zero, List.set_cons_succ]
      refine takeW 2 19 (.pointer (some ⟨b, off + k * 4, none⟩)) rfl rfl (by kernel_rfl) (by kernel_rfl) (by kernel_rfl) (fun _ _ _ h => h) (by kernel_rfl) (by (intro Y hSw; go_simp; try omega)) (by assumption) ?_
      simp only [List.set_cons_zero, List.set_cons_succ]
      refine takeW 3 20 (.agg #[.int .i64 h.a, .int .i64 h.v, .int .i64 h.p, .int .i64 h.l]) rfl rfl (by kernel_rfl) (by kernel_rfl) (by kernel_rfl) (fun _ _ _ h => h) (by kernel_rfl) (by (intro Y hSw; obtain ⟨X1, X2, X3, X4⟩ := hc Y hSw; go_simp)) (by assumption) ?_
      simp only [List.set_cons_zero, List.set_cons_succ]
      refine takeW 4 21 (.slice (some ⟨b', off', none⟩) L.length cap') rfl rfl (by kernel_rfl) (by kernel_rfl) (by kernel_rfl) (fun _ _ _ h => h) (by kernel_rfl) (by (intro w hSw; go_simp)) (by assumption) ?_
      simp only [List.set_cons_zero, List.set_cons_succ]
      refine takeW 5 22 (.int .i64 k) rfl rfl (by kernel_rfl) (by kernel_rfl) (by kernel_rfl) (fun _ _ _ h => h) (by kernel_rfl) (by (intro w hSw; go_simp)) (by assumption) ?_
      simp only [List.set_cons_zero, List.set_cons_succ]
      refine takeW 6 23 (.pointer (some ⟨b', off' + k * 4, none⟩)) rfl rfl (by kernel_rfl) (by kernel_rfl) (by kernel_rfl) (fun _ _ _ h => h) (by kernel_rfl) (by (intro Y hSw; go_simp; try omega)) (by assumption) ?_
      simp only [List.set_cons_zero, List.set_cons_succ]
      refine takeW 7 24 (.agg #[.int .i64 h.a, .int .i64 h.v, .int .i64 h.p, .int .i64 h.l]) rfl rfl (by kernel_rfl) (by kernel_rfl) (by kernel_rfl) (fun _ _ _ h => h) (by kernel_rfl) (by (intro Y hSw; obtain ⟨X1, X2, X3, X4⟩ := hc' Y hSw; go_simp)) (by assumption) ?_
      simp only [List.set_cons_zero, List.set_cons_succ]
      refine wpAnyH_all (rs := [8]) (by kernel_rfl) (by simp) ?_
      intro i hi; obtain rfl : i = 8 := by simpa using hi
      refine wpOp_step rfl (fun K hK => ?_)
      rw [if_pos (by kernel_rfl)]
      go_simp
      go_at_call 114
      refine (eqHdYes h.a h.v h.p h.l _).mono ?_
      rintro e y1 ⟨rfl, j1⟩
      have hb1 : Below w.heap.size w y1 := hb0.trans (j1.mono hb0.size)
      refine hK _ _ ⟨hb1, ?_⟩
      clear hK K hi
      refine takeW 9 26 (.bool false) rfl rfl (by kernel_rfl) (by kernel_rfl) (by kernel_rfl) (fun _ _ _ h => h) (by kernel_rfl) (by (intro w hSw; go_simp)) (by assumption) ?_
      simp only [List.set_cons_zero, List.set_cons_succ]
      refine wpAnyH_done (by kernel_rfl) ?_ _
      go_wp2
      go_roundw
      case rel => exact ⟨k + 1, by omega, by go_num, hb1⟩
      case measure => simp [intOf]; omega
    · obtain rfl : k = L.length := by omega
      go_wp2
      go_ret
      exact ⟨rfl, hb⟩
theorem wrapk {k n : Nat} (h : k + 1 < n) (hm : n ≤ 2 ^ 63 - 1) : IntKind.i64.wrap (k : Int) = k := by
  have h1 : (k : Int) < 9223372036854775808 := by omega
  simp only [IntKind.wrap, IntKind.bits, IntKind.signed]
  simp
  omega
/-- In order, each once. -/
def Ord (L : List Hd) : Prop := ∀ i, i < L.length → 0 < i → (L.getD (i - 1) Hd.nil).bef (L.getD i Hd.nil) = true
def ordB (L : List Hd) : Bool := decide (∀ i, i < L.length → 0 < i → (L.getD (i - 1) Hd.nil).bef (L.getD i Hd.nil) = true)
theorem ordB_yes {L : List Hd} (h : Ord L) : ordB L = true := decide_eq_true h
theorem ordB_no {L : List Hd} (h : ¬ Ord L) : ordB L = false := decide_eq_false h
set_option maxHeartbeats 1000000 in
theorem inOrd (ad : Option Addr) (cap : Nat) (L : List Hd) (w : World) (hv : HView w ad L) (hm : L.length ≤ maxLen) (hB : HIs ad L (· < w.heap.size)) :
    Calls Tryz.prog 95 #[.slice ad L.length cap] w fun e w' => e = .returned (.bool (ordB L)) ∧ Below w.heap.size w w' := by
  unfold maxLen at hm
  go_enter Tryz.func95, Tryz.ntmps95
  go_wp2
  go_loopw [3] (fun i wr => ∃ k : Nat, i = .int .i64 ((k : Int) + 1) ∧ k ≤ L.length ∧ (∀ i, i < L.length → 0 < i → i < k + 1 → (L.getD (i - 1) Hd.nil).bef (L.getD i Hd.nil) = true) ∧ Below w.heap.size w wr) (fun i _ => L.length - (intOf i).toNat)
  case atStart => exact ⟨0, rfl, Nat.zero_le _, fun i _ h1 h2 => absurd h2 (by omega), Below.refl _ _⟩
  case round =>
    obtain ⟨k, rfl, hk, hd0, hb⟩ := hrel
    by_cases hlt : k + 1 < L.length
    · obtain ⟨b, off, rfl, hc0⟩ := hv (by omega)
      obtain ⟨h, hh⟩ : ∃ h, L.getD k Hd.nil = h := ⟨_, rfl⟩
      obtain ⟨g, hg⟩ : ∃ g, L.getD (k + 1) Hd.nil = g := ⟨_, rfl⟩
      have hc : ∀ Y, Below w.heap.size w Y → HAt Y b (off + k * 4) h := fun Y hY => by rw [← hh]; exact (hc0 k (by omega)).of_block (hY.block _ (hB ⟨b, off, none⟩ rfl (by omega)))
      have hd : ∀ Y, Below w.heap.size w Y → HAt Y b (off + (k + 1) * 4) g := fun Y hY => by rw [← hg]; exact (hc0 (k + 1) hlt).of_block (hY.block _ (hB ⟨b, off, none⟩ rfl (by omega)))
      have ho : h.bef g = true ∨ ¬ Ord L := by
        rw [← hh, ← hg]
        by_cases hq : (L.getD k Hd.nil).bef (L.getD (k + 1) Hd.nil) = true
        · exact .inl hq
        · exact .inr fun o => hq (o (k + 1) hlt (by omega))
      have hn : h.bef g = true → ∀ i, i < L.length → 0 < i → i < k + 1 + 1 → (L.getD (i - 1) Hd.nil).bef (L.getD i Hd.nil) = true := fun hq i h1 h2 h3 => by
        by_cases e : i = k + 1
        · subst e
          rw [Nat.add_sub_cancel, hh, hg]
          exact hq
        · exact hd0 i h1 h2 (by omega)
      clear hh hg hc0 hv hd0
      have hN : Hid (h.bef g = true → ∀ i, i < L.length → 0 < i → i < k + 1 + 1 → (L.getD (i - 1) Hd.nil).bef (L.getD i Hd.nil) = true) := hn
      clear hn
      by_cases hq : h.bef g = true
      · have hcm : h.cmp g < 0 := by have := cmp_bef h g; rw [hq] at this; simp at this; omega
        have hcd : decide (0 ≤ h.cmp g) = false := decide_eq_false (by omega)
        have hq' : Hid (h.bef g = true) := hq
        clear ho hq
        go_wp2_with fail
        refine wp_region_held (S := fun Y => Below w.heap.size w Y) (by kernel_rfl) ?_
        change wpAnyH _ _ _ _ _ _ _ _ (World.drew _)
        have hb0 : Below w.heap.size w wr.drew := hb.drew
        refine takeW 0 10 (.slice (some ⟨b, off, none⟩) L.length cap) rfl rfl (by kernel_rfl) (by kernel_rfl) (by kernel_rfl) (fun _ _ _ h => h) (by kernel_rfl) (by (intro w hSw; go_simp)) (by assumption) ?_
        simp only [List.set_cons_zero, List.set_cons_succ]
        refine takeW 1 11 (.int .i64 ((k : Int) + 1)) rfl rfl (by kernel_rfl) (by kernel_rfl) (by kernel_rfl) (fun _ _ _ h => h) (by kernel_rfl) (by (intro w hSw; go_simp)) (by assumption) ?_
        simp only [List.set_cons_zero, List.set_cons_succ]
        refine takeW 2 12 (.int .i64 (k : Int)) rfl rfl (by kernel_rfl) (by kernel_rfl) (by kernel_rfl) (fun _ _ _ h => h) (by kernel_rfl) (by (intro Y hSw; go_simp; exact wrapk hlt hm)) (by assumption) ?_
        simp only [List.set_cons_zero, List.set_cons_succ]
        refine takeW 3 13 (.pointer (some ⟨b, off + k * 4, none⟩)) rfl rfl (by kernel_rfl) (by kernel_rfl) (by kernel_rfl) (fun _ _ _ h => h) (by kernel_rfl) (by (intro Y hSw; go_simp; try omega)) (by assumption) ?_
        simp only [List.set_cons_zero, List.set_cons_succ]
        refine takeW 4 14 (.agg #[.int .i64 h.a, .int .i64 h.v, .int .i64 h.p, .int .i64 h.l]) rfl rfl (by kernel_rfl) (by kernel_rfl) (by kernel_rfl) (fun _ _ _ h => h) (by kernel_rfl) (by (intro Y hSw; obtain ⟨X1, X2, X3, X4⟩ := hc Y hSw; go_simp)) (by assumption) ?_
        simp only [List.set_cons_zero, List.set_cons_succ]
        refine takeW 5 15 (.slice (some ⟨b, off, none⟩) L.length cap) rfl rfl (by kernel_rfl) (by kernel_rfl) (by kernel_rfl) (fun _ _ _ h => h) (by kernel_rfl) (by (intro w hSw; go_simp)) (by assumption) ?_
        simp only [List.set_cons_zero, List.set_cons_succ]
        refine takeW 6 16 (.int .i64 ((k : Int) + 1)) rfl rfl (by kernel_rfl) (by kernel_rfl) (by kernel_rfl) (fun _ _ _ h => h) (by kernel_rfl) (by (intro w hSw; go_simp)) (by assumption) ?_
        simp only [List.set_cons_zero, List.set_cons_succ]
        refine takeW 7 17 (.pointer (some ⟨b, off + (k + 1) * 4, none⟩)) rfl rfl (by kernel_rfl) (by kernel_rfl) (by kernel_rfl) (fun _ _ _ h => h) (by kernel_rfl) (by (intro Y hSw; go_simp; try omega)) (by assumption) ?_
        simp only [List.set_cons_zero, List.set_cons_succ]
        refine takeW 8 18 (.agg #[.int .i64 g.a, .int .i64 g.v, .int .i64 g.p, .int .i64 g.l]) rfl rfl (by kernel_rfl) (by kernel_rfl) (by kernel_rfl) (fun _ _ _ h => h) (by kernel_rfl) (by (intro Y hSw; obtain ⟨X1, X2, X3, X4⟩ := hd Y hSw; go_simp)) (by assumption) ?_
        simp only [List.set_cons_zero, List.set_cons_succ]
        refine wpAnyH_all (rs := [9]) (by kernel_rfl) (by simp) ?_
        intro i hi; obtain rfl : i = 9 := by simpa using hi
        refine wpOp_step rfl (fun K hK => ?_)
        rw [if_pos (by kernel_rfl)]
        go_simp
        go_at_call 124
        refine (cmpH h g _).mono ?_
        rintro e y1 ⟨rfl, j1⟩
        have hb1 : Below w.heap.size w y1 := hb0.trans (j1.mono hb0.size)
        refine hK _ _ ⟨hb1, ?_⟩
        clear hK K hi
        refine takeW 10 20 (.bool false) rfl rfl (by kernel_rfl) (by kernel_rfl) (by kernel_rfl) (fun _ _ _ h => h) (by kernel_rfl) (by (intro Y hSw; go_simp)) (by assumption) ?_
        simp only [List.set_cons_zero, List.set_cons_succ]
        refine wpAnyH_done (by kernel_rfl) ?_ _
        go_wp2
        go_roundw
        case rel => exact ⟨k + 1, by go_num, by omega, hN.out hq'.out, hb1⟩
        case measure => simp [intOf]; omega
      · have hcm : 0 ≤ h.cmp g := (cmp_bef h g).2 (by simpa using hq)
        have hO : Hid (ordB L = false) := ordB_no (ho.resolve_left hq)
        clear ho hq hN
        go_wp2_with fail
        refine wp_region_held (S := fun Y => Below w.heap.size w Y) (by kernel_rfl) ?_
        change wpAnyH _ _ _ _ _ _ _ _ (World.drew _)
        have hb0 : Below w.heap.size w wr.drew := hb.drew
        refine takeW 0 10 (.slice (some ⟨b, off, none⟩) L.length cap) rfl rfl (by kernel_rfl) (by kernel_rfl) (by kernel_rfl) (fun _ _ _ h => h) (by kernel_rfl) (by (intro w hSw; go_simp)) (by assumption) ?_
        simp only [List.set_cons_zero, List.set_cons_succ]
        refine takeW 1 11 (.int .i64 ((k : Int) + 1)) rfl rfl (by kernel_rfl) (by kernel_rfl) (by kernel_rfl) (fun _ _ _ h => h) (by kernel_rfl) (by (intro w hSw; go_simp)) (by assumption) ?_
        simp only [List.set_cons_zero, List.set_cons_succ]
        refine takeW 2 12 (.int .i64 (k : Int)) rfl rfl (by kernel_rfl) (by kernel_rfl) (by kernel_rfl) (fun _ _ _ h => h) (by kernel_rfl) (by (intro Y hSw; go_simp; exact wrapk hlt hm)) (by assumption) ?_
        simp only [List.set_cons_zero, List.set_cons_succ]
        refine takeW 3 13 (.pointer (some ⟨b, off + k * 4, none⟩)) rfl rfl (by kernel_rfl) (by kernel_rfl) (by kernel_rfl) (fun _ _ _ h => h) (by kernel_rfl) (by (intro Y hSw; go_simp; try omega)) (by assumption) ?_
        simp only [List.set_cons_zero, List.set_cons_succ]
        refine takeW 4 14 (.agg #[.int .i64 h.a, .int .i64 h.v, .int .i64 h.p, .int .i64 h.l]) rfl rfl (by kernel_rfl) (by kernel_rfl) (by kernel_rfl) (fun _ _ _ h => h) (by kernel_rfl) (by (intro Y hSw; obtain ⟨X1, X2, X3, X4⟩ := hc Y hSw; go_simp)) (by assumption) ?_
        simp only [List.set_cons_zero, List.set_cons_succ]
        refine takeW 5 15 (.slice (some ⟨b, off, none⟩) L.length cap) rfl rfl (by kernel_rfl) (by kernel_rfl) (by kernel_rfl) (fun _ _ _ h => h) (by kernel_rfl) (by (intro w hSw; go_simp)) (by assumption) ?_
        simp only [List.set_cons_zero, List.set_cons_succ]
        refine takeW 6 16 (.int .i64 ((k : Int) + 1)) rfl rfl (by kernel_rfl) (by kernel_rfl) (by kernel_rfl) (fun _ _ _ h => h) (by kernel_rfl) (by (intro w hSw; go_simp)) (by assumption) ?_
        simp only [List.set_cons_zero, List.set_cons_succ]
        refine takeW 7 17 (.pointer (some ⟨b, off + (k + 1) * 4, none⟩)) rfl rfl (by kernel_rfl) (by kernel_rfl) (by kernel_rfl) (fun _ _ _ h => h) (by kernel_rfl) (by (intro Y hSw; go_simp; try omega)) (by assumption) ?_
        simp only [List.set_cons_zero, List.set_cons_succ]
        refine takeW 8 18 (.agg #[.int .i64 g.a, .int .i64 g.v, .int .i64 g.p, .int .i64 g.l]) rfl rfl (by kernel_rfl) (by kernel_rfl) (by kernel_rfl) (fun _ _ _ h => h) (by kernel_rfl) (by (intro Y hSw; obtain ⟨X1, X2, X3, X4⟩ := hd Y hSw; go_simp)) (by assumption) ?_
        simp only [List.set_cons_zero, List.set_cons_succ]
        refine wpAnyH_all (rs := [9]) (by kernel_rfl) (by simp) ?_
        intro i hi; obtain rfl : i = 9 := by simpa using hi
        refine wpOp_step rfl (fun K hK => ?_)
        rw [if_pos (by kernel_rfl)]
        go_simp
        go_at_call 124
        refine (cmpH h g _).mono ?_
        rintro e y1 ⟨rfl, j1⟩
        have hb1 : Below w.heap.size w y1 := hb0.trans (j1.mono hb0.size)
        refine hK _ _ ⟨hb1, ?_⟩
        clear hK K hi
        refine takeW 10 20 (.bool true) rfl rfl (by kernel_rfl) (by kernel_rfl) (by kernel_rfl) (fun _ _ _ h => h) (by kernel_rfl) (by (intro Y hSw; go_simp)) (by assumption) ?_
        simp only [List.set_cons_zero, List.set_cons_succ]
        refine wpAnyH_done (by kernel_rfl) ?_ _
        go_wp2
        go_ret
        exact ⟨by rw [hO.out]; rfl, hb1⟩
    · have hle : (L.length : Int) ≤ (k : Int) + 1 := by omega
      have hO : Hid (ordB L = true) := ordB_yes (show Ord L from fun i h1 h2 => hd0 i h1 h2 (by omega))
      clear hd0
      go_wp2
      go_ret
      exact ⟨by rw [hO.out]; rfl, hb⟩

end Go.Proofs.YtifndemkkaelaaaGreat
