/- laws.eqHeardS and impl.inHeardOrder, walked. Both Where, and impl.TableOk, walked. What toHeardS made, as a list. Cards that may be read, and cards that are owned. -/
import Derived.Test.YtifndemkkaelaaaGreatRows
import Derived.WalkKit
import Derived.ProofKit
import Derived.OpenShut
import Derived.ShutString
import Derived.ChangeOld
import Derived.Below
import Derived.Deep.QuietTactic
import Derived.BigQuiet
import Derived.WalkSmall
import Derived.Laws.OwnMore
import Derived.WalkSpells
import Derived.Test.YtifndemkkaelaaaGreatZl5
import Derived.WalkLawsBesides
namespace Go.Proofs.YtifndemkkaelaaaGreat
open Go.ChangeShapes Go.WideShapes Go.ChangeAt Go.RowKit
open Go.ChangeMaps (open_string shut_string)
set_option linter.unusedVariables false

theorem wrapk {k n : Nat} (h : k + 1 < n) (hm : n ≤ 2 ^ 63 - 1) : IntKind.i64.wrap (k : Int) = k := by
  have h1 : (k : Int) < 9223372036854775808 := by omega
  simp only [IntKind.wrap, IntKind.bits, IntKind.signed]
  simp
  omega
def Ord (L : List Hd) : Prop := ∀ i, i < L.length → 0 < i → (L.getD (i - 1) Hd.nil).bef (L.getD i Hd.nil) = true
def ordB (L : List Hd) : Bool := decide (∀ i, i < L.length → 0 < i → (L.getD (i - 1) Hd.nil).bef (L.getD i Hd.nil) = true)
theorem ordB_yes {L : List Hd} (h : Ord L) : ordB L = true := decide_eq_true h
theorem ordB_no {L : List Hd} (h : ¬ Ord L) : ordB L = false := decide_eq_false h
set_option maxHeartbeats 1000000 in
theorem inOrd (ad : Option Addr) (cap : Nat) (L : List Hd) (w : World) (hv : HView w ad L) (hm : L.length ≤ maxLen) (hB : HIs ad L (· < w.heap.size)) :
    Calls Tryz.prog 95 #[.slice ad L.length cap] w fun e w' => e = .returned (.bool (ordB L)) ∧ Below w.heap.size w w' := by
  unfold maxLen at hm
  go_enter Tryz.func95, Tryz.ntmps95
  go_wp2
  go_loopw [3] (fun i wr => ∃ k : Nat, i = .int .i64 ((k : Int) + 1) ∧ k ≤ L.length ∧ (∀ i, i < L.length → 0 < i → i < k + 1 → (L.getD (i - 1) Hd.nil).bef (L.getD i Hd.nil) = true) ∧ Below w.heap.size w wr) (fun i _ => L.length - (intOf i).toNat)
  case atStart => exact ⟨0, rfl, Nat.zero_le _, fun i _ h1 h2 => absurd h2 (by omega), Below.refl _ _⟩
  case round =>
    obtain ⟨k, rfl, hk, hd0, hb⟩ := hrel
    by_cases hlt : k + 1 < L.length
    · obtain ⟨b, off, rfl, hc0⟩ := hv (by omega)
      obtain ⟨h, hh⟩ : ∃ h, L.getD k Hd.nil = h := ⟨_, rfl⟩
      obtain ⟨g, hg⟩ : ∃ g, L.getD (k + 1) Hd.nil = g := ⟨_, rfl⟩
      have hc : ∀ Y, Below w.heap.size w Y → HAt Y b (off + k * 4) h := fun Y hY => by rw [← hh]; exact (hc0 k (by omega)).of_block (hY.block _ (hB ⟨b, off, none⟩ rfl (by omega)))
      have hd : ∀ Y, Below w.heap.size w Y → HAt Y b (off + (k + 1) * 4) g := fun Y hY => by rw [← hg]; exact (hc0 (k + 1) hlt).of_block (hY.block _ (hB ⟨b, off, none⟩ rfl (by omega)))
      have ho : h.bef g = true ∨ ¬ Ord L := by
        rw [← hh, ← hg]
        by_cases hq : (L.getD k Hd.nil).bef (L.getD (k + 1) Hd.nil) = true
        · exact .inl hq
        · exact .inr fun o => hq (o (k + 1) hlt (by omega))
      have hn : h.bef g = true → ∀ i, i < L.length → 0 < i → i < k + 1 + 1 → (L.getD (i - 1) Hd.nil).bef (L.getD i Hd.nil) = true := fun hq i h1 h2 h3 => by
        by_cases e : i = k + 1
        · subst e
          rw [Nat.add_sub_cancel, hh, hg]
          exact hq
        · exact hd0 i h1 h2 (by omega)
      clear hh hg hc0 hv hd0
      have hN : Hid (h.bef g = true → ∀ i, i < L.length → 0 < i → i < k + 1 + 1 → (L.getD (i - 1) Hd.nil).bef (L.getD i Hd.nil) = true) := hn
      clear hn
      by_cases hq : h.bef g = true
      · have hcm : h.cmp g < 0 := by have := cmp_bef h g; rw [hq] at this; simp at this; omega
        have hcd : decide (0 ≤ h.cmp g) = false := decide_eq_false (by omega)
        have hq' : Hid (h.bef g = true) := hq
        clear ho hq
        go_wp2_with fail
        refine wp_region_held (S := fun Y => Below w.heap.size w Y) (by kernel_rfl) ?_
        change wpAnyH _ _ _ _ _ _ _ _ (World.drew _)
        have hb0 : Below w.heap.size w wr.drew := hb.drew
        refine takeW 0 10 (.slice (some ⟨b, off, none⟩) L.length cap) rfl rfl (by kernel_rfl) (by kernel_rfl) (by kernel_rfl) (fun _ _ _ h => h) (by kernel_rfl) (by (intro w hSw; go_simp)) (by assumption) ?_
        simp only [List.set_cons_zero, List.set_cons_succ]
        refine takeW 1 11 (.int .i64 ((k : Int) + 1)) rfl rfl (by kernel_rfl) (by kernel_rfl) (by kernel_rfl) (fun _ _ _ h => h) (by kernel_rfl) (by (intro w hSw; go_simp)) (by assumption) ?_
        simp only [List.set_cons_zero, List.set_cons_succ]
        refine takeW 2 12 (.int .i64 (k : Int)) rfl rfl (by kernel_rfl) (by kernel_rfl) (by kernel_rfl) (fun _ _ _ h => h) (by kernel_rfl) (by (intro Y hSw; go_simp; exact wrapk hlt hm)) (by assumption) ?_
        simp only [List.set_cons_zero, List.set_cons_succ]
        refine takeW 3 13 (.pointer (some ⟨b, off + k * 4, none⟩)) rfl rfl (by kernel_rfl) (by kernel_rfl) (by kernel_rfl) (fun _ _ _ h => h) (by kernel_rfl) (by (intro Y hSw; go_simp; try omega)) (by assumption) ?_
        simp only [List.set_cons_zero, List.set_cons_succ]
        refine takeW 4 14 (.agg #[.int .i64 h.a, .int .i64 h.v, .int .i64 h.p, .int .i64 h.l]) rfl rfl (by kernel_rfl) (by kernel_rfl) (by kernel_rfl) (fun _ _ _ h => h) (by kernel_rfl) (by (intro Y hSw; obtain ⟨X1, X2, X3, X4⟩ := hc Y hSw; go_simp)) (by assumption) ?_
        simp only [List.set_cons_zero, List.set_cons_succ]
        refine takeW 5 15 (.slice (some ⟨b, off, none⟩) L.length cap) rfl rfl (by kernel_rfl) (by kernel_rfl) (by kernel_rfl) (fun _ _ _ h => h) (by kernel_rfl) (by (intro w hSw; go_simp)) (by assumption) ?_
        simp only [List.set_cons_zero, List.set_cons_succ]
        refine takeW 6 16 (.int .i64 ((k : Int) + 1)) rfl rfl (by kernel_rfl) (by kernel_rfl) (by kernel_rfl) (fun _ _ _ h => h) (by kernel_rfl) (by (intro w hSw; go_simp)) (by assumption) ?_
        simp only [List.set_cons_zero, List.set_cons_succ]
        refine takeW 7 17 (.pointer (some ⟨b, off + (k + 1) * 4, none⟩)) rfl rfl (by kernel_rfl) (by kernel_rfl) (by kernel_rfl) (fun _ _ _ h => h) (by kernel_rfl) (by (intro Y hSw; go_simp; try omega)) (by assumption) ?_
        simp only [List.set_cons_zero, List.set_cons_succ]
        refine takeW 8 18 (.agg #[.int .i64 g.a, .int .i64 g.v, .int .i64 g.p, .int .i64 g.l]) rfl rfl (by kernel_rfl) (by kernel_rfl) (by kernel_rfl) (fun _ _ _ h => h) (by kernel_rfl) (by (intro Y hSw; obtain ⟨X1, X2, X3, X4⟩ := hd Y hSw; go_simp)) (by assumption) ?_
        simp only [List.set_cons_zero, List.set_cons_succ]
        refine wpAnyH_all (rs := [9]) (by kernel_rfl) (by simp) ?_
        intro i hi; obtain rfl : i = 9 := by simpa using hi
        refine wpOp_step rfl (fun K hK => ?_)
        rw [if_pos (by kernel_rfl)]
        go_simp
        go_at_call 124
        refine (cmpH h g _).mono ?_
        rintro e y1 ⟨rfl, j1⟩
        have hb1 : Below w.heap.size w y1 := hb0.trans (j1.mono hb0.size)
        refine hK _ _ ⟨hb1, ?_⟩
        clear hK K hi
        refine takeW 10 20 (.bool false) rfl rfl (by kernel_rfl) (by kernel_rfl) (by kernel_rfl) (fun _ _ _ h => h) (by kernel_rfl) (by (intro Y hSw; go_simp)) (by assumption) ?_
        simp only [List.set_cons_zero, List.set_cons_succ]
        refine wpAnyH_done (by kernel_rfl) ?_ _
        go_wp2
        go_roundw
        case rel => exact ⟨k + 1, by go_num, by omega, hN.out hq'.out, hb1⟩
        case measure => simp [intOf]; omega
      · have hcm : 0 ≤ h.cmp g := (cmp_bef h g).2 (by simpa using hq)
        have hO : Hid (ordB L = false) := ordB_no (ho.resolve_left hq)
        clear ho hq hN
        go_wp2_with fail
        refine wp_region_held (S := fun Y => Below w.heap.size w Y) (by kernel_rfl) ?_
        change wpAnyH _ _ _ _ _ _ _ _ (World.drew _)
        have hb0 : Below w.heap.size w wr.drew := hb.drew
        refine takeW 0 10 (.slice (some ⟨b, off, none⟩) L.length cap) rfl rfl (by kernel_rfl) (by kernel_rfl) (by kernel_rfl) (fun _ _ _ h => h) (by kernel_rfl) (by (intro w hSw; go_simp)) (by assumption) ?_
        simp only [List.set_cons_zero, List.set_cons_succ]
        refine takeW 1 11 (.int .i64 ((k : Int) + 1)) rfl rfl (by kernel_rfl) (by kernel_rfl) (by kernel_rfl) (fun _ _ _ h => h) (by kernel_rfl) (by (intro w hSw; go_simp)) (by assumption) ?_
        simp only [List.set_cons_zero, List.set_cons_succ]
        refine takeW 2 12 (.int .i64 (k : Int)) rfl rfl (by kernel_rfl) (by kernel_rfl) (by kernel_rfl) (fun _ _ _ h => h) (by kernel_rfl) (by (intro Y hSw; go_simp; exact wrapk hlt hm)) (by assumption) ?_
        simp only [List.set_cons_zero, List.set_cons_succ]
        refine takeW 3 13 (.pointer (some ⟨b, off + k * 4, none⟩)) rfl rfl (by kernel_rfl) (by kernel_rfl) (by kernel_rfl) (fun _ _ _ h => h) (by kernel_rfl) (by (intro Y hSw; go_simp; try omega)) (by assumption) ?_
        simp only [List.set_cons_zero, List.set_cons_succ]
        refine takeW 4 14 (.agg #[.int .i64 h.a, .int .i64 h.v, .int .i64 h.p, .int .i64 h.l]) rfl rfl (by kernel_rfl) (by kernel_rfl) (by kernel_rfl) (fun _ _ _ h => h) (by kernel_rfl) (by (intro Y hSw; obtain ⟨X1, X2, X3, X4⟩ := hc Y hSw; go_simp)) (by assumption) ?_
        simp only [List.set_cons_zero, List.set_cons_succ]
        refine takeW 5 15 (.slice (some ⟨b, off, none⟩) L.length cap) rfl rfl (by kernel_rfl) (by kernel_rfl) (by kernel_rfl) (fun _ _ _ h => h) (by kernel_rfl) (by (intro w hSw; go_simp)) (by assumption) ?_
        simp only [List.set_cons_zero, List.set_cons_succ]
        refine takeW 6 16 (.int .i64 ((k : Int) + 1)) rfl rfl (by kernel_rfl) (by kernel_rfl) (by kernel_rfl) (fun _ _ _ h => h) (by kernel_rfl) (by (intro w hSw; go_simp)) (by assumption) ?_
        simp only [List.set_cons_zero, List.set_cons_succ]
        refine takeW 7 17 (.pointer (some ⟨b, off + (k + 1) * 4, none⟩)) rfl rfl (by kernel_rfl) (by kernel_rfl) (by kernel_rfl) (fun _ _ _ h => h) (by kernel_rfl) (by (intro Y hSw; go_simp; try omega)) (by assumption) ?_
        simp only [List.set_cons_zero, List.set_cons_succ]
        refine takeW 8 18 (.agg #[.int .i64 g.a, .int .i64 g.v, .int .i64 g.p, .int .i64 g.l]) rfl rfl (by kernel_rfl) (by kernel_rfl) (by kernel_rfl) (fun _ _ _ h => h) (by kernel_rfl) (by (intro Y hSw; obtain ⟨X1, X2, X3, X4⟩ := hd Y hSw; go_simp)) (by assumption) ?_
        simp only [List.set_cons_zero, List.set_cons_succ]
        refine wpAnyH_all (rs := [9]) (by kernel_rfl) (by simp) ?_
        intro i hi; obtain rfl : i = 9 := by simpa using hi
        refine wpOp_step rfl (fun K hK => ?_)
        rw [if_pos (by kernel_rfl)]
        go_simp
        go_at_call 124
        refine (cmpH h g _).mono ?_
        rintro e y1 ⟨rfl, j1⟩
        have hb1 : Below w.heap.size w y1 := hb0.trans (j1.mono hb0.size)
        refine hK _ _ ⟨hb1, ?_⟩
        clear hK K hi
        refine takeW 10 20 (.bool true) rfl rfl (by kernel_rfl) (by kernel_rfl) (by kernel_rfl) (fun _ _ _ h => h) (by kernel_rfl) (by (intro Y hSw; go_simp)) (by assumption) ?_
        simp only [List.set_cons_zero, List.set_cons_succ]
        refine wpAnyH_done (by kernel_rfl) ?_ _
        go_wp2
        go_ret
        exact ⟨by rw [hO.out]; rfl, hb1⟩
    · have hle : (L.length : Int) ≤ (k : Int) + 1 := by omega
      have hO : Hid (ordB L = true) := ordB_yes (show Ord L from fun i h1 h2 => hd0 i h1 h2 (by omega))
      clear hd0
      go_wp2
      go_ret
      exact ⟨by rw [hO.out]; rfl, hb⟩

end Go.Proofs.YtifndemkkaelaaaGreat
namespace Go.Proofs.YtifndemkkaelaaaGreat
open Go.ChangeShapes Go.WideShapes Go.ChangeAt Go.RowKit
open Go.ChangeMaps (open_string shut_string)
set_option linter.unusedVariables false

def whereR : List Hd → Int → Int → Int × Bool
  | [], _, _ => (0, false)
  | h :: t, a, v => if h.a = a ∧ h.v = v then (h.p, true) else whereR t a v
theorem drop_cons {L : List Hd} {k : Nat} {h : Hd} (hk : k < L.length) (hh : L.getD k Hd.nil = h) : L.drop k = h :: L.drop (k + 1) := by
  rw [List.drop_eq_getElem_cons hk]
  simp [List.getD, List.getElem?_eq_getElem hk] at hh
  rw [hh]
set_option maxHeartbeats 1000000 in
theorem whereI (ad : Option Addr) (cap : Nat) (L : List Hd) (a v : Int) (w : World) (hv : HView w ad L) (hm : L.length ≤ maxLen) (hB : HIs ad L (· < w.heap.size)) :
    Calls Tryz.prog 20 #[.slice ad L.length cap, .int .i64 a, .int .i64 v] w fun e w' => e = .returned (.tuple #[.int .i64 (whereR L a v).1, .bool (whereR L a v).2]) ∧ Below w.heap.size w w' := by
  unfold maxLen at hm
  go_enter Tryz.func20, Tryz.ntmps20
  go_wp2
  go_loopw [12] (fun i wr => ∃ k : Nat, i = .int .i64 (k : Int) ∧ k ≤ L.length ∧ Hid (whereR L a v = whereR (L.drop k) a v) ∧ Below w.heap.size w wr) (fun i _ => L.length - (intOf i).toNat)
  case atStart => exact ⟨0, rfl, Nat.zero_le _, by simp [Hid], Below.refl _ _⟩
  case round =>
    obtain ⟨k, rfl, hk, hW, hb⟩ := hrel
    by_cases hlt : k < L.length
    · obtain ⟨b, off, rfl, hc0⟩ := hv (by omega)
      obtain ⟨h, hh⟩ : ∃ h, L.getD k Hd.nil = h := ⟨_, rfl⟩
      have hck : HAt wr b (off + k * 4) h := by rw [← hh]; exact (hc0 k hlt).of_block (hb.block _ (hB ⟨b, off, none⟩ rfl (by omega)))
      obtain ⟨c1, c2, c3, c4⟩ := hck
      clear hc0
      have hW1 : Hid (whereR L a v = if h.a = a ∧ h.v = v then (h.p, true) else whereR (L.drop (k + 1)) a v) := by
        have := hW.out
        rw [drop_cons hlt hh] at this
        exact this
      clear hh hW
      have hb1 : Below w.heap.size w (wr.alloc (Obj.cells #[.int .i64 h.a, .int .i64 h.v, .int .i64 h.p, .int .i64 h.l] 97)) := hb.trans ((below_box wr _).mono hb.size)
      by_cases h1 : h.a = a
      · by_cases h2 : h.v = v
        · have hW2 : Hid (whereR L a v = (h.p, true)) := by have := hW1.out; rw [if_pos ⟨h1, h2⟩] at this; exact this
          have h1' : (h.a == a) = true := by simp [h1]
          have h2' : (h.v == v) = true := by simp [h2]
          clear h1 h2 hW1
          go_wp2
          go_ret2
          exact ⟨by rw [hW2.out]; rfl, hb1⟩
        · have hW2 : Hid (whereR L a v = whereR (L.drop (k + 1)) a v) := by have := hW1.out; rw [if_neg (fun q => h2 q.2)] at this; exact this
          have h1' : (h.a == a) = true := by simp [h1]
          have h2' : (h.v == v) = false := by simp [h2]
          clear h1 h2 hW1
          go_wp2
          go_roundw
          case rel => exact ⟨k + 1, by go_num, by omega, hW2, hb1⟩
          case measure => simp [intOf]; omega
      · have hW2 : Hid (whereR L a v = whereR (L.drop (k + 1)) a v) := by have := hW1.out; rw [if_neg (fun q => h1 q.1)] at this; exact this
        have h1' : (h.a == a) = false := by simp [h1]
        clear h1 hW1
        go_wp2
        go_roundw
        case rel => exact ⟨k + 1, by go_num, by omega, hW2, hb1⟩
        case measure => simp [intOf]; omega
    · obtain rfl : k = L.length := by omega
      have hW2 : Hid (whereR L a v = (0, false)) := by have := hW.out; rw [List.drop_length] at this; exact this
      go_wp2
      go_ret2
      exact ⟨by rw [hW2.out]; rfl, hb⟩
set_option maxHeartbeats 1000000 in
theorem whereS (ad : Option Addr) (cap : Nat) (L : List Hd) (a v : Int) (w : World) (hv : HView w ad L) (hm : L.length ≤ maxLen) (hB : HIs ad L (· < w.heap.size)) :
    Calls Tryz.prog 47 #[.slice ad L.length cap, .int .i64 a, .int .i64 v] w fun e w' => e = .returned (.tuple #[.int .i64 (whereR L a v).1, .bool (whereR L a v).2]) ∧ w' = w := by
  unfold maxLen at hm
  go_enter Tryz.func47, Tryz.ntmps47
  go_wp2
  go_loop [8] (fun i => ∃ k : Nat, i = .int .i64 (k : Int) ∧ k ≤ L.length ∧ Hid (whereR L a v = whereR (L.drop k) a v)) (fun i => L.length - (intOf i).toNat)
  case atStart => exact ⟨0, rfl, Nat.zero_le _, by simp [Hid]⟩
  case round =>
    obtain ⟨k, rfl, hk, hW⟩ := hrel
    by_cases hlt : k < L.length
    · obtain ⟨b, off, rfl, hc0⟩ := hv (by omega)
      obtain ⟨h, hh⟩ : ∃ h, L.getD k Hd.nil = h := ⟨_, rfl⟩
      have hck : HAt w b (off + k * 4) h := by rw [← hh]; exact hc0 k hlt
      obtain ⟨c1, c2, c3, c4⟩ := hck
      have hW1 : Hid (whereR L a v = if h.a = a ∧ h.v = v then (h.p, true) else whereR (L.drop (k + 1)) a v) := by
        have := hW.out
        rw [drop_cons hlt hh] at this
        exact this
      clear hh hW hc0
      by_cases h1 : h.a = a
      · by_cases h2 : h.v = v
        · have hW2 : Hid (whereR L a v = (h.p, true)) := by have := hW1.out; rw [if_pos ⟨h1, h2⟩] at this; exact this
          have h1' : (h.a == a) = true := by simp [h1]
          have h2' : (h.v == v) = true := by simp [h2]
          clear h1 h2 hW1
          go_wp2
          go_ret2
          exact ⟨by rw [hW2.out]; rfl, rfl⟩
        · have hW2 : Hid (whereR L a v = whereR (L.drop (k + 1)) a v) := by have := hW1.out; rw [if_neg (fun q => h2 q.2)] at this; exact this
          have h1' : (h.a == a) = true := by simp [h1]
          have h2' : (h.v == v) = false := by simp [h2]
          clear h1 h2 hW1
          go_wp2
          go_round
          case rel => exact ⟨k + 1, by go_num, by omega, hW2⟩
          case measure => simp [intOf]; omega
      · have hW2 : Hid (whereR L a v = whereR (L.drop (k + 1)) a v) := by have := hW1.out; rw [if_neg (fun q => h1 q.1)] at this; exact this
        have h1' : (h.a == a) = false := by simp [h1]
        clear h1 hW1
        go_wp2
        go_round
        case rel => exact ⟨k + 1, by go_num, by omega, hW2⟩
        case measure => simp [intOf]; omega
    · obtain rfl : k = L.length := by omega
      have hW2 : Hid (whereR L a v = (0, false)) := by have := hW.out; rw [List.drop_length] at this; exact this
      go_wp2
      go_ret2
      exact ⟨by rw [hW2.out]; rfl, rfl⟩
set_option maxHeartbeats 1000000 in
theorem okI (ad : Option Addr) (cap : Nat) (L : List Hd) (w : World) (hv : HView w ad L) (hm : L.length ≤ maxLen) (hB : HIs ad L (· < w.heap.size)) :
    Calls Tryz.prog 93 #[.slice ad L.length cap] w fun e w' => e = .returned (.bool (tokB L)) ∧ Below w.heap.size w w' := by
  have hm0 := hm
  unfold maxLen at hm
  by_cases hbig : 12 < L.length
  · have hbig' : (12 : Int) < (L.length : Int) := by omega
    have hO : Hid (tokB L = false) := tokB_no fun q => by have := q.1; omega
    go_enter Tryz.func93, Tryz.ntmps93
    go_wp2
    go_ret
    exact ⟨by rw [hO.out]; rfl, Below.refl _ _⟩
  have hbig' : (L.length : Int) ≤ 12 := by omega
  go_enter Tryz.func93, Tryz.ntmps93
  go_wp2
  go_loopw [10] (fun i wr => ∃ k : Nat, i = .int .i64 (k : Int) ∧ k ≤ L.length ∧ Hid (∀ i, i < k → (L.getD i Hd.nil).fits = true) ∧ Below w.heap.size w wr) (fun i _ => L.length - (intOf i).toNat)
  case atStart => exact ⟨0, rfl, Nat.zero_le _, fun i hi => absurd hi (by omega), Below.refl _ _⟩
  case round =>
    obtain ⟨k, rfl, hk, hF, hb⟩ := hrel
    by_cases hlt : k < L.length
    · obtain ⟨b, off, rfl, hc0⟩ := hv (by omega)
      obtain ⟨h, hh⟩ : ∃ h, L.getD k Hd.nil = h := ⟨_, rfl⟩
      have hck : HAt wr b (off + k * 4) h := by rw [← hh]; exact (hc0 k hlt).of_block (hb.block _ (hB ⟨b, off, none⟩ rfl (by omega)))
      obtain ⟨c1, c2, c3, c4⟩ := hck
      clear hc0
      have hb1 : Below w.heap.size w (wr.alloc (Obj.cells #[.int .i64 h.a, .int .i64 h.v, .int .i64 h.p, .int .i64 h.l] 97)) := hb.trans ((below_box wr _).mono hb.size)
      cases hf : h.fits with
      | false =>
        have hO : Hid (tokB L = false) := tokB_no fun q => by have := q.2.1 k hlt; rw [hh, hf] at this; cases this
        clear hh hF
        go_wp2_with fail
        go_at_call 122
        refine (fitsH h _).mono ?_
        rintro e w1 ⟨rfl, k1⟩
        rw [hf]
        clear hf
        go_wp2
        go_ret
        exact ⟨by rw [hO.out]; rfl, hb1.trans (k1.mono hb1.size)⟩
      | true =>
        have hF1 : Hid (∀ i, i < k + 1 → (L.getD i Hd.nil).fits = true) := fun i hi => by
          by_cases e : i = k
          · subst e; rw [hh]; exact hf
          · exact hF.out i (by omega)
        clear hh hF
        go_wp2_with fail
        go_at_call 122
        refine (fitsH h _).mono ?_
        rintro e w1 ⟨rfl, k1⟩
        rw [hf]
        clear hf
        go_wp2
        go_roundw
        case rel => exact ⟨k + 1, by go_num, by omega, hF1, hb1.trans (k1.mono hb1.size)⟩
        case measure => simp [intOf]; omega
    · obtain rfl : k = L.length := by omega
      have hO : Hid (tokB L = ordB L) := by
        have hF' := hF.out
        unfold Hid
        by_cases q : Ord L
        · rw [ordB_yes q, tokB_yes (show TOk L from ⟨by omega, hF', q⟩)]
        · rw [ordB_no q, tokB_no (show ¬ TOk L from fun t => q t.2.2)]
      clear hF
      go_wp2_with fail
      go_at_call 95
      refine (inOrd ad cap L wr (hv.below hB hb) hm0 (fun a e p => by have := hB a e p; have := hb.size; omega)).mono ?_
      rintro e w1 ⟨rfl, k1⟩
      go_wp2
      go_ret
      exact ⟨by rw [hO.out]; rfl, hb.trans (k1.mono hb.size)⟩

end Go.Proofs.YtifndemkkaelaaaGreat
namespace Go.Proofs.YtifndemkkaelaaaGreat
open Go.ChangeShapes Go.WideShapes Go.ChangeAt Go.RowKit
open Go.ChangeMaps (open_string shut_string)
set_option linter.unusedVariables false

theorem HIs.le {ad : Option Addr} {L : List Hd} {n m : Nat} (h : HIs ad L (· < n)) (k : n ≤ m) : HIs ad L (· < m) := fun a e p => Nat.lt_of_lt_of_le (h a e p) k

end Go.Proofs.YtifndemkkaelaaaGreat
namespace Go.Proofs.YtifndemkkaelaaaGreat
open Go.ChangeShapes Go.WideShapes Go.ChangeAt Go.RowKit
open Go.ChangeMaps (open_string shut_string)
set_option linter.unusedVariables false
set_option maxRecDepth 100000

abbrev DL := List (Int × List Int)
theorem d_get (Ms : List Mb) (i : Nat) : (Ms.map Mb.d).getD i (0, []) = (Ms.getD i Mb.nil).d := by
  simp only [List.getD, List.getElem?_map]
  cases Ms[i]? <;> rfl
structure CdV (w : World) (lo hi : Nat) (adO : Option Addr) (O : List Bool) (adM : Option Addr) (D : DL) (adT : Option Addr) (T : List Hd) : Prop where
  vO : ViewB w adO O.length (fun i => O.getD i false)
  iO : ∀ x, adO = some x → 0 < O.length → lo ≤ x.block ∧ x.block < hi
  vM : ∃ Ms : List Mb, Ms.map Mb.d = D ∧ MbV w adM Ms ∧ (∀ x, adM = some x → 0 < Ms.length → lo ≤ x.block ∧ x.block < hi) ∧ ∀ i, i < Ms.length → ∀ x, (Ms.getD i Mb.nil).ad = some x → 0 < (Ms.getD i Mb.nil).L.length → lo ≤ x.block ∧ x.block < hi
  vT : HView w adT T
  iT : ∀ x, adT = some x → 0 < T.length → lo ≤ x.block ∧ x.block < hi
structure CdW (w : World) (lo hi : Nat) (adO : Option Addr) (O : List Bool) (adM : Option Addr) (D : DL) (adT : Option Addr) (T : List Hd) : Prop where
  vO : ViewB w adO O.length (fun i => O.getD i false)
  rO : Room w adO O.length
  iO : ∀ x, adO = some x → 0 < O.length → lo ≤ x.block ∧ x.block < hi
  vM : ∃ (Ms : List Mb) (fp : List Nat), Ms.map Mb.d = D ∧ MbW w adM Ms fp ∧ (∀ x ∈ fp, lo ≤ x ∧ x < hi) ∧ (∀ x, adO = some x → 0 < O.length → x.block ∉ fp) ∧ ∀ x, adT = some x → 0 < T.length → x.block ∉ fp
  vT : HView w adT T
  rT : HRoom w adT T.length
  iT : ∀ x, adT = some x → 0 < T.length → lo ≤ x.block ∧ x.block < hi
  apart : ∀ x y, adO = some x → adT = some y → 0 < O.length → 0 < T.length → x.block ≠ y.block
theorem CdW.view {w : World} {lo hi : Nat} {adO : Option Addr} {O : List Bool} {adM : Option Addr} {D : DL} {adT : Option Addr} {T : List Hd} (h : CdW w lo hi adO O adM D adT T) : CdV w lo hi adO O adM D adT T := by
  obtain ⟨Ms, fp, e, m, f, _, _⟩ := h.vM
  exact ⟨h.vO, h.iO, ⟨Ms, e, m.view, fun x q p => f _ (m.rowIn x q p), fun i hi x q p => f _ (m.nestIn i hi x q p)⟩, h.vT, h.iT⟩
theorem CdV.keep {w w' : World} {lo hi : Nat} {adO : Option Addr} {O : List Bool} {adM : Option Addr} {D : DL} {adT : Option Addr} {T : List Hd} (h : CdV w lo hi adO O adM D adT T) (k : ∀ j, lo ≤ j → j < hi → w'.heap[j]? = w.heap[j]?) : CdV w' lo hi adO O adM D adT T := by
  obtain ⟨Ms, e, m, f1, f2⟩ := h.vM
  exact ⟨h.vO.carry (fun x q p => k _ (h.iO x q p).1 (h.iO x q p).2), h.iO, ⟨Ms, e, m.carry (fun x q p => k _ (f1 x q p).1 (f1 x q p).2) (fun i hi x q p => k _ (f2 i hi x q p).1 (f2 i hi x q p).2), f1, f2⟩, h.vT.carry (fun x q p => k _ (h.iT x q p).1 (h.iT x q p).2), h.iT⟩
theorem CdV.wide {w : World} {lo hi lo' hi' : Nat} {adO : Option Addr} {O : List Bool} {adM : Option Addr} {D : DL} {adT : Option Addr} {T : List Hd} (h : CdV w lo hi adO O adM D adT T) (h1 : lo' ≤ lo) (h2 : hi ≤ hi') : CdV w lo' hi' adO O adM D adT T := by
  obtain ⟨Ms, e, m, f1, f2⟩ := h.vM
  exact ⟨h.vO, fun x q p => by have := h.iO x q p; omega, ⟨Ms, e, m, fun x q p => by have := f1 x q p; omega, fun i hi x q p => by have := f2 i hi x q p; omega⟩, h.vT, fun x q p => by have := h.iT x q p; omega⟩
theorem CdV.below {w w' : World} {lo hi B : Nat} {adO : Option Addr} {O : List Bool} {adM : Option Addr} {D : DL} {adT : Option Addr} {T : List Hd} (h : CdV w lo hi adO O adM D adT T) (k : Below B w w') (hB : hi ≤ B) : CdV w' lo hi adO O adM D adT T := h.keep fun j _ hj => k.block _ (by omega)
theorem CdW.keep {w w' : World} {lo hi : Nat} {adO : Option Addr} {O : List Bool} {adM : Option Addr} {D : DL} {adT : Option Addr} {T : List Hd} (h : CdW w lo hi adO O adM D adT T) (k : ∀ j, lo ≤ j → j < hi → w'.heap[j]? = w.heap[j]?) : CdW w' lo hi adO O adM D adT T := by
  obtain ⟨Ms, fp, e, m, f, a1, a2⟩ := h.vM
  have e1 : ∀ x, adM = some x → 0 < Ms.length → w'.heap[x.block]? = w.heap[x.block]? := fun x q p => k _ (f _ (m.rowIn x q p)).1 (f _ (m.rowIn x q p)).2
  have e2 : ∀ i, i < Ms.length → ∀ x, (Ms.getD i Mb.nil).ad = some x → 0 < (Ms.getD i Mb.nil).L.length → w'.heap[x.block]? = w.heap[x.block]? := fun i hi x q p => k _ (f _ (m.nestIn i hi x q p)).1 (f _ (m.nestIn i hi x q p)).2
  exact ⟨h.vO.carry (fun x q p => k _ (h.iO x q p).1 (h.iO x q p).2), h.rO.carry (fun x q p => k _ (h.iO x q p).1 (h.iO x q p).2), h.iO, ⟨Ms, fp, e, ⟨m.view.carry e1 e2, m.room.carry (fun x q p => e1 x q (by omega)), fun i hi => (m.rooms i hi).carry (fun x q p => e2 i hi x q p), m.rowIn, m.nestIn, m.apart, m.aparts⟩, f, a1, a2⟩, h.vT.carry (fun x q p => k _ (h.iT x q p).1 (h.iT x q p).2), h.rT.carry (fun x q p => k _ (h.iT x q p).1 (h.iT x q p).2), h.iT, h.apart⟩
theorem CdW.below {w w' : World} {lo hi B : Nat} {adO : Option Addr} {O : List Bool} {adM : Option Addr} {D : DL} {adT : Option Addr} {T : List Hd} (h : CdW w lo hi adO O adM D adT T) (k : Below B w w') (hB : hi ≤ B) : CdW w' lo hi adO O adM D adT T := h.keep fun j _ hj => k.block _ (by omega)
def totD : DL → Nat
  | [] => 0
  | d :: D => 1 + d.2.length + totD D
def sizD : DL → Nat
  | [] => 0
  | d :: D => d.2.length + sizD D
def lTo (Ms : List Mb) : Nat → Nat
  | 0 => 0
  | j + 1 => lTo Ms j + (Ms.getD j Mb.nil).L.length
theorem lTo_cons (m : Mb) (Ms : List Mb) : ∀ j, lTo (m :: Ms) (j + 1) = m.L.length + lTo Ms j
  | 0 => by show 0 + m.L.length = m.L.length + 0; omega
  | j + 1 => by
    show lTo (m :: Ms) (j + 1) + ((m :: Ms).getD (j + 1) Mb.nil).L.length = m.L.length + (lTo Ms j + (Ms.getD j Mb.nil).L.length)
    rw [lTo_cons m Ms j]
    show _ + (Ms.getD j Mb.nil).L.length = _
    omega
theorem lTo_siz : ∀ Ms : List Mb, lTo Ms Ms.length = sizD (Ms.map Mb.d)
  | [] => rfl
  | m :: Ms => by
    rw [List.length_cons, lTo_cons, lTo_siz Ms]
    rfl
theorem lTo_mono (Ms : List Mb) {i j : Nat} (h : i ≤ j) : lTo Ms i ≤ lTo Ms j := by
  induction h with
  | refl => exact Nat.le_refl _
  | step _ ih => exact Nat.le_trans ih (by show _ ≤ lTo Ms _ + _; omega)
theorem tot_siz (D : DL) : totD D = D.length + sizD D := by
  induction D with
  | nil => rfl
  | cons d D ih => simp only [totD, sizD, List.length_cons, ih]; omega
theorem getD_siz {D : DL} {i : Nat} (h : i < D.length) : (D.getD i (0, [])).2.length ≤ sizD D := by
  induction D generalizing i with
  | nil => simp at h
  | cons d D ih =>
    cases i with
    | zero => show d.2.length ≤ d.2.length + sizD D; omega
    | succ i =>
      have := ih (i := i) (by simpa using h)
      show (D.getD i (0, [])).2.length ≤ d.2.length + sizD D
      omega

end Go.Proofs.YtifndemkkaelaaaGreat
