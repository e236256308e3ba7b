/- spec.Same, walked. -/
import Derived.Test.YtemibefbkjpnaabRows
import Derived.WalkKit
import Derived.ProofKit
import Derived.OpenShut
import Derived.ShutString
import Derived.ChangeOld
import Derived.Below
import Derived.Deep.QuietTactic
import Derived.BigQuiet
import Derived.WalkSmall
import Derived.Laws.OwnMore
import Derived.WalkSpells
import Derived.WalkLawsBesides
import Derived.Deep.Cut
import Derived.Laws.StructEq
import Derived.Test.YtemibefbkjpnaabSm3
namespace Go.Proofs.Ytemibefbkjpnaab
open Go.ChangeShapes Go.WideShapes Go.ChangeAt Go.RowKit
open Go.ChangeMaps (open_string shut_string)
set_option linter.unusedVariables false
set_option maxRecDepth 100000

set_option maxHeartbeats 16000000 in
theorem sameS (adB adB' : Option Addr) (capB capB' : Nat) (Bs Bs' : List Bd) (adK adK' : Option Addr) (capK capK' : Nat) (K K' : List Lk) (w : World) (hN : NN w adB Bs adK K) (hN' : NN w adB' Bs' adK' K') :
    Calls Try.prog 5 #[.agg #[.slice adB Bs.length capB, .slice adK K.length capK], .agg #[.slice adB' Bs'.length capB', .slice adK' K'.length capK']] w fun e w' => YN e (dB Bs = dB Bs' ∧ K = K') ∧ Below w.heap.size w w' := by
  suffices H : ∀ Q : Prop, Hid (Q ↔ dB Bs = dB Bs' ∧ K = K') → Calls Try.prog 5 #[.agg #[.slice adB Bs.length capB, .slice adK K.length capK], .agg #[.slice adB' Bs'.length capB', .slice adK' K'.length capK']] w fun e w' => YN e Q ∧ Below w.heap.size w w' from H _ Iff.rfl
  intro Q hQ
  have hl := hN.hl
  have hk := hN.hk
  obtain ⟨y, hy⟩ : ∃ y, y = (w.alloc (Obj.cells #[.slice adB Bs.length capB, .slice adK K.length capK] 31)).alloc (Obj.cells #[.slice adB' Bs'.length capB', .slice adK' K'.length capK'] 31) := ⟨_, rfl⟩
  have B0 : Below w.heap.size w y := by rw [hy]; exact ((Below.refl _ _).alloc (Nat.le_refl _) _).alloc (by simp) _
  have A0 : NeAt y w.heap.size (.slice adB Bs.length capB) (.slice adK K.length capK) := by rw [hy]; constructor <;> simp [go_sem]
  have A1 : NeAt y (w.heap.size + 1) (.slice adB' Bs'.length capB') (.slice adK' K'.length capK') := by rw [hy]; constructor <;> simp [go_sem]
  by_cases hle : (Bs.length : Int) = (Bs'.length : Int)
  rotate_left
  · have d1 : ((Bs.length : Int) != (Bs'.length : Int)) = true := by simp; omega
    have d2 : decide ((Bs.length : Int) = (Bs'.length : Int)) = false := decide_eq_false hle
    replace hQ : Hid (¬ Q) := fun h => dB_ne (by omega) (hQ.out.1 h).1
    replace hle : Hid _ := hle
    go_enter Try.func5, Try.ntmps5
    go_wp2
    rw [← hy]
    go_ret
    exact ⟨YN.no hQ.out, B0⟩
  have hll : Hid (Bs'.length = Bs.length) := by unfold Hid; omega
  rw [hll.out] at A1 hy ⊢
  clear hle
  by_cases hle : (K.length : Int) = (K'.length : Int)
  rotate_left
  · have d1 : ((K.length : Int) != (K'.length : Int)) = true := by simp; omega
    have d2 : decide ((K.length : Int) = (K'.length : Int)) = false := decide_eq_false hle
    replace hQ : Hid (¬ Q) := fun h => by
      have := congrArg List.length (hQ.out.1 h).2
      omega
    replace hle : Hid _ := hle
    go_enter Try.func5, Try.ntmps5
    go_wp2
    rw [← hy]
    go_ret
    exact ⟨YN.no hQ.out, B0⟩
  have hlk : Hid (K'.length = K.length) := by unfold Hid; omega
  rw [hlk.out] at A1 hy ⊢
  clear hle
  replace hQ : Hid (Q ↔ (∀ j, j < Bs.length → (Bs.getD j Bd.nil).id = (Bs'.getD j Bd.nil).id ∧ (Bs.getD j Bd.nil).L = (Bs'.getD j Bd.nil).L) ∧ K = K') := hQ.out.trans ⟨fun h => ⟨(dB_eq hll.out).1 h.1, h.2⟩, fun h => ⟨(dB_eq hll.out).2 h.1, h.2⟩⟩
  go_enter Try.func5, Try.ntmps5
  go_wp2
  rw [← hy]
  clear hy
  go_loopw [5] (fun i wr => ∃ k : Nat, k ≤ Bs.length ∧ i = .int .i64 k ∧ Hid (∀ j, j < k → (Bs.getD j Bd.nil).id = (Bs'.getD j Bd.nil).id ∧ (Bs.getD j Bd.nil).L = (Bs'.getD j Bd.nil).L) ∧ Below w.heap.size w wr ∧ NeAt wr w.heap.size (.slice adB Bs.length capB) (.slice adK K.length capK) ∧ NeAt wr (w.heap.size + 1) (.slice adB' Bs.length capB') (.slice adK' K.length capK')) (fun i _ => Bs.length - (intOf i).toNat)
  case atStart => exact ⟨0, Nat.zero_le _, rfl, fun j hj => absurd hj (by omega), B0, A0, A1⟩
  case round =>
    clear B0 A0 A1
    obtain ⟨k, hk1, rfl, hF, hb, A0, A1⟩ := hrel
    have cc := A0
    obtain ⟨a0, a1_⟩ := cc
    by_cases hlt : k < Bs.length
    · have hlt' : k < Bs'.length := by have := hll.out; omega
      obtain ⟨b, off, rfl⟩ := hN.vb.ad_ (by omega)
      obtain ⟨b', off', rfl⟩ := hN'.vb.ad_ (by omega)
      have hc : ∀ Y, Below wr.heap.size wr Y → BdAtO Y b (off + k * 2) (Bs.getD k Bd.nil) := fun Y hY => (hN.later (hb.trans (hY.mono hb.size))).vb.at_ hlt
      have hc' : ∀ Y, Below wr.heap.size wr Y → BdAtO Y b' (off' + k * 2) (Bs'.getD k Bd.nil) := fun Y hY => (hN'.later (hb.trans (hY.mono hb.size))).vb.at_ hlt'
      have hn : ∀ Y, Below wr.heap.size wr Y → FView ptEnc Y (Bs.getD k Bd.nil).ad (Bs.getD k Bd.nil).L := fun Y hY => (hN.later (hb.trans (hY.mono hb.size))).vb.nest k hlt
      have hn' : ∀ Y, Below wr.heap.size wr Y → FView ptEnc Y (Bs'.getD k Bd.nil).ad (Bs'.getD k Bd.nil).L := fun Y hY => (hN'.later (hb.trans (hY.mono hb.size))).vb.nest k hlt'
      have hlk := hN.hls k hlt
      have hlk' := hN'.hls k hlt'
      obtain ⟨⟨id, a1, c1, L1⟩, hh⟩ : ∃ m, Bs.getD k Bd.nil = m := ⟨_, rfl⟩
      obtain ⟨⟨id', a2, c2, L2⟩, hh'⟩ : ∃ m, Bs'.getD k Bd.nil = m := ⟨_, rfl⟩
      rw [hh] at hlk
      rw [hh'] at hlk'
      simp only [hh] at hn hc
      simp only [hh'] at hn' hc'
      dsimp only at hlk hlk' hn hn'
      replace hh : Hid _ := hh
      replace hh' : Hid _ := hh'
      go_upto_region 6 with fail
      refine wp_region_held (S := fun Y => Below wr.heap.size wr Y) (by kernel_rfl) ?_
      change wpAnyH _ _ _ _ _ _ _ _ (World.drew _)
      have hb0 : Below wr.heap.size wr wr.drew := (Below.refl _ _).drew
      obtain ⟨u0, hy0⟩ : ∃ y_, y_ = wr.drew := ⟨_, rfl⟩
      rw [← hy0] at hb0 ⊢
      clear hy0
      refine takeW 0 30 (.pointer (some ⟨w.heap.size, 0, none⟩)) rfl rfl (by kernel_rfl) (by kernel_rfl) (by kernel_rfl) (fun _ _ _ h => h) (by kernel_rfl) (by (intro w hSw; go_simp)) (by assumption) ?_
      simp only [List.set_cons_zero, List.set_cons_succ]
      refine takeW 1 31 (.slice (some ⟨b, off, none⟩) Bs.length capB) rfl rfl (by kernel_rfl) (by kernel_rfl) (by kernel_rfl) (fun _ _ _ h => h) (by kernel_rfl) (by (intro Y hSw; obtain ⟨X0, X1⟩ := A0.below hSw A0.lt; go_simp)) (by assumption) ?_
      simp only [List.set_cons_zero, List.set_cons_succ]
      refine takeW 2 32 (.int .i64 (k : Int)) rfl rfl (by kernel_rfl) (by kernel_rfl) (by kernel_rfl) (fun _ _ _ h => h) (by kernel_rfl) (by (intro w hSw; go_simp)) (by assumption) ?_
      simp only [List.set_cons_zero, List.set_cons_succ]
      refine takeW 3 33 (.pointer (some ⟨b, off + k * 2, none⟩)) rfl rfl (by kernel_rfl) (by kernel_rfl) (by kernel_rfl) (fun _ _ _ h => h) (by kernel_rfl) (by (intro Y hSw; go_simp; try omega)) (by assumption) ?_
      simp only [List.set_cons_zero, List.set_cons_succ]
      refine takeW 4 34 (.agg #[.int .i64 id, .slice a1 L1.length c1]) rfl rfl (by kernel_rfl) (by kernel_rfl) (by kernel_rfl) (fun _ _ _ h => h) (by kernel_rfl) (by (intro Y hSw; obtain ⟨X0, X1⟩ := hc Y hSw; go_simp)) (by assumption) ?_
      simp only [List.set_cons_zero, List.set_cons_succ]
      refine takeW 5 35 (.pointer (some ⟨(w.heap.size + 1), 0, none⟩)) rfl rfl (by kernel_rfl) (by kernel_rfl) (by kernel_rfl) (fun _ _ _ h => h) (by kernel_rfl) (by (intro w hSw; go_simp)) (by assumption) ?_
      simp only [List.set_cons_zero, List.set_cons_succ]
      refine takeW 6 36 (.slice (some ⟨b', off', none⟩) Bs.length capB') rfl rfl (by kernel_rfl) (by kernel_rfl) (by kernel_rfl) (fun _ _ _ h => h) (by kernel_rfl) (by (intro Y hSw; obtain ⟨X0, X1⟩ := A1.below hSw A1.lt; go_simp)) (by assumption) ?_
      simp only [List.set_cons_zero, List.set_cons_succ]
      refine takeW 7 37 (.int .i64 (k : Int)) rfl rfl (by kernel_rfl) (by kernel_rfl) (by kernel_rfl) (fun _ _ _ h => h) (by kernel_rfl) (by (intro w hSw; go_simp)) (by assumption) ?_
      simp only [List.set_cons_zero, List.set_cons_succ]
      refine takeW 8 38 (.pointer (some ⟨b', off' + k * 2, none⟩)) rfl rfl (by kernel_rfl) (by kernel_rfl) (by kernel_rfl) (fun _ _ _ h => h) (by kernel_rfl) (by (intro Y hSw; go_simp; try omega)) (by assumption) ?_
      simp only [List.set_cons_zero, List.set_cons_succ]
      refine takeW 9 39 (.agg #[.int .i64 id', .slice a2 L2.length c2]) rfl rfl (by kernel_rfl) (by kernel_rfl) (by kernel_rfl) (fun _ _ _ h => h) (by kernel_rfl) (by (intro Y hSw; obtain ⟨X0, X1⟩ := hc' Y hSw; go_simp)) (by assumption) ?_
      simp only [List.set_cons_zero, List.set_cons_succ]
      refine wpAnyH_all (rs := [10]) (by kernel_rfl) (by simp) ?_
      intro i hi; obtain rfl : i = 10 := by simpa using hi
      refine wpOp_step rfl (fun Kz hKz => ?_)
      rw [if_pos (by kernel_rfl)]
      go_simp
      go_at_call 11
      refine (alikeS id id' a1 a2 c1 c2 L1 L2 u0 (hn u0 hb0) (hn' u0 hb0) hlk hlk').mono ?_
      rintro e u1 ⟨⟨R, rfl, hR⟩, kq⟩
      have hb1 : Below wr.heap.size wr u1 := hb0.trans (kq.mono hb0.size)
      clear kq
      refine hKz _ _ ⟨hb1, ?_⟩
      clear hKz Kz hi
      refine takeW 11 41 (.bool (!R)) rfl rfl (by kernel_rfl) (by kernel_rfl) (by kernel_rfl) (fun _ _ _ h => h) (by kernel_rfl) (by (intro w hSw; go_simp)) (by assumption) ?_
      simp only [List.set_cons_zero, List.set_cons_succ]
      refine wpAnyH_done (by kernel_rfl) ?_ _
      by_cases he : id = id' ∧ L1 = L2
      · obtain rfl : R = true := hR.2 he
        clear hR
        replace he : Hid _ := he
        go_wp2
        go_roundw
        case rel =>
          refine ⟨k + 1, by omega, by go_num, fun j hj => ?_, hb.trans (hb1.mono hb.size), A0.below hb1 A0.lt, A1.below hb1 A1.lt⟩
          by_cases ej : j = k
          · rw [ej, hh.out, hh'.out]; exact he.out
          · exact hF.out j (by omega)
        case measure => simp [intOf]; omega
      · obtain rfl : R = false := by
          rcases Bool.eq_false_or_eq_true R with q | q
          · exact absurd (hR.1 q) he
          · exact q
        clear hR
        replace he : Hid _ := he
        go_wp2
        go_ret
        refine ⟨YN.no (fun q => ?_), hb.trans (hb1.mono hb.size)⟩
        have := (hQ.out.1 q).1 k hlt
        rw [hh.out, hh'.out] at this
        exact he.out this
    · obtain rfl : k = Bs.length := by omega
      replace hQ : Hid (Q ↔ K = K') := hQ.out.trans ⟨fun h => h.2, fun h => ⟨hF.out, h⟩⟩
      go_wp2
      clear a0 a1_
      go_loopw [6] (fun i wr => ∃ k : Nat, k ≤ K.length ∧ i = .int .i64 k ∧ Hid (∀ j, j < k → K.getD j Lk.nil = K'.getD j Lk.nil) ∧ Below w.heap.size w wr ∧ NeAt wr w.heap.size (.slice adB Bs.length capB) (.slice adK K.length capK) ∧ NeAt wr (w.heap.size + 1) (.slice adB' Bs.length capB') (.slice adK' K.length capK')) (fun i _ => K.length - (intOf i).toNat)
      case atStart => exact ⟨0, Nat.zero_le _, rfl, fun j hj => absurd hj (by omega), hb, A0, A1⟩
      case round =>
        clear hb A0 A1
        obtain ⟨k, hk2, rfl, hG, hb, A0, A1⟩ := hrel
        have cc := A0
        obtain ⟨a0, a1_⟩ := cc
        by_cases hlt : k < K.length
        · have hlt' : k < K'.length := by have := hlk.out; omega
          obtain ⟨b, off, rfl, _⟩ := hN.vk (by omega)
          obtain ⟨b', off', rfl, _⟩ := hN'.vk (by omega)
          have hc : ∀ Y, Below wr.heap.size wr Y → LkAtO Y b (off + k * 4) (K.getD k Lk.nil) := fun Y hY => lkAtO_of ((hN.later (hb.trans (hY.mono hb.size))).vk.at_ lkEnc_len Lk.nil hlt)
          have hc' : ∀ Y, Below wr.heap.size wr Y → LkAtO Y b' (off' + k * 4) (K'.getD k Lk.nil) := fun Y hY => lkAtO_of ((hN'.later (hb.trans (hY.mono hb.size))).vk.at_ lkEnc_len Lk.nil hlt')
          obtain ⟨h, hh⟩ : ∃ h, K.getD k Lk.nil = h := ⟨_, rfl⟩
          obtain ⟨h', hh'⟩ : ∃ h, K'.getD k Lk.nil = h := ⟨_, rfl⟩
          simp only [hh] at hc
          simp only [hh'] at hc'
          replace hh : Hid _ := hh
          replace hh' : Hid _ := hh'
          by_cases he : h = h'
          · have heq : ∀ w, (binOp .neq 41 (.agg #[.int .i64 h.a, .int .i64 h.p, .int .i64 h.b, .int .i64 h.q]) (.agg #[.int .i64 h'.a, .int .i64 h'.p, .int .i64 h'.b, .int .i64 h'.q])).run Try.prog w = .ok (.bool false) w := fun w => by subst he; exact neqLk_same h w
            replace he : Hid _ := he
            go_upto_region 11 with fail
            refine wp_region_held (S := fun Y => Below wr.heap.size wr Y) (by kernel_rfl) ?_
            change wpAnyH _ _ _ _ _ _ _ _ (World.drew _)
            have hb0 : Below wr.heap.size wr wr.drew := (Below.refl _ _).drew
            obtain ⟨u0, hy0⟩ : ∃ y_, y_ = wr.drew := ⟨_, rfl⟩
            rw [← hy0] at hb0 ⊢
            clear hy0
            refine takeW 0 49 (.pointer (some ⟨w.heap.size, 1, none⟩)) rfl rfl (by kernel_rfl) (by kernel_rfl) (by kernel_rfl) (fun _ _ _ h => h) (by kernel_rfl) (by (intro w hSw; go_simp)) (by assumption) ?_
            simp only [List.set_cons_zero, List.set_cons_succ]
            refine takeW 1 50 (.slice (some ⟨b, off, none⟩) K.length capK) rfl rfl (by kernel_rfl) (by kernel_rfl) (by kernel_rfl) (fun _ _ _ h => h) (by kernel_rfl) (by (intro Y hSw; obtain ⟨X0, X1⟩ := A0.below hSw A0.lt; go_simp)) (by assumption) ?_
            simp only [List.set_cons_zero, List.set_cons_succ]
            refine takeW 2 51 (.int .i64 (k : Int)) rfl rfl (by kernel_rfl) (by kernel_rfl) (by kernel_rfl) (fun _ _ _ h => h) (by kernel_rfl) (by (intro w hSw; go_simp)) (by assumption) ?_
            simp only [List.set_cons_zero, List.set_cons_succ]
            refine takeW 3 52 (.pointer (some ⟨b, off + k * 4, none⟩)) rfl rfl (by kernel_rfl) (by kernel_rfl) (by kernel_rfl) (fun _ _ _ h => h) (by kernel_rfl) (by (intro Y hSw; go_simp; try omega)) (by assumption) ?_
            simp only [List.set_cons_zero, List.set_cons_succ]
            refine takeW 4 53 (.agg #[.int .i64 h.a, .int .i64 h.p, .int .i64 h.b, .int .i64 h.q]) rfl rfl (by kernel_rfl) (by kernel_rfl) (by kernel_rfl) (fun _ _ _ h => h) (by kernel_rfl) (by (intro Y hSw; obtain ⟨X0, X1, X2, X3⟩ := hc Y hSw; go_simp)) (by assumption) ?_
            simp only [List.set_cons_zero, List.set_cons_succ]
            refine takeW 5 54 (.pointer (some ⟨(w.heap.size + 1), 1, none⟩)) rfl rfl (by kernel_rfl) (by kernel_rfl) (by kernel_rfl) (fun _ _ _ h => h) (by kernel_rfl) (by (intro w hSw; go_simp)) (by assumption) ?_
            simp only [List.set_cons_zero, List.set_cons_succ]
            refine takeW 6 55 (.slice (some ⟨b', off', none⟩) K.length capK') rfl rfl (by kernel_rfl) (by kernel_rfl) (by kernel_rfl) (fun _ _ _ h => h) (by kernel_rfl) (by (intro Y hSw; obtain ⟨X0, X1⟩ := A1.below hSw A1.lt; go_simp)) (by assumption) ?_
            simp only [List.set_cons_zero, List.set_cons_succ]
            refine takeW 7 56 (.int .i64 (k : Int)) rfl rfl (by kernel_rfl) (by kernel_rfl) (by kernel_rfl) (fun _ _ _ h => h) (by kernel_rfl) (by (intro w hSw; go_simp)) (by assumption) ?_
            simp only [List.set_cons_zero, List.set_cons_succ]
            refine takeW 8 57 (.pointer (some ⟨b', off' + k * 4, none⟩)) rfl rfl (by kernel_rfl) (by kernel_rfl) (by kernel_rfl) (fun _ _ _ h => h) (by kernel_rfl) (by (intro Y hSw; go_simp; try omega)) (by assumption) ?_
            simp only [List.set_cons_zero, List.set_cons_succ]
            refine takeW 9 58 (.agg #[.int .i64 h'.a, .int .i64 h'.p, .int .i64 h'.b, .int .i64 h'.q]) rfl rfl (by kernel_rfl) (by kernel_rfl) (by kernel_rfl) (fun _ _ _ h => h) (by kernel_rfl) (by (intro Y hSw; obtain ⟨X0, X1, X2, X3⟩ := hc' Y hSw; go_simp)) (by assumption) ?_
            simp only [List.set_cons_zero, List.set_cons_succ]
            refine takeW 10 59 (.bool false) rfl rfl (by kernel_rfl) (by kernel_rfl) (by kernel_rfl) (fun _ _ _ h => h) (by kernel_rfl) (by (intro w hSw; have hq := heq w; go_simp)) (by assumption) ?_
            simp only [List.set_cons_zero, List.set_cons_succ]
            refine wpAnyH_done (by kernel_rfl) ?_ _
            go_wp2
            go_roundw
            case rel =>
              refine ⟨k + 1, by omega, by go_num, fun j hj => ?_, hb.trans (hb0.mono hb.size), A0.below hb0 A0.lt, A1.below hb0 A1.lt⟩
              by_cases ej : j = k
              · rw [ej, hh.out, hh'.out]; exact he.out
              · exact hG.out j (by omega)
            case measure => simp [intOf]; omega
          · have heq : ∀ w, (binOp .neq 41 (.agg #[.int .i64 h.a, .int .i64 h.p, .int .i64 h.b, .int .i64 h.q]) (.agg #[.int .i64 h'.a, .int .i64 h'.p, .int .i64 h'.b, .int .i64 h'.q])).run Try.prog w = .ok (.bool true) w := fun w => neqLk_else he w
            replace he : Hid _ := he
            go_upto_region 11 with fail
            refine wp_region_held (S := fun Y => Below wr.heap.size wr Y) (by kernel_rfl) ?_
            change wpAnyH _ _ _ _ _ _ _ _ (World.drew _)
            have hb0 : Below wr.heap.size wr wr.drew := (Below.refl _ _).drew
            obtain ⟨u0, hy0⟩ : ∃ y_, y_ = wr.drew := ⟨_, rfl⟩
            rw [← hy0] at hb0 ⊢
            clear hy0
            refine takeW 0 49 (.pointer (some ⟨w.heap.size, 1, none⟩)) rfl rfl (by kernel_rfl) (by kernel_rfl) (by kernel_rfl) (fun _ _ _ h => h) (by kernel_rfl) (by (intro w hSw; go_simp)) (by assumption) ?_
            simp only [List.set_cons_zero, List.set_cons_succ]
            refine takeW 1 50 (.slice (some ⟨b, off, none⟩) K.length capK) rfl rfl (by kernel_rfl) (by kernel_rfl) (by kernel_rfl) (fun _ _ _ h => h) (by kernel_rfl) (by (intro Y hSw; obtain ⟨X0, X1⟩ := A0.below hSw A0.lt; go_simp)) (by assumption) ?_
            simp only [List.set_cons_zero, List.set_cons_succ]
            refine takeW 2 51 (.int .i64 (k : Int)) rfl rfl (by kernel_rfl) (by kernel_rfl) (by kernel_rfl) (fun _ _ _ h => h) (by kernel_rfl) (by (intro w hSw; go_simp)) (by assumption) ?_
            simp only [List.set_cons_zero, List.set_cons_succ]
            refine takeW 3 52 (.pointer (some ⟨b, off + k * 4, none⟩)) rfl rfl (by kernel_rfl) (by kernel_rfl) (by kernel_rfl) (fun _ _ _ h => h) (by kernel_rfl) (by (intro Y hSw; go_simp; try omega)) (by assumption) ?_
            simp only [List.set_cons_zero, List.set_cons_succ]
            refine takeW 4 53 (.agg #[.int .i64 h.a, .int .i64 h.p, .int .i64 h.b, .int .i64 h.q]) rfl rfl (by kernel_rfl) (by kernel_rfl) (by kernel_rfl) (fun _ _ _ h => h) (by kernel_rfl) (by (intro Y hSw; obtain ⟨X0, X1, X2, X3⟩ := hc Y hSw; go_simp)) (by assumption) ?_
            simp only [List.set_cons_zero, List.set_cons_succ]
            refine takeW 5 54 (.pointer (some ⟨(w.heap.size + 1), 1, none⟩)) rfl rfl (by kernel_rfl) (by kernel_rfl) (by kernel_rfl) (fun _ _ _ h => h) (by kernel_rfl) (by (intro w hSw; go_simp)) (by assumption) ?_
            simp only [List.set_cons_zero, List.set_cons_succ]
            refine takeW 6 55 (.slice (some ⟨b', off', none⟩) K.length capK') rfl rfl (by kernel_rfl) (by kernel_rfl) (by kernel_rfl) (fun _ _ _ h => h) (by kernel_rfl) (by (intro Y hSw; obtain ⟨X0, X1⟩ := A1.below hSw A1.lt; go_simp)) (by assumption) ?_
            simp only [List.set_cons_zero, List.set_cons_succ]
            refine takeW 7 56 (.int .i64 (k : Int)) rfl rfl (by kernel_rfl) (by kernel_rfl) (by kernel_rfl) (fun _ _ _ h => h) (by kernel_rfl) (by (intro w hSw; go_simp)) (by assumption) ?_
            simp only [List.set_cons_zero, List.set_cons_succ]
            refine takeW 8 57 (.pointer (some ⟨b', off' + k * 4, none⟩)) rfl rfl (by kernel_rfl) (by kernel_rfl) (by kernel_rfl) (fun _ _ _ h => h) (by kernel_rfl) (by (intro Y hSw; go_simp; try omega)) (by assumption) ?_
            simp only [List.set_cons_zero, List.set_cons_succ]
            refine takeW 9 58 (.agg #[.int .i64 h'.a, .int .i64 h'.p, .int .i64 h'.b, .int .i64 h'.q]) rfl rfl (by kernel_rfl) (by kernel_rfl) (by kernel_rfl) (fun _ _ _ h => h) (by kernel_rfl) (by (intro Y hSw; obtain ⟨X0, X1, X2, X3⟩ := hc' Y hSw; go_simp)) (by assumption) ?_
            simp only [List.set_cons_zero, List.set_cons_succ]
            refine takeW 10 59 (.bool true) rfl rfl (by kernel_rfl) (by kernel_rfl) (by kernel_rfl) (fun _ _ _ h => h) (by kernel_rfl) (by (intro w hSw; have hq := heq w; go_simp)) (by assumption) ?_
            simp only [List.set_cons_zero, List.set_cons_succ]
            refine wpAnyH_done (by kernel_rfl) ?_ _
            go_wp2
            go_ret
            refine ⟨YN.no (fun q => ?_), hb.trans (hb0.mono hb.size)⟩
            have := hQ.out.1 q
            exact he.out (hh.out.symm.trans ((congrArg (fun z => z.getD k Lk.nil) this).trans hh'.out))
        · obtain rfl : k = K.length := by omega
          go_wp2
          go_ret
          refine ⟨YN.yes (hQ.out.2 ?_), hb⟩
          refine List.ext_getElem hlk.out.symm fun i h1 h2 => ?_
          have := hG.out i h1
          simpa [List.getD, h1, h2] using this

end Go.Proofs.Ytemibefbkjpnaab
