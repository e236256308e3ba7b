/- impl.bridgesFit, walked. -/
import Derived.Test.YtdfjfodfnildiaaRows
import Derived.WalkKit
import Derived.ProofKit
import Derived.OpenShut
import Derived.ShutString
import Derived.ChangeOld
import Derived.Below
import Derived.Deep.QuietTactic
import Derived.BigQuiet
import Derived.WalkSmall
import Derived.Laws.OwnMore
import Derived.WalkSpells
import Derived.WalkLawsBesides
import Derived.Deep.Cut
import Derived.Laws.StructEq
import Derived.Test.YtdfjfodfnildiaaNo2
namespace Go.Proofs.Ytdfjfodfnildiaa
open Go.ChangeShapes Go.WideShapes Go.ChangeAt Go.RowKit
open Go.ChangeMaps (open_string shut_string)
set_option linter.unusedVariables false
set_option maxRecDepth 100000

/-- The first n are bridges, with numbers that are unlike. -/
def FitTo (B : List Bg) (n : Nat) : Prop := (∀ i, i < n → bOk (B.getD i Bg.nil).id (B.getD i Bg.nil).L = true) ∧ Unlike B n
set_option maxHeartbeats 8000000 in
theorem bFitI (adB : Option Addr) (capB : Nat) (Bs : List Bd) (w : World) (vb : NV w adB Bs) (hl : Bs.length ≤ 1048576) (hls : ∀ i, i < Bs.length → (Bs.getD i Bd.nil).L.length ≤ 1048576) (hcap : Bs.length ≤ capB) :
    Calls Try.prog 51 #[.slice adB Bs.length capB] w fun e w' => YN e ((1 ≤ (dB Bs).length ∧ (dB Bs).length ≤ 5) ∧ FitTo (dB Bs) (dB Bs).length) ∧ Below w.heap.size w w' := by
  rw [dB_len]
  suffices H : ∀ Q : Prop, Hid (Q ↔ (1 ≤ Bs.length ∧ Bs.length ≤ 5) ∧ FitTo (dB Bs) Bs.length) → Calls Try.prog 51 #[.slice adB Bs.length capB] w fun e w' => YN e Q ∧ Below w.heap.size w w' from H _ Iff.rfl
  intro Q hQ
  by_cases h1 : 1 ≤ Bs.length
  rotate_left
  · have d1 : decide ((Bs.length : Int) < 1) = true := decide_eq_true (by omega)
    have d2 : Hid (Bs.length = 0) := by unfold Hid; omega
    go_enter Try.func51, Try.ntmps51
    go_wp2
    go_ret
    exact ⟨YN.no (fun h => absurd (hQ.out.1 h).1.1 (by omega)), Below.refl _ _⟩
  have d1 : decide ((Bs.length : Int) < 1) = false := decide_eq_false (by omega)
  by_cases h2 : Bs.length ≤ 5
  rotate_left
  · have d2 : decide ((5 : Int) < (Bs.length : Int)) = true := decide_eq_true (by omega)
    have e1 : ¬ ((Bs.length : Int) < 1) := by omega
    have e2 : (5 : Int) < (Bs.length : Int) := by omega
    go_enter Try.func51, Try.ntmps51
    go_wp2
    go_ret
    exact ⟨YN.no (fun h => absurd (hQ.out.1 h).1.2 h2), Below.refl _ _⟩
  have d2 : decide ((5 : Int) < (Bs.length : Int)) = false := decide_eq_false (by omega)
  have e1 : ¬ ((Bs.length : Int) < 1) := by omega
  have e2 : ¬ ((5 : Int) < (Bs.length : Int)) := by omega
  go_enter Try.func51, Try.ntmps51
  go_wp2
  clear d1 d2 e1 e2
  go_loopw [15] (fun i wr => ∃ k : Nat, k ≤ Bs.length ∧ i = .int .i64 k ∧ Hid (FitTo (dB Bs) k) ∧ Below w.heap.size w wr) (fun i _ => Bs.length - (intOf i).toNat)
  case atStart => exact ⟨0, Nat.zero_le _, rfl, ⟨fun i hi => by omega, fun i k hi => by omega⟩, Below.refl _ _⟩
  case round =>
    obtain ⟨k, hk, rfl, hF, hb⟩ := hrel
    by_cases hlt : k < Bs.length
    · obtain ⟨b, off, rfl⟩ := vb.ad_ (by omega)
      have hck := (vb.below hb (Nat.le_refl _)).at_ hlt
      have hlk := hls k hlt
      have hg : Hid ((dB Bs).getD k Bg.nil = (Bs.getD k Bd.nil).d) := bd_get Bs k
      have nest := vb.nest k hlt
      obtain ⟨⟨id, a1, c1, L1⟩, hh⟩ : ∃ q, Bs.getD k Bd.nil = q := ⟨_, rfl⟩
      rw [hh] at hck hlk hg nest
      dsimp only at hlk nest
      obtain ⟨x1, x2⟩ := hck
      dsimp only at x1 x2
      obtain ⟨u, hu⟩ : ∃ u, u = wr.alloc (Obj.cells #[.int .i64 id, .slice a1 L1.length c1] 71) := ⟨_, rfl⟩
      have bu : Below w.heap.size w u := by rw [hu]; exact hb.alloc hb.size _
      have vu := vb.below bu (Nat.le_refl _)
      have hn : ∀ Y, Below u.heap.size u Y → FView ptEnc Y a1 L1 := fun Y hY => nest.below (bu.trans (hY.mono bu.size)) (nest.lt ptEnc_len (by omega))
      have hx0 : BrAt u wr.heap.size id (.slice a1 L1.length c1) := by rw [hu]; exact BrAt.new wr _ _ _
      have hx : ∀ Y, Below u.heap.size u Y → BrAt Y wr.heap.size id (.slice a1 L1.length c1) := fun Y hY => hx0.below hY hx0.lt
      have hxl := hx0.lt
      clear nest hx0 hh
      by_cases hok : bOk id L1 = true
      · replace hok : Hid _ := hok
        go_upto_region 6 with fail
        rw [← hu]
        clear hu
        refine wp_region_held (S := fun Y => Below u.heap.size u Y) (by kernel_rfl) ?_
        change wpAnyH _ _ _ _ _ _ _ _ (World.drew _)
        have hb0 : Below u.heap.size u u.drew := (Below.refl _ _).drew
        obtain ⟨u0, hy0⟩ : ∃ y_, y_ = u.drew := ⟨_, rfl⟩
        rw [← hy0] at hb0 ⊢
        clear hy0
        refine takeW 0 20 (.agg #[.int .i64 id, .slice a1 L1.length c1]) rfl rfl (by kernel_rfl) (by kernel_rfl) (by kernel_rfl) (fun _ _ _ h => h) (by kernel_rfl) (by (intro Y hSw; obtain ⟨X0, X1⟩ := hx Y hSw; go_simp)) (by assumption) ?_
        simp only [List.set_cons_zero, List.set_cons_succ]
        refine wpAnyH_all (rs := [1]) (by kernel_rfl) (by simp) ?_
        intro i hi; obtain rfl : i = 1 := by simpa using hi
        refine wpOp_step rfl (fun Kz hKz => ?_)
        rw [if_pos (by kernel_rfl)]
        go_simp
        go_at_call 72
        refine (bOkI id a1 c1 L1 u0 (hn u0 hb0) hlk).mono ?_
        rintro e u1 ⟨rfl, kq⟩
        have hb1 : Below u.heap.size u u1 := hb0.trans (kq.mono hb0.size)
        clear kq
        rw [hok.out]
        refine hKz _ _ ⟨hb1, ?_⟩
        clear hKz Kz hi
        refine takeW 2 22 (.bool false) rfl rfl (by kernel_rfl) (by kernel_rfl) (by kernel_rfl) (fun _ _ _ h => h) (by kernel_rfl) (by (intro w hSw; go_simp)) (by assumption) ?_
        simp only [List.set_cons_zero, List.set_cons_succ]
        refine takeW 3 23 (.bool false) rfl rfl (by kernel_rfl) (by kernel_rfl) (by kernel_rfl) (fun _ _ _ h => h) (by kernel_rfl) (by (intro w hSw; go_simp)) (by assumption) ?_
        simp only [List.set_cons_zero, List.set_cons_succ]
        refine takeW 4 24 (.slice (some ⟨b, off, none⟩) Bs.length capB) rfl rfl (by kernel_rfl) (by kernel_rfl) (by kernel_rfl) (fun _ _ _ h => h) (by kernel_rfl) (by (intro w hSw; go_simp)) (by assumption) ?_
        simp only [List.set_cons_zero, List.set_cons_succ]
        refine takeW 5 25 (.int .i64 (k : Int)) rfl rfl (by kernel_rfl) (by kernel_rfl) (by kernel_rfl) (fun _ _ _ h => h) (by kernel_rfl) (by (intro w hSw; go_simp)) (by assumption) ?_
        simp only [List.set_cons_zero, List.set_cons_succ]
        refine takeW 6 26 (.slice (some ⟨b, off, none⟩) k capB) rfl rfl (by kernel_rfl) (by kernel_rfl) (by kernel_rfl) (fun _ _ _ h => h) (by kernel_rfl) (by (intro Y hSw; go_simp; try omega)) (by assumption) ?_
        simp only [List.set_cons_zero, List.set_cons_succ]
        refine takeW 7 27 (.pointer (some ⟨wr.heap.size, 0, none⟩)) rfl rfl (by kernel_rfl) (by kernel_rfl) (by kernel_rfl) (fun _ _ _ h => h) (by kernel_rfl) (by (intro w hSw; go_simp)) (by assumption) ?_
        simp only [List.set_cons_zero, List.set_cons_succ]
        refine takeW 8 28 (.int .i64 id) rfl rfl (by kernel_rfl) (by kernel_rfl) (by kernel_rfl) (fun _ _ _ h => h) (by kernel_rfl) (by (intro Y hSw; obtain ⟨X0, X1⟩ := hx Y hSw; go_simp)) (by assumption) ?_
        simp only [List.set_cons_zero, List.set_cons_succ]
        refine wpAnyH_all (rs := [9]) (by kernel_rfl) (by simp) ?_
        intro i hi; obtain rfl : i = 9 := by simpa using hi
        refine wpOp_step rfl (fun Kz hKz => ?_)
        rw [if_pos (by kernel_rfl)]
        go_simp
        go_at_call 76
        refine (hasIdI (some ⟨b, off, none⟩) capB Bs k id u1 (vu.below hb1 (Nat.le_refl _)) (by omega) hl).mono ?_
        rintro e u2 ⟨⟨R, rfl, hR⟩, kq⟩
        have hb2 : Below u.heap.size u u2 := hb1.trans (kq.mono hb1.size)
        clear kq
        have hRn : Hid ((∃ j, j < k ∧ (Bs.getD j Bd.nil).id = id) → R = true) := hR.2
        replace hR : Hid (R = true → ∃ j, j < k ∧ (Bs.getD j Bd.nil).id = id) := hR.1
        refine hKz _ _ ⟨hb2, ?_⟩
        clear hKz Kz hi
        refine takeW 10 30 (.bool R) rfl rfl (by kernel_rfl) (by kernel_rfl) (by kernel_rfl) (fun _ _ _ h => h) (by kernel_rfl) (by (intro w hSw; go_simp)) (by assumption) ?_
        simp only [List.set_cons_zero, List.set_cons_succ]
        refine wpAnyH_done (by kernel_rfl) ?_ _
        have hRt := hR
        rcases Bool.eq_false_or_eq_true R with eR | eR
        · rw [eR]
          replace eR : Hid _ := eR
          go_wp2
          go_ret
          refine ⟨YN.no (fun h => ?_), bu.trans (hb2.mono bu.size)⟩
          obtain ⟨j, hj, ej⟩ := hR.out eR.out
          refine absurd ?_ ((hQ.out.1 h).2.2 k j hlt hj)
          rw [hg.out, bd_get]
          exact ej
        · rw [eR]
          replace eR : Hid _ := eR
          go_wp2
          go_roundw
          case rel =>
            refine ⟨k + 1, by omega, by go_num, ⟨fun i hi => ?_, fun i j hi hj => ?_⟩, bu.trans (hb2.mono bu.size)⟩
            · by_cases e : i = k
              · rw [e, hg.out]; exact hok.out
              · exact hF.out.1 i (by omega)
            · by_cases e : i = k
              · subst e
                rw [hg.out, bd_get]
                intro q
                have := hRn.out ⟨j, hj, q⟩
                exact absurd (eR.out.symm.trans this) (by decide)
              · exact hF.out.2 i j (by omega) hj
          case measure => simp [intOf]; omega
      · have hok : Hid (bOk id L1 = false) := by unfold Hid; simpa using hok
        go_upto_region 6 with fail
        rw [← hu]
        clear hu
        refine wp_region_held (S := fun Y => Below u.heap.size u Y) (by kernel_rfl) ?_
        change wpAnyH _ _ _ _ _ _ _ _ (World.drew _)
        have hb0 : Below u.heap.size u u.drew := (Below.refl _ _).drew
        obtain ⟨u0, hy0⟩ : ∃ y_, y_ = u.drew := ⟨_, rfl⟩
        rw [← hy0] at hb0 ⊢
        clear hy0
        refine takeW 0 20 (.agg #[.int .i64 id, .slice a1 L1.length c1]) rfl rfl (by kernel_rfl) (by kernel_rfl) (by kernel_rfl) (fun _ _ _ h => h) (by kernel_rfl) (by (intro Y hSw; obtain ⟨X0, X1⟩ := hx Y hSw; go_simp)) (by assumption) ?_
        simp only [List.set_cons_zero, List.set_cons_succ]
        refine wpAnyH_all (rs := [1]) (by kernel_rfl) (by simp) ?_
        intro i hi; obtain rfl : i = 1 := by simpa using hi
        refine wpOp_step rfl (fun Kz hKz => ?_)
        rw [if_pos (by kernel_rfl)]
        go_simp
        go_at_call 72
        refine (bOkI id a1 c1 L1 u0 (hn u0 hb0) hlk).mono ?_
        rintro e u1 ⟨rfl, kq⟩
        have hb1 : Below u.heap.size u u1 := hb0.trans (kq.mono hb0.size)
        clear kq
        rw [hok.out]
        refine hKz _ _ ⟨hb1, ?_⟩
        clear hKz Kz hi
        refine takeW 2 22 (.bool true) rfl rfl (by kernel_rfl) (by kernel_rfl) (by kernel_rfl) (fun _ _ _ h => h) (by kernel_rfl) (by (intro w hSw; go_simp)) (by assumption) ?_
        simp only [List.set_cons_zero, List.set_cons_succ]
        refine takeW 3 23 (.bool true) rfl rfl (by kernel_rfl) (by kernel_rfl) (by kernel_rfl) (fun _ _ _ h => h) (by kernel_rfl) (by (intro w hSw; go_simp)) (by assumption) ?_
        simp only [List.set_cons_zero, List.set_cons_succ]
        refine takeS 4 24 rfl rfl (by kernel_rfl) (by kernel_rfl) (by kernel_rfl) (fun _ _ _ h => h) (by kernel_rfl) (by assumption) ?_
        simp only [List.set_cons_zero, List.set_cons_succ]
        refine takeS 5 25 rfl rfl (by kernel_rfl) (by kernel_rfl) (by kernel_rfl) (fun _ _ _ h => h) (by kernel_rfl) (by assumption) ?_
        simp only [List.set_cons_zero, List.set_cons_succ]
        refine takeS 6 26 rfl rfl (by kernel_rfl) (by kernel_rfl) (by kernel_rfl) (fun _ _ _ h => h) (by kernel_rfl) (by assumption) ?_
        simp only [List.set_cons_zero, List.set_cons_succ]
        refine takeS 7 27 rfl rfl (by kernel_rfl) (by kernel_rfl) (by kernel_rfl) (fun _ _ _ h => h) (by kernel_rfl) (by assumption) ?_
        simp only [List.set_cons_zero, List.set_cons_succ]
        refine takeS 8 28 rfl rfl (by kernel_rfl) (by kernel_rfl) (by kernel_rfl) (fun _ _ _ h => h) (by kernel_rfl) (by assumption) ?_
        simp only [List.set_cons_zero, List.set_cons_succ]
        refine takeS 9 29 rfl rfl (by kernel_rfl) (by kernel_rfl) (by kernel_rfl) (fun _ _ _ h => h) (by kernel_rfl) (by assumption) ?_
        simp only [List.set_cons_zero, List.set_cons_succ]
        refine takeW 10 30 (.bool true) rfl rfl (by kernel_rfl) (by kernel_rfl) (by kernel_rfl) (fun _ _ _ h => h) (by kernel_rfl) (by (intro w hSw; go_simp)) (by assumption) ?_
        simp only [List.set_cons_zero, List.set_cons_succ]
        refine wpAnyH_done (by kernel_rfl) ?_ _
        go_wp2
        go_ret
        refine ⟨YN.no (fun h => ?_), bu.trans (hb1.mono bu.size)⟩
        have := (hQ.out.1 h).2.1 k hlt
        rw [hg.out] at this
        exact absurd (hok.out.symm.trans this) (by decide)
    · obtain rfl : k = Bs.length := by omega
      go_wp2
      go_ret
      exact ⟨YN.yes (hQ.out.2 ⟨⟨h1, h2⟩, hF.out⟩), hb⟩

end Go.Proofs.Ytdfjfodfnildiaa
