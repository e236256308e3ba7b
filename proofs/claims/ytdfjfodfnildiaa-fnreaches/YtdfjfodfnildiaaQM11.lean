/- impl.bridgesFit, walked. spec.Own, spec.Hops, walked. -/
import Derived.Test.YtdfjfodfnildiaaRows
import Derived.WalkKit
import Derived.ProofKit
import Derived.OpenShut
import Derived.ShutString
import Derived.ChangeOld
import Derived.Below
import Derived.Deep.QuietTactic
import Derived.BigQuiet
import Derived.WalkSmall
import Derived.Laws.OwnMore
import Derived.WalkSpells
import Derived.WalkLawsBesides
import Derived.Deep.Cut
import Derived.Laws.StructEq
import Derived.Test.YtdfjfodfnildiaaQM9
import Derived.Test.YtdfjfodfnildiaaQKBr5s
import Derived.Test.YtdfjfodfnildiaaQM7
namespace Go.Proofs.Ytdfjfodfnildiaa
open Go.ChangeShapes Go.WideShapes Go.ChangeAt Go.RowKit
open Go.ChangeMaps (open_string shut_string)
set_option linter.unusedVariables false
set_option maxRecDepth 100000

def FitTo (B : List Bg) (n : Nat) : Prop := (∀ i, i < n → bOk (B.getD i Bg.nil).id (B.getD i Bg.nil).L = true) ∧ Unlike B n
set_option maxHeartbeats 8000000 in
theorem bFitI (adB : Option Addr) (capB : Nat) (Bs : List Bd) (w : World) (vb : NV w adB Bs) (hl : Bs.length ≤ 1048576) (hls : ∀ i, i < Bs.length → (Bs.getD i Bd.nil).L.length ≤ 1048576) (hcap : Bs.length ≤ capB) :
    Calls Try.prog 51 #[.slice adB Bs.length capB] w fun e w' => YN e ((1 ≤ (dB Bs).length ∧ (dB Bs).length ≤ 5) ∧ FitTo (dB Bs) (dB Bs).length) ∧ Below w.heap.size w w' := by
  rw [dB_len]
  suffices H : ∀ Q : Prop, Hid (Q ↔ (1 ≤ Bs.length ∧ Bs.length ≤ 5) ∧ FitTo (dB Bs) Bs.length) → Calls Try.prog 51 #[.slice adB Bs.length capB] w fun e w' => YN e Q ∧ Below w.heap.size w w' from H _ Iff.rfl
  intro Q hQ
  by_cases h1 : 1 ≤ Bs.length
  rotate_left
  · have d1 : decide ((Bs.length : Int) < 1) = true := decide_eq_true (by omega)
    have d2 : Hid (Bs.length = 0) := by unfold Hid; omega
    go_enter Try.func51, Try.ntmps51
    go_wp2
    go_ret
    exact ⟨YN.no (fun h => absurd (hQ.out.1 h).1.1 (by omega)), Below.refl _ _⟩
  have d1 : decide ((Bs.length : Int) < 1) = false := decide_eq_false (by omega)
  by_cases h2 : Bs.length ≤ 5
  rotate_left
  · have d2 : decide ((5 : Int) < (Bs.length : Int)) = true := decide_eq_true (by omega)
    have e1 : ¬ ((Bs.length : Int) < 1) := by omega
    have e2 : (5 : Int) < (Bs.length : Int) := by omega
    go_enter Try.func51, Try.ntmps51
    go_wp2
    go_ret
    exact ⟨YN.no (fun h => absurd (hQ.out.1 h).1.2 h2), Below.refl _ _⟩
  have d2 : decide ((5 : Int) < (Bs.length : Int)) = false := decide_eq_false (by omega)
  have e1 : ¬ ((Bs.length : Int) < 1) := by omega
  have e2 : ¬ ((5 : Int) < (Bs.length : Int)) := by omega
  go_enter Try.func51, Try.ntmps51
  go_wp2
  clear d1 d2 e1 e2
  go_loopw [15] (fun i wr => ∃ k : Nat, k ≤ Bs.length ∧ i = .int .i64 k ∧ Hid (FitTo (dB Bs) k) ∧ Below w.heap.size w wr) (fun i _ => Bs.length - (intOf i).toNat)
  case atStart => exact ⟨0, Nat.zero_le _, rfl, ⟨fun i hi => by omega, fun i k hi => by omega⟩, Below.refl _ _⟩
  case round =>
    obtain ⟨k, hk, rfl, hF, hb⟩ := hrel
    by_cases hlt : k < Bs.length
    · obtain ⟨b, off, rfl⟩ := vb.ad_ (by omega)
      have hck := (vb.below hb (Nat.le_refl _)).at_ hlt
      have hlk := hls k hlt
      have hg : Hid ((dB Bs).getD k Bg.nil = (Bs.getD k Bd.nil).d) := bd_get Bs k
      have nest := vb.nest k hlt
      obtain ⟨⟨id, a1, c1, L1⟩, hh⟩ : ∃ q, Bs.getD k Bd.nil = q := ⟨_, rfl⟩
      rw [hh] at hck hlk hg nest
      dsimp only at hlk nest
      obtain ⟨x1, x2⟩ := hck
      dsimp only at x1 x2
      obtain ⟨u, hu⟩ : ∃ u, u = wr.alloc (Obj.cells #[.int .i64 id, .slice a1 L1.length c1] 71) := ⟨_, rfl⟩
      have bu : Below w.heap.size w u := by rw [hu]; exact hb.alloc hb.size _
      have vu := vb.below bu (Nat.le_refl _)
      have hn : ∀ Y, Below u.heap.size u Y → FView ptEnc Y a1 L1 := fun Y hY => nest.below (bu.trans (hY.mono bu.size)) (nest.lt ptEnc_len (by omega))
      have hx0 : BrAt u wr.heap.size id (.slice a1 L1.length c1) := by rw [hu]; exact BrAt.new wr _ _ _
      have hx : ∀ Y, Below u.heap.size u Y → BrAt Y wr.heap.size id (.slice a1 L1.length c1) := fun Y hY => hx0.below hY hx0.lt
      have hxl := hx0.lt
      clear nest hx0 hh
      by_cases hok : bOk id L1 = true
      · replace hok : Hid _ := hok
        go_upto_region 6 with fail
        rw [← hu]
        clear hu
        refine wp_region_held (S := fun Y => Below u.heap.size u Y) (by kernel_rfl) ?_
        change wpAnyH _ _ _ _ _ _ _ _ (World.drew _)
        have hb0 : Below u.heap.size u u.drew := (Below.refl _ _).drew
        obtain ⟨u0, hy0⟩ : ∃ y_, y_ = u.drew := ⟨_, rfl⟩
        rw [← hy0] at hb0 ⊢
        clear hy0
        refine takeW 0 20 (.agg #[.int .i64 id, .slice a1 L1.length c1]) rfl rfl (by kernel_rfl) (by kernel_rfl) (by kernel_rfl) (fun _ _ _ h => h) (by kernel_rfl) (by (intro Y hSw; obtain ⟨X0, X1⟩ := hx Y hSw; go_simp)) (by assumption) ?_
        simp only [List.set_cons_zero, List.set_cons_succ]
        refine wpAnyH_all (rs := [1]) (by kernel_rfl) (by simp) ?_
        intro i hi; obtain rfl : i = 1 := by simpa using hi
        refine wpOp_step rfl (fun Kz hKz => ?_)
        rw [if_pos (by kernel_rfl)]
        go_simp
        go_at_call 72
        refine (bOkI id a1 c1 L1 u0 (hn u0 hb0) hlk).mono ?_
        rintro e u1 ⟨rfl, kq⟩
        have hb1 : Below u.heap.size u u1 := hb0.trans (kq.mono hb0.size)
        clear kq
        rw [hok.out]
        refine hKz _ _ ⟨hb1, ?_⟩
        clear hKz Kz hi
        refine takeW 2 22 (.bool false) rfl rfl (by kernel_rfl) (by kernel_rfl) (by kernel_rfl) (fun _ _ _ h => h) (by kernel_rfl) (by (intro w hSw; go_simp)) (by assumption) ?_
        simp only [List.set_cons_zero, List.set_cons_succ]
        refine takeW 3 23 (.bool false) rfl rfl (by kernel_rfl) (by kernel_rfl) (by kernel_rfl) (fun _ _ _ h => h) (by kernel_rfl) (by (intro w hSw; go_simp)) (by assumption) ?_
        simp only [List.set_cons_zero, List.set_cons_succ]
        refine takeW 4 24 (.slice (some ⟨b, off, none⟩) Bs.length capB) rfl rfl (by kernel_rfl) (by kernel_rfl) (by kernel_rfl) (fun _ _ _ h => h) (by kernel_rfl) (by (intro w hSw; go_simp)) (by assumption) ?_
        simp only [List.set_cons_zero, List.set_cons_succ]
        refine takeW 5 25 (.int .i64 (k : Int)) rfl rfl (by kernel_rfl) (by kernel_rfl) (by kernel_rfl) (fun _ _ _ h => h) (by kernel_rfl) (by (intro w hSw; go_simp)) (by assumption) ?_
        simp only [List.set_cons_zero, List.set_cons_succ]
        refine takeW 6 26 (.slice (some ⟨b, off, none⟩) k capB) rfl rfl (by kernel_rfl) (by kernel_rfl) (by kernel_rfl) (fun _ _ _ h => h) (by kernel_rfl) (by (intro Y hSw; go_simp; try omega)) (by assumption) ?_
        simp only [List.set_cons_zero, List.set_cons_succ]
        refine takeW 7 27 (.pointer (some ⟨wr.heap.size, 0, none⟩)) rfl rfl (by kernel_rfl) (by kernel_rfl) (by kernel_rfl) (fun _ _ _ h => h) (by kernel_rfl) (by (intro w hSw; go_simp)) (by assumption) ?_
        simp only [List.set_cons_zero, List.set_cons_succ]
        refine takeW 8 28 (.int .i64 id) rfl rfl (by kernel_rfl) (by kernel_rfl) (by kernel_rfl) (fun _ _ _ h => h) (by kernel_rfl) (by (intro Y hSw; obtain ⟨X0, X1⟩ := hx Y hSw; go_simp)) (by assumption) ?_
        simp only [List.set_cons_zero, List.set_cons_succ]
        refine wpAnyH_all (rs := [9]) (by kernel_rfl) (by simp) ?_
        intro i hi; obtain rfl : i = 9 := by simpa using hi
        refine wpOp_step rfl (fun Kz hKz => ?_)
        rw [if_pos (by kernel_rfl)]
        go_simp
        go_at_call 76
        refine (hasIdI (some ⟨b, off, none⟩) capB Bs k id u1 (vu.below hb1 (Nat.le_refl _)) (by omega) hl).mono ?_
        rintro e u2 ⟨⟨R, rfl, hR⟩, kq⟩
        have hb2 : Below u.heap.size u u2 := hb1.trans (kq.mono hb1.size)
        clear kq
        have hRn : Hid ((∃ j, j < k ∧ (Bs.getD j Bd.nil).id = id) → R = true) := hR.2
        replace hR : Hid (R = true → ∃ j, j < k ∧ (Bs.getD j Bd.nil).id = id) := hR.1
        refine hKz _ _ ⟨hb2, ?_⟩
        clear hKz Kz hi
        refine takeW 10 30 (.bool R) rfl rfl (by kernel_rfl) (by kernel_rfl) (by kernel_rfl) (fun _ _ _ h => h) (by kernel_rfl) (by (intro w hSw; go_simp)) (by assumption) ?_
        simp only [List.set_cons_zero, List.set_cons_succ]
        refine wpAnyH_done (by kernel_rfl) ?_ _
        have hRt := hR
        rcases Bool.eq_false_or_eq_true R with eR | eR
        · rw [eR]
          replace eR : Hid _ := eR
          go_wp2
          go_ret
          refine ⟨YN.no (fun h => ?_), bu.trans (hb2.mono bu.size)⟩
          obtain ⟨j, hj, ej⟩ := hR.out eR.out
          refine absurd ?_ ((hQ.out.1 h).2.2 k j hlt hj)
          rw [hg.out, bd_get]
          exact ej
        · rw [eR]
          replace eR : Hid _ := eR
          go_wp2
          go_roundw
          case rel =>
            refine ⟨k + 1, by omega, by go_num, ⟨fun i hi => ?_, fun i j hi hj => ?_⟩, bu.trans (hb2.mono bu.size)⟩
            · by_cases e : i = k
              · rw [e, hg.out]; exact hok.out
              · exact hF.out.1 i (by omega)
            · by_cases e : i = k
              · subst e
                rw [hg.out, bd_get]
                intro q
                have := hRn.out ⟨j, hj, q⟩
                exact absurd (eR.out.symm.trans this) (by decide)
              · exact hF.out.2 i j (by omega) hj
          case measure => simp [intOf]; omega
      · have hok : Hid (bOk id L1 = false) := by unfold Hid; simpa using hok
        go_upto_region 6 with fail
        rw [← hu]
        clear hu
        refine wp_region_held (S := fun Y => Below u.heap.size u Y) (by kernel_rfl) ?_
        change wpAnyH _ _ _ _ _ _ _ _ (World.drew _)
        have hb0 : Below u.heap.size u u.drew := (Below.refl _ _).drew
        obtain ⟨u0, hy0⟩ : ∃ y_, y_ = u.drew := ⟨_, rfl⟩
        rw [← hy0] at hb0 ⊢
        clear hy0
        refine takeW 0 20 (.agg #[.int .i64 id, .slice a1 L1.length c1]) rfl rfl (by kernel_rfl) (by kernel_rfl) (by kernel_rfl) (fun _ _ _ h => h) (by kernel_rfl) (by (intro Y hSw; obtain ⟨X0, X1⟩ := hx Y hSw; go_simp)) (by assumption) ?_
        simp only [List.set_cons_zero, List.set_cons_succ]
        refine wpAnyH_all (rs := [1]) (by kernel_rfl) (by simp) ?_
        intro i hi; obtain rfl : i = 1 := by simpa using hi
        refine wpOp_step rfl (fun Kz hKz => ?_)
        rw [if_pos (by kernel_rfl)]
        go_simp
        go_at_call 72
        refine (bOkI id a1 c1 L1 u0 (hn u0 hb0) hlk).mono ?_
        rintro e u1 ⟨rfl, kq⟩
        have hb1 : Below u.heap.size u u1 := hb0.trans (kq.mono hb0.size)
        clear kq
        rw [hok.out]
        refine hKz _ _ ⟨hb1, ?_⟩
        clear hKz Kz hi
        refine takeW 2 22 (.bool true) rfl rfl (by kernel_rfl) (by kernel_rfl) (by kernel_rfl) (fun _ _ _ h => h) (by kernel_rfl) (by (intro w hSw; go_simp)) (by assumption) ?_
        simp only [List.set_cons_zero, List.set_cons_succ]
        refine takeW 3 23 (.bool true) rfl rfl (by kernel_rfl) (by kernel_rfl) (by kernel_rfl) (fun _ _ _ h => h) (by kernel_rfl) (by (intro w hSw; go_simp)) (by assumption) ?_
        simp only [List.set_cons_zero, List.set_cons_succ]
        refine takeS 4 24 rfl rfl (by kernel_rfl) (by kernel_rfl) (by kernel_rfl) (fun _ _ _ h => h) (by kernel_rfl) (by assumption) ?_
        simp only [List.set_cons_zero, List.set_cons_succ]
        refine takeS 5 25 rfl rfl (by kernel_rfl) (by kernel_rfl) (by kernel_rfl) (fun _ _ _ h => h) (by kernel_rfl) (by assumption) ?_
        simp only [List.set_cons_zero, List.set_cons_succ]
        refine takeS 6 26 rfl rfl (by kernel_rfl) (by kernel_rfl) (by kernel_rfl) (fun _ _ _ h => h) (by kernel_rfl) (by assumption) ?_
        simp only [List.set_cons_zero, List.set_cons_succ]
        refine takeS 7 27 rfl rfl (by kernel_rfl) (by kernel_rfl) (by kernel_rfl) (fun _ _ _ h => h) (by kernel_rfl) (by assumption) ?_
        simp only [List.set_cons_zero, List.set_cons_succ]
        refine takeS 8 28 rfl rfl (by kernel_rfl) (by kernel_rfl) (by kernel_rfl) (fun _ _ _ h => h) (by kernel_rfl) (by assumption) ?_
        simp only [List.set_cons_zero, List.set_cons_succ]
        refine takeS 9 29 rfl rfl (by kernel_rfl) (by kernel_rfl) (by kernel_rfl) (fun _ _ _ h => h) (by kernel_rfl) (by assumption) ?_
        simp only [List.set_cons_zero, List.set_cons_succ]
        refine takeW 10 30 (.bool true) rfl rfl (by kernel_rfl) (by kernel_rfl) (by kernel_rfl) (fun _ _ _ h => h) (by kernel_rfl) (by (intro w hSw; go_simp)) (by assumption) ?_
        simp only [List.set_cons_zero, List.set_cons_succ]
        refine wpAnyH_done (by kernel_rfl) ?_ _
        go_wp2
        go_ret
        refine ⟨YN.no (fun h => ?_), bu.trans (hb1.mono bu.size)⟩
        have := (hQ.out.1 h).2.1 k hlt
        rw [hg.out] at this
        exact absurd (hok.out.symm.trans this) (by decide)
    · obtain rfl : k = Bs.length := by omega
      go_wp2
      go_ret
      exact ⟨YN.yes (hQ.out.2 ⟨⟨h1, h2⟩, hF.out⟩), hb⟩

end Go.Proofs.Ytdfjfodfnildiaa
namespace Go.Proofs.Ytdfjfodfnildiaa
open Go.ChangeShapes Go.WideShapes Go.ChangeAt Go.RowKit
open Go.ChangeMaps (open_string shut_string)
set_option linter.unusedVariables false
set_option maxRecDepth 100000

set_option maxHeartbeats 4000000 in
theorem ownS (id : Int) (ad : Option Addr) (cap : Nat) (L : List Pt) (port : Int) (w : World) (hv : FView ptEnc w ad L) (hl : L.length ≤ 1048576) :
    Calls Try.prog 112 #[.agg #[.int .i64 id, .slice ad L.length cap], .int .i64 port] w fun e w' => e = .returned (.agg #[.int .i64 (ownR id L port).1, .int .i64 (ownR id L port).2.1, .int .i64 (ownR id L port).2.2.1, .int .i64 (ownR id L port).2.2.2]) ∧ Below w.heap.size w w' := by
  have hB := hv.lt ptEnc_len (by omega)
  obtain ⟨y, hy⟩ : ∃ y, y = (w.alloc (Obj.cells #[.int .i64 id, .slice ad L.length cap] 71)).alloc (Obj.cells #[.int .i64 0, .int .i64 0, .int .i64 0, .int .i64 0] 66) := ⟨_, rfl⟩
  have B0 : Below w.heap.size w y := by rw [hy]; exact ((Below.refl _ _).alloc (Nat.le_refl _) _).alloc (by simp) _
  have A0 : BrAt y w.heap.size id (.slice ad L.length cap) := by rw [hy]; constructor <;> simp [go_sem]
  have V0 : VBox y (w.heap.size + 1) 0 0 0 0 := by rw [hy]; refine ⟨?_, fun i => ?_⟩; (refine ⟨?_, ?_, ?_, ?_⟩ <;> simp [go_sem]); simp [go_sem]
  have S0 : w.heap.size + 1 < y.heap.size := V0.lt
  have hv1 := hv.below B0 hB
  have hB1 := hv1.lt ptEnc_len (by omega)
  obtain ⟨Y, hY⟩ : ∃ Y, Y = ownR id L port := ⟨_, rfl⟩
  rw [← hY]
  replace hY : Hid _ := hY
  go_enter Try.func112, Try.ntmps112
  go_wp2_with fail
  go_at_call 66
  rw [← hy]
  clear hy hv hB
  refine (bOkS id ad cap L y hv1 hl).mono ?_
  rintro e w1 ⟨rfl, k1⟩
  have B1 : Below w.heap.size w w1 := B0.trans (k1.mono B0.size)
  have A1 := A0.below k1 (by omega)
  have V1 := V0.below k1 (by omega)
  have S1 : w.heap.size + 1 < w1.heap.size := V1.lt
  have hv2 := hv1.below k1 hB1
  have hB2 := hv2.lt ptEnc_len (by omega)
  clear A0 V0 hv1 hB1 k1 B0 S0
  cases hb : bOk id L with
  | false =>
    have hN : Hid (Y = (0, 0, 0, 0)) := by unfold Hid; rw [hY.out]; unfold ownR; rw [hb]; rfl
    clear hY
    obtain ⟨⟨t0, t1, t2, t3⟩, tf⟩ := V1
    have BZ := B1.setCell (p := ⟨w.heap.size + 1, 0, none⟩) (by show _ ≤ w.heap.size + 1; omega) (.int .i64 0)
    have BZ := BZ.setCell (p := ⟨w.heap.size + 1, 1, none⟩) (by show _ ≤ w.heap.size + 1; omega) (.int .i64 0)
    have BZ := BZ.setCell (p := ⟨w.heap.size + 1, 2, none⟩) (by show _ ≤ w.heap.size + 1; omega) (.int .i64 0)
    have BZ := BZ.setCell (p := ⟨w.heap.size + 1, 3, none⟩) (by show _ ≤ w.heap.size + 1; omega) (.int .i64 0)
    go_wp2
    refine bodyPost_ret (v := .agg #[.int .i64 0, .int .i64 0, .int .i64 0, .int .i64 0]) (by simp [results, Try.results112, go_sem, *]) rfl ⟨by rw [hN.out], BZ⟩
  | true =>
    have hlen := (bOk_all hb).2.1
    by_cases hp : 0 ≤ port ∧ port < (L.length : Int)
    rotate_left
    · have hN : Hid (Y = (0, 0, 0, 0)) := by unfold Hid; rw [hY.out]; unfold ownR; rw [hb, decide_eq_false hp]; rfl
      have dp : decide (0 ≤ port ∧ port < (L.length : Int)) = false := decide_eq_false hp
      clear hY
      obtain ⟨a0, a1⟩ := A1
      replace hp : Hid _ := hp
      have es : decide (0 ≤ port ∧ port ≤ (L.length : Int) - 1) = decide (0 ≤ port ∧ port < (L.length : Int)) := decide_eq_decide.2 (by omega)
      go_wp2_with fail
      go_at_call 43
      refine (inB port 0 ((L.length : Int) - 1) w1).mono ?_
      rintro e w2 ⟨rfl, hw2⟩
      have kp : Below w1.heap.size w1 w2 := by rw [hw2]; exact Below.refl _ _
      rw [es]
      clear es hw2
      rw [dp]
      have B2 := B1.trans (kp.mono B1.size)
      have V2 := V1.below kp S1
      clear dp
      obtain ⟨⟨t0, t1, t2, t3⟩, tf⟩ := V2
      have BZ := B2.setCell (p := ⟨w.heap.size + 1, 0, none⟩) (by show _ ≤ w.heap.size + 1; omega) (.int .i64 0)
      have BZ := BZ.setCell (p := ⟨w.heap.size + 1, 1, none⟩) (by show _ ≤ w.heap.size + 1; omega) (.int .i64 0)
      have BZ := BZ.setCell (p := ⟨w.heap.size + 1, 2, none⟩) (by show _ ≤ w.heap.size + 1; omega) (.int .i64 0)
      have BZ := BZ.setCell (p := ⟨w.heap.size + 1, 3, none⟩) (by show _ ≤ w.heap.size + 1; omega) (.int .i64 0)
      go_wp2
      refine bodyPost_ret (v := .agg #[.int .i64 0, .int .i64 0, .int .i64 0, .int .i64 0]) (by simp [results, Try.results112, go_sem, *]) rfl ⟨by rw [hN.out], BZ⟩
    have dp : decide (0 ≤ port ∧ port < (L.length : Int)) = true := decide_eq_true hp
    have hN : Hid (Y = match rootO id L with
      | none => (id, 0, id, port)
      | some k => ((L.getD k Pt.nil).r, (L.getD k Pt.nil).c + 1, id, port)) := by unfold Hid; rw [hY.out]; unfold ownR; rw [hb, dp]; rfl
    clear hY
    replace hp : Hid _ := hp
    obtain ⟨a0, a1⟩ := A1
    have es : decide (0 ≤ port ∧ port ≤ (L.length : Int) - 1) = decide (0 ≤ port ∧ port < (L.length : Int)) := decide_eq_decide.2 (by omega)
    go_wp2_with fail
    go_at_call 43
    refine (inB port 0 ((L.length : Int) - 1) w1).mono ?_
    rintro e w2 ⟨rfl, hw2⟩
    have kp : Below w1.heap.size w1 w2 := by rw [hw2]; exact Below.refl _ _
    rw [es]
    clear es hw2
    rw [dp]
    have B2 := B1.trans (kp.mono B1.size)
    have A2 := BrAt.below ⟨a0, a1⟩ kp (by omega)
    have V2 := V1.below kp S1
    have S2 : w.heap.size + 1 < w2.heap.size := V2.lt
    have hv3 := hv2.below kp hB2
    have hB3 := hv3.lt ptEnc_len (by omega)
    clear dp a0 a1 kp V1 hv2 hB2 B1
    obtain ⟨a0, a1⟩ := A2
    go_wp2_with fail
    go_at_call 49
    refine (rootPS id ad cap L w2 hv3 hl).mono ?_
    rintro e w3 ⟨rfl, k3⟩
    have B3 := B2.trans (k3.mono B2.size)
    have A3 := BrAt.below ⟨a0, a1⟩ k3 (by omega)
    have V3 := V2.below k3 S2
    have S3 : w.heap.size + 1 < w3.heap.size := V3.lt
    have hv4 := hv3.below k3 hB3
    clear a0 a1 k3 V2 hv3 hB3 B2
    obtain ⟨a0, a1⟩ := A3
    obtain ⟨⟨t0, t1, t2, t3⟩, tf⟩ := V3
    cases hr : rootO id L with
    | none =>
      have hN2 : Hid (Y = (id, 0, id, port)) := by unfold Hid; rw [hN.out, hr]
      clear hN
      have BZ := B3.setCell (p := ⟨w.heap.size + 1, 0, none⟩) (by show _ ≤ w.heap.size + 1; omega) (.int .i64 id)
      have BZ := BZ.setCell (p := ⟨w.heap.size + 1, 1, none⟩) (by show _ ≤ w.heap.size + 1; omega) (.int .i64 0)
      have BZ := BZ.setCell (p := ⟨w.heap.size + 1, 2, none⟩) (by show _ ≤ w.heap.size + 1; omega) (.int .i64 id)
      have BZ := BZ.setCell (p := ⟨w.heap.size + 1, 3, none⟩) (by show _ ≤ w.heap.size + 1; omega) (.int .i64 port)
      simp only [oI, Option.isSome]
      go_wp2
      refine bodyPost_ret (v := .agg #[.int .i64 id, .int .i64 0, .int .i64 id, .int .i64 port]) (by simp [results, Try.results112, go_sem, *]) rfl ⟨by rw [hN2.out], BZ⟩
    | some k =>
      obtain ⟨_, hk, hcd⟩ := rootO_some hr
      obtain ⟨g, hg⟩ : ∃ g, L.getD k Pt.nil = g := ⟨_, rfl⟩
      have hN2 : Hid (Y = (g.r, g.c + 1, id, port)) := by unfold Hid; rw [hN.out, hr, ← hg]
      have hc20 : g.c < 20 := by
        rw [hg] at hcd
        simp only [cand, Bool.and_eq_true, decide_eq_true_eq] at hcd
        exact hcd.2.2.2.1
      have hc0 : 0 ≤ g.c := by
        rw [hg] at hcd
        simp only [cand, Bool.and_eq_true, decide_eq_true_eq] at hcd
        have h1 := (bOk_all hb).2.2 k
        rw [hg] at h1
        have h2 := (pOk_has h1 hcd.1).2.1
        simp only [vOk, decide_eq_true_eq] at h2
        omega
      obtain ⟨bk, off, rfl, _⟩ := hv4 (by omega)
      obtain ⟨c0, c1, c2, c3, c4, c5, c6, c7, c8, c9, c10⟩ : PtAtO w3 bk (off + k * 11) g := by rw [← hg]; exact ptAtO_of (hv4.at_ ptEnc_len Pt.nil hk)
      clear hN hg hcd hr hv4
      obtain ⟨y4, hy4⟩ : ∃ y_, y_ = w3.alloc (Obj.cells #[.int .i64 g.r, .int .i64 g.c, .int .i64 g.b, .int .i64 g.p] 66) := ⟨_, rfl⟩
      have kn : Below w3.heap.size w3 y4 := by rw [hy4]; exact below_new _
      have G4 : VecAt y4 w3.heap.size g.r g.c g.b g.p := by rw [hy4]; exact vecAt_box w3 _ _ _ _ _
      have A4 := BrAt.below ⟨a0, a1⟩ kn (by omega)
      have V4 := VBox.below ⟨⟨t0, t1, t2, t3⟩, tf⟩ kn (by omega)
      have B4 := B3.trans (kn.mono B3.size)
      simp only [oI, Option.isSome]
      go_upto_region 7 with fail
      rw [← hy4]
      clear hy4 a0 a1 t0 t1 t2 t3 tf kn c0 c1 c2 c3 c4 c5 c6 c7 c8 c9 c10
      generalize w3.heap.size = Q at S3 G4 ⊢
      obtain ⟨a0, a1⟩ := A4
      obtain ⟨⟨t0, t1, t2, t3⟩, tf⟩ := V4
      obtain ⟨g0, g1, g2, g3⟩ := G4
      have BZ := B4.setCell (p := ⟨w.heap.size + 1, 0, none⟩) (by show _ ≤ w.heap.size + 1; omega) (.int .i64 g.r)
      have BZ := BZ.setCell (p := ⟨w.heap.size + 1, 1, none⟩) (by show _ ≤ w.heap.size + 1; omega) (.int .i64 (g.c + 1))
      have BZ := BZ.setCell (p := ⟨w.heap.size + 1, 2, none⟩) (by show _ ≤ w.heap.size + 1; omega) (.int .i64 id)
      have BZ := BZ.setCell (p := ⟨w.heap.size + 1, 3, none⟩) (by show _ ≤ w.heap.size + 1; omega) (.int .i64 port)
      go_wp2
      refine bodyPost_ret (v := .agg #[.int .i64 g.r, .int .i64 (g.c + 1), .int .i64 id, .int .i64 port]) (by simp [results, Try.results112, go_sem, *]) rfl ⟨by rw [hN2.out], BZ⟩
set_option maxHeartbeats 2000000 in
theorem hopsS (id : Int) (ad : Option Addr) (cap : Nat) (L : List Pt) (w : World) (hv : FView ptEnc w ad L) (hl : L.length ≤ 1048576) :
    Calls Try.prog 113 #[.agg #[.int .i64 id, .slice ad L.length cap]] w fun e w' => e = .returned (.int .i64 (hopsR id L)) ∧ Below w.heap.size w w' := by
  have hB := hv.lt ptEnc_len (by omega)
  obtain ⟨y, hy⟩ : ∃ y, y = w.alloc (Obj.cells #[.int .i64 id, .slice ad L.length cap] 71) := ⟨_, rfl⟩
  have B0 : Below w.heap.size w y := by rw [hy]; exact below_new _
  have A0 : BrAt y w.heap.size id (.slice ad L.length cap) := by rw [hy]; exact BrAt.new w _ _ _
  have S0 := A0.lt
  have hv1 := hv.below B0 hB
  have hB1 := hv1.lt ptEnc_len (by omega)
  obtain ⟨Y, hY⟩ : ∃ Y, Y = hopsR id L := ⟨_, rfl⟩
  rw [← hY]
  replace hY : Hid _ := hY
  go_enter Try.func113, Try.ntmps113
  go_wp2_with fail
  go_at_call 49
  rw [← hy]
  clear hy hv hB
  refine (rootPS id ad cap L y hv1 hl).mono ?_
  rintro e w3 ⟨rfl, k3⟩
  have B3 := B0.trans (k3.mono B0.size)
  obtain ⟨a0, a1⟩ := A0.below k3 (by omega)
  have hv4 := hv1.below k3 hB1
  clear k3 hv1 hB1 A0
  cases hr : rootO id L with
  | none =>
    have hN2 : Hid (Y = 0) := by unfold Hid; rw [hY.out]; unfold hopsR; rw [hr]
    simp only [oI, Option.isSome]
    go_wp2
    go_ret
    exact ⟨by rw [hN2.out]; rfl, B3⟩
  | some k =>
    obtain ⟨hb, hk, hcd⟩ := rootO_some hr
    obtain ⟨g, hg⟩ : ∃ g, L.getD k Pt.nil = g := ⟨_, rfl⟩
    have hN2 : Hid (Y = g.h + 1) := by unfold Hid; rw [hY.out]; unfold hopsR; rw [hr, ← hg]
    have hlen := (bOk_all hb).2.1
    have hh8 : 0 ≤ g.h ∧ g.h < 8 := by
      rw [hg] at hcd
      simp only [cand, Bool.and_eq_true, decide_eq_true_eq] at hcd
      have h1 := (bOk_all hb).2.2 k
      rw [hg] at h1
      exact ⟨(pOk_has h1 hcd.1).2.2.1, hcd.2.2.2.2⟩
    obtain ⟨h0, h8⟩ := hh8
    obtain ⟨bk, off, rfl, _⟩ := hv4 (by omega)
    obtain ⟨c0, c1, c2, c3, c4, c5, c6, c7, c8, c9, c10⟩ : PtAtO w3 bk (off + k * 11) g := by rw [← hg]; exact ptAtO_of (hv4.at_ ptEnc_len Pt.nil hk)
    clear hY hg hcd hr hv4 hb
    simp only [oI, Option.isSome]
    go_wp2
    go_ret
    exact ⟨by rw [hN2.out]; rfl, B3⟩

end Go.Proofs.Ytdfjfodfnildiaa
