/- For every code the call of FnReaches returns true: who can be come to in a drawn net is told from both sides, as the specification tells it, and by what passes no more than by all. No condition. -/
import Derived.Test.YtdfjfodfnildiaaRows
import Derived.Test.YtdfjfodfnildiaaQKDr4
import Derived.Test.YtdfjfodfnildiaaQM16
import Derived.Test.YtdfjfodfnildiaaQM17
import Derived.Test.YtdfjfodfnildiaaQM18
import Derived.Test.YtdfjfodfnildiaaQM4
import Derived.Deep.Cut
import Derived.WalkKit
import Derived.Below
import Derived.ChangeOld
import Derived.WalkSmall
import Derived.ProofKit
import Derived.OpenShut
import Derived.ShutString
import Derived.BigQuiet
namespace Go.Proofs.Ytdfjfodfnildiaa.fnReaches
open Go.ChangeShapes Go.WideShapes Go.ChangeAt Go.RowKit
set_option maxRecDepth 100000
set_option linter.unusedVariables false

theorem own : ownKnob Try.prog.godebug = none := by kernel_rfl
theorem laidOut : laidOutB Try.prog = true := by kernel_rfl

set_option maxHeartbeats 32000000 in
set_option maxRecDepth 100000 in
theorem walk (ad0 : Option Addr) (len0 cap0 : Nat) (f0 : Nat → Int) (w : World) (I0 : CodeIn w ad0 len0 f0) :
    Calls Try.prog 3 #[.slice ad0 len0 cap0] w fun e w' => e = .returned (.bool true) ∧ Below w.heap.size w w' := by
  obtain ⟨lm, hv, hB, hf⟩ := I0
  by_cases hbig : 1048576 < len0
  · have hbig' : (1048576 : Int) < (len0 : Int) := by omega
    go_enter Try.func3, Try.ntmps3
    go_wp2_with fail
    go_at_call 7
    refine (bigYes ad0 len0 cap0 w hbig').mono ?_
    rintro e w1 ⟨rfl, h1⟩
    rw [h1]
    clear h1 w1 hbig
    go_wp2
    go_ret
    exact ⟨rfl, Below.refl _ _⟩
  have hC : Code0 w ad0 len0 f0 := ⟨hv, hB, by omega, hf⟩
  go_enter Try.func3, Try.ntmps3
  go_wp2_with fail
  go_at_call 7
  refine (bigNo ad0 len0 cap0 w (by omega)).mono ?_
  rintro e w1 ⟨rfl, h1⟩
  rw [h1]
  clear h1 w1 hbig hv hB hf lm
  have BW : Below w.heap.size w w := Below.refl _ _
  have sw := BW.size
  go_wp2_with fail
  go_at_call 8
  refine (drawRe ad0 len0 cap0 f0 w (hC.later BW (Nat.le_refl _))).mono ?_
  rintro e wd1 ⟨aB1, cB1, C1, aL1, cL1, K1, ⟨m, al, rfl⟩, sm1, O1, kq⟩
  have swd1 := kq.size
  have BW := BW.trans (kq.mono BW.size)
  clear kq
  have sa1 := sm1.1
  have sb1 := sm1.2.1
  have sc1 := sm1.2.2.1
  have V1 : NN wd1 aB1 C1 aL1 K1 := O1.nn (by omega) (fun i hi => Nat.le_trans (sm1.2.2.2 i hi) (by decide)) (by omega)
  have hc1 : C1.length ≤ cB1 := by
    rcases O1.own.row.2 with ⟨_, q⟩ | ⟨g, c, cur, q, _, _, hc, _⟩
    · omega
    · simp only [Value.slice.injEq] at q
      obtain ⟨_, _, rfl⟩ := q
      exact hc
  replace sm1 : Hid _ := sm1
  clear O1
  obtain ⟨wd2, hwd2⟩ : ∃ y_, y_ = wd1.alloc (Obj.cells #[.slice aB1 C1.length cB1, .slice aL1 K1.length cL1] 27) := ⟨_, rfl⟩
  have A1 : NeAt wd2 wd1.heap.size (.slice aB1 C1.length cB1) (.slice aL1 K1.length cL1) := by rw [hwd2]; exact NeAt.new wd1 _
  have kq : Below wd1.heap.size wd1 wd2 := by rw [hwd2]; exact below_new _
  have lA1 := A1.lt
  have swd2 := kq.size
  have V1 := V1.later kq
  have BW := BW.trans (kq.mono BW.size)
  clear kq
  go_upto_region 4 with fail
  rw [← hwd2]
  clear hwd2
  have cc := A1
  obtain ⟨m0_0, m0_1⟩ := cc
  go_wp2_with fail
  go_at_call 9
  clear m0_0 m0_1
  refine (reachI aB1 cB1 C1 aL1 cL1 K1 m al wd2 V1 hc1).mono ?_
  rintro e wd3 ⟨La, aa, ca, ha, rfl, Oa, kq⟩
  have swd3 := kq.size
  have V1 := V1.later kq
  have A1 := A1.below kq A1.lt
  have BW := BW.trans (kq.mono BW.size)
  clear kq
  have hLs : La.length ≤ 1048576 := reach_small ha
  replace ha : Hid _ := ha
  go_wp2_with fail
  go_at_call 10
  refine (drawPa ad0 len0 cap0 f0 wd3 (hC.later BW (Nat.le_refl _))).mono ?_
  rintro e wd4 ⟨aB2, cB2, C2, aL2, cL2, K2, ⟨kk, rfl⟩, sm2, O2, kq⟩
  have swd4 := kq.size
  have V1 := V1.later kq
  have A1 := A1.below kq A1.lt
  have Oa := Oa.later kq
  have BW := BW.trans (kq.mono BW.size)
  clear kq
  have sa2 := sm2.1
  have sb2 := sm2.2.1
  have sc2 := sm2.2.2.1
  have V2 : NN wd4 aB2 C2 aL2 K2 := O2.nn (by omega) (fun i hi => Nat.le_trans (sm2.2.2.2 i hi) (by decide)) (by omega)
  have hc2 : C2.length ≤ cB2 := by
    rcases O2.own.row.2 with ⟨_, q⟩ | ⟨g, c, cur, q, _, _, hc, _⟩
    · omega
    · simp only [Value.slice.injEq] at q
      obtain ⟨_, _, rfl⟩ := q
      exact hc
  replace sm2 : Hid _ := sm2
  clear O2
  obtain ⟨wd5, hwd5⟩ : ∃ y_, y_ = wd4.alloc (Obj.cells #[.slice aB2 C2.length cB2, .slice aL2 K2.length cL2] 27) := ⟨_, rfl⟩
  have A2 : NeAt wd5 wd4.heap.size (.slice aB2 C2.length cB2) (.slice aL2 K2.length cL2) := by rw [hwd5]; exact NeAt.new wd4 _
  have kq : Below wd4.heap.size wd4 wd5 := by rw [hwd5]; exact below_new _
  have lA2 := A2.lt
  have swd5 := kq.size
  have V1 := V1.later kq
  have A1 := A1.below kq A1.lt
  have Oa := Oa.later kq
  have V2 := V2.later kq
  have BW := BW.trans (kq.mono BW.size)
  clear kq
  go_upto_region 6 with fail
  rw [← hwd5]
  clear hwd5
  go_wp2_with fail
  go_at_call 11
  refine (drawRi ad0 len0 cap0 f0 wd5 (hC.later BW (Nat.le_refl _))).mono ?_
  rintro e wd6 ⟨aB3, cB3, C3, aL3, cL3, K3, rfl, sm3, O3, kq⟩
  have swd6 := kq.size
  have V1 := V1.later kq
  have A1 := A1.below kq A1.lt
  have Oa := Oa.later kq
  have V2 := V2.later kq
  have A2 := A2.below kq A2.lt
  have BW := BW.trans (kq.mono BW.size)
  clear kq
  have sa3 := sm3.1
  have sb3 := sm3.2.1
  have sc3 := sm3.2.2.1
  have V3 : NN wd6 aB3 C3 aL3 K3 := O3.nn (by omega) (fun i hi => Nat.le_trans (sm3.2.2.2 i hi) (by decide)) (by omega)
  have hc3 : C3.length ≤ cB3 := by
    rcases O3.own.row.2 with ⟨_, q⟩ | ⟨g, c, cur, q, _, _, hc, _⟩
    · omega
    · simp only [Value.slice.injEq] at q
      obtain ⟨_, _, rfl⟩ := q
      exact hc
  replace sm3 : Hid _ := sm3
  clear O3
  go_wp2_with fail
  go_at_call 12
  refine (drawSp ad0 len0 cap0 f0 wd6 (hC.later BW (Nat.le_refl _))).mono ?_
  rintro e wd7 ⟨aB4, cB4, C4, aL4, cL4, K4, rfl, sm4, O4, kq⟩
  have swd7 := kq.size
  have V1 := V1.later kq
  have A1 := A1.below kq A1.lt
  have Oa := Oa.later kq
  have V2 := V2.later kq
  have A2 := A2.below kq A2.lt
  have V3 := V3.later kq
  have BW := BW.trans (kq.mono BW.size)
  clear kq
  have sa4 := sm4.1
  have sb4 := sm4.2.1
  have sc4 := sm4.2.2.1
  have V4 : NN wd7 aB4 C4 aL4 K4 := O4.nn (by omega) (fun i hi => Nat.le_trans (sm4.2.2.2 i hi) (by decide)) (by omega)
  have hc4 : C4.length ≤ cB4 := by
    rcases O4.own.row.2 with ⟨_, q⟩ | ⟨g, c, cur, q, _, _, hc, _⟩
    · omega
    · simp only [Value.slice.injEq] at q
      obtain ⟨_, _, rfl⟩ := q
      exact hc
  replace sm4 : Hid _ := sm4
  clear O4
  go_wp2_with fail
  go_at_call 13
  refine (drawRo ad0 len0 cap0 f0 wd7 (hC.later BW (Nat.le_refl _))).mono ?_
  rintro e wd8 ⟨aB5, cB5, C5, aL5, cL5, K5, rfl, sm5, O5, kq⟩
  have swd8 := kq.size
  have V1 := V1.later kq
  have A1 := A1.below kq A1.lt
  have Oa := Oa.later kq
  have V2 := V2.later kq
  have A2 := A2.below kq A2.lt
  have V3 := V3.later kq
  have V4 := V4.later kq
  have BW := BW.trans (kq.mono BW.size)
  clear kq
  have sa5 := sm5.1
  have sb5 := sm5.2.1
  have sc5 := sm5.2.2.1
  have V5 : NN wd8 aB5 C5 aL5 K5 := O5.nn (by omega) (fun i hi => Nat.le_trans (sm5.2.2.2 i hi) (by decide)) (by omega)
  have hc5 : C5.length ≤ cB5 := by
    rcases O5.own.row.2 with ⟨_, q⟩ | ⟨g, c, cur, q, _, _, hc, _⟩
    · omega
    · simp only [Value.slice.injEq] at q
      obtain ⟨_, _, rfl⟩ := q
      exact hc
  replace sm5 : Hid _ := sm5
  clear O5
  go_wp2_with fail
  go_at_call 14
  refine (drawTr ad0 len0 cap0 f0 wd8 (hC.later BW (Nat.le_refl _))).mono ?_
  rintro e wd9 ⟨aB6, cB6, C6, aL6, cL6, K6, rfl, sm6, O6, kq⟩
  have swd9 := kq.size
  have V1 := V1.later kq
  have A1 := A1.below kq A1.lt
  have Oa := Oa.later kq
  have V2 := V2.later kq
  have A2 := A2.below kq A2.lt
  have V3 := V3.later kq
  have V4 := V4.later kq
  have V5 := V5.later kq
  have BW := BW.trans (kq.mono BW.size)
  clear kq
  have sa6 := sm6.1
  have sb6 := sm6.2.1
  have sc6 := sm6.2.2.1
  have V6 : NN wd9 aB6 C6 aL6 K6 := O6.nn (by omega) (fun i hi => Nat.le_trans (sm6.2.2.2 i hi) (by decide)) (by omega)
  have hc6 : C6.length ≤ cB6 := by
    rcases O6.own.row.2 with ⟨_, q⟩ | ⟨g, c, cur, q, _, _, hc, _⟩
    · omega
    · simp only [Value.slice.injEq] at q
      obtain ⟨_, _, rfl⟩ := q
      exact hc
  replace sm6 : Hid _ := sm6
  clear O6
  obtain ⟨wd10, hwd10⟩ : ∃ y_, y_ = ((((wd9.alloc (Obj.cells #[.slice aB3 C3.length cB3, .slice aL3 K3.length cL3] 27)).alloc (Obj.cells #[.slice aB4 C4.length cB4, .slice aL4 K4.length cL4] 27)).alloc (Obj.cells #[.slice aB5 C5.length cB5, .slice aL5 K5.length cL5] 27)).alloc (Obj.cells #[.slice aB6 C6.length cB6, .slice aL6 K6.length cL6] 27)) := ⟨_, rfl⟩
  have A3 : NeAt wd10 (wd9.heap.size) (.slice aB3 C3.length cB3) (.slice aL3 K3.length cL3) := by rw [hwd10]; constructor <;> simp [go_sem]
  have A4 : NeAt wd10 (wd9.heap.size + 1) (.slice aB4 C4.length cB4) (.slice aL4 K4.length cL4) := by rw [hwd10]; constructor <;> simp [go_sem]
  have A5 : NeAt wd10 (wd9.heap.size + 1 + 1) (.slice aB5 C5.length cB5) (.slice aL5 K5.length cL5) := by rw [hwd10]; constructor <;> simp [go_sem]
  have A6 : NeAt wd10 (wd9.heap.size + 1 + 1 + 1) (.slice aB6 C6.length cB6) (.slice aL6 K6.length cL6) := by rw [hwd10]; constructor <;> simp [go_sem]
  have kq : Below wd9.heap.size wd9 wd10 := by rw [hwd10]; exact ((((Below.refl _ _).alloc (Nat.le_refl _) _).alloc (by simp) _).alloc (by simp <;> omega) _).alloc (by simp <;> omega) _
  have swd10 := kq.size
  have V1 := V1.later kq
  have A1 := A1.below kq A1.lt
  have Oa := Oa.later kq
  have V2 := V2.later kq
  have A2 := A2.below kq A2.lt
  have V3 := V3.later kq
  have V4 := V4.later kq
  have V5 := V5.later kq
  have V6 := V6.later kq
  have BW := BW.trans (kq.mono BW.size)
  clear kq
  go_upto_region 7 with fail
  rw [← hwd10]
  clear hwd10
  refine wp_region_held (S := fun Y => Below wd10.heap.size wd10 Y) (by kernel_rfl) ?_
  change wpAnyH _ _ _ _ _ _ _ _ (World.drew _)
  have hb0 : Below wd10.heap.size wd10 wd10.drew := (Below.refl _ _).drew
  obtain ⟨u0, hy0⟩ : ∃ y_, y_ = wd10.drew := ⟨_, rfl⟩
  rw [← hy0] at hb0 ⊢
  clear hy0
  refine takeW 0 39 (.slice aa La.length ca) rfl rfl (by kernel_rfl) (by kernel_rfl) (by kernel_rfl) (fun _ _ _ h => h) (by kernel_rfl) (by (intro w hSw; go_simp)) (by assumption) ?_
  simp only [List.set_cons_zero, List.set_cons_succ]
  refine takeW 1 40 (.agg #[.slice aB1 C1.length cB1, .slice aL1 K1.length cL1]) rfl rfl (by kernel_rfl) (by kernel_rfl) (by kernel_rfl) (fun _ _ _ h => h) (by kernel_rfl) (by (intro Y hSw; obtain ⟨X0, X1⟩ := A1.below hSw A1.lt; go_simp)) (by assumption) ?_
  simp only [List.set_cons_zero, List.set_cons_succ]
  refine takeW 2 41 (.int .i64 m) rfl rfl (by kernel_rfl) (by kernel_rfl) (by kernel_rfl) (fun _ _ _ h => h) (by kernel_rfl) (by (intro w hSw; go_simp)) (by assumption) ?_
  simp only [List.set_cons_zero, List.set_cons_succ]
  refine takeW 3 42 (.bool al) rfl rfl (by kernel_rfl) (by kernel_rfl) (by kernel_rfl) (fun _ _ _ h => h) (by kernel_rfl) (by (intro w hSw; go_simp)) (by assumption) ?_
  simp only [List.set_cons_zero, List.set_cons_succ]
  refine wpAnyH_all (rs := [4]) (by kernel_rfl) (by simp) ?_
  intro i hi; obtain rfl : i = 4 := by simpa using hi
  refine wpOp_step rfl (fun Kz hKz => ?_)
  rw [if_pos (by kernel_rfl)]
  go_simp
  go_at_call 16
  refine (reachS aB1 cB1 C1 aL1 cL1 K1 m al u0 (V1.later hb0)).mono ?_
  rintro e u1 ⟨Lb, ab, cb, hb_, rfl, Ob, kq⟩
  have hb1 : Below wd10.heap.size wd10 u1 := hb0.trans (kq.mono hb0.size)
  obtain rfl : La = Lb := ReachIs.unique ha.out hb_
  clear hb_
  clear kq
  refine hKz _ _ ⟨hb1, ?_⟩
  clear hKz Kz hi
  refine wpAnyH_all (rs := [5]) (by kernel_rfl) (by simp) ?_
  intro i hi; obtain rfl : i = 5 := by simpa using hi
  refine wpOp_step rfl (fun Kz hKz => ?_)
  rw [if_pos (by kernel_rfl)]
  go_simp
  go_at_call 15
  refine (sameIn aa ab La.length ca cb (fun i => La.getD i 0) u1 (Oa.later hb1).view.2.toI Ob.view.2.toI hLs).mono ?_
  rintro e u2 ⟨rfl, nq, hnq⟩
  have kq : Below u1.heap.size u1 u2 := by rw [hnq]; exact ⟨rfl, rfl, rfl, Nat.le_refl _, fun _ _ => rfl⟩
  have hb2 : Below wd10.heap.size wd10 u2 := hb1.trans (kq.mono hb1.size)
  clear kq
  clear hnq Ob
  refine hKz _ _ ⟨hb2, ?_⟩
  clear hKz Kz hi
  refine takeW 6 45 (.bool false) rfl rfl (by kernel_rfl) (by kernel_rfl) (by kernel_rfl) (fun _ _ _ h => h) (by kernel_rfl) (by (intro w hSw; go_simp)) (by assumption) ?_
  simp only [List.set_cons_zero, List.set_cons_succ]
  refine takeW 7 46 (.bool false) rfl rfl (by kernel_rfl) (by kernel_rfl) (by kernel_rfl) (fun _ _ _ h => h) (by kernel_rfl) (by (intro w hSw; go_simp)) (by assumption) ?_
  simp only [List.set_cons_zero, List.set_cons_succ]
  refine takeW 8 47 (.agg #[.slice aB2 C2.length cB2, .slice aL2 K2.length cL2]) rfl rfl (by kernel_rfl) (by kernel_rfl) (by kernel_rfl) (fun _ _ _ h => h) (by kernel_rfl) (by (intro Y hSw; obtain ⟨X0, X1⟩ := A2.below hSw A2.lt; go_simp)) (by assumption) ?_
  simp only [List.set_cons_zero, List.set_cons_succ]
  refine takeW 9 48 (.int .i64 kk) rfl rfl (by kernel_rfl) (by kernel_rfl) (by kernel_rfl) (fun _ _ _ h => h) (by kernel_rfl) (by (intro w hSw; go_simp)) (by assumption) ?_
  simp only [List.set_cons_zero, List.set_cons_succ]
  refine takeW 11 50 (.agg #[.slice aB2 C2.length cB2, .slice aL2 K2.length cL2]) rfl rfl (by kernel_rfl) (by kernel_rfl) (by kernel_rfl) (fun _ _ _ h => h) (by kernel_rfl) (by (intro Y hSw; obtain ⟨X0, X1⟩ := A2.below hSw A2.lt; go_simp)) (by assumption) ?_
  simp only [List.set_cons_zero, List.set_cons_succ]
  refine takeW 12 51 (.int .i64 kk) rfl rfl (by kernel_rfl) (by kernel_rfl) (by kernel_rfl) (fun _ _ _ h => h) (by kernel_rfl) (by (intro w hSw; go_simp)) (by assumption) ?_
  simp only [List.set_cons_zero, List.set_cons_succ]
  refine wpAnyH_all (rs := [10]) (by kernel_rfl) (by simp) ?_
  intro i hi; obtain rfl : i = 10 := by simpa using hi
  refine wpOp_step rfl (fun Kz hKz => ?_)
  rw [if_pos (by kernel_rfl)]
  go_simp
  go_at_call 17
  refine (passI aB2 cB2 C2 aL2 cL2 K2 kk u2 (V2.later hb2) hc2).mono ?_
  rintro e u3 ⟨⟨r1, rfl, h1⟩, kq⟩
  have hb3 : Below wd10.heap.size wd10 u3 := hb2.trans (kq.mono hb2.size)
  clear kq
  refine hKz _ _ ⟨hb3, ?_⟩
  clear hKz Kz hi
  refine wpAnyH_all (rs := [13]) (by kernel_rfl) (by simp) ?_
  intro i hi; obtain rfl : i = 13 := by simpa using hi
  refine wpOp_step rfl (fun Kz hKz => ?_)
  rw [if_pos (by kernel_rfl)]
  go_simp
  go_at_call 18
  refine (passS aB2 cB2 C2 aL2 cL2 K2 kk u3 (V2.later hb3)).mono ?_
  rintro e u4 ⟨⟨r2, rfl, h2⟩, kq⟩
  have hb4 : Below wd10.heap.size wd10 u4 := hb3.trans (kq.mono hb3.size)
  obtain rfl : r1 = r2 := Bool.eq_iff_iff.2 (h1.trans h2.symm)
  clear h1 h2
  clear kq
  refine hKz _ _ ⟨hb4, ?_⟩
  clear hKz Kz hi
  refine takeW 14 53 (.bool false) rfl rfl (by kernel_rfl) (by kernel_rfl) (by kernel_rfl) (fun _ _ _ h => h) (by kernel_rfl) (by (intro w hSw; go_simp)) (by assumption) ?_
  simp only [List.set_cons_zero, List.set_cons_succ]
  refine takeW 15 54 (.bool false) rfl rfl (by kernel_rfl) (by kernel_rfl) (by kernel_rfl) (fun _ _ _ h => h) (by kernel_rfl) (by (intro w hSw; go_simp)) (by assumption) ?_
  simp only [List.set_cons_zero, List.set_cons_succ]
  refine takeW 16 55 (.bool false) rfl rfl (by kernel_rfl) (by kernel_rfl) (by kernel_rfl) (fun _ _ _ h => h) (by kernel_rfl) (by (intro w hSw; go_simp)) (by assumption) ?_
  simp only [List.set_cons_zero, List.set_cons_succ]
  refine takeW 17 56 (.agg #[.slice aB3 C3.length cB3, .slice aL3 K3.length cL3]) rfl rfl (by kernel_rfl) (by kernel_rfl) (by kernel_rfl) (fun _ _ _ h => h) (by kernel_rfl) (by (intro Y hSw; obtain ⟨X0, X1⟩ := A3.below hSw A3.lt; go_simp)) (by assumption) ?_
  simp only [List.set_cons_zero, List.set_cons_succ]
  refine takeW 19 58 (.agg #[.slice aB3 C3.length cB3, .slice aL3 K3.length cL3]) rfl rfl (by kernel_rfl) (by kernel_rfl) (by kernel_rfl) (fun _ _ _ h => h) (by kernel_rfl) (by (intro Y hSw; obtain ⟨X0, X1⟩ := A3.below hSw A3.lt; go_simp)) (by assumption) ?_
  simp only [List.set_cons_zero, List.set_cons_succ]
  refine wpAnyH_all (rs := [18]) (by kernel_rfl) (by simp) ?_
  intro i hi; obtain rfl : i = 18 := by simpa using hi
  refine wpOp_step rfl (fun Kz hKz => ?_)
  rw [if_pos (by kernel_rfl)]
  go_simp
  go_at_call 19
  refine (ringI aB3 cB3 C3 aL3 cL3 K3 u4 (V3.later hb4) hc3).mono ?_
  rintro e u5 ⟨⟨r3, rfl, h1⟩, kq⟩
  have hb5 : Below wd10.heap.size wd10 u5 := hb4.trans (kq.mono hb4.size)
  clear kq
  refine hKz _ _ ⟨hb5, ?_⟩
  clear hKz Kz hi
  refine wpAnyH_all (rs := [20]) (by kernel_rfl) (by simp) ?_
  intro i hi; obtain rfl : i = 20 := by simpa using hi
  refine wpOp_step rfl (fun Kz hKz => ?_)
  rw [if_pos (by kernel_rfl)]
  go_simp
  go_at_call 20
  refine (ringS aB3 cB3 C3 aL3 cL3 K3 u5 (V3.later hb5)).mono ?_
  rintro e u6 ⟨⟨r3', rfl, h2⟩, kq⟩
  have hb6 : Below wd10.heap.size wd10 u6 := hb5.trans (kq.mono hb5.size)
  obtain rfl : r3 = r3' := Bool.eq_iff_iff.2 (h1.trans h2.symm)
  clear h1 h2
  clear kq
  refine hKz _ _ ⟨hb6, ?_⟩
  clear hKz Kz hi
  refine takeW 21 60 (.bool false) rfl rfl (by kernel_rfl) (by kernel_rfl) (by kernel_rfl) (fun _ _ _ h => h) (by kernel_rfl) (by (intro w hSw; go_simp)) (by assumption) ?_
  simp only [List.set_cons_zero, List.set_cons_succ]
  refine takeW 22 61 (.bool false) rfl rfl (by kernel_rfl) (by kernel_rfl) (by kernel_rfl) (fun _ _ _ h => h) (by kernel_rfl) (by (intro w hSw; go_simp)) (by assumption) ?_
  simp only [List.set_cons_zero, List.set_cons_succ]
  refine takeW 23 62 (.bool false) rfl rfl (by kernel_rfl) (by kernel_rfl) (by kernel_rfl) (fun _ _ _ h => h) (by kernel_rfl) (by (intro w hSw; go_simp)) (by assumption) ?_
  simp only [List.set_cons_zero, List.set_cons_succ]
  refine takeW 24 63 (.agg #[.slice aB4 C4.length cB4, .slice aL4 K4.length cL4]) rfl rfl (by kernel_rfl) (by kernel_rfl) (by kernel_rfl) (fun _ _ _ h => h) (by kernel_rfl) (by (intro Y hSw; obtain ⟨X0, X1⟩ := A4.below hSw A4.lt; go_simp)) (by assumption) ?_
  simp only [List.set_cons_zero, List.set_cons_succ]
  refine takeW 26 65 (.agg #[.slice aB4 C4.length cB4, .slice aL4 K4.length cL4]) rfl rfl (by kernel_rfl) (by kernel_rfl) (by kernel_rfl) (fun _ _ _ h => h) (by kernel_rfl) (by (intro Y hSw; obtain ⟨X0, X1⟩ := A4.below hSw A4.lt; go_simp)) (by assumption) ?_
  simp only [List.set_cons_zero, List.set_cons_succ]
  refine wpAnyH_all (rs := [25]) (by kernel_rfl) (by simp) ?_
  intro i hi; obtain rfl : i = 25 := by simpa using hi
  refine wpOp_step rfl (fun Kz hKz => ?_)
  rw [if_pos (by kernel_rfl)]
  go_simp
  go_at_call 21
  refine (spanI aB4 cB4 C4 aL4 cL4 K4 u6 (V4.later hb6) hc4).mono ?_
  rintro e u7 ⟨⟨r4, rfl, h1⟩, kq⟩
  have hb7 : Below wd10.heap.size wd10 u7 := hb6.trans (kq.mono hb6.size)
  clear kq
  refine hKz _ _ ⟨hb7, ?_⟩
  clear hKz Kz hi
  refine wpAnyH_all (rs := [27]) (by kernel_rfl) (by simp) ?_
  intro i hi; obtain rfl : i = 27 := by simpa using hi
  refine wpOp_step rfl (fun Kz hKz => ?_)
  rw [if_pos (by kernel_rfl)]
  go_simp
  go_at_call 22
  refine (spanS aB4 cB4 C4 aL4 cL4 K4 u7 (V4.later hb7)).mono ?_
  rintro e u8 ⟨⟨r4', rfl, h2⟩, kq⟩
  have hb8 : Below wd10.heap.size wd10 u8 := hb7.trans (kq.mono hb7.size)
  obtain rfl : r4 = r4' := Bool.eq_iff_iff.2 (h1.trans h2.symm)
  clear h1 h2
  clear kq
  refine hKz _ _ ⟨hb8, ?_⟩
  clear hKz Kz hi
  refine takeW 28 67 (.bool false) rfl rfl (by kernel_rfl) (by kernel_rfl) (by kernel_rfl) (fun _ _ _ h => h) (by kernel_rfl) (by (intro w hSw; go_simp)) (by assumption) ?_
  simp only [List.set_cons_zero, List.set_cons_succ]
  refine takeW 29 68 (.bool false) rfl rfl (by kernel_rfl) (by kernel_rfl) (by kernel_rfl) (fun _ _ _ h => h) (by kernel_rfl) (by (intro w hSw; go_simp)) (by assumption) ?_
  simp only [List.set_cons_zero, List.set_cons_succ]
  refine takeW 30 69 (.bool false) rfl rfl (by kernel_rfl) (by kernel_rfl) (by kernel_rfl) (fun _ _ _ h => h) (by kernel_rfl) (by (intro w hSw; go_simp)) (by assumption) ?_
  simp only [List.set_cons_zero, List.set_cons_succ]
  refine takeW 31 70 (.agg #[.slice aB5 C5.length cB5, .slice aL5 K5.length cL5]) rfl rfl (by kernel_rfl) (by kernel_rfl) (by kernel_rfl) (fun _ _ _ h => h) (by kernel_rfl) (by (intro Y hSw; obtain ⟨X0, X1⟩ := A5.below hSw A5.lt; go_simp)) (by assumption) ?_
  simp only [List.set_cons_zero, List.set_cons_succ]
  refine takeW 33 72 (.agg #[.slice aB5 C5.length cB5, .slice aL5 K5.length cL5]) rfl rfl (by kernel_rfl) (by kernel_rfl) (by kernel_rfl) (fun _ _ _ h => h) (by kernel_rfl) (by (intro Y hSw; obtain ⟨X0, X1⟩ := A5.below hSw A5.lt; go_simp)) (by assumption) ?_
  simp only [List.set_cons_zero, List.set_cons_succ]
  obtain ⟨Lr, hLr⟩ : ∃ L, rootsL (dB C5) = L := ⟨_, rfl⟩
  have hrs : Lr.length ≤ 1048576 := by rw [← hLr]; have := rootsL_len (dB C5); rw [dB_len] at this; omega
  replace hLr : Hid _ := hLr
  refine wpAnyH_all (rs := [32]) (by kernel_rfl) (by simp) ?_
  intro i hi; obtain rfl : i = 32 := by simpa using hi
  refine wpOp_step rfl (fun Kz hKz => ?_)
  rw [if_pos (by kernel_rfl)]
  go_simp
  go_at_call 23
  refine (rootsI aB5 cB5 C5 aL5 cL5 K5 u8 (V5.later hb8)).mono ?_
  rintro e u9 ⟨a5, c5, rfl, O5a, kq⟩
  have hb9 : Below wd10.heap.size wd10 u9 := hb8.trans (kq.mono hb8.size)
  rw [hLr.out] at O5a ⊢
  clear kq
  refine hKz _ _ ⟨hb9, ?_⟩
  clear hKz Kz hi
  refine wpAnyH_all (rs := [34]) (by kernel_rfl) (by simp) ?_
  intro i hi; obtain rfl : i = 34 := by simpa using hi
  refine wpOp_step rfl (fun Kz hKz => ?_)
  rw [if_pos (by kernel_rfl)]
  go_simp
  go_at_call 24
  refine (rootsS aB5 cB5 C5 aL5 cL5 K5 u9 (V5.later hb9)).mono ?_
  rintro e u10 ⟨b5, d5, rfl, O5b, kq⟩
  have hb10 : Below wd10.heap.size wd10 u10 := hb9.trans (kq.mono hb9.size)
  rw [hLr.out] at O5b ⊢
  have O5a := O5a.later kq
  clear kq
  refine hKz _ _ ⟨hb10, ?_⟩
  clear hKz Kz hi
  refine wpAnyH_all (rs := [35]) (by kernel_rfl) (by simp) ?_
  intro i hi; obtain rfl : i = 35 := by simpa using hi
  refine wpOp_step rfl (fun Kz hKz => ?_)
  rw [if_pos (by kernel_rfl)]
  go_simp
  go_at_call 15
  refine (sameIn a5 b5 Lr.length c5 d5 (fun i => Lr.getD i 0) u10 O5a.view.2.toI O5b.view.2.toI hrs).mono ?_
  rintro e u11 ⟨rfl, nq2, hnq⟩
  have kq : Below u10.heap.size u10 u11 := by rw [hnq]; exact ⟨rfl, rfl, rfl, Nat.le_refl _, fun _ _ => rfl⟩
  have hb11 : Below wd10.heap.size wd10 u11 := hb10.trans (kq.mono hb10.size)
  clear kq
  clear hnq O5a O5b hrs hLr
  refine hKz _ _ ⟨hb11, ?_⟩
  clear hKz Kz hi
  refine takeW 36 75 (.bool false) rfl rfl (by kernel_rfl) (by kernel_rfl) (by kernel_rfl) (fun _ _ _ h => h) (by kernel_rfl) (by (intro w hSw; go_simp)) (by assumption) ?_
  simp only [List.set_cons_zero, List.set_cons_succ]
  refine takeW 37 76 (.bool false) rfl rfl (by kernel_rfl) (by kernel_rfl) (by kernel_rfl) (fun _ _ _ h => h) (by kernel_rfl) (by (intro w hSw; go_simp)) (by assumption) ?_
  simp only [List.set_cons_zero, List.set_cons_succ]
  refine takeW 38 77 (.bool false) rfl rfl (by kernel_rfl) (by kernel_rfl) (by kernel_rfl) (fun _ _ _ h => h) (by kernel_rfl) (by (intro w hSw; go_simp)) (by assumption) ?_
  simp only [List.set_cons_zero, List.set_cons_succ]
  refine takeW 39 78 (.agg #[.slice aB6 C6.length cB6, .slice aL6 K6.length cL6]) rfl rfl (by kernel_rfl) (by kernel_rfl) (by kernel_rfl) (fun _ _ _ h => h) (by kernel_rfl) (by (intro Y hSw; obtain ⟨X0, X1⟩ := A6.below hSw A6.lt; go_simp)) (by assumption) ?_
  simp only [List.set_cons_zero, List.set_cons_succ]
  refine takeW 41 80 (.agg #[.slice aB6 C6.length cB6, .slice aL6 K6.length cL6]) rfl rfl (by kernel_rfl) (by kernel_rfl) (by kernel_rfl) (fun _ _ _ h => h) (by kernel_rfl) (by (intro Y hSw; obtain ⟨X0, X1⟩ := A6.below hSw A6.lt; go_simp)) (by assumption) ?_
  simp only [List.set_cons_zero, List.set_cons_succ]
  refine wpAnyH_all (rs := [40]) (by kernel_rfl) (by simp) ?_
  intro i hi; obtain rfl : i = 40 := by simpa using hi
  refine wpOp_step rfl (fun Kz hKz => ?_)
  rw [if_pos (by kernel_rfl)]
  go_simp
  go_at_call 25
  refine (treeI aB6 cB6 C6 aL6 cL6 K6 u11 (V6.later hb11) hc6).mono ?_
  rintro e u12 ⟨⟨r6, rfl, h1⟩, kq⟩
  have hb12 : Below wd10.heap.size wd10 u12 := hb11.trans (kq.mono hb11.size)
  clear kq
  refine hKz _ _ ⟨hb12, ?_⟩
  clear hKz Kz hi
  refine wpAnyH_all (rs := [42]) (by kernel_rfl) (by simp) ?_
  intro i hi; obtain rfl : i = 42 := by simpa using hi
  refine wpOp_step rfl (fun Kz hKz => ?_)
  rw [if_pos (by kernel_rfl)]
  go_simp
  go_at_call 26
  refine (treeS aB6 cB6 C6 aL6 cL6 K6 u12 (V6.later hb12)).mono ?_
  rintro e u13 ⟨⟨r6', rfl, h2⟩, kq⟩
  have hb13 : Below wd10.heap.size wd10 u13 := hb12.trans (kq.mono hb12.size)
  obtain rfl : r6 = r6' := Bool.eq_iff_iff.2 (h1.trans h2.symm)
  clear h1 h2
  clear kq
  refine hKz _ _ ⟨hb13, ?_⟩
  clear hKz Kz hi
  refine takeW 43 82 (.bool false) rfl rfl (by kernel_rfl) (by kernel_rfl) (by kernel_rfl) (fun _ _ _ h => h) (by kernel_rfl) (by (intro w hSw; go_simp)) (by assumption) ?_
  simp only [List.set_cons_zero, List.set_cons_succ]
  refine takeW 44 83 (.bool false) rfl rfl (by kernel_rfl) (by kernel_rfl) (by kernel_rfl) (fun _ _ _ h => h) (by kernel_rfl) (by (intro w hSw; go_simp)) (by assumption) ?_
  simp only [List.set_cons_zero, List.set_cons_succ]
  refine wpAnyH_done (by kernel_rfl) ?_ _
  have su13 := hb13.size
  have V1 := V1.later hb13
  have A1 := A1.below hb13 A1.lt
  have Oa := Oa.later hb13
  have V6 := V6.later hb13
  have A6 := A6.below hb13 A6.lt
  have BW := BW.trans (hb13.mono BW.size)
  clear hb13
  clear hb0 hb1 hb2 hb3 hb4 hb5 hb6 hb7 hb8 hb9 hb10 hb11 hb12
  obtain ⟨wd11, hY⟩ : ∃ y_, y_ = u13 := ⟨_, rfl⟩
  rw [← hY] at A1 A6 V1 V6 Oa BW ⊢
  clear hY
  by_cases hz : La.length = 0
  · have z1 : ((La.length : Int) == 0) = true := by simp [hz]
    have z2 : decide ((La.length : Int) = 0) = true := by simp [hz]
    have hno : ¬ (NetP (dB C1) K1 ∧ 0 ≤ m ∧ m < (C1.length : Int)) := reach_nil ha.out hz
    replace hz : Hid _ := hz
    have cc := A1
    obtain ⟨n0, n1⟩ := cc
    go_wp2_with fail
    go_at_call 27
    clear n0 n1
    refine (netOkI aB1 cB1 C1 aL1 cL1 K1 wd11 V1 hc1).mono ?_
    rintro e v ⟨⟨r, rfl, hr⟩, kq⟩
    have A1 := A1.below kq A1.lt
    have BW := BW.trans (kq.mono BW.size)
    clear kq
    by_cases hok : NetP (dB C1) K1
    rotate_left
    · obtain rfl := bool_no hr hok
      clear hr hno
      replace hok : Hid _ := hok
      go_wp2
      go_ret
      exact ⟨rfl, BW⟩
    obtain rfl : r = true := hr.2 hok
    clear hr
    by_cases hm : m < 0
    · have d1 : decide (m < 0) = true := decide_eq_true hm
      clear hno
      replace hok : Hid _ := hok
      go_wp2
      go_ret
      exact ⟨rfl, BW⟩
    have d1 : decide (m < 0) = false := decide_eq_false hm
    have hm2 : (C1.length : Int) ≤ m := by
      apply Int.not_lt.1
      intro q
      exact hno ⟨hok, by omega, q⟩
    have d2 : decide ((C1.length : Int) ≤ m) = true := decide_eq_true hm2
    clear hno
    replace hok : Hid _ := hok
    obtain ⟨n0, n1⟩ := A1
    go_wp2
    go_ret
    exact ⟨rfl, BW⟩
  have z1 : ((La.length : Int) == 0) = false := by rw [beq_eq_false_iff_ne]; omega
  have z2 : decide ((La.length : Int) = 0) = false := decide_eq_false (by omega)
  have z3 : ¬ ((La.length : Int) = 0) := by omega
  obtain ⟨hok, f, hmf, hf, M, hM, hLa⟩ : NetP (dB C1) K1 ∧ ∃ f : Nat, m = (f : Int) ∧ f < (dB C1).length ∧ ∃ M, Marks (if al = true then K1 else K1.filter (openB (dB C1))) (dB C1).length (f : Int) M ∧ La = idx 0 M := by
    rcases ha.out with ⟨_, e⟩ | q
    · rw [e] at hz; exact absurd rfl hz
    · exact q
  have hfC : f < C1.length := by rw [dB_len] at hf; exact hf
  obtain ⟨Kx, hKx⟩ : ∃ Kx, Kx = (if al = true then K1 else K1.filter (openB (dB C1))) := ⟨_, rfl⟩
  rw [← hKx] at hM
  have hsub : Hid (∀ a b, Con Kx a b → Con K1 a b) := fun a b q => by
    rw [hKx] at q
    cases al
    · exact filter_sub (by simpa using q)
    · simpa using q
  have hmem : Hid (∀ j, j < La.length → ∃ g : Nat, La.getD j 0 = (g : Int) ∧ g < C1.length ∧ Con Kx (f : Int) (g : Int)) := fun j hj => by
    have hx := getD_memI hj
    rw [hLa] at hx
    obtain ⟨g, g1, g2, g3⟩ := (idx_mem _ _ 0).1 hx
    rw [hM.len] at g1
    rw [Nat.zero_add] at g3
    exact ⟨g, by rw [hLa]; exact g3, by rw [dB_len] at g1; exact g1, (hM.is g g1).1 g2⟩
  have hself : Hid (hasIn (fun i => La.getD i 0) La.length (f : Int) = true) := by
    unfold Hid
    rw [has_mem, hLa, marks_in hM ⟨by omega, by omega⟩]
    exact Con.refl _ _
  have hres : Hid (∀ (g : Nat) (L : List Int), g < C1.length → ReachIs (dB C1) K1 (g : Int) al L → Con Kx (f : Int) (g : Int) → hasIn (fun i => L.getD i 0) L.length (f : Int) = true) := fun g L hg hL hc => by
    rcases hL with ⟨q, _⟩ | ⟨_, g', e, _, M', hM', rfl⟩
    · exact absurd ⟨hok, by omega, by rw [dB_len]; omega⟩ q
    · obtain rfl : g = g' := by omega
      rw [← hKx] at hM'
      rw [has_mem, marks_in hM' ⟨by omega, by omega⟩]
      exact hc.symm
  have hall : Hid (∀ (g : Nat) (L : List Int), g < C1.length → ReachIs (dB C1) K1 (f : Int) true L → Con Kx (f : Int) (g : Int) → hasIn (fun i => L.getD i 0) L.length (g : Int) = true) := fun g L hg hL hc => by
    rcases hL with ⟨q, _⟩ | ⟨_, f', e, _, M', hM', rfl⟩
    · exact absurd ⟨hok, by omega, by rw [dB_len]; omega⟩ q
    · obtain rfl : f = f' := by omega
      rw [if_pos rfl] at hM'
      rw [has_mem, marks_in hM' ⟨by omega, by rw [dB_len]; omega⟩]
      exact hsub.out _ _ hc
  subst hmf
  clear hM hLa hKx hsub ha hf
  replace hok : Hid _ := hok
  replace hz : Hid _ := hz
  go_wp2
  go_loopw [13] (fun q wr => ∃ k : Nat, k ≤ La.length ∧ q = .int .i64 (k : Int) ∧ Below wd11.heap.size wd11 wr) (fun q _ => La.length - (intOf q).toNat)
  case atStart => exact ⟨0, Nat.zero_le _, rfl, Below.refl _ _⟩
  case round =>
    obtain ⟨k, hk1, rfl, kb⟩ := hrel
    have A1 := A1.below kb A1.lt
    have A6 := A6.below kb A6.lt
    have V1 := V1.later kb
    have V6 := V6.later kb
    have Oa := Oa.later kb
    have BW := BW.trans (kb.mono BW.size)
    by_cases hlt : k < La.length
    · obtain ⟨bA, oA, rfl, hcA⟩ := Oa.view.2.toI (by omega)
      obtain ⟨g, hg, hgC, hgc⟩ := hmem.out k hlt
      have ckA := hcA k hlt
      have hbA : bA < wr.heap.size := World.block_lt_of_cell? wr _ ckA
      dsimp only at ckA
      rw [hg] at ckA
      clear hg hcA
      have hAc : ∀ Y, Below wr.heap.size wr Y → Y.cell? ⟨bA, oA + k, none⟩ = some (.int .i64 (g : Int)) := fun Y hY => (World.cell?_of_block (a := ⟨bA, oA + k, none⟩) (hY.block bA hbA)).trans ckA
      clear ckA
      replace hgc : Hid _ := hgc
      go_upto_region 14 with fail
      refine wp_region_held (S := fun Y => Below wr.heap.size wr Y) (by kernel_rfl) ?_
      change wpAnyH _ _ _ _ _ _ _ _ (World.drew _)
      have hb0 : Below wr.heap.size wr wr.drew := (Below.refl _ _).drew
      obtain ⟨u0, hy0⟩ : ∃ y_, y_ = wr.drew := ⟨_, rfl⟩
      rw [← hy0] at hb0 ⊢
      clear hy0
      refine takeW 0 107 (.agg #[.slice aB1 C1.length cB1, .slice aL1 K1.length cL1]) rfl rfl (by kernel_rfl) (by kernel_rfl) (by kernel_rfl) (fun _ _ _ h => h) (by kernel_rfl) (by (intro Y hSw; obtain ⟨X0, X1⟩ := A1.below hSw A1.lt; go_simp)) (by assumption) ?_
      simp only [List.set_cons_zero, List.set_cons_succ]
      refine takeW 1 108 (.slice (some ⟨bA, oA, none⟩) La.length ca) rfl rfl (by kernel_rfl) (by kernel_rfl) (by kernel_rfl) (fun _ _ _ h => h) (by kernel_rfl) (by (intro w hSw; go_simp)) (by assumption) ?_
      simp only [List.set_cons_zero, List.set_cons_succ]
      refine takeW 2 109 (.int .i64 (k : Int)) rfl rfl (by kernel_rfl) (by kernel_rfl) (by kernel_rfl) (fun _ _ _ h => h) (by kernel_rfl) (by (intro w hSw; go_simp)) (by assumption) ?_
      simp only [List.set_cons_zero, List.set_cons_succ]
      refine takeW 3 110 (.pointer (some ⟨bA, oA + k, none⟩)) rfl rfl (by kernel_rfl) (by kernel_rfl) (by kernel_rfl) (fun _ _ _ h => h) (by kernel_rfl) (by (intro Y hSw; go_simp; try omega)) (by assumption) ?_
      simp only [List.set_cons_zero, List.set_cons_succ]
      refine takeW 4 111 (.int .i64 (g : Int)) rfl rfl (by kernel_rfl) (by kernel_rfl) (by kernel_rfl) (fun _ _ _ h => h) (by kernel_rfl) (by (intro Y hSw; have X0 := hAc Y hSw; go_simp)) (by assumption) ?_
      simp only [List.set_cons_zero, List.set_cons_succ]
      refine takeW 5 112 (.bool al) rfl rfl (by kernel_rfl) (by kernel_rfl) (by kernel_rfl) (fun _ _ _ h => h) (by kernel_rfl) (by (intro w hSw; go_simp)) (by assumption) ?_
      simp only [List.set_cons_zero, List.set_cons_succ]
      refine takeW 7 114 (.int .i64 (f : Int)) rfl rfl (by kernel_rfl) (by kernel_rfl) (by kernel_rfl) (fun _ _ _ h => h) (by kernel_rfl) (by (intro w hSw; go_simp)) (by assumption) ?_
      simp only [List.set_cons_zero, List.set_cons_succ]
      refine wpAnyH_all (rs := [6]) (by kernel_rfl) (by simp) ?_
      intro i hi; obtain rfl : i = 6 := by simpa using hi
      refine wpOp_step rfl (fun Kz hKz => ?_)
      rw [if_pos (by kernel_rfl)]
      go_simp
      go_at_call 9
      refine (reachI aB1 cB1 C1 aL1 cL1 K1 (g : Int) al u0 (V1.later hb0) hc1).mono ?_
      rintro e u1 ⟨L1, a1, c1, h1, rfl, O1, kq⟩
      have hb1 : Below wr.heap.size wr u1 := hb0.trans (kq.mono hb0.size)
      have w1 := hres.out g L1 hgC h1 hgc.out
      have l1 := reach_small h1
      clear h1
      clear kq
      refine hKz _ _ ⟨hb1, ?_⟩
      clear hKz Kz hi
      refine wpAnyH_all (rs := [8]) (by kernel_rfl) (by simp) ?_
      intro i hi; obtain rfl : i = 8 := by simpa using hi
      refine wpOp_step rfl (fun Kz hKz => ?_)
      rw [if_pos (by kernel_rfl)]
      go_simp
      go_at_call 28
      refine (withinI a1 L1.length c1 (fun i => L1.getD i 0) (f : Int) u1 O1.view.2.toI (by unfold maxLen; omega)).mono ?_
      rintro e u2 ⟨rfl, hu2⟩
      obtain rfl := hu2.symm
      rw [w1]
      clear w1 O1 l1
      refine hKz _ _ ⟨hb1, ?_⟩
      clear hKz Kz hi
      refine takeW 9 116 (.bool false) rfl rfl (by kernel_rfl) (by kernel_rfl) (by kernel_rfl) (fun _ _ _ h => h) (by kernel_rfl) (by (intro w hSw; go_simp)) (by assumption) ?_
      simp only [List.set_cons_zero, List.set_cons_succ]
      refine takeW 10 117 (.bool false) rfl rfl (by kernel_rfl) (by kernel_rfl) (by kernel_rfl) (fun _ _ _ h => h) (by kernel_rfl) (by (intro w hSw; go_simp)) (by assumption) ?_
      simp only [List.set_cons_zero, List.set_cons_succ]
      refine takeW 11 118 (.agg #[.slice aB1 C1.length cB1, .slice aL1 K1.length cL1]) rfl rfl (by kernel_rfl) (by kernel_rfl) (by kernel_rfl) (fun _ _ _ h => h) (by kernel_rfl) (by (intro Y hSw; obtain ⟨X0, X1⟩ := A1.below hSw A1.lt; go_simp)) (by assumption) ?_
      simp only [List.set_cons_zero, List.set_cons_succ]
      refine takeW 12 119 (.int .i64 (f : Int)) rfl rfl (by kernel_rfl) (by kernel_rfl) (by kernel_rfl) (fun _ _ _ h => h) (by kernel_rfl) (by (intro w hSw; go_simp)) (by assumption) ?_
      simp only [List.set_cons_zero, List.set_cons_succ]
      refine takeW 14 121 (.slice (some ⟨bA, oA, none⟩) La.length ca) rfl rfl (by kernel_rfl) (by kernel_rfl) (by kernel_rfl) (fun _ _ _ h => h) (by kernel_rfl) (by (intro w hSw; go_simp)) (by assumption) ?_
      simp only [List.set_cons_zero, List.set_cons_succ]
      refine takeW 15 122 (.int .i64 (k : Int)) rfl rfl (by kernel_rfl) (by kernel_rfl) (by kernel_rfl) (fun _ _ _ h => h) (by kernel_rfl) (by (intro w hSw; go_simp)) (by assumption) ?_
      simp only [List.set_cons_zero, List.set_cons_succ]
      refine takeW 16 123 (.pointer (some ⟨bA, oA + k, none⟩)) rfl rfl (by kernel_rfl) (by kernel_rfl) (by kernel_rfl) (fun _ _ _ h => h) (by kernel_rfl) (by (intro Y hSw; go_simp; try omega)) (by assumption) ?_
      simp only [List.set_cons_zero, List.set_cons_succ]
      refine takeW 17 124 (.int .i64 (g : Int)) rfl rfl (by kernel_rfl) (by kernel_rfl) (by kernel_rfl) (fun _ _ _ h => h) (by kernel_rfl) (by (intro Y hSw; have X0 := hAc Y hSw; go_simp)) (by assumption) ?_
      simp only [List.set_cons_zero, List.set_cons_succ]
      refine wpAnyH_all (rs := [13]) (by kernel_rfl) (by simp) ?_
      intro i hi; obtain rfl : i = 13 := by simpa using hi
      refine wpOp_step rfl (fun Kz hKz => ?_)
      rw [if_pos (by kernel_rfl)]
      go_simp
      go_at_call 9
      refine (reachI aB1 cB1 C1 aL1 cL1 K1 (f : Int) true u1 (V1.later hb1) hc1).mono ?_
      rintro e u2 ⟨L2, a2, c2, h2, rfl, O2, kq⟩
      have hb2 : Below wr.heap.size wr u2 := hb1.trans (kq.mono hb1.size)
      have w2 := hall.out g L2 hgC h2 hgc.out
      have l2 := reach_small h2
      clear h2
      clear kq
      refine hKz _ _ ⟨hb2, ?_⟩
      clear hKz Kz hi
      refine wpAnyH_all (rs := [18]) (by kernel_rfl) (by simp) ?_
      intro i hi; obtain rfl : i = 18 := by simpa using hi
      refine wpOp_step rfl (fun Kz hKz => ?_)
      rw [if_pos (by kernel_rfl)]
      go_simp
      go_at_call 28
      refine (withinI a2 L2.length c2 (fun i => L2.getD i 0) (g : Int) u2 O2.view.2.toI (by unfold maxLen; omega)).mono ?_
      rintro e u3 ⟨rfl, hu3⟩
      obtain rfl := hu3.symm
      rw [w2]
      clear w2 O2 l2
      refine hKz _ _ ⟨hb2, ?_⟩
      clear hKz Kz hi
      refine takeW 19 126 (.bool false) rfl rfl (by kernel_rfl) (by kernel_rfl) (by kernel_rfl) (fun _ _ _ h => h) (by kernel_rfl) (by (intro w hSw; go_simp)) (by assumption) ?_
      simp only [List.set_cons_zero, List.set_cons_succ]
      refine takeW 20 127 (.bool false) rfl rfl (by kernel_rfl) (by kernel_rfl) (by kernel_rfl) (fun _ _ _ h => h) (by kernel_rfl) (by (intro w hSw; go_simp)) (by assumption) ?_
      simp only [List.set_cons_zero, List.set_cons_succ]
      refine wpAnyH_done (by kernel_rfl) ?_ _
      have bZ := kb.trans (hb2.mono kb.size)
      clear hAc hb0 hb1 hb2
      go_wp2
      go_roundw
      case rel => exact ⟨k + 1, by omega, by go_num, bZ⟩
      case measure => simp [intOf]; omega
    · obtain rfl : k = La.length := by omega
      have hLm : La.length ≤ maxLen := by unfold maxLen; omega
      go_wp2_with fail
      go_at_call 28
      refine (withinI aa La.length ca (fun i => La.getD i 0) (f : Int) wr Oa.view.2.toI hLm).mono ?_
      rintro e v ⟨rfl, hv⟩
      obtain rfl := hv.symm
      rw [hself.out]
      have cc := A6
      obtain ⟨n0, n1⟩ := cc
      go_wp2_with fail
      go_at_call 25
      clear n0 n1
      refine (treeI aB6 cB6 C6 aL6 cL6 K6 wr V6 hc6).mono ?_
      rintro e v1 ⟨⟨q1, rfl, hq1⟩, kq⟩
      have A6 := A6.below kq A6.lt
      have V6 := V6.later kq
      have BW := BW.trans (kq.mono BW.size)
      clear kq
      by_cases ht : TreeP (dB C6) K6
      rotate_left
      · obtain rfl := bool_no hq1 ht
        clear hq1
        replace ht : Hid _ := ht
        go_wp2
        go_ret
        exact ⟨rfl, BW⟩
      obtain rfl : q1 = true := hq1.2 ht
      clear hq1
      replace ht : Hid _ := ht
      have cc := A6
      obtain ⟨n0, n1⟩ := cc
      go_wp2_with fail
      go_at_call 19
      clear n0 n1
      refine (ringI aB6 cB6 C6 aL6 cL6 K6 v1 V6 hc6).mono ?_
      rintro e v2 ⟨⟨q2, rfl, hq2⟩, kq⟩
      have A6 := A6.below kq A6.lt
      have V6 := V6.later kq
      have BW := BW.trans (kq.mono BW.size)
      clear kq
      obtain rfl : q2 = true := hq2.2 ht.out.1
      clear hq2
      have cc := A6
      obtain ⟨n0, n1⟩ := cc
      go_wp2_with fail
      go_at_call 21
      clear n0 n1
      refine (spanI aB6 cB6 C6 aL6 cL6 K6 v2 V6 hc6).mono ?_
      rintro e v3 ⟨⟨q3, rfl, hq3⟩, kq⟩
      have BW := BW.trans (kq.mono BW.size)
      clear kq
      obtain rfl : q3 = true := hq3.2 ht.out.2.1
      clear hq3
      go_wp2
      go_ret
      exact ⟨rfl, BW⟩


set_option maxRecDepth 100000 in
theorem lifted (os : Os) (started : os.Started) (H : Type) (enc : TypeId × Value → H) :
    ReturnsInHanded {} Try.checked os 3 .any (Rows.fnReachesSpec.pre6 enc Try.prog Try.f3 Rows.fnReachesRow.domain false) (Rows.fnReachesSpec.post enc Try.prog Try.f3 false true false false) := by
  refine returnsInHanded_of_change (C := Try.checked) own started (by kernel_rfl) Try.func3
    (ChangeSpec.witness6 (enc := enc) (C := Try.checked) false ⟨#[], #[.slice none 0 0], []⟩ 8 (by kernel_rfl) (by kernel_rfl) (by kernel_rfl) (by kernel_rfl)) ?_
  intro W base args ds gs before hval0 hW hcnd _
  have hval : ∀ (j : Nat) t v, Try.f3.params[j]? = some t → args[j]? = some v → Value.okWide Try.prog W .any base t v := hval0
  have hW' := hW
  obtain ⟨p, q, hA0, hV, rfl, hfz, hnd⟩ := hW
  have hA : DataW.TrodAll enc Try.prog W 0 (fun _ => true) true Try.f3.params.toList args.toList ds p := hA0
  rw [Try.params3] at hA hval
  obtain ⟨v0, vs0, d0, ds0, p0, q0, hargs, rfl, rfl, h0, r0⟩ := trodAll_cons hA
  obtain ⟨rfl, rfl, rfl⟩ := trodAll_nil r0
  obtain rfl : args = #[v0] := by cases args; simp_all
  obtain ⟨rfl, rfl⟩ := trodVars_none hV
  obtain ⟨ad0, len0, cap0, f0, rfl, I0⟩ := codeIn_open (hval 0 22 v0 rfl rfl) h0
  have lt0 : ∀ x ∈ p0, x.block < W.heap.size := by obtain ⟨m, hm⟩ := h0; exact DataW.trod_lt m _ _ _ hm
  clear hA0 hval0
  refine (walk ad0 len0 cap0 f0 W I0).mono fun e W' ⟨he, bel⟩ => ?_
  subst he
  exact ⟨_, rfl, _, _, _, [], _, [], hW', trodAll_mk1 (shut_bool Try.underlying4 _), (trodAll_cons_mk (Below.trod laidOut (by kernel_rfl) (of_decide_eq_true (by kernel_rfl)) h0 bel lt0) trodAll_mk0), rfl, bel.frame _, fun h => by cases h⟩

theorem over : Rows.fnReachesRow.holds Try.pinned (OpenSpec.ofChange Rows.fnReachesSpec) :=
  OpenClaim.holds_of_wide 3 Try.f3 rfl rfl rfl rfl rfl rfl rfl ⟨rfl, rfl, rfl, rfl, rfl⟩ rfl rfl rfl rfl rfl (by kernel_rfl) Try.func3 (by kernel_rfl)
    (of_decide_eq_true (by kernel_rfl)) (by unfold Func.isWrapper; first | (rw [if_pos (by decide +kernel)]; kernel_rfl) | (rw [if_neg (by decide +kernel)]; exact ⟨rfl, rfl⟩))
    (fun os started H enc _ => lifted os started H enc)

theorem proved : Rows.FnReachesSaid := over
end Go.Proofs.Ytdfjfodfnildiaa.fnReaches
namespace Go.Proofs.Ytdfjfodfnildiaa
theorem reaches_holds : Rows.FnReachesSaid := fnReaches.proved
#print axioms reaches_holds
end Go.Proofs.Ytdfjfodfnildiaa
