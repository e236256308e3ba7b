/- spec.RootPort, walked. -/
import Derived.Test.YthgcbihhdbpbdaaGreatDoorRows
import Derived.WalkKit
import Derived.ProofKit
import Derived.OpenShut
import Derived.ShutString
import Derived.ChangeOld
import Derived.Below
import Derived.Deep.QuietTactic
import Derived.BigQuiet
import Derived.WalkSmall
import Derived.Laws.OwnMore
import Derived.WalkSpells
import Derived.WalkLawsBesides
import Derived.Deep.Cut
import Derived.Test.YthgcbihhdbpbdaaGreatDoorM5
namespace Go.Proofs.YthgcbihhdbpbdaaGreatDoor
open Go.ChangeShapes Go.WideShapes Go.ChangeAt Go.RowKit
open Go.ChangeMaps (open_string shut_string)
set_option linter.unusedVariables false
set_option maxRecDepth 100000

set_option maxHeartbeats 8000000 in
theorem rootPS (id : Int) (ad : Option Addr) (cap : Nat) (L : List Pt) (w : World) (hv : FView ptEnc w ad L) (hl : L.length ≤ 1048576) :
    Calls Tryz.prog 116 #[.agg #[.int .i64 id, .slice ad L.length cap]] w fun e w' => e = .returned (.tuple #[.int .i64 (oI (rootO id L)), .bool (rootO id L).isSome]) ∧ Below w.heap.size w w' := by
  have hB := hv.lt ptEnc_len (by omega)
  obtain ⟨y, hy⟩ : ∃ y, y = w.alloc (Obj.cells #[.int .i64 id, .slice ad L.length cap] 51) := ⟨_, rfl⟩
  have B0 : Below w.heap.size w y := by rw [hy]; exact below_new _
  have A0 : BrAt y w.heap.size id (.slice ad L.length cap) := by rw [hy]; exact BrAt.new w _ _ _
  have S0 := A0.lt
  have hv2 := hv.below B0 hB
  have hB2 := hv2.lt ptEnc_len (by omega)
  clear hv hB
  obtain ⟨O, hO⟩ : ∃ O, O = rootO id L := ⟨_, rfl⟩
  rw [← hO]
  replace hO : Hid _ := hO
  cases hb : bOk id L with
  | false =>
    have hN : Hid (O = none) := by unfold Hid; rw [hO.out]; unfold rootO; rw [hb]; rfl
    clear hO
    go_enter Tryz.func116, Tryz.ntmps116
    go_wp2
    rw [← hy]
    clear hy
    obtain ⟨a0, a1⟩ := A0
    refine wp_loop_rounds 1 ?_; rw [rounds_succ]
    by_cases h0 : L.length = 0
    · obtain rfl : L = [] := List.eq_nil_of_length_eq_zero h0
      go_wp2
      refine bodyPost_ret (by simp [results, Tryz.results116, go_sem]; rfl) rfl ⟨by rw [hN.out]; rfl, B0⟩
    · have d0 : decide ((0 : Int) < (L.length : Int)) = true := decide_eq_true (by omega)
      have d0' : decide (0 < L.length) = true := decide_eq_true (by omega)
      go_wp2_with fail
      go_at_call 91
      refine (bOkS id ad cap L y hv2 hl).mono ?_
      rintro e w1 ⟨rfl, k1⟩
      have B1 := B0.trans (k1.mono B0.size)
      rw [hb]
      go_wp2
      refine bodyPost_ret (by simp [results, Tryz.results116, go_sem]; rfl) rfl ⟨by rw [hN.out]; rfl, B1⟩
  | true =>
    have hlen := (bOk_all hb).2.1
    have hall : Hid (∀ i, pOk (L.getD i Pt.nil) = true) := (bOk_all hb).2.2
    have hN : Hid (O = bestTo id L L.length) := by unfold Hid; rw [hO.out]; unfold rootO; rw [hb]; rfl
    replace hb : Hid _ := hb
    clear hO
    go_enter Tryz.func116, Tryz.ntmps116
    go_wp2
    rw [← hy]
    clear hy
    have A1 := A0
    obtain ⟨w1, hw1⟩ : ∃ w1, w1 = y := ⟨_, rfl⟩
    rw [← hw1] at A1 B0 S0 hv2 hB2 ⊢
    have B1 := B0
    have S1 := S0
    clear A0 hw1 S0
    go_loopw [4, 5] (fun q i wr => ∃ k : Nat, k ≤ L.length ∧ i = .int .i64 (k : Int) ∧ q = .int .i64 (oI (bestTo id L k)) ∧ Below w1.heap.size w1 wr) (fun _ i _ => L.length - (intOf i).toNat)
    case atStart => exact ⟨0, Nat.zero_le _, rfl, rfl, Below.refl _ _⟩
    case round =>
      obtain ⟨k, hk, rfl, rfl, hbr⟩ := hrel
      have A2 := A1.below hbr (by omega)
      obtain ⟨a0, a1⟩ := A2
      by_cases hlt : k < L.length
      · obtain ⟨bk, off, rfl, _⟩ := hv2 (by omega)
        obtain ⟨h, hh⟩ : ∃ h, L.getD k Pt.nil = h := ⟨_, rfl⟩
        have hv3 := hv2.below hbr hB2
        have hck : PtAtO wr bk (off + k * 11) h := by
          rw [← hh]
          exact ptAtO_of (hv3.at_ ptEnc_len Pt.nil hlt)
        have hok : pOk h = true := by rw [← hh]; exact hall.out k
        have hcu : Hid ((h.up && cand id h) = cand id h) := cand_up (id := id) hok
        replace hh : Hid _ := hh
        obtain ⟨q, hq⟩ : ∃ q, q = oI (bestTo id L k) := ⟨_, rfl⟩
        rw [← hq]
        replace hq : Hid _ := hq
        go_wp2_with fail
        go_at_call 91
        refine (bOkS id (some ⟨bk, off, none⟩) cap L wr hv3 hl).mono ?_
        rintro e wr2 ⟨rfl, kr⟩
        rw [hb.out]
        have hbr2 : Below w1.heap.size w1 wr2 := hbr.trans (kr.mono hbr.size)
        have hv4 := hv3.below kr (hv3.lt ptEnc_len (by omega))
        obtain ⟨c0, c1, c2, c3, c4, c5, c6, c7, c8, c9, c10⟩ : PtAtO wr2 bk (off + k * 11) h := by rw [← hh.out]; exact ptAtO_of (hv4.at_ ptEnc_len Pt.nil hlt)
        clear a0 a1 hck
        obtain ⟨a0, a1⟩ := A1.below hbr2 (by omega)
        obtain ⟨y3, hy3⟩ : ∃ y_, y_ = wr2.alloc (Obj.cells #[.bool h.up, .bool h.has, .int .i64 h.r, .int .i64 h.c, .int .i64 h.b, .int .i64 h.p, .int .i64 h.h, .int .i64 h.l, .int .i64 h.ro, .int .i64 h.wa, .bool h.op] 47) := ⟨_, rfl⟩
        have P3 : PtAt y3 wr2.heap.size h := by rw [hy3]; exact ptAt_box wr2 _ _
        have A3 : BrAt y3 w.heap.size id (.slice (some ⟨bk, off, none⟩) L.length cap) := by rw [hy3]; exact BrAt.alloc ⟨a0, a1⟩ _
        have kn : Below wr2.heap.size wr2 y3 := by rw [hy3]; exact below_new _
        have Bb : Below w1.heap.size w1 y3 := hbr2.trans (kn.mono hbr2.size)
        have hv3 := hv4.below kn (hv4.lt ptEnc_len (by omega))
        have S3 : wr2.heap.size < y3.heap.size := P3.lt
        have S4 := hbr2.size
        go_upto_region 6 with fail
        rw [← hy3]
        clear hy3 a0 a1 c0 c1 c2 c3 c4 c5 c6 c7 c8 c9 c10 kr hbr hv4
        generalize wr2.heap.size = Q at P3 S3 S4 kn ⊢
        clear kn
        obtain ⟨e0, e1, e2, e3, e4, e5, e6, e7, e8, e9, e10⟩ := (P3 : PtAt y3 Q h)
        obtain ⟨a0, a1⟩ := (A3 : BrAt y3 w.heap.size id _)
        have P3 : PtAt y3 Q h := ⟨e0, e1, e2, e3, e4, e5, e6, e7, e8, e9, e10⟩
        have A3 : BrAt y3 w.heap.size id (.slice (some ⟨bk, off, none⟩) L.length cap) := ⟨a0, a1⟩
        cases hhas : h.has with
        | false =>
          rw [hhas] at e1
          have hc : Hid (cand id h = false) := by unfold Hid cand; rw [hhas]; rfl
          go_wp2
          go_roundw
          case rel => exact ⟨k + 1, by omega, by go_num, by rw [hq.out, best_no hh.out hc.out], Bb⟩
          case measure => simp [intOf]; omega
        | true =>
          rw [hhas] at e1
          by_cases h1 : h.b = id
          · have d1 : (h.b == id) = true := by simpa using h1
            replace h1 : Hid _ := h1
            have hc : Hid (cand id h = false) := by unfold Hid cand; rw [d1]; simp
            go_wp2
            go_roundw
            case rel => exact ⟨k + 1, by omega, by go_num, by rw [hq.out, best_no hh.out hc.out], Bb⟩
            case measure => simp [intOf]; omega
          have d1 : (h.b == id) = false := by simpa using h1
          replace h1 : Hid _ := h1
          by_cases h2 : id ≤ h.r
          · have d2 : decide (id ≤ h.r) = true := decide_eq_true h2
            have d2' : decide (h.r < id) = false := decide_eq_false (by omega)
            clear h2
            have hc : Hid (cand id h = false) := by unfold Hid cand; rw [d2']; simp
            go_wp2
            go_roundw
            case rel => exact ⟨k + 1, by omega, by go_num, by rw [hq.out, best_no hh.out hc.out], Bb⟩
            case measure => simp [intOf]; omega
          have d2 : decide (id ≤ h.r) = false := decide_eq_false h2
          have d2' : Hid (decide (h.r < id) = true) := decide_eq_true (by omega)
          clear h2
          by_cases h3 : 20 ≤ h.c
          · have d3 : decide (20 ≤ h.c) = true := decide_eq_true h3
            have d3' : decide (h.c < 20) = false := decide_eq_false (by omega)
            clear h3
            have hc : Hid (cand id h = false) := by unfold Hid cand; rw [d3']; simp
            go_wp2
            go_roundw
            case rel => exact ⟨k + 1, by omega, by go_num, by rw [hq.out, best_no hh.out hc.out], Bb⟩
            case measure => simp [intOf]; omega
          have d3 : decide (20 ≤ h.c) = false := decide_eq_false h3
          have d3' : Hid (decide (h.c < 20) = true) := decide_eq_true (by omega)
          clear h3
          by_cases h4 : 8 ≤ h.h
          · have d4 : decide (8 ≤ h.h) = true := decide_eq_true h4
            have d4' : decide (h.h < 8) = false := decide_eq_false (by omega)
            clear h4
            have hc : Hid (cand id h = false) := by unfold Hid cand; rw [d4']; simp
            go_wp2
            go_roundw
            case rel => exact ⟨k + 1, by omega, by go_num, by rw [hq.out, best_no hh.out hc.out], Bb⟩
            case measure => simp [intOf]; omega
          have d4 : decide (8 ≤ h.h) = false := decide_eq_false h4
          have d4' : Hid (decide (h.h < 8) = true) := decide_eq_true (by omega)
          clear h4
          have hc : Hid (cand id h = true) := by unfold Hid cand; rw [hhas, d1, d2'.out, d3'.out, d4'.out]; rfl
          go_upto_region 7 with fail
          clear a0 a1 e0 e1 e2 e3 e4 e5 e6 e7 e8 e9 e10 d1 d2 d2' d3 d3' d4 d4' hhas
          cases hbt : bestTo id L k with
          | none =>
            obtain rfl : q = -1 := by rw [hq.out, hbt]; rfl
            replace hbt : Hid _ := hbt
            clear hq
            refine wp_region_held (S := fun Y => Below y3.heap.size y3 Y) (by kernel_rfl) ?_
            change wpAnyH _ _ _ _ _ _ _ _ (World.drew _)
            have hb0 : Below y3.heap.size y3 y3.drew := (Below.refl _ _).drew
            obtain ⟨u0, hy0⟩ : ∃ y_, y_ = y3.drew := ⟨_, rfl⟩
            rw [← hy0] at hb0 ⊢
            clear hy0
            refine takeW 0 53 (.int .i64 (-1)) rfl rfl (by kernel_rfl) (by kernel_rfl) (by kernel_rfl) (fun _ _ _ h => h) (by kernel_rfl) (by (intro w hSw; go_simp)) (by assumption) ?_
            simp only [List.set_cons_zero, List.set_cons_succ]
            refine takeW 1 54 (.bool true) rfl rfl (by kernel_rfl) (by kernel_rfl) (by kernel_rfl) (fun _ _ _ h => h) (by kernel_rfl) (by (intro Y hSw; go_simp)) (by assumption) ?_
            simp only [List.set_cons_zero, List.set_cons_succ]
            refine takeW 2 55 (.bool true) rfl rfl (by kernel_rfl) (by kernel_rfl) (by kernel_rfl) (fun _ _ _ h => h) (by kernel_rfl) (by (intro w hSw; go_simp)) (by assumption) ?_
            simp only [List.set_cons_zero, List.set_cons_succ]
            refine takeS 3 56 rfl rfl (by kernel_rfl) (by kernel_rfl) (by kernel_rfl) (fun _ _ _ h => h) (by kernel_rfl) (by assumption) ?_
            simp only [List.set_cons_zero, List.set_cons_succ]
            refine takeS 4 57 rfl rfl (by kernel_rfl) (by kernel_rfl) (by kernel_rfl) (fun _ _ _ h => h) (by kernel_rfl) (by assumption) ?_
            simp only [List.set_cons_zero, List.set_cons_succ]
            refine takeS 5 58 rfl rfl (by kernel_rfl) (by kernel_rfl) (by kernel_rfl) (fun _ _ _ h => h) (by kernel_rfl) (by assumption) ?_
            simp only [List.set_cons_zero, List.set_cons_succ]
            refine takeS 6 59 rfl rfl (by kernel_rfl) (by kernel_rfl) (by kernel_rfl) (fun _ _ _ h => h) (by kernel_rfl) (by assumption) ?_
            simp only [List.set_cons_zero, List.set_cons_succ]
            refine takeS 7 60 rfl rfl (by kernel_rfl) (by kernel_rfl) (by kernel_rfl) (fun _ _ _ h => h) (by kernel_rfl) (by assumption) ?_
            simp only [List.set_cons_zero, List.set_cons_succ]
            refine takeS 8 61 rfl rfl (by kernel_rfl) (by kernel_rfl) (by kernel_rfl) (fun _ _ _ h => h) (by kernel_rfl) (by assumption) ?_
            simp only [List.set_cons_zero, List.set_cons_succ]
            refine takeS 9 62 rfl rfl (by kernel_rfl) (by kernel_rfl) (by kernel_rfl) (fun _ _ _ h => h) (by kernel_rfl) (by assumption) ?_
            simp only [List.set_cons_zero, List.set_cons_succ]
            refine takeS 10 63 rfl rfl (by kernel_rfl) (by kernel_rfl) (by kernel_rfl) (fun _ _ _ h => h) (by kernel_rfl) (by assumption) ?_
            simp only [List.set_cons_zero, List.set_cons_succ]
            refine takeS 11 64 rfl rfl (by kernel_rfl) (by kernel_rfl) (by kernel_rfl) (fun _ _ _ h => h) (by kernel_rfl) (by assumption) ?_
            simp only [List.set_cons_zero, List.set_cons_succ]
            refine takeW 12 65 (.bool true) rfl rfl (by kernel_rfl) (by kernel_rfl) (by kernel_rfl) (fun _ _ _ h => h) (by kernel_rfl) (by (intro w hSw; go_simp)) (by assumption) ?_
            simp only [List.set_cons_zero, List.set_cons_succ]
            refine wpAnyH_done (by kernel_rfl) ?_ _
            go_wp2
            go_roundw
            case rel => exact ⟨k + 1, by omega, by go_num, by rw [best_none hbt.out hh.out hc.out]; rfl, Bb.trans (hb0.mono Bb.size)⟩
            case measure => simp [intOf]; omega
          | some j =>
            obtain rfl : q = (j : Int) := by rw [hq.out, hbt]; rfl
            have hj := (bestTo_some hbt).1
            replace hbt : Hid _ := hbt
            clear hq
            have dj : decide ((j : Int) < 0) = false := decide_eq_false (by omega)
            have hjl : j < L.length := by omega
            obtain ⟨g, hgg⟩ : ∃ g, L.getD j Pt.nil = g := ⟨_, rfl⟩
            have hg : ∀ Y, Below y3.heap.size y3 Y → PtAtO Y bk (off + j * 11) g := fun Y hY => by rw [← hgg]; exact ptAtO_of ((hv3.below hY (hv3.lt ptEnc_len (by omega))).at_ ptEnc_len Pt.nil hjl)
            replace hgg : Hid _ := hgg
            obtain ⟨t, ht⟩ : ∃ t, vBetter h g = t := ⟨_, rfl⟩
            have ht' : vLt h.r h.c h.b h.p g.r g.c g.b g.p = t := ht
            replace ht : Hid _ := ht
            replace ht' : Hid _ := ht'
            cases t
            · refine wp_region_held (S := fun Y => Below y3.heap.size y3 Y) (by kernel_rfl) ?_
              change wpAnyH _ _ _ _ _ _ _ _ (World.drew _)
              have hb0 : Below y3.heap.size y3 y3.drew := (Below.refl _ _).drew
              obtain ⟨u0, hy0⟩ : ∃ y_, y_ = y3.drew := ⟨_, rfl⟩
              rw [← hy0] at hb0 ⊢
              clear hy0
              refine takeW 0 53 (.int .i64 (j : Int)) rfl rfl (by kernel_rfl) (by kernel_rfl) (by kernel_rfl) (fun _ _ _ h => h) (by kernel_rfl) (by (intro w hSw; go_simp)) (by assumption) ?_
              simp only [List.set_cons_zero, List.set_cons_succ]
              refine takeW 1 54 (.bool false) rfl rfl (by kernel_rfl) (by kernel_rfl) (by kernel_rfl) (fun _ _ _ h => h) (by kernel_rfl) (by (intro Y hSw; go_simp)) (by assumption) ?_
              simp only [List.set_cons_zero, List.set_cons_succ]
              refine takeW 2 55 (.bool false) rfl rfl (by kernel_rfl) (by kernel_rfl) (by kernel_rfl) (fun _ _ _ h => h) (by kernel_rfl) (by (intro w hSw; go_simp)) (by assumption) ?_
              simp only [List.set_cons_zero, List.set_cons_succ]
              refine takeW 3 56 (.pointer (some ⟨Q, 2, none⟩)) rfl rfl (by kernel_rfl) (by kernel_rfl) (by kernel_rfl) (fun _ _ _ h => h) (by kernel_rfl) (by (intro w hSw; go_simp)) (by assumption) ?_
              simp only [List.set_cons_zero, List.set_cons_succ]
              refine takeW 4 57 (.agg #[.int .i64 h.r, .int .i64 h.c, .int .i64 h.b, .int .i64 h.p]) rfl rfl (by kernel_rfl) (by kernel_rfl) (by kernel_rfl) (fun _ _ _ h => h) (by kernel_rfl) (by (intro Y hSw; obtain ⟨X0, X1, X2, X3, X4, X5, X6, X7, X8, X9, X10⟩ := P3.below hSw (by omega); go_simp)) (by assumption) ?_
              simp only [List.set_cons_zero, List.set_cons_succ]
              refine takeW 5 58 (.pointer (some ⟨w.heap.size, 1, none⟩)) rfl rfl (by kernel_rfl) (by kernel_rfl) (by kernel_rfl) (fun _ _ _ h => h) (by kernel_rfl) (by (intro w hSw; go_simp)) (by assumption) ?_
              simp only [List.set_cons_zero, List.set_cons_succ]
              refine takeW 6 59 (.slice (some ⟨bk, off, none⟩) L.length cap) rfl rfl (by kernel_rfl) (by kernel_rfl) (by kernel_rfl) (fun _ _ _ h => h) (by kernel_rfl) (by (intro Y hSw; obtain ⟨X0, X1⟩ := A3.below hSw (by omega); go_simp)) (by assumption) ?_
              simp only [List.set_cons_zero, List.set_cons_succ]
              refine takeW 7 60 (.int .i64 (j : Int)) rfl rfl (by kernel_rfl) (by kernel_rfl) (by kernel_rfl) (fun _ _ _ h => h) (by kernel_rfl) (by (intro w hSw; go_simp)) (by assumption) ?_
              simp only [List.set_cons_zero, List.set_cons_succ]
              refine takeW 8 61 (.pointer (some ⟨bk, off + j * 11, none⟩)) rfl rfl (by kernel_rfl) (by kernel_rfl) (by kernel_rfl) (fun _ _ _ h => h) (by kernel_rfl) (by (intro Y hSw; go_simp; try omega)) (by assumption) ?_
              simp only [List.set_cons_zero, List.set_cons_succ]
              refine takeW 9 62 (.pointer (some ⟨bk, off + j * 11 + 2, none⟩)) rfl rfl (by kernel_rfl) (by kernel_rfl) (by kernel_rfl) (fun _ _ _ h => h) (by kernel_rfl) (by (intro w hSw; go_simp)) (by assumption) ?_
              simp only [List.set_cons_zero, List.set_cons_succ]
              refine takeW 10 63 (.agg #[.int .i64 g.r, .int .i64 g.c, .int .i64 g.b, .int .i64 g.p]) rfl rfl (by kernel_rfl) (by kernel_rfl) (by kernel_rfl) (fun _ _ _ h => h) (by kernel_rfl) (by (intro Y hSw; obtain ⟨X0, X1, X2, X3, X4, X5, X6, X7, X8, X9, X10⟩ := hg Y hSw; go_simp)) (by assumption) ?_
              simp only [List.set_cons_zero, List.set_cons_succ]
              refine wpAnyH_all (rs := [11]) (by kernel_rfl) (by simp) ?_
              intro i hi; obtain rfl : i = 11 := by simpa using hi
              refine wpOp_step rfl (fun K hK => ?_)
              rw [if_pos (by kernel_rfl)]
              go_simp
              go_at_call 128
              refine (betterS h.r h.c h.b h.p g.r g.c g.b g.p u0).mono ?_
              rintro e u1 ⟨rfl, kq⟩
              have hb1 : Below y3.heap.size y3 u1 := hb0.trans (kq.mono hb0.size)
              clear kq
              rw [ht'.out]
              refine hK _ _ ⟨hb1, ?_⟩
              clear hK K hi
              refine takeW 12 65 (.bool false) rfl rfl (by kernel_rfl) (by kernel_rfl) (by kernel_rfl) (fun _ _ _ h => h) (by kernel_rfl) (by (intro w hSw; go_simp)) (by assumption) ?_
              simp only [List.set_cons_zero, List.set_cons_succ]
              refine wpAnyH_done (by kernel_rfl) ?_ _
              go_wp2
              go_roundw
              case rel => exact ⟨k + 1, by omega, by go_num, by rw [best_some hbt.out hh.out hgg.out hc.out ht.out]; rfl, Bb.trans (hb1.mono Bb.size)⟩
              case measure => simp [intOf]; omega
            · refine wp_region_held (S := fun Y => Below y3.heap.size y3 Y) (by kernel_rfl) ?_
              change wpAnyH _ _ _ _ _ _ _ _ (World.drew _)
              have hb0 : Below y3.heap.size y3 y3.drew := (Below.refl _ _).drew
              obtain ⟨u0, hy0⟩ : ∃ y_, y_ = y3.drew := ⟨_, rfl⟩
              rw [← hy0] at hb0 ⊢
              clear hy0
              refine takeW 0 53 (.int .i64 (j : Int)) rfl rfl (by kernel_rfl) (by kernel_rfl) (by kernel_rfl) (fun _ _ _ h => h) (by kernel_rfl) (by (intro w hSw; go_simp)) (by assumption) ?_
              simp only [List.set_cons_zero, List.set_cons_succ]
              refine takeW 1 54 (.bool false) rfl rfl (by kernel_rfl) (by kernel_rfl) (by kernel_rfl) (fun _ _ _ h => h) (by kernel_rfl) (by (intro Y hSw; go_simp)) (by assumption) ?_
              simp only [List.set_cons_zero, List.set_cons_succ]
              refine takeW 2 55 (.bool false) rfl rfl (by kernel_rfl) (by kernel_rfl) (by kernel_rfl) (fun _ _ _ h => h) (by kernel_rfl) (by (intro w hSw; go_simp)) (by assumption) ?_
              simp only [List.set_cons_zero, List.set_cons_succ]
              refine takeW 3 56 (.pointer (some ⟨Q, 2, none⟩)) rfl rfl (by kernel_rfl) (by kernel_rfl) (by kernel_rfl) (fun _ _ _ h => h) (by kernel_rfl) (by (intro w hSw; go_simp)) (by assumption) ?_
              simp only [List.set_cons_zero, List.set_cons_succ]
              refine takeW 4 57 (.agg #[.int .i64 h.r, .int .i64 h.c, .int .i64 h.b, .int .i64 h.p]) rfl rfl (by kernel_rfl) (by kernel_rfl) (by kernel_rfl) (fun _ _ _ h => h) (by kernel_rfl) (by (intro Y hSw; obtain ⟨X0, X1, X2, X3, X4, X5, X6, X7, X8, X9, X10⟩ := P3.below hSw (by omega); go_simp)) (by assumption) ?_
              simp only [List.set_cons_zero, List.set_cons_succ]
              refine takeW 5 58 (.pointer (some ⟨w.heap.size, 1, none⟩)) rfl rfl (by kernel_rfl) (by kernel_rfl) (by kernel_rfl) (fun _ _ _ h => h) (by kernel_rfl) (by (intro w hSw; go_simp)) (by assumption) ?_
              simp only [List.set_cons_zero, List.set_cons_succ]
              refine takeW 6 59 (.slice (some ⟨bk, off, none⟩) L.length cap) rfl rfl (by kernel_rfl) (by kernel_rfl) (by kernel_rfl) (fun _ _ _ h => h) (by kernel_rfl) (by (intro Y hSw; obtain ⟨X0, X1⟩ := A3.below hSw (by omega); go_simp)) (by assumption) ?_
              simp only [List.set_cons_zero, List.set_cons_succ]
              refine takeW 7 60 (.int .i64 (j : Int)) rfl rfl (by kernel_rfl) (by kernel_rfl) (by kernel_rfl) (fun _ _ _ h => h) (by kernel_rfl) (by (intro w hSw; go_simp)) (by assumption) ?_
              simp only [List.set_cons_zero, List.set_cons_succ]
              refine takeW 8 61 (.pointer (some ⟨bk, off + j * 11, none⟩)) rfl rfl (by kernel_rfl) (by kernel_rfl) (by kernel_rfl) (fun _ _ _ h => h) (by kernel_rfl) (by (intro Y hSw; go_simp; try omega)) (by assumption) ?_
              simp only [List.set_cons_zero, List.set_cons_succ]
              refine takeW 9 62 (.pointer (some ⟨bk, off + j * 11 + 2, none⟩)) rfl rfl (by kernel_rfl) (by kernel_rfl) (by kernel_rfl) (fun _ _ _ h => h) (by kernel_rfl) (by (intro w hSw; go_simp)) (by assumption) ?_
              simp only [List.set_cons_zero, List.set_cons_succ]
              refine takeW 10 63 (.agg #[.int .i64 g.r, .int .i64 g.c, .int .i64 g.b, .int .i64 g.p]) rfl rfl (by kernel_rfl) (by kernel_rfl) (by kernel_rfl) (fun _ _ _ h => h) (by kernel_rfl) (by (intro Y hSw; obtain ⟨X0, X1, X2, X3, X4, X5, X6, X7, X8, X9, X10⟩ := hg Y hSw; go_simp)) (by assumption) ?_
              simp only [List.set_cons_zero, List.set_cons_succ]
              refine wpAnyH_all (rs := [11]) (by kernel_rfl) (by simp) ?_
              intro i hi; obtain rfl : i = 11 := by simpa using hi
              refine wpOp_step rfl (fun K hK => ?_)
              rw [if_pos (by kernel_rfl)]
              go_simp
              go_at_call 128
              refine (betterS h.r h.c h.b h.p g.r g.c g.b g.p u0).mono ?_
              rintro e u1 ⟨rfl, kq⟩
              have hb1 : Below y3.heap.size y3 u1 := hb0.trans (kq.mono hb0.size)
              clear kq
              rw [ht'.out]
              refine hK _ _ ⟨hb1, ?_⟩
              clear hK K hi
              refine takeW 12 65 (.bool true) rfl rfl (by kernel_rfl) (by kernel_rfl) (by kernel_rfl) (fun _ _ _ h => h) (by kernel_rfl) (by (intro w hSw; go_simp)) (by assumption) ?_
              simp only [List.set_cons_zero, List.set_cons_succ]
              refine wpAnyH_done (by kernel_rfl) ?_ _
              go_wp2
              go_roundw
              case rel => exact ⟨k + 1, by omega, by go_num, by rw [best_some hbt.out hh.out hgg.out hc.out ht.out]; rfl, Bb.trans (hb1.mono Bb.size)⟩
              case measure => simp [intOf]; omega
      · obtain rfl : k = L.length := by omega
        have BF := B1.trans (hbr.mono B1.size)
        cases hbt : bestTo id L L.length with
        | none =>
          have hN2 : Hid (O = none) := by unfold Hid; rw [hN.out, hbt]
          simp only [oI]
          clear hN hbt
          go_wp2
          refine bodyPost_ret (by simp [results, Tryz.results116, go_sem]; rfl) rfl ⟨by rw [hN2.out]; rfl, BF⟩
        | some j =>
          have hN2 : Hid (O = some j) := by unfold Hid; rw [hN.out, hbt]
          have dj : decide (0 ≤ (j : Int)) = true := decide_eq_true (by omega)
          simp only [oI]
          clear hN hbt
          go_wp2
          refine bodyPost_ret (by simp [results, Tryz.results116, go_sem]; rfl) rfl ⟨by rw [hN2.out]; rfl, BF⟩

end Go.Proofs.YthgcbihhdbpbdaaGreatDoor
