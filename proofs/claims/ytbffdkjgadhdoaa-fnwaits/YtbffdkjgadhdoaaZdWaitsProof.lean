/- For every code the call of FnWaits returns true: a port of the drawn bridge that was shut for a ring opens no sooner than four ticks behind. No condition. -/
import Derived.Test.YtbffdkjgadhdoaaRows
import Derived.Test.YtbffdkjgadhdoaaZd
import Derived.Test.YtbffdkjgadhdoaaCodeIn
import Derived.Deep.Cut
import Derived.WalkKit
import Derived.Below
import Derived.ChangeOld
import Derived.WalkSmall
import Derived.ProofKit
import Derived.OpenShut
import Derived.ShutString
import Derived.BigQuiet
namespace Go.Proofs.Ytbffdkjgadhdoaa.fnWaits
open Go.ChangeShapes Go.WideShapes Go.ChangeAt Go.RowKit
set_option linter.unusedVariables false

theorem own : ownKnob Try.prog.godebug = none := by kernel_rfl
theorem laidOut : laidOutB Try.prog = true := by kernel_rfl

set_option maxHeartbeats 16000000 in
set_option maxRecDepth 100000 in
theorem walk (ad0 : Option Addr) (len0 cap0 : Nat) (f0 : Nat → Int) (w : World) (I0 : CodeIn w ad0 len0 f0) :
    Calls Try.prog 5 #[.slice ad0 len0 cap0] w fun e w' => e = .returned (.bool true) ∧ Below w.heap.size w w' := by
  obtain ⟨lm, hv, hB, hf⟩ := I0
  by_cases hbig : 1048576 < len0
  · have hbig' : (1048576 : Int) < (len0 : Int) := by omega
    go_enter Try.func5, Try.ntmps5
    go_wp2_with fail
    go_at_call 9
    refine (bigYes ad0 len0 cap0 w hbig').mono ?_
    rintro e w1 ⟨rfl, h1⟩
    rw [h1]
    clear h1 w1 hbig
    go_wp2
    go_ret
    exact ⟨rfl, Below.refl _ _⟩
  have hC : Code0 w ad0 len0 f0 := ⟨hv, hB, by omega, hf⟩
  go_enter Try.func5, Try.ntmps5
  go_wp2_with fail
  go_at_call 9
  refine (bigNo ad0 len0 cap0 w (by omega)).mono ?_
  rintro e w1 ⟨rfl, h1⟩
  rw [h1]
  clear h1 w1 hbig hv hB hf lm
  have BW : Below w.heap.size w w := Below.refl _ _
  have sw := BW.size
  go_wp2_with fail
  go_at_call 14
  refine (drawDe ad0 len0 cap0 f0 w (hC.later BW (Nat.le_refl _))).mono ?_
  rintro e wd1 ⟨id, a, c, L, rfl, hL, OB, kq⟩
  have swd1 := kq.size
  have BW := BW.trans (kq.mono BW.size)
  clear kq
  have iOB : ∀ g, (Value.slice a L.length c).ownBlock = some g → w.heap.size ≤ g ∧ g < wd1.heap.size := fun g e => OB.lt g e
  obtain ⟨wd2, hwd2⟩ : ∃ y_, y_ = wd1.alloc (Obj.cells #[.int .i64 id, .slice a L.length c] 26) := ⟨_, rfl⟩
  have AB : BBox wd2 wd1.heap.size id (.slice a L.length c) := by rw [hwd2]; exact BBox.new wd1 _ _ _
  have kq : Below wd1.heap.size wd1 wd2 := by rw [hwd2]; exact below_new _
  have lwd2 := AB.lt
  have swd2 := kq.size
  have OB := OB.later kq
  have BW := BW.trans (kq.mono BW.size)
  clear kq
  go_upto_region 4 with fail
  rw [← hwd2]
  clear hwd2
  have cc := AB
  obtain ⟨⟨m0, m1⟩, mf⟩ := cc
  go_wp2_with fail
  go_at_call 16
  clear m0 m1 mf
  refine (decideI id a c L wd2 OB.view.2 (by omega) OB.capn).mono ?_
  rintro e wd3 ⟨aA, cA, rfl, OA, kq⟩
  have hdl := decideR_len id L
  have hdo : bOk id L = true → bOk id (decideR id L) = true := fun h => decideR_ok h
  generalize decideR id L = A at OA hdl hdo ⊢
  replace hdo : Hid _ := hdo
  replace hdl : Hid _ := hdl
  have swd3 := kq.size
  have OB := OB.later kq
  have AB := AB.below kq AB.lt
  have BW := BW.trans (kq.mono BW.size)
  clear kq
  have iOA : ∀ g, (Value.slice aA A.length cA).ownBlock = some g → wd2.heap.size ≤ g ∧ g < wd3.heap.size := fun g e => OA.lt g e
  obtain ⟨wd4, hwd4⟩ : ∃ y_, y_ = wd3.alloc (Obj.cells #[.int .i64 id, .slice aA A.length cA] 26) := ⟨_, rfl⟩
  have AA : BBox wd4 wd3.heap.size id (.slice aA A.length cA) := by rw [hwd4]; exact BBox.new wd3 _ _ _
  have kq : Below wd3.heap.size wd3 wd4 := by rw [hwd4]; exact below_new _
  have lwd4 := AA.lt
  have swd4 := kq.size
  have OB := OB.later kq
  have AB := AB.below kq AB.lt
  have OA := OA.later kq
  have BW := BW.trans (kq.mono BW.size)
  clear kq
  go_upto_region 5 with fail
  rw [← hwd4]
  clear hwd4
  have cc := AB
  obtain ⟨⟨m0, m1⟩, mf⟩ := cc
  go_wp2_with fail
  go_at_call 23
  clear m0 m1 mf
  refine (bOkI id a c L wd4 OB.view.2 (by omega)).mono ?_
  rintro e wd5 ⟨rfl, kq⟩
  have swd5 := kq.size
  have OB := OB.later kq
  have AB := AB.below kq AB.lt
  have OA := OA.later kq
  have AA := AA.below kq AA.lt
  have BW := BW.trans (kq.mono BW.size)
  clear kq
  cases hok : bOk id L with
  | false =>
    go_upto_region 6 with fail
    refine wp_region_held (S := fun Y => Below wd5.heap.size wd5 Y) (by kernel_rfl) ?_
    change wpAnyH _ _ _ _ _ _ _ _ (World.drew _)
    have hb0 : Below wd5.heap.size wd5 wd5.drew := (Below.refl _ _).drew
    obtain ⟨u0, hy0⟩ : ∃ y_, y_ = wd5.drew := ⟨_, rfl⟩
    rw [← hy0] at hb0 ⊢
    clear hy0
    refine takeW 0 18 (.agg #[.int .i64 id, .slice a L.length c]) rfl rfl (by kernel_rfl) (by kernel_rfl) (by kernel_rfl) (fun _ _ _ h => h) (by kernel_rfl) (by (intro Y hSw; obtain ⟨⟨X0, X1⟩, _⟩ := AB.below hSw AB.lt; go_simp)) (by assumption) ?_
    simp only [List.set_cons_zero, List.set_cons_succ]
    refine takeW 2 20 (.agg #[.int .i64 id, .slice a L.length c]) rfl rfl (by kernel_rfl) (by kernel_rfl) (by kernel_rfl) (fun _ _ _ h => h) (by kernel_rfl) (by (intro Y hSw; obtain ⟨⟨X0, X1⟩, _⟩ := AB.below hSw AB.lt; go_simp)) (by assumption) ?_
    simp only [List.set_cons_zero, List.set_cons_succ]
    refine wpAnyH_all (rs := [1]) (by kernel_rfl) (by simp) ?_
    intro i hi; obtain rfl : i = 1 := by simpa using hi
    refine wpOp_step rfl (fun K hK => ?_)
    rw [if_pos (by kernel_rfl)]
    go_simp
    go_at_call 23
    refine (bOkI id a c L u0 (OB.later hb0).view.2 (by omega)).mono ?_
    rintro e u1 ⟨rfl, kq⟩
    have hb1 : Below wd5.heap.size wd5 u1 := hb0.trans (kq.mono hb0.size)
    clear kq
    rw [hok]
    refine hK _ _ ⟨hb1, ?_⟩
    clear hK K hi
    refine wpAnyH_all (rs := [3]) (by kernel_rfl) (by simp) ?_
    intro i hi; obtain rfl : i = 3 := by simpa using hi
    refine wpOp_step rfl (fun K hK => ?_)
    rw [if_pos (by kernel_rfl)]
    go_simp
    go_at_call 24
    refine (bOkS id a c L u1 (OB.later hb1).view.2 (by omega)).mono ?_
    rintro e u2 ⟨rfl, kq⟩
    have hb2 : Below wd5.heap.size wd5 u2 := hb1.trans (kq.mono hb1.size)
    clear kq
    rw [hok]
    refine hK _ _ ⟨hb2, ?_⟩
    clear hK K hi
    refine takeW 4 22 (.bool true) rfl rfl (by kernel_rfl) (by kernel_rfl) (by kernel_rfl) (fun _ _ _ h => h) (by kernel_rfl) (by (intro w hSw; go_simp)) (by assumption) ?_
    simp only [List.set_cons_zero, List.set_cons_succ]
    refine takeW 5 2 (.bool true) rfl rfl (by kernel_rfl) (by kernel_rfl) (by kernel_rfl) (fun _ _ _ h => h) (by kernel_rfl) (by (intro w hSw; go_simp)) (by assumption) ?_
    simp only [List.set_cons_zero, List.set_cons_succ]
    refine wpAnyH_done (by kernel_rfl) ?_ _
    have BW := BW.trans (hb2.mono BW.size)
    go_wp2
    go_ret
    exact ⟨rfl, BW⟩
  | true =>
    have hbA : Hid (bOk id A = true) := hdo.out hok
    have hA4 := (bOk_all hbA.out).2.1
    obtain ⟨ib, hib, hb0_, hb1_, hb2_⟩ := info_parts boInfo
    obtain ⟨P, hP⟩ : ∃ P, P = wd3.heap.size := ⟨_, rfl⟩
    rw [← hP] at AA ⊢
    have hPw : w.heap.size ≤ P := by omega
    have jA : ∀ g_, (Value.slice aA A.length cA).ownBlock = some g_ → g_ ≠ P := fun g_ e => by have := iOA g_ e; omega
    have oA : FOwn ptEnc 11 41 w.heap.size wd5 (.slice aA A.length cA) A := OA.base (by omega)
    obtain ⟨ye, hye⟩ : ∃ y_, y_ = wd5.alloc (Obj.cells #[] 4) := ⟨_, rfl⟩
    have oE : FOwn boEnc 1 4 wd5.heap.size ye (.slice (some ⟨wd5.heap.size, 0, none⟩) 0 0) ([] : List Bool) := by rw [hye]; exact FOwn.empty wd5
    have ke : Below wd5.heap.size wd5 ye := by rw [hye]; exact below_new _
    have AA := AA.below ke AA.lt
    have oA := oA.later ke
    have BW := BW.trans (ke.mono BW.size)
    have hPl : P < wd5.heap.size := by omega
    have hpA := AA.lt
    have iA : ∀ g_, (Value.slice aA A.length cA).ownBlock = some g_ → g_ < wd5.heap.size := fun g_ e => by have := iOA g_ e; omega
    have zE0 : wd5.heap.size ≤ ye.heap.size := ke.size
    clear hP
    go_upto_region 8 with fail
    rw [← hye]
    generalize wd5.heap.size = E at oE iA hPl ke zE0 ⊢
    clear hye ke OA iOA OB iOB AB
    replace hok : Hid _ := hok
    go_wp2
    go_loopw [5, 6] (fun v i wr => ∃ k : Nat, k ≤ A.length ∧ i = .int .i64 (k : Int) ∧ FOwn boEnc 1 4 E wr v (shutTo A k) ∧ BBox wr P id (.slice aA A.length cA) ∧ FOwn ptEnc 11 41 w.heap.size wr (.slice aA A.length cA) A ∧ Below w.heap.size w wr ∧ E ≤ wr.heap.size) (fun _ i _ => A.length - (intOf i).toNat)
    case atStart => exact ⟨0, Nat.zero_le _, rfl, oE, AA, oA, BW, zE0⟩
    case round =>
      clear oE AA oA BW hpA
      obtain ⟨k, hk, rfl, oS, AA, oA, B5, zW⟩ := hrel
      obtain ⟨aS, cS, rfl⟩ := oS.open_
      have cc_ := AA
      obtain ⟨⟨q0, q1⟩, qf⟩ := cc_
      have hlS := shutTo_len A k
      by_cases hlt : k < A.length
      · obtain ⟨bk, off, rfl, _⟩ := oA.view.2 (by omega)
        obtain ⟨hp, hhp⟩ : ∃ v, A.getD k Pt.nil = v := ⟨_, rfl⟩
        obtain ⟨c0, c1, c2, c3, c4, c5, c6, c7, c8, c9, c10⟩ : PtAtO wr bk (off + k * 11) hp := by rw [← hhp]; exact ptAtO_of (oA.view.2.at_ ptEnc_len Pt.nil hlt)
        have hsc : Hid (shutTo A (k + 1) = shutTo A k ++ [(hp.ro == 3)]) := by unfold Hid; rw [shutTo_succ, hhp]
        obtain ⟨S5, hS5⟩ : ∃ S5, shutTo A k = S5 := ⟨_, rfl⟩
        rw [hS5] at oS hlS hsc ⊢
        replace hsc : Hid _ := hsc
        have hS6 : S5.length ≤ 4 := by omega
        replace hlS : Hid _ := hlS
        clear hhp hS5
        have V1 := FView.oneB wr 4 (hp.ro == 3)
        have O2 : FOwn boEnc 1 4 E (wr.alloc (Obj.cells #[.bool (hp.ro == 3)] 4)) (.slice aS S5.length cS) S5 := oS.later (below_new _)
        have zE := B5.size
        have A6 := AA.below (below_new (w := wr) (Obj.cells #[.bool (hp.ro == 3)] 4)) AA.lt
        have o6 := oA.later (below_new (w := wr) (Obj.cells #[.bool (hp.ro == 3)] 4))
        have B6 := B5.trans ((below_new (w := wr) (Obj.cells #[.bool (hp.ro == 3)] 4)).mono B5.size)
        go_wp2_with (first | (at_builtin; refine fappL boEnc_len boEnc_ones rfl _ _ 47 rfl E 4 ib (.bool false) 1 Try.underlying47 hib hb0_ hb1_ hb2_ rfl (by decide) (by decide) (.slice aS S5.length cS) S5 rfl O2 (some ⟨wr.heap.size, 0, none⟩) 1 [(hp.ro == 3)] rfl (fun e => by cases e) V1 ?z0 ?z1 ?_) | go_in)
        case z0 => simp; omega
        case z1 => simp; omega
        intro vZ wZ oZ gZ _
        have rowE : ∀ g_, (Value.slice aS S5.length cS).ownBlock = some g_ → E ≤ g_ := fun g_ e => (oS.lt g_ e).1
        have A7 := A6.keep (gZ.block P A6.lt (fun e => by have := rowE _ e.symm; omega))
        have o7 := o6.keep (fun g_ e => gZ.block g_ (o6.lt g_ e).2 (fun e2 => by have := rowE _ e2.symm; have := iA g_ e; omega))
        have B7 := B6.grown gZ B6.size (fun g_ e => by have := rowE g_ e; omega)
        have zZ : E ≤ wZ.heap.size := by have := gZ.size; simp at this; omega
        clear gZ A6 o6 B6 V1 O2 c0 c1 c2 c3 c4 c5 c6 c7 c8 c9 c10 q0 q1 qf
        go_wp2
        go_roundw
        case rel => exact ⟨k + 1, by omega, by go_num, by rw [hsc.out]; exact oZ, A7, o7, B7, zZ⟩
        case measure => simp [intOf]; omega
      · obtain rfl : k = A.length := by omega
        obtain ⟨SS, hSS⟩ : ∃ SS, shutTo A A.length = SS := ⟨_, rfl⟩
        have hsat : ∀ i, i < A.length → SS.getD i false = ((A.getD i Pt.nil).ro == 3) := fun i h_ => by rw [← hSS]; exact shutTo_at A h_
        rw [hSS] at oS hlS ⊢
        have hsl : Hid (SS.length = A.length) := hlS
        clear hSS hlS
        go_upto_region 12 with fail
        clear q0 q1 qf
        go_wp2
        go_loopw [7] (fun i wr => ∃ k : Nat, k ≤ 4 ∧ i = .int .i64 ((k : Int) + 1) ∧ (∃ a c L5, Hid (L5 = itT id A k) ∧ BBox wr P id (.slice a (List.length L5) c) ∧ FOwn ptEnc 11 41 w.heap.size wr (.slice a (List.length L5) c) L5 ∧ (∀ g_, (Value.slice a (List.length L5) c).ownBlock = some g_ → g_ ≠ P)) ∧ FOwn boEnc 1 4 E wr (.slice aS SS.length cS) SS ∧ (∀ g_, (Value.slice aS SS.length cS).ownBlock = some g_ → g_ ≠ P) ∧ Below w.heap.size w wr) (fun i _ => 5 - (intOf i).toNat)
        case atStart => exact ⟨0, Nat.zero_le _, rfl, ⟨aA, cA, A, rfl, AA, oA, jA⟩, oS, fun g_ e => by have := (oS.lt g_ e).1; omega, B5⟩
        case round =>
          clear AA oA oS B5
          obtain ⟨k, hk, rfl, ⟨a, c, L5, hL5, AB, oB, jB⟩, oS, jS, B5⟩ := hrel
          have hl5 : Hid (L5.length = A.length) := by unfold Hid; rw [hL5.out, itT_len]
          have hl54 : L5.length ≤ 4 := by rw [hl5.out]; omega
          have hok5 : Hid (bOk id L5 = true) := by unfold Hid; rw [hL5.out]; exact itT_ok hbA.out k
          have cc_ := AB
          obtain ⟨⟨q0, q1⟩, qf⟩ := cc_
          by_cases hlt : k < 4
          · have dl : decide ((k : Int) + 1 ≤ 4) = true := decide_eq_true (by omega)
            have hnot : ∀ i, i < L5.length → SS.getD i false = true → (L5.getD i Pt.nil).op = false := by
              intro i h1_ h2_
              rw [hl5.out] at h1_
              rw [hsat i h1_] at h2_
              rw [hL5.out]
              exact waits_not hbA.out h1_ (by simpa using h2_) (by omega)
            go_upto_region 15 with fail
            go_wp2
            go_loop [8] (fun i => ∃ j : Nat, j ≤ L5.length ∧ i = .int .i64 (j : Int)) (fun i => L5.length - (intOf i).toNat)
            case atStart => exact ⟨0, Nat.zero_le _, rfl⟩
            case round =>
              obtain ⟨j, hj, rfl⟩ := hrel
              by_cases hjl : j < L5.length
              · have hjS : j < SS.length := by rw [hsl.out, ← hl5.out]; exact hjl
                obtain ⟨bk, off, rfl, _⟩ := oB.view.2 (by omega)
                obtain ⟨bs, os_, rfl, hbs⟩ := oS.view.2 (by omega)
                obtain ⟨hp, hhp⟩ : ∃ v, L5.getD j Pt.nil = v := ⟨_, rfl⟩
                obtain ⟨c0, c1, c2, c3, c4, c5, c6, c7, c8, c9, c10⟩ : PtAtO wr bk (off + j * 11) hp := by rw [← hhp]; exact ptAtO_of (oB.view.2.at_ ptEnc_len Pt.nil hjl)
                obtain ⟨sb, hsb⟩ : ∃ v, SS.getD j false = v := ⟨_, rfl⟩
                have cs : wr.cell? ⟨bs, os_ + j, none⟩ = some (.bool sb) := by
                  have := oS.view.2.at_ boEnc_len false hjS 0 (.bool sb) (by rw [hsb]; rfl)
                  simpa using this
                have hno := hnot j hjl
                rw [hsb, hhp] at hno
                clear hhp hsb hbs
                cases sb
                · go_wp2
                  go_round
                  case rel => exact ⟨j + 1, by omega, by go_num⟩
                  case measure => simp [intOf]; omega
                · have hop := hno rfl
                  rw [hop] at c10
                  clear hno
                  go_wp2
                  go_round
                  case rel => exact ⟨j + 1, by omega, by go_num⟩
                  case measure => simp [intOf]; omega
              · obtain rfl : j = L5.length := by omega
                go_upto_region 20 with fail
                clear q0 q1 qf hnot
                have cc_ := AB
                obtain ⟨⟨q0_, q1_⟩, qf_⟩ := cc_
                have hcR := reactI id a c L5 ⟨2, 0, 0, 0, 0, 0, 0, false⟩ wr oB.view.2 (by omega) oB.capn
                rw [react_tick hok5.out] at hcR
                go_wp2_with fail
                go_at_call 26
                clear q0_ q1_ qf_
                refine hcR.mono ?_
                rintro e v6 ⟨a2, c2, ao, co, rfl, o2, oo_, dd_, k6⟩
                clear hcR
                have jx : P < wr.heap.size := AB.lt
                have Q6 := AB.below k6 AB.lt
                have z6 := k6.size
                have B6 := B5.trans (k6.mono B5.size)
                have j2 : ∀ g_, (Value.slice a2 (tickR id L5).length c2).ownBlock = some g_ → g_ ≠ P := fun g_ e => by have := (o2.lt g_ e).1; omega
                have hl2 : Hid ((tickR id L5).length = L5.length) := tickR_len id L5
                obtain ⟨L2, hL2⟩ : ∃ L2, tickR id L5 = L2 := ⟨_, rfl⟩
                rw [hL2] at o2 j2 hl2 ⊢
                replace hL2 : Hid _ := hL2
                generalize reactO id L5 ⟨2, 0, 0, 0, 0, 0, 0, false⟩ = O2_
                have o2 : FOwn ptEnc 11 41 w.heap.size v6 (.slice a2 L2.length c2) L2 := o2.base (by omega)
                have kS := k6
                clear oo_ dd_ k6
                have QP := Q6.put id (.slice a2 L2.length c2)
                have BP := (B6.setCell (p := ⟨P, 0, none⟩) (by show _ ≤ P; omega) (.int .i64 id)).setCell (p := ⟨P, 1, none⟩) (by show _ ≤ P; omega) (.slice a2 L2.length c2)
                have OP : FOwn ptEnc 11 41 w.heap.size ((v6.setCell ⟨P, 0, none⟩ (.int .i64 id)).setCell ⟨P, 1, none⟩ (.slice a2 L2.length c2)) (.slice a2 L2.length c2) L2 := o2.keep fun g_ e => by
                  rw [Below.heap_setCell _ _ _ _ (by show g_ ≠ P; exact j2 g_ e), Below.heap_setCell _ _ _ _ (by show g_ ≠ P; exact j2 g_ e)]
                obtain ⟨⟨q0_, q1_⟩, qf_⟩ := Q6
                have jS6 : ∀ g_, (Value.slice aS SS.length cS).ownBlock = some g_ → g_ < wr.heap.size := fun g_ e => (oS.lt g_ e).2
                have OS : FOwn boEnc 1 4 E ((v6.setCell ⟨P, 0, none⟩ (.int .i64 id)).setCell ⟨P, 1, none⟩ (.slice a2 L2.length c2)) (.slice aS SS.length cS) SS := oS.keep fun g_ e => by
                  rw [Below.heap_setCell _ _ _ _ (by show g_ ≠ P; exact jS g_ e), Below.heap_setCell _ _ _ _ (by show g_ ≠ P; exact jS g_ e)]
                  exact kS.block g_ (jS6 g_ e)
                have hL6' : Hid (L2 = itT id A (k + 1)) := by unfold Hid; rw [← hL2.out, itT, ← hL5.out]
                go_wp2
                go_roundw
                case rel => exact ⟨k + 1, by omega, by go_num, ⟨a2, c2, L2, hL6', QP, OP, j2⟩, OS, jS, BP⟩
                case measure => simp [intOf]; omega
          · have dl : decide ((k : Int) + 1 ≤ 4) = false := decide_eq_false (by omega)
            obtain rfl : k = 4 := by omega
            go_wp2
            go_ret
            exact ⟨rfl, B5⟩


set_option maxRecDepth 100000 in
theorem lifted (os : Os) (started : os.Started) (H : Type) (enc : TypeId × Value → H) :
    ReturnsInHanded {} Try.checked os 5 .any (Rows.fnWaitsSpec.pre6 enc Try.prog Try.f5 Rows.fnWaitsRow.domain false) (Rows.fnWaitsSpec.post enc Try.prog Try.f5 false true false false) := by
  refine returnsInHanded_of_change (C := Try.checked) own started (by kernel_rfl) Try.func5
    (ChangeSpec.witness6 (enc := enc) (C := Try.checked) false ⟨#[], #[.slice none 0 0], []⟩ 8 (by kernel_rfl) (by kernel_rfl) (by kernel_rfl) (by kernel_rfl)) ?_
  intro W base args ds gs before hval0 hW hcnd _
  have hval : ∀ (j : Nat) t v, Try.f5.params[j]? = some t → args[j]? = some v → Value.okWide Try.prog W .any base t v := hval0
  have hW' := hW
  obtain ⟨p, q, hA0, hV, rfl, hfz, hnd⟩ := hW
  have hA : DataW.TrodAll enc Try.prog W 0 (fun _ => true) true Try.f5.params.toList args.toList ds p := hA0
  rw [Try.params5] at hA hval
  obtain ⟨v0, vs0, d0, ds0, p0, q0, hargs, rfl, rfl, h0, r0⟩ := trodAll_cons hA
  obtain ⟨rfl, rfl, rfl⟩ := trodAll_nil r0
  obtain rfl : args = #[v0] := by cases args; simp_all
  obtain ⟨rfl, rfl⟩ := trodVars_none hV
  obtain ⟨ad0, len0, cap0, f0, rfl, I0⟩ := codeIn_open (hval 0 22 v0 rfl rfl) h0
  have lt0 : ∀ x ∈ p0, x.block < W.heap.size := by obtain ⟨m, hm⟩ := h0; exact DataW.trod_lt m _ _ _ hm
  clear hA0 hval0
  refine (walk ad0 len0 cap0 f0 W I0).mono fun e W' ⟨he, bel⟩ => ?_
  subst he
  exact ⟨_, rfl, _, _, _, [], _, [], hW', trodAll_mk1 (shut_bool Try.underlying4 _), (trodAll_cons_mk (Below.trod laidOut (by kernel_rfl) (of_decide_eq_true (by kernel_rfl)) h0 bel lt0) trodAll_mk0), rfl, bel.frame _, fun h => by cases h⟩

theorem over : Rows.fnWaitsRow.holds Try.pinned (OpenSpec.ofChange Rows.fnWaitsSpec) :=
  OpenClaim.holds_of_wide 5 Try.f5 rfl rfl rfl rfl rfl rfl rfl ⟨rfl, rfl, rfl, rfl, rfl⟩ rfl rfl rfl rfl rfl (by kernel_rfl) Try.func5 (by kernel_rfl)
    (of_decide_eq_true (by kernel_rfl)) (by unfold Func.isWrapper; first | (rw [if_pos (by decide +kernel)]; kernel_rfl) | (rw [if_neg (by decide +kernel)]; exact ⟨rfl, rfl⟩))
    (fun os started H enc _ => lifted os started H enc)

theorem proved : Rows.FnWaitsSaid := over
end Go.Proofs.Ytbffdkjgadhdoaa.fnWaits
namespace Go.Proofs.Ytbffdkjgadhdoaa
theorem waits_holds : Rows.FnWaitsSaid := fnWaits.proved
#print axioms waits_holds
end Go.Proofs.Ytbffdkjgadhdoaa
