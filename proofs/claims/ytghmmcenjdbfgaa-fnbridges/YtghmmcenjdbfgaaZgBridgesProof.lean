/- FnBridges, proved: at every code the drawn bridge reacts as the specification says, stays right, has one port at most that leads to the least, and says just which gates turn; what is no bridge stays as it was; no condition. -/
import Derived.Test.YtghmmcenjdbfgaaRows
import Derived.Test.YtghmmcenjdbfgaaZg
import Derived.Test.YtghmmcenjdbfgaaRe3
import Derived.Test.YtghmmcenjdbfgaaRe5
import Derived.Test.YtghmmcenjdbfgaaTakes
import Derived.Deep.Cut
import Derived.Laws.StructEq
import Derived.WalkKit
import Derived.Below
import Derived.ChangeOld
import Derived.WalkSmall
import Derived.ProofKit
import Derived.OpenShut
import Derived.ShutString
import Derived.BigQuiet
namespace Go.Proofs.Ytghmmcenjdbfgaa.fnBridges
open Go.ChangeShapes Go.WideShapes Go.ChangeAt Go.RowKit
set_option linter.unusedVariables false

theorem own : ownKnob Try.prog.godebug = none := by kernel_rfl
theorem laidOut : laidOutB Try.prog = true := by kernel_rfl

set_option maxHeartbeats 32000000 in
set_option maxRecDepth 100000 in
theorem walk (ad0 : Option Addr) (len0 cap0 : Nat) (f0 : Nat → Int) (w : World) (I0 : CodeIn w ad0 len0 f0) :
    Calls Try.prog 3 #[.slice ad0 len0 cap0] w fun e w' => e = .returned (.bool true) ∧ Below w.heap.size w w' := by
  obtain ⟨lm, hv, hB, hf⟩ := I0
  by_cases hbig : 1048576 < len0
  · have hbig' : (1048576 : Int) < (len0 : Int) := by omega
    go_enter Try.func3, Try.ntmps3
    go_wp2_with fail
    go_at_call 9
    refine (bigYes ad0 len0 cap0 w hbig').mono ?_
    rintro e w1 ⟨rfl, h1⟩
    rw [h1]
    clear h1 w1 hbig
    go_wp2
    go_ret
    exact ⟨rfl, Below.refl _ _⟩
  have hC : Code0 w ad0 len0 f0 := ⟨hv, hB, by omega, hf⟩
  go_enter Try.func3, Try.ntmps3
  go_wp2_with fail
  go_at_call 9
  refine (bigNo ad0 len0 cap0 w (by omega)).mono ?_
  rintro e w1 ⟨rfl, h1⟩
  rw [h1]
  clear h1 w1 hbig hv hB hf lm
  have BW : Below w.heap.size w w := Below.refl _ _
  have sw := BW.size
  go_wp2_with fail
  go_at_call 10
  refine (drawRe ad0 len0 cap0 f0 w (hC.later BW (Nat.le_refl _))).mono ?_
  rintro e wd1 ⟨id, a, c, L, x, rfl, hL, OB, kq⟩
  have swd1 := kq.size
  have BW := BW.trans (kq.mono BW.size)
  clear kq
  have iOB : ∀ g, (Value.slice a L.length c).ownBlock = some g → w.heap.size ≤ g ∧ g < wd1.heap.size := fun g e => OB.lt g e
  obtain ⟨wd2, hwd2⟩ : ∃ y_, y_ = (wd1.alloc (Obj.cells #[.int .i64 id, .slice a L.length c] 26)).alloc (Obj.cells #[.int .i64 x.k, .int .i64 x.q, .int .i64 x.r, .int .i64 x.c, .int .i64 x.b, .int .i64 x.p, .int .i64 x.h, .bool x.up] 30) := ⟨_, rfl⟩
  have AB : BrAt wd2 wd1.heap.size id (.slice a L.length c) := by rw [hwd2]; constructor <;> simp [go_sem]
  have N1 : InAt wd2 (wd1.heap.size + 1) x := by rw [hwd2]; constructor <;> simp [go_sem]
  have kq : Below wd1.heap.size wd1 wd2 := by rw [hwd2]; exact ((Below.refl _ _).alloc (Nat.le_refl _) _).alloc (by simp) _
  have lwd2 := N1.lt
  have swd2 := kq.size
  have OB := OB.later kq
  have BW := BW.trans (kq.mono BW.size)
  clear kq
  go_upto_region 4 with fail
  rw [← hwd2]
  clear hwd2
  obtain ⟨D, hD⟩ : ∃ D, reactL id L x = D := ⟨_, rfl⟩
  obtain ⟨OO, hOO⟩ : ∃ D, reactO id L x = D := ⟨_, rfl⟩
  have hDe : Hid (D.length = L.length) := by unfold Hid; rw [← hD, reactL_len]
  have hD6 : D.length ≤ 6 := by rw [hDe.out]; exact hL.2
  have hO8 : OO.length ≤ 8 := by rw [← hOO]; exact reactO_len id L x
  replace hD : Hid _ := hD
  replace hOO : Hid _ := hOO
  have cc := AB
  obtain ⟨m0_0, m0_1⟩ := cc
  have cc := N1
  obtain ⟨m1_0, m1_1, m1_2, m1_3, m1_4, m1_5, m1_6, m1_7⟩ := cc
  go_wp2_with fail
  go_at_call 11
  clear m0_0 m0_1 m1_0 m1_1 m1_2 m1_3 m1_4 m1_5 m1_6 m1_7
  refine (reactI id a c L x wd2 OB.view.2 (by omega) OB.capn).mono ?_
  rintro e wd3 ⟨aA, cA, oA, kA, rfl, OA, QA, _, kq⟩
  have swd3 := kq.size
  have OB := OB.later kq
  have AB := AB.below kq AB.lt
  have N1 := N1.below kq N1.lt
  have BW := BW.trans (kq.mono BW.size)
  clear kq
  rw [hD.out] at OA ⊢
  rw [hOO.out] at QA ⊢
  have iOA : ∀ g, (Value.slice aA D.length cA).ownBlock = some g → wd2.heap.size ≤ g ∧ g < wd3.heap.size := fun g e => OA.lt g e
  have iQA : ∀ g, (Value.slice oA OO.length kA).ownBlock = some g → wd2.heap.size ≤ g ∧ g < wd3.heap.size := fun g e => QA.lt g e
  obtain ⟨wd4, hwd4⟩ : ∃ y_, y_ = wd3.alloc (Obj.cells #[.int .i64 id, .slice aA D.length cA] 26) := ⟨_, rfl⟩
  have AA : BrAt wd4 wd3.heap.size id (.slice aA D.length cA) := by rw [hwd4]; exact BrAt.new wd3 _ _ _
  have kq : Below wd3.heap.size wd3 wd4 := by rw [hwd4]; exact below_new _
  have lwd4 := AA.lt
  have swd4 := kq.size
  have OB := OB.later kq
  have AB := AB.below kq AB.lt
  have OA := OA.later kq
  have QA := QA.later kq
  have N1 := N1.below kq N1.lt
  have BW := BW.trans (kq.mono BW.size)
  clear kq
  go_upto_region 5 with fail
  rw [← hwd4]
  clear hwd4
  have cc := AB
  obtain ⟨m0_0, m0_1⟩ := cc
  have cc := N1
  obtain ⟨m1_0, m1_1, m1_2, m1_3, m1_4, m1_5, m1_6, m1_7⟩ := cc
  go_wp2_with fail
  go_at_call 12
  clear m0_0 m0_1 m1_0 m1_1 m1_2 m1_3 m1_4 m1_5 m1_6 m1_7
  refine (reactS id a c L x wd4 OB.view.2 (by omega) OB.capn).mono ?_
  rintro e wd5 ⟨aC, cC, oC, kC, rfl, OC, QC, _, kq⟩
  have swd5 := kq.size
  have OB := OB.later kq
  have AB := AB.below kq AB.lt
  have OA := OA.later kq
  have QA := QA.later kq
  have AA := AA.below kq AA.lt
  have N1 := N1.below kq N1.lt
  have BW := BW.trans (kq.mono BW.size)
  clear kq
  rw [hD.out] at OC ⊢
  rw [hOO.out] at QC ⊢
  have iOC : ∀ g, (Value.slice aC D.length cC).ownBlock = some g → wd4.heap.size ≤ g ∧ g < wd5.heap.size := fun g e => OC.lt g e
  have iQC : ∀ g, (Value.slice oC OO.length kC).ownBlock = some g → wd4.heap.size ≤ g ∧ g < wd5.heap.size := fun g e => QC.lt g e
  obtain ⟨wd6, hwd6⟩ : ∃ y_, y_ = wd5.alloc (Obj.cells #[.int .i64 id, .slice aC D.length cC] 26) := ⟨_, rfl⟩
  have AC : BrAt wd6 wd5.heap.size id (.slice aC D.length cC) := by rw [hwd6]; exact BrAt.new wd5 _ _ _
  have kq : Below wd5.heap.size wd5 wd6 := by rw [hwd6]; exact below_new _
  have lwd6 := AC.lt
  have swd6 := kq.size
  have OB := OB.later kq
  have AB := AB.below kq AB.lt
  have OA := OA.later kq
  have QA := QA.later kq
  have AA := AA.below kq AA.lt
  have OC := OC.later kq
  have QC := QC.later kq
  have N1 := N1.below kq N1.lt
  have BW := BW.trans (kq.mono BW.size)
  clear kq
  go_upto_region 6 with fail
  rw [← hwd6]
  clear hwd6
  have cc := AA
  obtain ⟨m0_0, m0_1⟩ := cc
  have cc := AC
  obtain ⟨m1_0, m1_1⟩ := cc
  go_wp2_with fail
  go_at_call 13
  clear m0_0 m0_1 m1_0 m1_1
  refine (brSame id aA aC cA cC D wd6 OA.view.2 OC.view.2 (by omega)).mono ?_
  rintro e wd7 ⟨rfl, kq⟩
  have swd7 := kq.size
  have OB := OB.later kq
  have AB := AB.below kq AB.lt
  have OA := OA.later kq
  have QA := QA.later kq
  have AA := AA.below kq AA.lt
  have OC := OC.later kq
  have QC := QC.later kq
  have AC := AC.below kq AC.lt
  have N1 := N1.below kq N1.lt
  have BW := BW.trans (kq.mono BW.size)
  clear kq
  go_wp2
  go_loopw [9] (fun i wr => ∃ k : Nat, k ≤ OO.length ∧ i = .int .i64 (k : Int) ∧ Below wd7.heap.size wd7 wr) (fun i _ => OO.length - (intOf i).toNat)
  case atStart => exact ⟨0, Nat.zero_le _, rfl, Below.refl _ _⟩
  case round =>
    obtain ⟨k, hk, rfl, K⟩ := hrel
    have qA := (QA.later K).view.2
    have qC := (QC.later K).view.2
    by_cases hlt : k < OO.length
    · obtain ⟨ba, oa, rfl, _⟩ := qA (by omega)
      obtain ⟨bc, oc, rfl, _⟩ := qC (by omega)
      obtain ⟨o, ho⟩ : ∃ o, OO.getD k Ou.nil = o := ⟨_, rfl⟩
      have hA : ∀ Y, Below wr.heap.size wr Y → OuAtO Y ba (oa + k * 8) o := fun Y hY => by rw [← ho]; exact ouAtO_of ((qA.below hY (qA.lt ouEnc_len (by omega))).at_ ouEnc_len Ou.nil hlt)
      have hC' : ∀ Y, Below wr.heap.size wr Y → OuAtO Y bc (oc + k * 8) o := fun Y hY => by rw [← ho]; exact ouAtO_of ((qC.below hY (qC.lt ouEnc_len (by omega))).at_ ouEnc_len Ou.nil hlt)
      clear ho
      go_upto_region 11 with fail
      refine wp_region_held (S := fun Y => Below wr.heap.size wr Y) (by kernel_rfl) ?_
      change wpAnyH _ _ _ _ _ _ _ _ (World.drew _)
      have hb0 : Below wr.heap.size wr wr.drew := (Below.refl _ _).drew
      obtain ⟨u0, hy0⟩ : ∃ y_, y_ = wr.drew := ⟨_, rfl⟩
      rw [← hy0] at hb0 ⊢
      clear hy0
      refine takeW 0 51 (.slice (some ⟨ba, oa, none⟩) OO.length kA) rfl rfl (by kernel_rfl) (by kernel_rfl) (by kernel_rfl) (fun _ _ _ h => h) (by kernel_rfl) (by (intro w hSw; go_simp)) (by assumption) ?_
      simp only [List.set_cons_zero, List.set_cons_succ]
      refine takeW 1 52 (.int .i64 (k : Int)) rfl rfl (by kernel_rfl) (by kernel_rfl) (by kernel_rfl) (fun _ _ _ h => h) (by kernel_rfl) (by (intro w hSw; go_simp)) (by assumption) ?_
      simp only [List.set_cons_zero, List.set_cons_succ]
      refine takeW 2 53 (.pointer (some ⟨ba, oa + k * 8, none⟩)) rfl rfl (by kernel_rfl) (by kernel_rfl) (by kernel_rfl) (fun _ _ _ h => h) (by kernel_rfl) (by (intro Y hSw; go_simp; try omega)) (by assumption) ?_
      simp only [List.set_cons_zero, List.set_cons_succ]
      refine takeW 3 54 (.agg #[.int .i64 o.k, .int .i64 o.pt, .int .i64 o.r, .int .i64 o.c, .int .i64 o.b, .int .i64 o.p, .int .i64 o.h, .bool o.on]) rfl rfl (by kernel_rfl) (by kernel_rfl) (by kernel_rfl) (fun _ _ _ h => h) (by kernel_rfl) (by (intro Y hSw; obtain ⟨X0, X1, X2, X3, X4, X5, X6, X7⟩ := hA Y hSw; go_simp)) (by assumption) ?_
      simp only [List.set_cons_zero, List.set_cons_succ]
      refine takeW 4 55 (.slice (some ⟨bc, oc, none⟩) OO.length kC) rfl rfl (by kernel_rfl) (by kernel_rfl) (by kernel_rfl) (fun _ _ _ h => h) (by kernel_rfl) (by (intro w hSw; go_simp)) (by assumption) ?_
      simp only [List.set_cons_zero, List.set_cons_succ]
      refine takeW 5 56 (.int .i64 (k : Int)) rfl rfl (by kernel_rfl) (by kernel_rfl) (by kernel_rfl) (fun _ _ _ h => h) (by kernel_rfl) (by (intro w hSw; go_simp)) (by assumption) ?_
      simp only [List.set_cons_zero, List.set_cons_succ]
      refine takeW 6 57 (.pointer (some ⟨bc, oc + k * 8, none⟩)) rfl rfl (by kernel_rfl) (by kernel_rfl) (by kernel_rfl) (fun _ _ _ h => h) (by kernel_rfl) (by (intro Y hSw; go_simp; try omega)) (by assumption) ?_
      simp only [List.set_cons_zero, List.set_cons_succ]
      refine takeW 7 58 (.agg #[.int .i64 o.k, .int .i64 o.pt, .int .i64 o.r, .int .i64 o.c, .int .i64 o.b, .int .i64 o.p, .int .i64 o.h, .bool o.on]) rfl rfl (by kernel_rfl) (by kernel_rfl) (by kernel_rfl) (fun _ _ _ h => h) (by kernel_rfl) (by (intro Y hSw; obtain ⟨X0, X1, X2, X3, X4, X5, X6, X7⟩ := hC' Y hSw; go_simp)) (by assumption) ?_
      simp only [List.set_cons_zero, List.set_cons_succ]
      refine takeW 8 59 (.bool false) rfl rfl (by kernel_rfl) (by kernel_rfl) (by kernel_rfl) (fun _ _ _ h => h) (by kernel_rfl) (by (intro Y hSw; go_simp)) (by assumption) ?_
      simp only [List.set_cons_zero, List.set_cons_succ]
      refine wpAnyH_done (by kernel_rfl) ?_ _
      go_wp2
      go_roundw
      case rel => exact ⟨k + 1, by omega, by go_num, K.trans (hb0.mono K.size)⟩
      case measure => simp [intOf]; omega
    · obtain rfl : k = OO.length := by omega
      clear qA qC hlt hk
      clear OC QC AC
      have swr := K.size
      have OB := OB.later K
      have AB := AB.below K AB.lt
      have OA := OA.later K
      have QA := QA.later K
      have AA := AA.below K AA.lt
      have N1 := N1.below K N1.lt
      have BW := BW.trans (K.mono BW.size)
      clear K
      have cc := AB
      obtain ⟨m0_0, m0_1⟩ := cc
      go_wp2_with fail
      go_at_call 14
      clear m0_0 m0_1
      refine (bOkI id a c L wr OB.view.2 (by omega)).mono ?_
      rintro e wd8 ⟨rfl, kq⟩
      have swd8 := kq.size
      have OB := OB.later kq
      have AB := AB.below kq AB.lt
      have OA := OA.later kq
      have QA := QA.later kq
      have AA := AA.below kq AA.lt
      have N1 := N1.below kq N1.lt
      have BW := BW.trans (kq.mono BW.size)
      clear kq
      cases hok : bOk id L
      · have hnr := react_not (x := x) hok
        have e1 : D = L := by rw [← hD.out]; exact hnr.1
        have e2 : OO = [] := by rw [← hOO.out]; exact hnr.2
        clear hnr hok
        subst e2
        rw [e1] at OA AA ⊢
        replace e1 : Hid _ := e1
        clear hDe hD6 hO8
        have cc := AA
        obtain ⟨m0_0, m0_1⟩ := cc
        have cc := AB
        obtain ⟨m1_0, m1_1⟩ := cc
        go_wp2_with fail
        go_at_call 13
        clear m0_0 m0_1 m1_0 m1_1
        refine (brSame id aA a cA c L wd8 OA.view.2 OB.view.2 (by omega)).mono ?_
        rintro e wd9 ⟨rfl, kq⟩
        have swd9 := kq.size
        have OB := OB.later kq
        have AB := AB.below kq AB.lt
        have OA := OA.later kq
        have QA := QA.later kq
        have AA := AA.below kq AA.lt
        have N1 := N1.below kq N1.lt
        have BW := BW.trans (kq.mono BW.size)
        clear kq
        go_wp2
        go_ret
        exact ⟨rfl, BW⟩
      · have hrr := react_right (x := x) hok
        rw [hD.out] at hrr
        have hon := react_once (x := x) hok
        rw [hD.out] at hon
        have hga := fun j hj => react_gates id L x (j := j) hj
        rw [hD.out, hOO.out] at hga
        have hpo := fun o h hk => react_port (id := id) (L := L) (x := x) (o := o) h hk
        rw [hOO.out] at hpo
        replace hok : Hid _ := hok
        replace hon : Hid _ := hon
        replace hga : Hid _ := hga
        replace hpo : Hid _ := hpo
        have cc := AA
        obtain ⟨m0_0, m0_1⟩ := cc
        go_wp2_with fail
        go_at_call 14
        clear m0_0 m0_1
        refine (bOkI id aA cA D wd8 OA.view.2 (by omega)).mono ?_
        rintro e wd10 ⟨rfl, kq⟩
        have swd10 := kq.size
        have OB := OB.later kq
        have AB := AB.below kq AB.lt
        have OA := OA.later kq
        have QA := QA.later kq
        have AA := AA.below kq AA.lt
        have N1 := N1.below kq N1.lt
        have BW := BW.trans (kq.mono BW.size)
        clear kq
        rw [hrr]
        clear hrr
        have cc := AB
        obtain ⟨m0_0, m0_1⟩ := cc
        go_wp2_with fail
        go_at_call 15
        clear m0_0 m0_1
        refine (gatesI12r id a c L wd10 OB.view.2 (by omega)).mono ?_
        rintro e wd11 ⟨aG, cG, rfl, OG, kG⟩
        obtain ⟨g, rfl⟩ := OG.some_ (by rw [gatesR_len]; omega)
        have lg := OG.lt g rfl
        have OG : FOwn boEnc 1 4 wd10.heap.size wd11 (.slice (some ⟨g, 0, none⟩) L.length cG) (turnG (gatesR L) (OO.take 0)) := OG
        go_wp2
        go_loopw [12] (fun i wr => ∃ k : Nat, k ≤ OO.length ∧ i = .int .i64 (k : Int) ∧ FOwn boEnc 1 4 wd10.heap.size wr (.slice (some ⟨g, 0, none⟩) L.length cG) (turnG (gatesR L) (OO.take k)) ∧ Below wd10.heap.size wd10 wr) (fun i _ => OO.length - (intOf i).toNat)
        case atStart => exact ⟨0, Nat.zero_le _, rfl, OG, kG⟩
        case round =>
          clear OG kG
          obtain ⟨k, hk, rfl, OG, K⟩ := hrel
          have qA := (QA.later K).view.2
          have hGl : Hid ((turnG (gatesR L) (OO.take k)).length = L.length) := by unfold Hid; rw [turnG_len, gatesR_len]
          by_cases hlt : k < OO.length
          · obtain ⟨ba, oa, rfl, _⟩ := qA (by omega)
            obtain ⟨o, ho⟩ : ∃ o, OO.getD k Ou.nil = o := ⟨_, rfl⟩
            have hst := turnG_take (gatesR L) OO hlt
            rw [ho] at hst
            have hmem : o ∈ OO := by rw [← ho]; simp [List.getD, hlt]
            have hA : ∀ Y, Below wd10.heap.size wr Y → OuAtO Y ba (oa + k * 8) o := fun Y hY => by rw [← ho]; exact ouAtO_of (((QA.later (K.trans hY)).view.2).at_ ouEnc_len Ou.nil hlt)
            have hp := hpo.out o hmem
            clear ho hmem
            replace hst : Hid _ := hst
            have cc := hA wr (Below.refl _ _)
            obtain ⟨c0, c1, c2, c3, c4, c5, c6, c7⟩ := cc
            by_cases h2 : o.k = 2
            · have d2 : (o.k == 2) = true := by simpa using h2
              obtain ⟨hp0, hp1⟩ := hp h2
              obtain ⟨j, hj⟩ : ∃ j : Nat, o.pt = (j : Int) := ⟨o.pt.toNat, by omega⟩
              have hjl : j < L.length := by omega
              have hst2 : Hid (turnG (gatesR L) (OO.take (k + 1)) = (turnG (gatesR L) (OO.take k)).set j o.on) := by unfold Hid; rw [hst.out]; unfold applyG; rw [if_pos h2, hj]; rfl
              replace h2 : Hid _ := h2
              clear hst hp0 hp1 hp
              have hA : ∀ Y, Below wd10.heap.size wr Y → Y.cell? ⟨ba, oa + k * 8 + 1, none⟩ = some (.int .i64 (j : Int)) ∧ Y.cell? ⟨ba, oa + k * 8 + 7, none⟩ = some (.bool o.on) := fun Y hY => by rw [← hj]; exact ⟨(hA Y hY).c1, (hA Y hY).c7⟩
              clear hj
              go_upto_region 23 with fail
              clear c0 c1 c2 c3 c4 c5 c6 c7
              refine wp_region_held (S := fun Y => Below wd10.heap.size wr Y) (by kernel_rfl) ?_
              change wpAnyH _ _ _ _ _ _ _ _ (World.drew _)
              have hb0 : Below wr.heap.size wr wr.drew := (Below.refl _ _).drew
              obtain ⟨u0, hy0⟩ : ∃ y_, y_ = wr.drew := ⟨_, rfl⟩
              rw [← hy0] at hb0 ⊢
              clear hy0
              have ks := K.size
              have hc0 : Below wd10.heap.size wr u0 := hb0.mono ks
              refine takeW 0 88 (.slice (some ⟨g, 0, none⟩) L.length cG) rfl rfl (by kernel_rfl) (by kernel_rfl) (by kernel_rfl) (fun _ _ _ h => h) (by kernel_rfl) (by (intro w hSw; go_simp)) (by assumption) ?_
              simp only [List.set_cons_zero, List.set_cons_succ]
              refine takeW 1 89 (.slice (some ⟨ba, oa, none⟩) OO.length kA) rfl rfl (by kernel_rfl) (by kernel_rfl) (by kernel_rfl) (fun _ _ _ h => h) (by kernel_rfl) (by (intro w hSw; go_simp)) (by assumption) ?_
              simp only [List.set_cons_zero, List.set_cons_succ]
              refine takeW 2 90 (.int .i64 (k : Int)) rfl rfl (by kernel_rfl) (by kernel_rfl) (by kernel_rfl) (fun _ _ _ h => h) (by kernel_rfl) (by (intro w hSw; go_simp)) (by assumption) ?_
              simp only [List.set_cons_zero, List.set_cons_succ]
              refine takeW 3 91 (.pointer (some ⟨ba, oa + k * 8, none⟩)) rfl rfl (by kernel_rfl) (by kernel_rfl) (by kernel_rfl) (fun _ _ _ h => h) (by kernel_rfl) (by (intro Y hSw; go_simp; try omega)) (by assumption) ?_
              simp only [List.set_cons_zero, List.set_cons_succ]
              refine takeW 4 92 (.pointer (some ⟨ba, oa + k * 8 + 1, none⟩)) rfl rfl (by kernel_rfl) (by kernel_rfl) (by kernel_rfl) (fun _ _ _ h => h) (by kernel_rfl) (by (intro w hSw; go_simp)) (by assumption) ?_
              simp only [List.set_cons_zero, List.set_cons_succ]
              refine takeW 5 93 (.int .i64 (j : Int)) rfl rfl (by kernel_rfl) (by kernel_rfl) (by kernel_rfl) (fun _ _ _ h => h) (by kernel_rfl) (by (intro Y hSw; obtain ⟨X0, X1⟩ := hA Y hSw; go_simp)) (by assumption) ?_
              simp only [List.set_cons_zero, List.set_cons_succ]
              refine takeW 6 94 (.slice (some ⟨ba, oa, none⟩) OO.length kA) rfl rfl (by kernel_rfl) (by kernel_rfl) (by kernel_rfl) (fun _ _ _ h => h) (by kernel_rfl) (by (intro w hSw; go_simp)) (by assumption) ?_
              simp only [List.set_cons_zero, List.set_cons_succ]
              refine takeW 7 95 (.int .i64 (k : Int)) rfl rfl (by kernel_rfl) (by kernel_rfl) (by kernel_rfl) (fun _ _ _ h => h) (by kernel_rfl) (by (intro w hSw; go_simp)) (by assumption) ?_
              simp only [List.set_cons_zero, List.set_cons_succ]
              refine takeW 8 96 (.pointer (some ⟨ba, oa + k * 8, none⟩)) rfl rfl (by kernel_rfl) (by kernel_rfl) (by kernel_rfl) (fun _ _ _ h => h) (by kernel_rfl) (by (intro Y hSw; go_simp; try omega)) (by assumption) ?_
              simp only [List.set_cons_zero, List.set_cons_succ]
              refine takeW 9 97 (.pointer (some ⟨ba, oa + k * 8 + 7, none⟩)) rfl rfl (by kernel_rfl) (by kernel_rfl) (by kernel_rfl) (fun _ _ _ h => h) (by kernel_rfl) (by (intro w hSw; go_simp)) (by assumption) ?_
              simp only [List.set_cons_zero, List.set_cons_succ]
              refine takeW 10 98 (.bool o.on) rfl rfl (by kernel_rfl) (by kernel_rfl) (by kernel_rfl) (fun _ _ _ h => h) (by kernel_rfl) (by (intro Y hSw; obtain ⟨X0, X1⟩ := hA Y hSw; go_simp)) (by assumption) ?_
              simp only [List.set_cons_zero, List.set_cons_succ]
              refine takeW 11 99 (.pointer (some ⟨g, j, none⟩)) rfl rfl (by kernel_rfl) (by kernel_rfl) (by kernel_rfl) (fun _ _ _ h => h) (by kernel_rfl) (by (intro Y hSw; go_simp; try omega)) (by assumption) ?_
              simp only [List.set_cons_zero, List.set_cons_succ]
              have OG0 := OG.later hb0
              have hjG : j < (turnG (gatesR L) (OO.take k)).length := by rw [hGl.out]; exact hjl
              have OG1 := FOwn.setB (by rw [hGl.out]; exact OG0) hjG o.on
              rw [hGl.out] at OG1
              have vc := OG0.view.2.at_ boEnc_len false hjG 0 _ rfl
              have OGl : FOwn boEnc 1 4 wd10.heap.size u0 (.slice (some ⟨g, 0, none⟩) (turnG (gatesR L) (OO.take k)).length cG) (turnG (gatesR L) (OO.take k)) := by rw [hGl.out]; exact OG0
              have vf := OGl.frozen j
              clear OGl
              rw [Nat.zero_add, Nat.mul_one, Nat.add_zero] at vc
              refine wpAnyH_all (rs := [12]) (by kernel_rfl) (by simp) ?_
              intro i hi; obtain rfl : i = 12 := by simpa using hi
              refine wpOp_step rfl (fun Kz hKz => ?_)
              rw [if_pos (by kernel_rfl)]
              go_simp
              have hc1 : Below wd10.heap.size wr (u0.setCell ⟨g, j, none⟩ (.bool o.on)) := hc0.setCell (p := ⟨g, j, none⟩) lg.1 _
              refine hKz _ _ ⟨hc1, ?_⟩
              clear hKz Kz hi vc vf
              refine wpAnyH_done (by kernel_rfl) ?_ _
              have K2 := K.trans hc1
              go_wp2
              go_roundw
              case rel => exact ⟨k + 1, by omega, by go_num, by rw [hst2.out]; exact OG1, K2⟩
              case measure => simp [intOf]; omega
            · have d2 : (o.k == 2) = false := by simpa using h2
              have hst2 : Hid (turnG (gatesR L) (OO.take (k + 1)) = turnG (gatesR L) (OO.take k)) := by unfold Hid; rw [hst.out]; unfold applyG; rw [if_neg h2]
              clear hst hp h2
              go_wp2
              go_roundw
              case rel => exact ⟨k + 1, by omega, by go_num, by rw [hst2.out]; exact OG, K⟩
              case measure => simp [intOf]; omega
          · obtain rfl : k = OO.length := by omega
            rw [List.take_length] at OG hGl
            clear qA hlt hk hpo
            obtain ⟨G, hG⟩ : ∃ G, turnG (gatesR L) OO = G := ⟨_, rfl⟩
            rw [hG] at OG hGl
            have hgg : Hid (∀ j, j < L.length → G.getD j false = (D.getD j Pt.nil).op) := fun j hj => by rw [← hG]; exact hga.out j hj
            clear hG hga
            clear QA
            have swr := K.size
            have OB := OB.later K
            have AB := AB.below K AB.lt
            have OA := OA.later K
            have AA := AA.below K AA.lt
            have N1 := N1.below K N1.lt
            have BW := BW.trans (K.mono BW.size)
            clear K
            have iOG : ∀ g', (Value.slice (some ⟨g, 0, none⟩) L.length cG).ownBlock = some g' → wd10.heap.size ≤ g' ∧ g' < wr.heap.size := fun g' e => OG.lt g' e
            have cc := AA
            obtain ⟨m0_0, m0_1⟩ := cc
            go_wp2_with fail
            go_at_call 15
            clear m0_0 m0_1
            refine (gatesI12r id aA cA D wr OA.view.2 (by omega)).mono ?_
            rintro e wd12 ⟨aN, cN, rfl, ON, kq⟩
            have swd12 := kq.size
            have OB := OB.later kq
            have AB := AB.below kq AB.lt
            have OA := OA.later kq
            have AA := AA.below kq AA.lt
            have OG := OG.later kq
            have N1 := N1.below kq N1.lt
            have BW := BW.trans (kq.mono BW.size)
            clear kq
            obtain ⟨gn, rfl⟩ := ON.some_ (by rw [gatesR_len, hDe.out]; omega)
            have gv := OG.view.2
            have nv := ON.view.2
            go_wp2
            go_loopw [10, 14] (fun q i wr => ∃ k : Nat, k ≤ D.length ∧ i = .int .i64 (k : Int) ∧ q = .int .i64 (rcnt D k : Int) ∧ Below wd12.heap.size wd12 wr) (fun _ i _ => D.length - (intOf i).toNat)
            case atStart => exact ⟨0, Nat.zero_le _, rfl, rfl, Below.refl _ _⟩
            case round =>
              obtain ⟨k, hk, rfl, rfl, K⟩ := hrel
              have A2 := AA.below K AA.lt
              have cc := A2
              obtain ⟨a0, a1⟩ := cc
              have hrk := rcnt_le D k
              by_cases hlt : k < D.length
              · have hkL : k < L.length := by rw [← hDe.out]; exact hlt
                obtain ⟨h, hh⟩ : ∃ h, D.getD k Pt.nil = h := ⟨_, rfl⟩
                obtain ⟨bD, oD, rfl, _⟩ := OA.view.2 (by omega)
                have hck : PtAtO wr bD (oD + k * 11) h := by rw [← hh]; exact ptAtO_of ((OA.later K).view.2.at_ ptEnc_len Pt.nil hlt)
                have hgk : ∀ Y, Below wr.heap.size wr Y → Y.cell? ⟨g, k, none⟩ = some (.bool h.op) := fun Y hY => by
                  have := ((OG.later (K.trans (hY.mono K.size))).view.2).at_ boEnc_len false (by rw [hGl.out]; exact hkL) 0 _ rfl
                  rw [Nat.zero_add, Nat.mul_one, Nat.add_zero, hgg.out k hkL, hh] at this
                  exact this
                have hnk : ∀ Y, Below wr.heap.size wr Y → Y.cell? ⟨gn, k, none⟩ = some (.bool h.op) := fun Y hY => by
                  have := ((ON.later (K.trans (hY.mono K.size))).view.2).at_ boEnc_len false (by rw [gatesR_len]; exact hlt) 0 _ rfl
                  rw [Nat.zero_add, Nat.mul_one, Nat.add_zero, gatesR_at D hlt, hh] at this
                  exact this
                have hrs : rcnt D (k + 1) = rcnt D k + (if h.ro = 1 then 1 else 0) := by rw [← hh]; rfl
                clear hh
                replace hrs : Hid _ := hrs
                have rc8 := hck.c8
                clear hck
                by_cases h1 : h.ro = 1
                · have d1 : (h.ro == 1) = true := by simpa using h1
                  have hrs2 : Hid (rcnt D (k + 1) = rcnt D k + 1) := by unfold Hid; rw [hrs.out, if_pos h1]
                  replace h1 : Hid _ := h1
                  go_upto_region 30 with fail
                  clear rc8 a0 a1
                  refine wp_region_held (S := fun Y => Below wr.heap.size wr Y) (by kernel_rfl) ?_
                  change wpAnyH _ _ _ _ _ _ _ _ (World.drew _)
                  have hb0 : Below wr.heap.size wr wr.drew := (Below.refl _ _).drew
                  obtain ⟨u0, hy0⟩ : ∃ y_, y_ = wr.drew := ⟨_, rfl⟩
                  rw [← hy0] at hb0 ⊢
                  clear hy0
                  refine takeW 0 118 (.slice (some ⟨g, 0, none⟩) L.length cG) rfl rfl (by kernel_rfl) (by kernel_rfl) (by kernel_rfl) (fun _ _ _ h => h) (by kernel_rfl) (by (intro w hSw; go_simp)) (by assumption) ?_
                  simp only [List.set_cons_zero, List.set_cons_succ]
                  refine takeW 1 119 (.int .i64 (k : Int)) rfl rfl (by kernel_rfl) (by kernel_rfl) (by kernel_rfl) (fun _ _ _ h => h) (by kernel_rfl) (by (intro w hSw; go_simp)) (by assumption) ?_
                  simp only [List.set_cons_zero, List.set_cons_succ]
                  refine takeW 2 120 (.pointer (some ⟨g, k, none⟩)) rfl rfl (by kernel_rfl) (by kernel_rfl) (by kernel_rfl) (fun _ _ _ h => h) (by kernel_rfl) (by (intro Y hSw; go_simp; try omega)) (by assumption) ?_
                  simp only [List.set_cons_zero, List.set_cons_succ]
                  refine takeW 3 121 (.bool h.op) rfl rfl (by kernel_rfl) (by kernel_rfl) (by kernel_rfl) (fun _ _ _ h => h) (by kernel_rfl) (by (intro Y hSw; have X0 := hgk Y hSw; go_simp)) (by assumption) ?_
                  simp only [List.set_cons_zero, List.set_cons_succ]
                  refine takeW 4 122 (.slice (some ⟨gn, 0, none⟩) D.length cN) rfl rfl (by kernel_rfl) (by kernel_rfl) (by kernel_rfl) (fun _ _ _ h => h) (by kernel_rfl) (by (intro w hSw; go_simp)) (by assumption) ?_
                  simp only [List.set_cons_zero, List.set_cons_succ]
                  refine takeW 5 123 (.int .i64 (k : Int)) rfl rfl (by kernel_rfl) (by kernel_rfl) (by kernel_rfl) (fun _ _ _ h => h) (by kernel_rfl) (by (intro w hSw; go_simp)) (by assumption) ?_
                  simp only [List.set_cons_zero, List.set_cons_succ]
                  refine takeW 6 124 (.pointer (some ⟨gn, k, none⟩)) rfl rfl (by kernel_rfl) (by kernel_rfl) (by kernel_rfl) (fun _ _ _ h => h) (by kernel_rfl) (by (intro Y hSw; go_simp; try omega)) (by assumption) ?_
                  simp only [List.set_cons_zero, List.set_cons_succ]
                  refine takeW 7 125 (.bool h.op) rfl rfl (by kernel_rfl) (by kernel_rfl) (by kernel_rfl) (fun _ _ _ h => h) (by kernel_rfl) (by (intro Y hSw; have X0 := hnk Y hSw; go_simp)) (by assumption) ?_
                  simp only [List.set_cons_zero, List.set_cons_succ]
                  refine takeW 8 126 (.bool false) rfl rfl (by kernel_rfl) (by kernel_rfl) (by kernel_rfl) (fun _ _ _ h => h) (by kernel_rfl) (by (intro Y hSw; go_simp)) (by assumption) ?_
                  simp only [List.set_cons_zero, List.set_cons_succ]
                  refine wpAnyH_done (by kernel_rfl) ?_ _
                  have K2 := K.trans (hb0.mono K.size)
                  go_wp2
                  go_roundw
                  case rel => exact ⟨k + 1, by omega, by go_num, by rw [hrs2.out]; go_num, K2⟩
                  case measure => simp [intOf]; omega
                · have d1 : (h.ro == 1) = false := by simpa using h1
                  have hrs2 : Hid (rcnt D (k + 1) = rcnt D k) := by unfold Hid; rw [hrs.out, if_neg h1]; rfl
                  replace h1 : Hid _ := h1
                  go_upto_region 30 with fail
                  clear rc8 a0 a1
                  refine wp_region_held (S := fun Y => Below wr.heap.size wr Y) (by kernel_rfl) ?_
                  change wpAnyH _ _ _ _ _ _ _ _ (World.drew _)
                  have hb0 : Below wr.heap.size wr wr.drew := (Below.refl _ _).drew
                  obtain ⟨u0, hy0⟩ : ∃ y_, y_ = wr.drew := ⟨_, rfl⟩
                  rw [← hy0] at hb0 ⊢
                  clear hy0
                  refine takeW 0 118 (.slice (some ⟨g, 0, none⟩) L.length cG) rfl rfl (by kernel_rfl) (by kernel_rfl) (by kernel_rfl) (fun _ _ _ h => h) (by kernel_rfl) (by (intro w hSw; go_simp)) (by assumption) ?_
                  simp only [List.set_cons_zero, List.set_cons_succ]
                  refine takeW 1 119 (.int .i64 (k : Int)) rfl rfl (by kernel_rfl) (by kernel_rfl) (by kernel_rfl) (fun _ _ _ h => h) (by kernel_rfl) (by (intro w hSw; go_simp)) (by assumption) ?_
                  simp only [List.set_cons_zero, List.set_cons_succ]
                  refine takeW 2 120 (.pointer (some ⟨g, k, none⟩)) rfl rfl (by kernel_rfl) (by kernel_rfl) (by kernel_rfl) (fun _ _ _ h => h) (by kernel_rfl) (by (intro Y hSw; go_simp; try omega)) (by assumption) ?_
                  simp only [List.set_cons_zero, List.set_cons_succ]
                  refine takeW 3 121 (.bool h.op) rfl rfl (by kernel_rfl) (by kernel_rfl) (by kernel_rfl) (fun _ _ _ h => h) (by kernel_rfl) (by (intro Y hSw; have X0 := hgk Y hSw; go_simp)) (by assumption) ?_
                  simp only [List.set_cons_zero, List.set_cons_succ]
                  refine takeW 4 122 (.slice (some ⟨gn, 0, none⟩) D.length cN) rfl rfl (by kernel_rfl) (by kernel_rfl) (by kernel_rfl) (fun _ _ _ h => h) (by kernel_rfl) (by (intro w hSw; go_simp)) (by assumption) ?_
                  simp only [List.set_cons_zero, List.set_cons_succ]
                  refine takeW 5 123 (.int .i64 (k : Int)) rfl rfl (by kernel_rfl) (by kernel_rfl) (by kernel_rfl) (fun _ _ _ h => h) (by kernel_rfl) (by (intro w hSw; go_simp)) (by assumption) ?_
                  simp only [List.set_cons_zero, List.set_cons_succ]
                  refine takeW 6 124 (.pointer (some ⟨gn, k, none⟩)) rfl rfl (by kernel_rfl) (by kernel_rfl) (by kernel_rfl) (fun _ _ _ h => h) (by kernel_rfl) (by (intro Y hSw; go_simp; try omega)) (by assumption) ?_
                  simp only [List.set_cons_zero, List.set_cons_succ]
                  refine takeW 7 125 (.bool h.op) rfl rfl (by kernel_rfl) (by kernel_rfl) (by kernel_rfl) (fun _ _ _ h => h) (by kernel_rfl) (by (intro Y hSw; have X0 := hnk Y hSw; go_simp)) (by assumption) ?_
                  simp only [List.set_cons_zero, List.set_cons_succ]
                  refine takeW 8 126 (.bool false) rfl rfl (by kernel_rfl) (by kernel_rfl) (by kernel_rfl) (fun _ _ _ h => h) (by kernel_rfl) (by (intro Y hSw; go_simp)) (by assumption) ?_
                  simp only [List.set_cons_zero, List.set_cons_succ]
                  refine wpAnyH_done (by kernel_rfl) ?_ _
                  have K2 := K.trans (hb0.mono K.size)
                  go_wp2
                  go_roundw
                  case rel => exact ⟨k + 1, by omega, by go_num, by rw [hrs2.out], K2⟩
                  case measure => simp [intOf]; omega
              · obtain rfl : k = D.length := by omega
                clear hgg hGl gv nv OG ON hlt hk A2
                have swr := K.size
                have OB := OB.later K
                have AB := AB.below K AB.lt
                have OA := OA.later K
                have AA := AA.below K AA.lt
                have N1 := N1.below K N1.lt
                have BW := BW.trans (K.mono BW.size)
                clear K
                by_cases hr1 : rcnt D D.length ≤ 1
                · have d1 : decide ((rcnt D D.length : Int) ≤ 1) = true := decide_eq_true (by omega)
                  go_wp2
                  go_ret
                  exact ⟨rfl, BW⟩
                · have d1 : decide ((rcnt D D.length : Int) ≤ 1) = false := decide_eq_false (by omega)
                  have e1 : D = L := by
                    rcases hon.out with e | e
                    · exact e
                    · exact absurd (rcnt_once (fun i j hi hj => e i j (by rw [← hDe.out]; exact hi) (by rw [← hDe.out]; exact hj)) D.length (Nat.le_refl _)) hr1
                  rw [e1] at OA AA d1 hr1 a1 ⊢
                  clear e1
                  have cc := AA
                  obtain ⟨m0_0, m0_1⟩ := cc
                  have cc := AB
                  obtain ⟨m1_0, m1_1⟩ := cc
                  go_wp2_with fail
                  go_at_call 13
                  clear m0_0 m0_1 m1_0 m1_1
                  refine (brSame id aA a cA c L wr OA.view.2 OB.view.2 (by omega)).mono ?_
                  rintro e wd13 ⟨rfl, kq⟩
                  have swd13 := kq.size
                  have OB := OB.later kq
                  have AB := AB.below kq AB.lt
                  have OA := OA.later kq
                  have AA := AA.below kq AA.lt
                  have N1 := N1.below kq N1.lt
                  have BW := BW.trans (kq.mono BW.size)
                  clear kq
                  go_wp2
                  go_ret
                  exact ⟨rfl, BW⟩


set_option maxRecDepth 100000 in
theorem lifted (os : Os) (started : os.Started) (H : Type) (enc : TypeId × Value → H) :
    ReturnsInHanded {} Try.checked os 3 .any (Rows.fnBridgesSpec.pre6 enc Try.prog Try.f3 Rows.fnBridgesRow.domain false) (Rows.fnBridgesSpec.post enc Try.prog Try.f3 false true false false) := by
  refine returnsInHanded_of_change (C := Try.checked) own started (by kernel_rfl) Try.func3
    (ChangeSpec.witness6 (enc := enc) (C := Try.checked) false ⟨#[], #[.slice none 0 0], []⟩ 8 (by kernel_rfl) (by kernel_rfl) (by kernel_rfl) (by kernel_rfl)) ?_
  intro W base args ds gs before hval0 hW hcnd _
  have hval : ∀ (j : Nat) t v, Try.f3.params[j]? = some t → args[j]? = some v → Value.okWide Try.prog W .any base t v := hval0
  have hW' := hW
  obtain ⟨p, q, hA0, hV, rfl, hfz, hnd⟩ := hW
  have hA : DataW.TrodAll enc Try.prog W 0 (fun _ => true) true Try.f3.params.toList args.toList ds p := hA0
  rw [Try.params3] at hA hval
  obtain ⟨v0, vs0, d0, ds0, p0, q0, hargs, rfl, rfl, h0, r0⟩ := trodAll_cons hA
  obtain ⟨rfl, rfl, rfl⟩ := trodAll_nil r0
  obtain rfl : args = #[v0] := by cases args; simp_all
  obtain ⟨rfl, rfl⟩ := trodVars_none hV
  obtain ⟨ad0, len0, cap0, f0, rfl, I0⟩ := codeIn_open (hval 0 22 v0 rfl rfl) h0
  have lt0 : ∀ x ∈ p0, x.block < W.heap.size := by obtain ⟨m, hm⟩ := h0; exact DataW.trod_lt m _ _ _ hm
  clear hA0 hval0
  refine (walk ad0 len0 cap0 f0 W I0).mono fun e W' ⟨he, bel⟩ => ?_
  subst he
  exact ⟨_, rfl, _, _, _, [], _, [], hW', trodAll_mk1 (shut_bool Try.underlying4 _), (trodAll_cons_mk (Below.trod laidOut (by kernel_rfl) (of_decide_eq_true (by kernel_rfl)) h0 bel lt0) trodAll_mk0), rfl, bel.frame _, fun h => by cases h⟩

theorem over : Rows.fnBridgesRow.holds Try.pinned (OpenSpec.ofChange Rows.fnBridgesSpec) :=
  OpenClaim.holds_of_wide 3 Try.f3 rfl rfl rfl rfl rfl rfl rfl ⟨rfl, rfl, rfl, rfl, rfl⟩ rfl rfl rfl rfl rfl (by kernel_rfl) Try.func3 (by kernel_rfl)
    (of_decide_eq_true (by kernel_rfl)) (by unfold Func.isWrapper; first | (rw [if_pos (by decide +kernel)]; kernel_rfl) | (rw [if_neg (by decide +kernel)]; exact ⟨rfl, rfl⟩))
    (fun os started H enc _ => lifted os started H enc)

theorem proved : Rows.FnBridgesSaid := over
end Go.Proofs.Ytghmmcenjdbfgaa.fnBridges
namespace Go.Proofs.Ytghmmcenjdbfgaa
theorem bridges_holds : Rows.FnBridgesSaid := fnBridges.proved
#print axioms bridges_holds
end Go.Proofs.Ytghmmcenjdbfgaa
