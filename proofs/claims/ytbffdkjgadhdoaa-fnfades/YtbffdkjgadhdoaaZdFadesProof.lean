/- For every code the call of FnFades returns true: what is not claimed again at the drawn bridge is forgotten in three ticks, and then it leads itself. No condition. -/
import Derived.Test.YtbffdkjgadhdoaaRows
import Derived.Test.YtbffdkjgadhdoaaZd
import Derived.Test.YtbffdkjgadhdoaaCodeIn
import Derived.Deep.Cut
import Derived.WalkKit
import Derived.Below
import Derived.ChangeOld
import Derived.WalkSmall
import Derived.ProofKit
import Derived.OpenShut
import Derived.ShutString
import Derived.BigQuiet
namespace Go.Proofs.Ytbffdkjgadhdoaa.fnFades
open Go.ChangeShapes Go.WideShapes Go.ChangeAt Go.RowKit
set_option linter.unusedVariables false

theorem own : ownKnob Try.prog.godebug = none := by kernel_rfl
theorem laidOut : laidOutB Try.prog = true := by kernel_rfl

set_option maxHeartbeats 16000000 in
set_option maxRecDepth 100000 in
theorem walk (ad0 : Option Addr) (len0 cap0 : Nat) (f0 : Nat → Int) (w : World) (I0 : CodeIn w ad0 len0 f0) :
    Calls Try.prog 4 #[.slice ad0 len0 cap0] w fun e w' => e = .returned (.bool true) ∧ Below w.heap.size w w' := by
  obtain ⟨lm, hv, hB, hf⟩ := I0
  by_cases hbig : 1048576 < len0
  · have hbig' : (1048576 : Int) < (len0 : Int) := by omega
    go_enter Try.func4, Try.ntmps4
    go_wp2_with fail
    go_at_call 9
    refine (bigYes ad0 len0 cap0 w hbig').mono ?_
    rintro e w1 ⟨rfl, h1⟩
    rw [h1]
    clear h1 w1 hbig
    go_wp2
    go_ret
    exact ⟨rfl, Below.refl _ _⟩
  have hC : Code0 w ad0 len0 f0 := ⟨hv, hB, by omega, hf⟩
  go_enter Try.func4, Try.ntmps4
  go_wp2_with fail
  go_at_call 9
  refine (bigNo ad0 len0 cap0 w (by omega)).mono ?_
  rintro e w1 ⟨rfl, h1⟩
  rw [h1]
  clear h1 w1 hbig hv hB hf lm
  have BW : Below w.heap.size w w := Below.refl _ _
  have sw := BW.size
  go_wp2_with fail
  go_at_call 15
  refine (drawHo ad0 len0 cap0 f0 w (hC.later BW (Nat.le_refl _))).mono ?_
  rintro e wd1 ⟨id, a, c, L, rfl, hL, OB, kq⟩
  have swd1 := kq.size
  have BW := BW.trans (kq.mono BW.size)
  clear kq
  have iOB : ∀ g, (Value.slice a L.length c).ownBlock = some g → w.heap.size ≤ g ∧ g < wd1.heap.size := fun g e => OB.lt g e
  obtain ⟨wd2, hwd2⟩ : ∃ y_, y_ = wd1.alloc (Obj.cells #[.int .i64 id, .slice a L.length c] 26) := ⟨_, rfl⟩
  have AB : BBox wd2 wd1.heap.size id (.slice a L.length c) := by rw [hwd2]; exact BBox.new wd1 _ _ _
  have kq : Below wd1.heap.size wd1 wd2 := by rw [hwd2]; exact below_new _
  have lwd2 := AB.lt
  have swd2 := kq.size
  have OB := OB.later kq
  have BW := BW.trans (kq.mono BW.size)
  clear kq
  go_upto_region 4 with fail
  rw [← hwd2]
  clear hwd2
  have cc := AB
  obtain ⟨⟨m0, m1⟩, mf⟩ := cc
  go_wp2_with fail
  go_at_call 23
  clear m0 m1 mf
  refine (bOkI id a c L wd2 OB.view.2 (by omega)).mono ?_
  rintro e wd3 ⟨rfl, kq⟩
  have swd3 := kq.size
  have OB := OB.later kq
  have AB := AB.below kq AB.lt
  have BW := BW.trans (kq.mono BW.size)
  clear kq
  cases hok : bOk id L with
  | false =>
    go_upto_region 5 with fail
    refine wp_region_held (S := fun Y => Below wd3.heap.size wd3 Y) (by kernel_rfl) ?_
    change wpAnyH _ _ _ _ _ _ _ _ (World.drew _)
    have hb0 : Below wd3.heap.size wd3 wd3.drew := (Below.refl _ _).drew
    obtain ⟨u0, hy0⟩ : ∃ y_, y_ = wd3.drew := ⟨_, rfl⟩
    rw [← hy0] at hb0 ⊢
    clear hy0
    refine takeW 0 15 (.agg #[.int .i64 id, .slice a L.length c]) rfl rfl (by kernel_rfl) (by kernel_rfl) (by kernel_rfl) (fun _ _ _ h => h) (by kernel_rfl) (by (intro Y hSw; obtain ⟨⟨X0, X1⟩, _⟩ := AB.below hSw AB.lt; go_simp)) (by assumption) ?_
    simp only [List.set_cons_zero, List.set_cons_succ]
    refine takeW 2 17 (.agg #[.int .i64 id, .slice a L.length c]) rfl rfl (by kernel_rfl) (by kernel_rfl) (by kernel_rfl) (fun _ _ _ h => h) (by kernel_rfl) (by (intro Y hSw; obtain ⟨⟨X0, X1⟩, _⟩ := AB.below hSw AB.lt; go_simp)) (by assumption) ?_
    simp only [List.set_cons_zero, List.set_cons_succ]
    refine wpAnyH_all (rs := [1]) (by kernel_rfl) (by simp) ?_
    intro i hi; obtain rfl : i = 1 := by simpa using hi
    refine wpOp_step rfl (fun K hK => ?_)
    rw [if_pos (by kernel_rfl)]
    go_simp
    go_at_call 23
    refine (bOkI id a c L u0 (OB.later hb0).view.2 (by omega)).mono ?_
    rintro e u1 ⟨rfl, kq⟩
    have hb1 : Below wd3.heap.size wd3 u1 := hb0.trans (kq.mono hb0.size)
    clear kq
    rw [hok]
    refine hK _ _ ⟨hb1, ?_⟩
    clear hK K hi
    refine wpAnyH_all (rs := [3]) (by kernel_rfl) (by simp) ?_
    intro i hi; obtain rfl : i = 3 := by simpa using hi
    refine wpOp_step rfl (fun K hK => ?_)
    rw [if_pos (by kernel_rfl)]
    go_simp
    go_at_call 24
    refine (bOkS id a c L u1 (OB.later hb1).view.2 (by omega)).mono ?_
    rintro e u2 ⟨rfl, kq⟩
    have hb2 : Below wd3.heap.size wd3 u2 := hb1.trans (kq.mono hb1.size)
    clear kq
    rw [hok]
    refine hK _ _ ⟨hb2, ?_⟩
    clear hK K hi
    refine takeW 4 19 (.bool true) rfl rfl (by kernel_rfl) (by kernel_rfl) (by kernel_rfl) (fun _ _ _ h => h) (by kernel_rfl) (by (intro w hSw; go_simp)) (by assumption) ?_
    simp only [List.set_cons_zero, List.set_cons_succ]
    refine takeW 5 2 (.bool true) rfl rfl (by kernel_rfl) (by kernel_rfl) (by kernel_rfl) (fun _ _ _ h => h) (by kernel_rfl) (by (intro w hSw; go_simp)) (by assumption) ?_
    simp only [List.set_cons_zero, List.set_cons_succ]
    refine wpAnyH_done (by kernel_rfl) ?_ _
    have BW := BW.trans (hb2.mono BW.size)
    go_wp2
    go_ret
    exact ⟨rfl, BW⟩
  | true =>
    obtain ⟨P, hP⟩ : ∃ P, P = wd1.heap.size := ⟨_, rfl⟩
    rw [← hP] at AB ⊢
    have hPw : w.heap.size ≤ P := by omega
    have jB : ∀ g_, (Value.slice a L.length c).ownBlock = some g_ → g_ ≠ P := fun g_ e => by have := iOB g_ e; omega
    have oB : FOwn ptEnc 11 41 w.heap.size wd3 (.slice a L.length c) L := OB
    clear hP OB iOB
    replace hok : Hid _ := hok
    have hL6 := hL.2
    go_wp2
    go_loopw [4] (fun i wr => ∃ k : Nat, k ≤ 3 ∧ i = .int .i64 (k : Int) ∧ (∃ a c L5, Hid (L5 = itT id L k) ∧ BBox wr P id (.slice a (List.length L5) c) ∧ FOwn ptEnc 11 41 w.heap.size wr (.slice a (List.length L5) c) L5 ∧ (∀ g_, (Value.slice a (List.length L5) c).ownBlock = some g_ → g_ ≠ P)) ∧ Below w.heap.size w wr) (fun i _ => 3 - (intOf i).toNat)
    case atStart => exact ⟨0, Nat.zero_le _, rfl, ⟨a, c, L, rfl, AB, oB, jB⟩, BW⟩
    case round =>
      clear AB oB jB BW
      obtain ⟨k, hk, rfl, ⟨a, c, L5, hL5, AB, oB, jB⟩, B5⟩ := hrel
      have hl5 : L5.length ≤ 6 := by rw [hL5.out, itT_len]; exact hL6
      have hok5 : Hid (bOk id L5 = true) := by unfold Hid; rw [hL5.out]; exact itT_ok hok.out k
      by_cases hlt : k < 3
      · have dl : decide ((k : Int) < 3) = true := decide_eq_true (by omega)
        go_upto_region 9 with fail
        have cc_ := AB
        obtain ⟨⟨q0_, q1_⟩, qf_⟩ := cc_
        have hcR := reactI id a c L5 ⟨2, 0, 0, 0, 0, 0, 0, false⟩ wr oB.view.2 (by omega) oB.capn
        rw [react_tick hok5.out] at hcR
        go_wp2_with fail
        go_at_call 26
        clear q0_ q1_ qf_
        refine hcR.mono ?_
        rintro e v6 ⟨a2, c2, ao, co, rfl, o2, oo_, dd_, k6⟩
        clear hcR
        have jx : P < wr.heap.size := AB.lt
        have Q6 := AB.below k6 AB.lt
        have z6 := k6.size
        have B6 := B5.trans (k6.mono B5.size)
        have j2 : ∀ g_, (Value.slice a2 (tickR id L5).length c2).ownBlock = some g_ → g_ ≠ P := fun g_ e => by have := (o2.lt g_ e).1; omega
        have hl2 : Hid ((tickR id L5).length = L5.length) := tickR_len id L5
        obtain ⟨L2, hL2⟩ : ∃ L2, tickR id L5 = L2 := ⟨_, rfl⟩
        rw [hL2] at o2 j2 hl2 ⊢
        replace hL2 : Hid _ := hL2
        generalize reactO id L5 ⟨2, 0, 0, 0, 0, 0, 0, false⟩ = O2_
        have o2 : FOwn ptEnc 11 41 w.heap.size v6 (.slice a2 L2.length c2) L2 := o2.base (by omega)
        clear oo_ dd_ k6
        have QP := Q6.put id (.slice a2 L2.length c2)
        have BP := (B6.setCell (p := ⟨P, 0, none⟩) (by show _ ≤ P; omega) (.int .i64 id)).setCell (p := ⟨P, 1, none⟩) (by show _ ≤ P; omega) (.slice a2 L2.length c2)
        have OP : FOwn ptEnc 11 41 w.heap.size ((v6.setCell ⟨P, 0, none⟩ (.int .i64 id)).setCell ⟨P, 1, none⟩ (.slice a2 L2.length c2)) (.slice a2 L2.length c2) L2 := o2.keep fun g_ e => by
          rw [Below.heap_setCell _ _ _ _ (by show g_ ≠ P; exact j2 g_ e), Below.heap_setCell _ _ _ _ (by show g_ ≠ P; exact j2 g_ e)]
        obtain ⟨⟨q0_, q1_⟩, qf_⟩ := Q6
        have hL6' : Hid (L2 = itT id L (k + 1)) := by unfold Hid; rw [← hL2.out, itT, ← hL5.out]
        go_wp2
        go_roundw
        case rel => exact ⟨k + 1, by omega, by go_num, ⟨a2, c2, L2, hL6', QP, OP, j2⟩, BP⟩
        case measure => simp [intOf]; omega
      · obtain rfl : k = 3 := by omega
        have hgone : ∀ i, i < L5.length → (L5.getD i Pt.nil).has = false := by
          intro i hi_
          rw [hL5.out] at hi_ ⊢
          rw [itT_len] at hi_
          exact gone3 hok.out i hi_
        have hroot := root_none (id := id) hgone
        have hown := own_none hok5.out hroot
        have hn1 := (bOk_all hok5.out).2.1
        replace hroot : Hid _ := hroot
        replace hown : Hid _ := hown
        clear hL5
        go_upto_region 10 with fail
        have ca_ := AB
        obtain ⟨⟨b0, b1⟩, bf⟩ := ca_
        go_wp2
        go_loop [5] (fun i => ∃ k : Nat, k ≤ L5.length ∧ i = .int .i64 (k : Int)) (fun i => L5.length - (intOf i).toNat)
        case atStart => exact ⟨0, Nat.zero_le _, rfl⟩
        case round =>
          obtain ⟨k, hk, rfl⟩ := hrel
          by_cases hlt : k < L5.length
          · obtain ⟨bk, off, rfl, _⟩ := oB.view.2 (by omega)
            obtain ⟨hp, hhp⟩ : ∃ v, L5.getD k Pt.nil = v := ⟨_, rfl⟩
            have hhas : hp.has = false := by rw [← hhp]; exact hgone k hlt
            obtain ⟨c0, c1, c2, c3, c4, c5, c6, c7, c8, c9, c10⟩ : PtAtO wr bk (off + k * 11) hp := by rw [← hhp]; exact ptAtO_of (oB.view.2.at_ ptEnc_len Pt.nil hlt)
            rw [hhas] at c1
            clear hhp
            go_wp2
            go_round
            case rel => exact ⟨k + 1, by omega, by go_num⟩
            case measure => simp [intOf]; omega
          · obtain rfl : k = L5.length := by omega
            go_upto_region 15 with fail
            go_wp2_with fail
            go_at_call 11
            refine (rootPI id a c L5 wr oB.view.2 (by omega)).mono ?_
            rintro e v1 ⟨rfl, kq⟩
            rw [hroot.out]
            have A1 := AB.below kq AB.lt
            have o1 := oB.later kq
            have B1 := B5.trans (kq.mono B5.size)
            clear kq b0 b1 bf
            simp only [oI, Option.isSome]
            go_upto_region 16 with fail
            have hfld : ∀ (v1_ v2_ v3_ v4_ : Int) (w_ : World), (Instr.field 34 (.agg #[.int .i64 v1_, .int .i64 v2_, .int .i64 v3_, .int .i64 v4_]) 0).run Try.prog w_ = .ok (.int .i64 v1_) w_ := fun _ _ _ _ _ => by kernel_rfl
            refine wp_region_held (S := fun Y => Below v1.heap.size v1 Y) (by kernel_rfl) ?_
            change wpAnyH _ _ _ _ _ _ _ _ (World.drew _)
            have hb0 : Below v1.heap.size v1 v1.drew := (Below.refl _ _).drew
            obtain ⟨u0, hy0⟩ : ∃ y_, y_ = v1.drew := ⟨_, rfl⟩
            rw [← hy0] at hb0 ⊢
            clear hy0
            refine takeW 0 48 (.bool false) rfl rfl (by kernel_rfl) (by kernel_rfl) (by kernel_rfl) (fun _ _ _ h => h) (by kernel_rfl) (by (intro w hSw; go_simp)) (by assumption) ?_
            simp only [List.set_cons_zero, List.set_cons_succ]
            refine takeW 1 49 (.bool true) rfl rfl (by kernel_rfl) (by kernel_rfl) (by kernel_rfl) (fun _ _ _ h => h) (by kernel_rfl) (by (intro w hSw; go_simp)) (by assumption) ?_
            simp only [List.set_cons_zero, List.set_cons_succ]
            refine takeW 2 50 (.bool true) rfl rfl (by kernel_rfl) (by kernel_rfl) (by kernel_rfl) (fun _ _ _ h => h) (by kernel_rfl) (by (intro w hSw; go_simp)) (by assumption) ?_
            simp only [List.set_cons_zero, List.set_cons_succ]
            refine takeW 3 51 (.agg #[.int .i64 id, .slice a L5.length c]) rfl rfl (by kernel_rfl) (by kernel_rfl) (by kernel_rfl) (fun _ _ _ h => h) (by kernel_rfl) (by (intro Y hSw; obtain ⟨⟨X0, X1⟩, _⟩ := A1.below hSw A1.lt; go_simp)) (by assumption) ?_
            simp only [List.set_cons_zero, List.set_cons_succ]
            refine takeW 6 54 (.pointer (some ⟨P, 0, none⟩)) rfl rfl (by kernel_rfl) (by kernel_rfl) (by kernel_rfl) (fun _ _ _ h => h) (by kernel_rfl) (by (intro w hSw; go_simp)) (by assumption) ?_
            simp only [List.set_cons_zero, List.set_cons_succ]
            refine takeW 7 55 (.int .i64 id) rfl rfl (by kernel_rfl) (by kernel_rfl) (by kernel_rfl) (fun _ _ _ h => h) (by kernel_rfl) (by (intro Y hSw; obtain ⟨⟨X0, X1⟩, _⟩ := A1.below hSw A1.lt; go_simp)) (by assumption) ?_
            simp only [List.set_cons_zero, List.set_cons_succ]
            refine wpAnyH_all (rs := [4]) (by kernel_rfl) (by simp) ?_
            intro i hi; obtain rfl : i = 4 := by simpa using hi
            refine wpOp_step rfl (fun K hK => ?_)
            rw [if_pos (by kernel_rfl)]
            go_simp
            go_at_call 17
            refine (ownI id a c L5 0 u0 (o1.later hb0).view.2 (by omega)).mono ?_
            rintro e u1 ⟨rfl, kq⟩
            have hb1 : Below v1.heap.size v1 u1 := hb0.trans (kq.mono hb0.size)
            clear kq
            rw [hown.out]
            refine hK _ _ ⟨hb1, ?_⟩
            clear hK K hi
            refine takeW 5 53 (.int .i64 id) rfl rfl (by kernel_rfl) (by kernel_rfl) (by kernel_rfl) (fun _ _ _ h => h) (by kernel_rfl) (by (intro w hSw; go_simp)) (by assumption) ?_
            simp only [List.set_cons_zero, List.set_cons_succ]
            refine takeW 8 56 (.bool true) rfl rfl (by kernel_rfl) (by kernel_rfl) (by kernel_rfl) (fun _ _ _ h => h) (by kernel_rfl) (by (intro w hSw; go_simp)) (by assumption) ?_
            simp only [List.set_cons_zero, List.set_cons_succ]
            refine takeW 9 57 (.bool true) rfl rfl (by kernel_rfl) (by kernel_rfl) (by kernel_rfl) (fun _ _ _ h => h) (by kernel_rfl) (by (intro w hSw; go_simp)) (by assumption) ?_
            simp only [List.set_cons_zero, List.set_cons_succ]
            refine takeW 10 2 (.bool true) rfl rfl (by kernel_rfl) (by kernel_rfl) (by kernel_rfl) (fun _ _ _ h => h) (by kernel_rfl) (by (intro w hSw; go_simp)) (by assumption) ?_
            simp only [List.set_cons_zero, List.set_cons_succ]
            refine wpAnyH_done (by kernel_rfl) ?_ _
            have BZ := B1.trans (hb1.mono B1.size)
            go_wp2
            go_ret
            exact ⟨rfl, BZ⟩


set_option maxRecDepth 100000 in
theorem lifted (os : Os) (started : os.Started) (H : Type) (enc : TypeId × Value → H) :
    ReturnsInHanded {} Try.checked os 4 .any (Rows.fnFadesSpec.pre6 enc Try.prog Try.f4 Rows.fnFadesRow.domain false) (Rows.fnFadesSpec.post enc Try.prog Try.f4 false true false false) := by
  refine returnsInHanded_of_change (C := Try.checked) own started (by kernel_rfl) Try.func4
    (ChangeSpec.witness6 (enc := enc) (C := Try.checked) false ⟨#[], #[.slice none 0 0], []⟩ 8 (by kernel_rfl) (by kernel_rfl) (by kernel_rfl) (by kernel_rfl)) ?_
  intro W base args ds gs before hval0 hW hcnd _
  have hval : ∀ (j : Nat) t v, Try.f4.params[j]? = some t → args[j]? = some v → Value.okWide Try.prog W .any base t v := hval0
  have hW' := hW
  obtain ⟨p, q, hA0, hV, rfl, hfz, hnd⟩ := hW
  have hA : DataW.TrodAll enc Try.prog W 0 (fun _ => true) true Try.f4.params.toList args.toList ds p := hA0
  rw [Try.params4] at hA hval
  obtain ⟨v0, vs0, d0, ds0, p0, q0, hargs, rfl, rfl, h0, r0⟩ := trodAll_cons hA
  obtain ⟨rfl, rfl, rfl⟩ := trodAll_nil r0
  obtain rfl : args = #[v0] := by cases args; simp_all
  obtain ⟨rfl, rfl⟩ := trodVars_none hV
  obtain ⟨ad0, len0, cap0, f0, rfl, I0⟩ := codeIn_open (hval 0 22 v0 rfl rfl) h0
  have lt0 : ∀ x ∈ p0, x.block < W.heap.size := by obtain ⟨m, hm⟩ := h0; exact DataW.trod_lt m _ _ _ hm
  clear hA0 hval0
  refine (walk ad0 len0 cap0 f0 W I0).mono fun e W' ⟨he, bel⟩ => ?_
  subst he
  exact ⟨_, rfl, _, _, _, [], _, [], hW', trodAll_mk1 (shut_bool Try.underlying4 _), (trodAll_cons_mk (Below.trod laidOut (by kernel_rfl) (of_decide_eq_true (by kernel_rfl)) h0 bel lt0) trodAll_mk0), rfl, bel.frame _, fun h => by cases h⟩

theorem over : Rows.fnFadesRow.holds Try.pinned (OpenSpec.ofChange Rows.fnFadesSpec) :=
  OpenClaim.holds_of_wide 4 Try.f4 rfl rfl rfl rfl rfl rfl rfl ⟨rfl, rfl, rfl, rfl, rfl⟩ rfl rfl rfl rfl rfl (by kernel_rfl) Try.func4 (by kernel_rfl)
    (of_decide_eq_true (by kernel_rfl)) (by unfold Func.isWrapper; first | (rw [if_pos (by decide +kernel)]; kernel_rfl) | (rw [if_neg (by decide +kernel)]; exact ⟨rfl, rfl⟩))
    (fun os started H enc _ => lifted os started H enc)

theorem proved : Rows.FnFadesSaid := over
end Go.Proofs.Ytbffdkjgadhdoaa.fnFades
namespace Go.Proofs.Ytbffdkjgadhdoaa
theorem fades_holds : Rows.FnFadesSaid := fnFades.proved
#print axioms fades_holds
end Go.Proofs.Ytbffdkjgadhdoaa
