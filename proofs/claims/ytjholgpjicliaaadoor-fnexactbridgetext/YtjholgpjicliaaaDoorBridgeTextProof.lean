/- FnExactBridgeText, proved: at every bridge the program's BridgeText answers as the specification's, and no argument is written into; the table uint64pow10 holds what its text lays (the card ties it, over the pruned copy of the project). -/
import Derived.Test.YtjholgpjicliaaaDoorRows
import Derived.Test.YtjholgpjicliaaaDoorTie
import Derived.Test.YtjholgpjicliaaaDoorCards
import Derived.SevenTiedAt
import Derived.LaidMore
import Derived.LaidHandle
import Derived.LaidLaws
import Derived.Stop.Joined
import Derived.Stop.LaidErr
import Derived.Lay
import Derived.Shelf.Vars
import Derived.Lib.SmallJoins
import Derived.Test.YtjholgpjicliaaaDoorSh4
import Derived.Deep.Cut
import Derived.WalkKit
import Derived.Below
import Derived.ChangeOld
import Derived.WalkSmall
import Derived.ProofKit
import Derived.OpenShut
import Derived.ShutString
import Derived.BigQuiet
namespace Go.Proofs.YtjholgpjicliaaaDoor.fnExactBridgeText
open Go.ChangeShapes Go.WideShapes Go.ChangeAt Go.RowKit
set_option linter.unusedVariables false

theorem own : ownKnob Tryd.prog.godebug = none := by kernel_rfl
theorem laidOut : laidOutB Tryd.prog = true := by kernel_rfl

set_option maxHeartbeats 16000000 in
set_option maxRecDepth 100000 in
theorem walk (id0 : Int) (ad0 : Option Addr) (cap0 : Nat) (L0 : List Pt) (w : World) (I0 : (Lit.int .i64 id0).wf = true ∧ BrwIn w ad0 cap0 L0) (htab : TabOk w) :
    Calls Tryd.prog 6 #[.agg #[.int .i64 id0, .slice ad0 L0.length cap0]] w fun e w' => e = .returned (.bool true) ∧ Below w.heap.size w w' := by
  obtain ⟨hwf, hlm, V0, hn0, hws⟩ := I0
  have hid : I64 id0 := bounds_i64 hwf
  obtain ⟨x0, hx⟩ : ∃ y_, y_ = w.alloc (Obj.cells #[.int .i64 id0, .slice ad0 L0.length cap0] 48) := ⟨_, rfl⟩
  have A0 : BrAt x0 w.heap.size id0 (.slice ad0 L0.length cap0) := by rw [hx]; exact BrAt.new w _ _ _
  have BW : Below w.heap.size w x0 := by rw [hx]; exact below_new _
  have lx0 := A0.lt
  have vb : ∀ a, ad0 = some a → 0 < L0.length → a.block < w.heap.size := V0.lt ptEnc_len (by omega)
  have V0 := V0.below BW vb
  go_enter Tryd.func6, Tryd.ntmps6
  go_wp2_with fail
  go_at_call 16
  rw [← hx]
  clear hx
  refine (brSz id0 ad0 L0.length cap0 1048576 x0 (by decide) (by decide) hlm).mono ?_
  rintro e y1 ⟨rfl, kq⟩
  have sy1 := kq.size
  have A0 := A0.below kq A0.lt
  have V0 := V0.below kq (V0.lt ptEnc_len (by omega))
  have BW := BW.trans (kq.mono BW.size)
  clear kq
  by_cases hl : L0.length ≤ 1048576
  rotate_left
  · rw [if_neg (by omega)]
    go_wp2
    go_ret
    exact ⟨rfl, BW⟩
  rw [if_pos (by omega)]
  have hlf : 0 ≤ 1048576 - (L0.length : Int) := by omega
  generalize 1048576 - (L0.length : Int) = lf at hlf ⊢
  have cc := A0
  obtain ⟨m0_0, m0_1⟩ := cc
  go_wp2_with fail
  go_at_call 18
  clear m0_0 m0_1
  refine (brTo id0 ad0 cap0 L0 y1 V0 hl).mono ?_
  rintro e wd1 ⟨gO1, rfl, _, _, O1, kq⟩
  have swd1 := kq.size
  have A0 := A0.below kq A0.lt
  have V0 := V0.below kq (V0.lt ptEnc_len (by omega))
  have BW := BW.trans (kq.mono BW.size)
  clear kq
  have iO1 : ∀ g, (Value.slice (some ⟨gO1, 0, none⟩) L0.length L0.length).ownBlock = some g → y1.heap.size ≤ g ∧ g < wd1.heap.size := fun g e => O1.lt g e
  go_wp2_with fail
  go_at_call 17
  refine (brTS id0 (some ⟨gO1, 0, none⟩) L0.length L0 wd1 hid O1.view.2 hws hl).mono ?_
  rintro e wd2 ⟨rfl, kq⟩
  have swd2 := kq.size
  have A0 := A0.below kq A0.lt
  have V0 := V0.below kq (V0.lt ptEnc_len (by omega))
  have BW := BW.trans (kq.mono BW.size)
  clear kq
  have cc := A0
  obtain ⟨m0_0, m0_1⟩ := cc
  go_wp2_with fail
  go_at_call 18
  clear m0_0 m0_1
  refine (brTo id0 ad0 cap0 L0 wd2 V0 hl).mono ?_
  rintro e wd3 ⟨gOX, rfl, _, _, OX, kq⟩
  have swd3 := kq.size
  have A0 := A0.below kq A0.lt
  have V0 := V0.below kq (V0.lt ptEnc_len (by omega))
  have BW := BW.trans (kq.mono BW.size)
  clear kq
  have iOX : ∀ g, (Value.slice (some ⟨gOX, 0, none⟩) L0.length L0.length).ownBlock = some g → wd2.heap.size ≤ g ∧ g < wd3.heap.size := fun g e => OX.lt g e
  obtain ⟨wd4, hwd4⟩ : ∃ y_, y_ = wd3.alloc (Obj.cells #[.int .i64 id0, .slice (some ⟨gOX, 0, none⟩) L0.length L0.length] 53) := ⟨_, rfl⟩
  have AX : BrAt wd4 wd3.heap.size id0 (.slice (some ⟨gOX, 0, none⟩) L0.length L0.length) := by rw [hwd4]; exact BrAt.new wd3 _ _ _
  have kq : Below wd3.heap.size wd3 wd4 := by rw [hwd4]; exact below_new _
  have lwd4 := AX.lt
  have swd4 := kq.size
  have A0 := A0.below kq A0.lt
  have V0 := V0.below kq (V0.lt ptEnc_len (by omega))
  have OX := OX.later kq
  have BW := BW.trans (kq.mono BW.size)
  clear kq
  go_upto_region 7 with fail
  rw [← hwd4]
  clear hwd4
  have cc := AX
  obtain ⟨m0_0, m0_1⟩ := cc
  go_wp2_with fail
  go_at_call 19
  clear m0_0 m0_1
  refine (brTI id0 (some ⟨gOX, 0, none⟩) L0.length L0 wd4 hid OX.view.2 hws hl (tab_later htab BW)).mono ?_
  rintro e wd5 ⟨rfl, kq⟩
  have swd5 := kq.size
  have A0 := A0.below kq A0.lt
  have V0 := V0.below kq (V0.lt ptEnc_len (by omega))
  have OX := OX.later kq
  have AX := AX.below kq AX.lt
  have BW := BW.trans (kq.mono BW.size)
  clear kq
  clear htab
  generalize brT id0 L0 = o
  go_upto_region 10 with fail
  refine wp_region_held (S := fun Y => Below wd5.heap.size wd5 Y) (by kernel_rfl) ?_
  change wpAnyH _ _ _ _ _ _ _ _ (World.drew _)
  have hb0 : Below wd5.heap.size wd5 wd5.drew := (Below.refl _ _).drew
  obtain ⟨u0, hy0⟩ : ∃ y_, y_ = wd5.drew := ⟨_, rfl⟩
  rw [← hy0] at hb0 ⊢
  clear hy0
  refine takeW 0 22 (.agg #[.int .i64 id0, .slice (some ⟨gOX, 0, none⟩) L0.length L0.length]) rfl rfl (by kernel_rfl) (by kernel_rfl) (by kernel_rfl) (fun _ _ _ h => h) (by kernel_rfl) (by (intro Y hSw; obtain ⟨X0, X1⟩ := AX.below hSw AX.lt; go_simp)) (by assumption) ?_
  simp only [List.set_cons_zero, List.set_cons_succ]
  refine takeW 1 23 (.agg #[.int .i64 id0, .slice ad0 L0.length cap0]) rfl rfl (by kernel_rfl) (by kernel_rfl) (by kernel_rfl) (fun _ _ _ h => h) (by kernel_rfl) (by (intro Y hSw; obtain ⟨X0, X1⟩ := A0.below hSw A0.lt; go_simp)) (by assumption) ?_
  simp only [List.set_cons_zero, List.set_cons_succ]
  refine wpAnyH_all (rs := [2]) (by kernel_rfl) (by simp) ?_
  intro i hi; obtain rfl : i = 2 := by simpa using hi
  refine wpOp_step rfl (fun Kz hKz => ?_)
  rw [if_pos (by kernel_rfl)]
  go_simp
  go_at_call 18
  refine (brTo id0 ad0 cap0 L0 u0 (V0.below hb0 (V0.lt ptEnc_len (by omega))) hl).mono ?_
  rintro e u1 ⟨gz, rfl, _, _, oz, kq⟩
  have hb1 : Below wd5.heap.size wd5 u1 := hb0.trans (kq.mono hb0.size)
  clear kq
  refine hKz _ _ ⟨hb1, ?_⟩
  clear hKz Kz hi
  refine wpAnyH_all (rs := [3]) (by kernel_rfl) (by simp) ?_
  intro i hi; obtain rfl : i = 3 := by simpa using hi
  refine wpOp_step rfl (fun Kz hKz => ?_)
  rw [if_pos (by kernel_rfl)]
  go_simp
  go_at_call 20
  refine (brEq id0 (some ⟨gOX, 0, none⟩) (some ⟨gz, 0, none⟩) L0.length L0.length L0 u1 (OX.later hb1).view.2 oz.view.2 hl).mono ?_
  rintro e u2 ⟨rfl, kq⟩
  have hb2 : Below wd5.heap.size wd5 u2 := hb1.trans (kq.mono hb1.size)
  clear kq oz
  refine hKz _ _ ⟨hb2, ?_⟩
  clear hKz Kz hi
  refine takeW 4 26 (.bool false) rfl rfl (by kernel_rfl) (by kernel_rfl) (by kernel_rfl) (fun _ _ _ h => h) (by kernel_rfl) (by (intro w hSw; go_simp)) (by assumption) ?_
  simp only [List.set_cons_zero, List.set_cons_succ]
  refine wpAnyH_done (by kernel_rfl) ?_ _
  have su2 := hb2.size
  have A0 := A0.below hb2 A0.lt
  have V0 := V0.below hb2 (V0.lt ptEnc_len (by omega))
  have OX := OX.later hb2
  have AX := AX.below hb2 AX.lt
  have BW := BW.trans (hb2.mono BW.size)
  clear hb2
  clear hb0 hb1
  go_wp2
  go_ret
  exact ⟨rfl, BW⟩


theorem door_met (os : Os) (args : Array Value) : laidMetH Tryd.prog Rows.fnExactBridgeTextRow.laid ((World.doorLaid Tryd.prog 24 os).forCall (fun _ _ => 0) ⟨#[], args, []⟩).memory :=
  laidMetH_of_parts3 (fuel := 8) (laidMet_of_run' 8 (by kernel_rfl) (by kernel_rfl)) (by kernel_rfl) (by kernel_rfl)
theorem tab_of_laid {W : World} (h : laidMetH Tryd.prog Rows.fnExactBridgeTextRow.laid W) : TabOk W := by
  rw [MakeChecks.laidMetH_plain _ _ _ (by kernel_rfl)] at h
  have h3 := laidMet.tail (laidMet.tail (h))
  exact Lib.tabIs_of_head (zs := Lib.pow10Tab) gTab (t := 105) (by kernel_rfl) Tryd.underlying105 Tryd.underlying99 (by kernel_rfl) (by kernel_rfl) h3
set_option maxRecDepth 100000 in
theorem lifted (os : Os) (started : os.Started) (H : Type) (enc : TypeId × Value → H) :
    ReturnsInHanded {} Tryd.checked os 6 .any (fun w args => (Rows.fnExactBridgeTextSpec.pre enc Tryd.prog Tryd.f6 [] false w args ∧ laidMetH Tryd.prog Rows.fnExactBridgeTextRow.laid w) ∧ sizedMet enc Tryd.prog Tryd.f6 (OpenSpec.ofChange Rows.fnExactBridgeTextSpec) false w args) (Rows.fnExactBridgeTextSpec.post enc Tryd.prog Tryd.f6 false true false false) := by
  refine returnsInHanded_of_change_and (C := Tryd.checked) (X := fun w _ => laidMetH Tryd.prog Rows.fnExactBridgeTextRow.laid w) (fun _ _ _ hh h => h.of_heap hh) own started (by kernel_rfl) Tryd.func6
    (ChangeSpec.witness_shaped (enc := enc) (C := Tryd.checked) (os := os) (X := fun w _ => laidMetH Tryd.prog Rows.fnExactBridgeTextRow.laid w) false (World.doorLaid Tryd.prog 24 os) #[.agg #[.int .i64 0, .slice none 0 0]] 8 rfl (World.shaped_of_RefB (by kernel_rfl) (by kernel_rfl)) (by kernel_rfl) (by kernel_rfl) (by kernel_rfl) (door_met os _)) ?_
  intro W base args ds gs before hval0 hW _ hsz0 hL _
  have hval : ∀ (j : Nat) t v, Tryd.f6.params[j]? = some t → args[j]? = some v → Value.okWide Tryd.prog W .any base t v := hval0
  have hW' := hW
  obtain ⟨p, q, hA0, hV, rfl, hfz, hnd⟩ := hW
  have hA : DataW.TrodAll enc Tryd.prog W 0 (fun _ => true) true Tryd.f6.params.toList args.toList ds p := hA0
  rw [Tryd.params6] at hA hval
  obtain ⟨v0, vs0, d0, ds0, p0, q0, hargs, rfl, rfl, h0, r0⟩ := trodAll_cons hA
  obtain ⟨rfl, rfl, rfl⟩ := trodAll_nil r0
  obtain rfl : args = #[v0] := by cases args; simp_all
  obtain ⟨rfl, rfl⟩ := trodVars_none hV
  obtain ⟨id0, ad0, cap0, L0, rfl, I0⟩ := brwIn_open (hval 0 48 v0 rfl rfl) h0
  have lt0 : ∀ x ∈ p0, x.block < W.heap.size := by obtain ⟨m, hm⟩ := h0; exact DataW.trod_lt m _ _ _ hm
  clear hA0 hval0
  refine (walk id0 ad0 cap0 L0 W I0 (tab_of_laid hL)).mono fun e W' ⟨he, bel⟩ => ?_
  subst he
  exact ⟨_, rfl, _, _, _, [], _, [], hW', trodAll_mk1 (shut_bool Tryd.underlying4 _), (trodAll_cons_mk (Below.trod laidOut (by kernel_rfl) (of_decide_eq_true (by kernel_rfl)) h0 bel lt0) trodAll_mk0), rfl, bel.frame _, fun h => by cases h⟩

theorem over : Rows.fnExactBridgeTextRow.holds Tryd.pinned (OpenSpec.ofChange Rows.fnExactBridgeTextSpec) :=
  OpenClaim.holds_of_wide 6 Tryd.f6 rfl rfl rfl rfl rfl rfl rfl ⟨rfl, rfl, rfl, rfl, rfl⟩ rfl rfl rfl rfl rfl (by kernel_rfl) Tryd.func6 (by kernel_rfl)
    (of_decide_eq_true (by kernel_rfl)) (by unfold Func.isWrapper; first | (rw [if_pos (by decide +kernel)]; kernel_rfl) | (rw [if_neg (by decide +kernel)]; exact ⟨rfl, rfl⟩))
    (fun os started H enc _ => lifted os started H enc)

theorem proved : Rows.FnExactBridgeTextSaid := over
end Go.Proofs.YtjholgpjicliaaaDoor.fnExactBridgeText
namespace Go.Proofs.YtjholgpjicliaaaDoor
theorem bridgeText_holds : Rows.FnExactBridgeTextCardSaid :=
  Claim7.holds_tied_plain_at .later [] [.data, .data, .data] true (true, "1f4a9b75fe6747d1bab9070fc366cb0ad7fec5bed0d2ce5d55856eb043885367") true
    fnExactBridgeText.proved (fun _ h => by cases h) (by kernel_rfl) (fun _ h => by cases h) fnExactBridgeText_row_tie rfl ⟨rfl, rfl⟩ (by kernel_rfl) rfl
    (fun f fn hf hfn => by
      obtain rfl : f = 6 := Option.some.inj ((show Tryd.prog.funcNamed "loop.example/g00470/laws.FnExactBridgeText" = some 6 by kernel_rfl).symm.trans hf) |>.symm
      obtain rfl : fn = Tryd.f6 := (Option.some.inj (Tryd.func6.symm.trans hfn)).symm
      exact ⟨by kernel_rfl, fun j t ht => by
        rw [Tryd.params6] at ht
        have hm : t ∈ [48] := by simpa using Array.mem_of_getElem? ht
        have hall : ([48].all fun u => !Tryd.prog.wantsStandIn u) = true := by kernel_rfl
        exact (show Tryd.prog.wantsStandIn t = false by simpa using List.all_eq_true.1 hall t hm)⟩)
    (by kernel_rfl)
#print axioms bridgeText_holds
end Go.Proofs.YtjholgpjicliaaaDoor
