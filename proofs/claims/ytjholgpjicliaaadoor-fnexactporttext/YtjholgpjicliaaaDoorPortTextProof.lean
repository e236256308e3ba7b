/- FnExactPortText, proved: at every port the program's PortText answers as the specification's, and no argument is written into; the table uint64pow10 holds what its text lays (the card ties it, over the pruned copy of the project). -/
import Derived.Test.YtjholgpjicliaaaDoorRows
import Derived.Test.YtjholgpjicliaaaDoorTie
import Derived.Test.YtjholgpjicliaaaDoorCards
import Derived.SevenTiedAt
import Derived.LaidMore
import Derived.LaidHandle
import Derived.LaidLaws
import Derived.Stop.Joined
import Derived.Stop.LaidErr
import Derived.Lay
import Derived.Shelf.Vars
import Derived.Lib.SmallJoins
import Derived.Test.YtjholgpjicliaaaDoorSh3
import Derived.Deep.Cut
import Derived.WalkKit
import Derived.Below
import Derived.ChangeOld
import Derived.WalkSmall
import Derived.ProofKit
import Derived.OpenShut
import Derived.ShutString
import Derived.BigQuiet
namespace Go.Proofs.YtjholgpjicliaaaDoor.fnExactPortText
open Go.ChangeShapes Go.WideShapes Go.ChangeAt Go.RowKit
set_option linter.unusedVariables false

theorem own : ownKnob Tryd.prog.godebug = none := by kernel_rfl
theorem laidOut : laidOutB Tryd.prog = true := by kernel_rfl

set_option maxHeartbeats 16000000 in
set_option maxRecDepth 100000 in
theorem walk (x0 : Pt) (w : World) (I0 : PtWf x0) (htab : TabOk w) :
    Calls Tryd.prog 5 #[.agg #[.bool x0.up, .bool x0.has, .int .i64 x0.r, .int .i64 x0.c, .int .i64 x0.b, .int .i64 x0.p, .int .i64 x0.h, .int .i64 x0.l, .int .i64 x0.ro, .int .i64 x0.wa, .bool x0.op]] w fun e w' => e = .returned (.bool true) ∧ Below w.heap.size w w' := by
  obtain ⟨y0, hx⟩ : ∃ y_, y_ = w.alloc (Obj.cells #[.bool x0.up, .bool x0.has, .int .i64 x0.r, .int .i64 x0.c, .int .i64 x0.b, .int .i64 x0.p, .int .i64 x0.h, .int .i64 x0.l, .int .i64 x0.ro, .int .i64 x0.wa, .bool x0.op] 40) := ⟨_, rfl⟩
  have N0 : PtAt y0 w.heap.size x0 := by rw [hx]; exact ptAt_box w _ x0
  have BW : Below w.heap.size w y0 := by rw [hx]; exact (Below.refl _ _).alloc (Nat.le_refl _) _
  have lx0 := N0.lt
  go_enter Tryd.func5, Tryd.ntmps5
  go_wp2_with fail
  go_at_call 14
  rw [← hx]
  clear hx
  refine (toP x0 y0).mono ?_
  rintro e y1 ⟨rfl, kq⟩
  have sy1 := kq.size
  have N0 := N0.below kq N0.lt
  have BW := BW.trans (kq.mono BW.size)
  clear kq
  go_wp2_with fail
  go_at_call 13
  refine (ptTS x0 y1 I0).mono ?_
  rintro e wd1 ⟨rfl, kq⟩
  have swd1 := kq.size
  have N0 := N0.below kq N0.lt
  have BW := BW.trans (kq.mono BW.size)
  clear kq
  have cc := N0
  obtain ⟨m0_0, m0_1, m0_2, m0_3, m0_4, m0_5, m0_6, m0_7, m0_8, m0_9, m0_10⟩ := cc
  go_wp2_with fail
  go_at_call 14
  clear m0_0 m0_1 m0_2 m0_3 m0_4 m0_5 m0_6 m0_7 m0_8 m0_9 m0_10
  refine (toP x0 wd1).mono ?_
  rintro e wd2 ⟨rfl, kq⟩
  have swd2 := kq.size
  have N0 := N0.below kq N0.lt
  have BW := BW.trans (kq.mono BW.size)
  clear kq
  go_wp2_with fail
  go_at_call 15
  refine (ptTI x0 wd2 I0 (tab_later htab BW)).mono ?_
  rintro e wd3 ⟨rfl, kq⟩
  have swd3 := kq.size
  have N0 := N0.below kq N0.lt
  have BW := BW.trans (kq.mono BW.size)
  clear kq
  clear htab
  generalize ptT x0 = o
  go_wp2
  go_ret
  exact ⟨rfl, BW⟩


theorem door_met (os : Os) (args : Array Value) : laidMetH Tryd.prog Rows.fnExactPortTextRow.laid ((World.doorLaid Tryd.prog 24 os).forCall (fun _ _ => 0) ⟨#[], args, []⟩).memory :=
  laidMetH_of_parts3 (fuel := 8) (laidMet_of_run' 8 (by kernel_rfl) (by kernel_rfl)) (by kernel_rfl) (by kernel_rfl)
theorem tab_of_laid {W : World} (h : laidMetH Tryd.prog Rows.fnExactPortTextRow.laid W) : TabOk W := by
  rw [MakeChecks.laidMetH_plain _ _ _ (by kernel_rfl)] at h
  have h3 := laidMet.tail (laidMet.tail (h))
  exact Lib.tabIs_of_head (zs := Lib.pow10Tab) gTab (t := 105) (by kernel_rfl) Tryd.underlying105 Tryd.underlying99 (by kernel_rfl) (by kernel_rfl) h3
set_option maxRecDepth 100000 in
theorem lifted (os : Os) (started : os.Started) (H : Type) (enc : TypeId × Value → H) :
    ReturnsInHanded {} Tryd.checked os 5 .any (fun w args => (Rows.fnExactPortTextSpec.pre enc Tryd.prog Tryd.f5 [] false w args ∧ laidMetH Tryd.prog Rows.fnExactPortTextRow.laid w) ∧ sizedMet enc Tryd.prog Tryd.f5 (OpenSpec.ofChange Rows.fnExactPortTextSpec) false w args) (Rows.fnExactPortTextSpec.post enc Tryd.prog Tryd.f5 false true false false) := by
  refine returnsInHanded_of_change_and (C := Tryd.checked) (X := fun w _ => laidMetH Tryd.prog Rows.fnExactPortTextRow.laid w) (fun _ _ _ hh h => h.of_heap hh) own started (by kernel_rfl) Tryd.func5
    (ChangeSpec.witness_shaped (enc := enc) (C := Tryd.checked) (os := os) (X := fun w _ => laidMetH Tryd.prog Rows.fnExactPortTextRow.laid w) false (World.doorLaid Tryd.prog 24 os) #[.agg #[.bool false, .bool false, .int .i64 0, .int .i64 0, .int .i64 0, .int .i64 0, .int .i64 0, .int .i64 0, .int .i64 0, .int .i64 0, .bool false]] 8 rfl (World.shaped_of_RefB (by kernel_rfl) (by kernel_rfl)) (by kernel_rfl) (by kernel_rfl) (by kernel_rfl) (door_met os _)) ?_
  intro W base args ds gs before hval0 hW _ hsz0 hL _
  have hval : ∀ (j : Nat) t v, Tryd.f5.params[j]? = some t → args[j]? = some v → Value.okWide Tryd.prog W .any base t v := hval0
  have hW' := hW
  obtain ⟨p, q, hA0, hV, rfl, hfz, hnd⟩ := hW
  have hA : DataW.TrodAll enc Tryd.prog W 0 (fun _ => true) true Tryd.f5.params.toList args.toList ds p := hA0
  rw [Tryd.params5] at hA hval
  obtain ⟨v0, vs0, d0, ds0, p0, q0, hargs, rfl, rfl, h0, r0⟩ := trodAll_cons hA
  obtain ⟨rfl, rfl, rfl⟩ := trodAll_nil r0
  obtain rfl : args = #[v0] := by cases args; simp_all
  obtain ⟨rfl, rfl⟩ := trodVars_none hV
  obtain ⟨x0, rfl, I0⟩ := portwIn_open (hval 0 40 v0 rfl rfl) h0
  have lt0 : ∀ x ∈ p0, x.block < W.heap.size := by obtain ⟨m, hm⟩ := h0; exact DataW.trod_lt m _ _ _ hm
  clear hA0 hval0
  refine (walk x0 W I0 (tab_of_laid hL)).mono fun e W' ⟨he, bel⟩ => ?_
  subst he
  exact ⟨_, rfl, _, _, _, [], _, [], hW', trodAll_mk1 (shut_bool Tryd.underlying4 _), (trodAll_cons_mk (Below.trod laidOut (by kernel_rfl) (of_decide_eq_true (by kernel_rfl)) h0 bel lt0) trodAll_mk0), rfl, bel.frame _, fun h => by cases h⟩

theorem over : Rows.fnExactPortTextRow.holds Tryd.pinned (OpenSpec.ofChange Rows.fnExactPortTextSpec) :=
  OpenClaim.holds_of_wide 5 Tryd.f5 rfl rfl rfl rfl rfl rfl rfl ⟨rfl, rfl, rfl, rfl, rfl⟩ rfl rfl rfl rfl rfl (by kernel_rfl) Tryd.func5 (by kernel_rfl)
    (of_decide_eq_true (by kernel_rfl)) (by unfold Func.isWrapper; first | (rw [if_pos (by decide +kernel)]; kernel_rfl) | (rw [if_neg (by decide +kernel)]; exact ⟨rfl, rfl⟩))
    (fun os started H enc _ => lifted os started H enc)

theorem proved : Rows.FnExactPortTextSaid := over
end Go.Proofs.YtjholgpjicliaaaDoor.fnExactPortText
namespace Go.Proofs.YtjholgpjicliaaaDoor
theorem portText_holds : Rows.FnExactPortTextCardSaid :=
  Claim7.holds_tied_plain_at .later [] [.data, .data, .data] true (true, "1f4a9b75fe6747d1bab9070fc366cb0ad7fec5bed0d2ce5d55856eb043885367") true
    fnExactPortText.proved (fun _ h => by cases h) (by kernel_rfl) (fun _ h => by cases h) fnExactPortText_row_tie rfl ⟨rfl, rfl⟩ (by kernel_rfl) rfl
    (fun f fn hf hfn => by
      obtain rfl : f = 5 := Option.some.inj ((show Tryd.prog.funcNamed "loop.example/g00470/laws.FnExactPortText" = some 5 by kernel_rfl).symm.trans hf) |>.symm
      obtain rfl : fn = Tryd.f5 := (Option.some.inj (Tryd.func5.symm.trans hfn)).symm
      exact ⟨by kernel_rfl, fun j t ht => by
        rw [Tryd.params5] at ht
        have hm : t ∈ [40] := by simpa using Array.mem_of_getElem? ht
        have hall : ([40].all fun u => !Tryd.prog.wantsStandIn u) = true := by kernel_rfl
        exact (show Tryd.prog.wantsStandIn t = false by simpa using List.all_eq_true.1 hall t hm)⟩)
    (by kernel_rfl)
#print axioms portText_holds
end Go.Proofs.YtjholgpjicliaaaDoor
