/- FnExactOutText, proved: at every thing that comes in or is said the program's OutText answers as the specification's, and no argument is written into; the table uint64pow10 holds what its text lays (the card ties it, over the pruned copy of the project). -/
import Derived.Test.YtjholgpjicliaaaDoorRows
import Derived.Test.YtjholgpjicliaaaDoorTie
import Derived.Test.YtjholgpjicliaaaDoorCards
import Derived.SevenTiedAt
import Derived.LaidMore
import Derived.LaidHandle
import Derived.LaidLaws
import Derived.Stop.Joined
import Derived.Stop.LaidErr
import Derived.Lay
import Derived.Shelf.Vars
import Derived.Lib.SmallJoins
import Derived.Test.YtjholgpjicliaaaDoorTxO
import Derived.Test.YtjholgpjicliaaaDoorOu4
import Derived.Test.YtjholgpjicliaaaDoorIkwO
import Derived.Deep.Cut
import Derived.WalkKit
import Derived.Below
import Derived.ChangeOld
import Derived.WalkSmall
import Derived.ProofKit
import Derived.OpenShut
import Derived.ShutString
import Derived.BigQuiet
namespace Go.Proofs.YtjholgpjicliaaaDoor.fnExactOutText
open Go.ChangeShapes Go.WideShapes Go.ChangeAt Go.RowKit
set_option linter.unusedVariables false

theorem own : ownKnob Tryd.prog.godebug = none := by kernel_rfl
theorem laidOut : laidOutB Tryd.prog = true := by kernel_rfl

set_option maxHeartbeats 16000000 in
set_option maxRecDepth 100000 in
theorem walk (x0 : Ik) (w : World) (I0 : IkWf x0) (htab : TabOk w) :
    Calls Tryd.prog 4 #[.agg #[.int .i64 x0.k, .int .i64 x0.q, .int .i64 x0.r, .int .i64 x0.c, .int .i64 x0.b, .int .i64 x0.p, .int .i64 x0.h, .bool x0.up]] w fun e w' => e = .returned (.bool true) ∧ Below w.heap.size w w' := by
  obtain ⟨wq, wr, wc, wb, wp, wh⟩ := I0
  have hq : I64 x0.q := bounds_i64 wq
  have hr : I64 x0.r := bounds_i64 wr
  have hc : I64 x0.c := bounds_i64 wc
  have hb : I64 x0.b := bounds_i64 wb
  have hp : I64 x0.p := bounds_i64 wp
  have hh : I64 x0.h := bounds_i64 wh
  clear wq wr wc wb wp wh
  obtain ⟨y0, hx⟩ : ∃ y_, y_ = w.alloc (Obj.cells #[.int .i64 x0.k, .int .i64 x0.q, .int .i64 x0.r, .int .i64 x0.c, .int .i64 x0.b, .int .i64 x0.p, .int .i64 x0.h, .bool x0.up] 33) := ⟨_, rfl⟩
  have N0 : InAt y0 w.heap.size x0 := by rw [hx]; exact InAt.new w _ _
  have BW : Below w.heap.size w y0 := by rw [hx]; exact below_new _
  have lx0 := N0.lt
  go_enter Tryd.func4, Tryd.ntmps4
  go_wp2_with fail
  go_at_call 11
  rw [← hx]
  clear hx
  refine (toOuI x0 y0).mono ?_
  rintro e y1 ⟨rfl, kq⟩
  have sy1 := kq.size
  have N0 := N0.below kq N0.lt
  have BW := BW.trans (kq.mono BW.size)
  clear kq
  go_wp2_with fail
  go_at_call 10
  refine (outTextS x0 y1 hq hr hc hb hp hh).mono ?_
  rintro e wd1 ⟨rfl, kq⟩
  have swd1 := kq.size
  have N0 := N0.below kq N0.lt
  have BW := BW.trans (kq.mono BW.size)
  clear kq
  have cc := N0
  obtain ⟨m0_0, m0_1, m0_2, m0_3, m0_4, m0_5, m0_6, m0_7⟩ := cc
  go_wp2_with fail
  go_at_call 11
  clear m0_0 m0_1 m0_2 m0_3 m0_4 m0_5 m0_6 m0_7
  refine (toOuI x0 wd1).mono ?_
  rintro e wd2 ⟨rfl, kq⟩
  have swd2 := kq.size
  have N0 := N0.below kq N0.lt
  have BW := BW.trans (kq.mono BW.size)
  clear kq
  go_wp2_with fail
  go_at_call 12
  refine (outTextI x0 wd2 hq hr hc hb hp hh (tab_later htab BW)).mono ?_
  rintro e wd3 ⟨rfl, kq⟩
  have swd3 := kq.size
  have N0 := N0.below kq N0.lt
  have BW := BW.trans (kq.mono BW.size)
  clear kq
  clear htab
  generalize oText x0 = o
  go_wp2
  go_ret
  exact ⟨rfl, BW⟩


theorem door_met (os : Os) (args : Array Value) : laidMetH Tryd.prog Rows.fnExactOutTextRow.laid ((World.doorLaid Tryd.prog 24 os).forCall (fun _ _ => 0) ⟨#[], args, []⟩).memory :=
  laidMetH_of_parts3 (fuel := 8) (laidMet_of_run' 8 (by kernel_rfl) (by kernel_rfl)) (by kernel_rfl) (by kernel_rfl)
theorem tab_of_laid {W : World} (h : laidMetH Tryd.prog Rows.fnExactOutTextRow.laid W) : TabOk W := by
  rw [MakeChecks.laidMetH_plain _ _ _ (by kernel_rfl)] at h
  have h3 := laidMet.tail (laidMet.tail (h))
  exact Lib.tabIs_of_head (zs := Lib.pow10Tab) gTab (t := 105) (by kernel_rfl) Tryd.underlying105 Tryd.underlying99 (by kernel_rfl) (by kernel_rfl) h3
set_option maxRecDepth 100000 in
theorem lifted (os : Os) (started : os.Started) (H : Type) (enc : TypeId × Value → H) :
    ReturnsInHanded {} Tryd.checked os 4 .any (fun w args => (Rows.fnExactOutTextSpec.pre enc Tryd.prog Tryd.f4 [] false w args ∧ laidMetH Tryd.prog Rows.fnExactOutTextRow.laid w) ∧ sizedMet enc Tryd.prog Tryd.f4 (OpenSpec.ofChange Rows.fnExactOutTextSpec) false w args) (Rows.fnExactOutTextSpec.post enc Tryd.prog Tryd.f4 false true false false) := by
  refine returnsInHanded_of_change_and (C := Tryd.checked) (X := fun w _ => laidMetH Tryd.prog Rows.fnExactOutTextRow.laid w) (fun _ _ _ hh h => h.of_heap hh) own started (by kernel_rfl) Tryd.func4
    (ChangeSpec.witness_shaped (enc := enc) (C := Tryd.checked) (os := os) (X := fun w _ => laidMetH Tryd.prog Rows.fnExactOutTextRow.laid w) false (World.doorLaid Tryd.prog 24 os) #[.agg #[.int .i64 0, .int .i64 0, .int .i64 0, .int .i64 0, .int .i64 0, .int .i64 0, .int .i64 0, .bool false]] 8 rfl (World.shaped_of_RefB (by kernel_rfl) (by kernel_rfl)) (by kernel_rfl) (by kernel_rfl) (by kernel_rfl) (door_met os _)) ?_
  intro W base args ds gs before hval0 hW _ hsz0 hL _
  have hval : ∀ (j : Nat) t v, Tryd.f4.params[j]? = some t → args[j]? = some v → Value.okWide Tryd.prog W .any base t v := hval0
  have hW' := hW
  obtain ⟨p, q, hA0, hV, rfl, hfz, hnd⟩ := hW
  have hA : DataW.TrodAll enc Tryd.prog W 0 (fun _ => true) true Tryd.f4.params.toList args.toList ds p := hA0
  rw [Tryd.params4] at hA hval
  obtain ⟨v0, vs0, d0, ds0, p0, q0, hargs, rfl, rfl, h0, r0⟩ := trodAll_cons hA
  obtain ⟨rfl, rfl, rfl⟩ := trodAll_nil r0
  obtain rfl : args = #[v0] := by cases args; simp_all
  obtain ⟨rfl, rfl⟩ := trodVars_none hV
  obtain ⟨x0, rfl, I0⟩ := ikwIn_open (hval 0 33 v0 rfl rfl) h0
  have lt0 : ∀ x ∈ p0, x.block < W.heap.size := by obtain ⟨m, hm⟩ := h0; exact DataW.trod_lt m _ _ _ hm
  clear hA0 hval0
  refine (walk x0 W I0 (tab_of_laid hL)).mono fun e W' ⟨he, bel⟩ => ?_
  subst he
  exact ⟨_, rfl, _, _, _, [], _, [], hW', trodAll_mk1 (shut_bool Tryd.underlying4 _), (trodAll_cons_mk (Below.trod laidOut (by kernel_rfl) (of_decide_eq_true (by kernel_rfl)) h0 bel lt0) trodAll_mk0), rfl, bel.frame _, fun h => by cases h⟩

theorem over : Rows.fnExactOutTextRow.holds Tryd.pinned (OpenSpec.ofChange Rows.fnExactOutTextSpec) :=
  OpenClaim.holds_of_wide 4 Tryd.f4 rfl rfl rfl rfl rfl rfl rfl ⟨rfl, rfl, rfl, rfl, rfl⟩ rfl rfl rfl rfl rfl (by kernel_rfl) Tryd.func4 (by kernel_rfl)
    (of_decide_eq_true (by kernel_rfl)) (by unfold Func.isWrapper; first | (rw [if_pos (by decide +kernel)]; kernel_rfl) | (rw [if_neg (by decide +kernel)]; exact ⟨rfl, rfl⟩))
    (fun os started H enc _ => lifted os started H enc)

theorem proved : Rows.FnExactOutTextSaid := over
end Go.Proofs.YtjholgpjicliaaaDoor.fnExactOutText
namespace Go.Proofs.YtjholgpjicliaaaDoor
theorem outText_holds : Rows.FnExactOutTextCardSaid :=
  Claim7.holds_tied_plain_at .later [] [.data, .data, .data] true (true, "1f4a9b75fe6747d1bab9070fc366cb0ad7fec5bed0d2ce5d55856eb043885367") true
    fnExactOutText.proved (fun _ h => by cases h) (by kernel_rfl) (fun _ h => by cases h) fnExactOutText_row_tie rfl ⟨rfl, rfl⟩ (by kernel_rfl) rfl
    (fun f fn hf hfn => by
      obtain rfl : f = 4 := Option.some.inj ((show Tryd.prog.funcNamed "loop.example/g00470/laws.FnExactOutText" = some 4 by kernel_rfl).symm.trans hf) |>.symm
      obtain rfl : fn = Tryd.f4 := (Option.some.inj (Tryd.func4.symm.trans hfn)).symm
      exact ⟨by kernel_rfl, fun j t ht => by
        rw [Tryd.params4] at ht
        have hm : t ∈ [33] := by simpa using Array.mem_of_getElem? ht
        have hall : ([33].all fun u => !Tryd.prog.wantsStandIn u) = true := by kernel_rfl
        exact (show Tryd.prog.wantsStandIn t = false by simpa using List.all_eq_true.1 hall t hm)⟩)
    (by kernel_rfl)
#print axioms outText_holds
end Go.Proofs.YtjholgpjicliaaaDoor
