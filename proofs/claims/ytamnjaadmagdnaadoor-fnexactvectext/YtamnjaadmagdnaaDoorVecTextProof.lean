/- For every claim the call of FnExactVecText returns true: impl.VecText tells what spec.VecText tells, and writes into no argument. The tables of Go that strconv.Itoa reads hold what the text of the library lays (the card ties them, over the pruned copy of the project). -/
import Derived.Test.YtamnjaadmagdnaaDoorRows
import Derived.Test.YtamnjaadmagdnaaDoorTie
import Derived.Test.YtamnjaadmagdnaaDoorCards
import Derived.SevenTiedAt
import Derived.LaidMore
import Derived.Stop.Joined
import Derived.Stop.LaidErr
import Derived.Lay
import Derived.Shelf.Vars
import Derived.Test.YtamnjaadmagdnaaDoorVec3
import Derived.WalkKit
import Derived.Below
import Derived.ChangeOld
import Derived.WalkSmall
import Derived.ProofKit
import Derived.OpenShut
import Derived.ShutString
import Derived.BigQuiet
namespace Go.Proofs.YtamnjaadmagdnaaDoor.fnExactVecText
open Go.ChangeShapes Go.WideShapes Go.ChangeAt Go.RowKit
set_option linter.unusedVariables false

theorem own : ownKnob Tryd.prog.godebug = none := by kernel_rfl
theorem laidOut : laidOutB Tryd.prog = true := by kernel_rfl

theorem tab_of_laid {W : World} (h : laidMetH Tryd.prog Rows.fnExactVecTextRow.laid W) : TabOk W := by
  rw [MakeChecks.laidMetH_plain _ _ _ (by kernel_rfl)] at h
  have h3 := laidMet.tail (laidMet.tail h)
  exact Lib.tabIs_of_head (zs := Lib.pow10Tab) (rest := []) gTab (t := 74) (by kernel_rfl) Tryd.underlying74 Tryd.underlying68 (by kernel_rfl) (by kernel_rfl) h3

set_option maxHeartbeats 2000000 in
theorem walk (r0 c0 b0 p0 : Int) (w : World) (I0 : VecWf r0 c0 b0 p0) (htab : TabOk w) :
    Calls Tryd.prog 4 #[.agg #[.int .i64 r0, .int .i64 c0, .int .i64 b0, .int .i64 p0]] w fun e w' => e = .returned (.bool true) ∧ Below w.heap.size w w' := by
  obtain ⟨wr, wc, wb, wp⟩ := I0
  have hr : I64 r0 := bounds_i64 wr
  have hc : I64 c0 := bounds_i64 wc
  have hb : I64 b0 := bounds_i64 wb
  have hp : I64 p0 := bounds_i64 wp
  clear wr wc wb wp
  go_enter Tryd.func4, Tryd.ntmps4
  go_wp2_with fail
  go_at_call 15
  obtain ⟨x, hx⟩ : ∃ x, x = w.alloc (Obj.cells #[.int .i64 r0, .int .i64 c0, .int .i64 b0, .int .i64 p0] 32) := ⟨_, rfl⟩
  have A0 : VecAt x w.heap.size r0 c0 b0 p0 := by rw [hx]; exact vecAt_box w _ _ _ _ _
  have B0 : Below w.heap.size w x := by rw [hx]; exact below_box w _
  have S0 : w.heap.size < x.heap.size := by rw [hx]; exact size_box w _
  rw [← hx]
  clear hx
  refine (toV r0 c0 b0 p0 x).mono ?_
  rintro e w1 ⟨rfl, k1⟩
  have s1 := k1.size
  go_wp2_with fail
  go_at_call 14
  refine (textS r0 c0 b0 p0 w1 hr hc hb hp).mono ?_
  rintro e w2 ⟨rfl, k2⟩
  have s2 := k2.size
  have B2 := (B0.trans (k1.mono (by omega))).trans (k2.mono (by omega))
  obtain ⟨C1, C2, C3, C4⟩ := (A0.below k1 S0).below k2 (by omega)
  go_wp2_with fail
  go_at_call 15
  refine (toV r0 c0 b0 p0 w2).mono ?_
  rintro e w3 ⟨rfl, k3⟩
  have s3 := k3.size
  have B3 := B2.trans (k3.mono (by omega))
  go_wp2_with fail
  go_at_call 13
  refine (textI r0 c0 b0 p0 w3 hr hc hb hp (tab_later htab B3)).mono ?_
  rintro e w4 ⟨rfl, k4⟩
  have B4 := B3.trans (k4.mono (by omega))
  clear htab
  generalize vText r0 c0 b0 p0 = o
  go_wp2
  go_ret
  exact ⟨rfl, B4⟩

set_option maxRecDepth 100000 in
theorem lifted (os : Os) (started : os.Started) (H : Type) (enc : TypeId × Value → H) :
    ReturnsInHanded {} Tryd.checked os 4 .any (fun w args => (Rows.fnExactVecTextSpec.pre enc Tryd.prog Tryd.f4 [] false w args ∧ laidMetH Tryd.prog Rows.fnExactVecTextRow.laid w) ∧ sizedMet enc Tryd.prog Tryd.f4 (OpenSpec.ofChange Rows.fnExactVecTextSpec) false w args) (Rows.fnExactVecTextSpec.post enc Tryd.prog Tryd.f4 false true false false) := by
  refine returnsInHanded_of_change_and (C := Tryd.checked) (X := fun w _ => laidMetH Tryd.prog Rows.fnExactVecTextRow.laid w) (fun _ _ _ hh h => h.of_heap hh) own started (by kernel_rfl) Tryd.func4
    (ChangeSpec.witness_shaped (enc := enc) (C := Tryd.checked) (os := os) (X := fun w _ => laidMetH Tryd.prog Rows.fnExactVecTextRow.laid w) false (World.laidAll Tryd.prog os Rows.fnExactVecTextRow.laid) #[.agg #[.int .i64 0, .int .i64 0, .int .i64 0, .int .i64 0]] 8 (World.laidAll_os _ _ _) (World.shaped_of_ZipB (by kernel_rfl) (by kernel_rfl)) (by kernel_rfl) (by kernel_rfl) (by kernel_rfl) (by rw [MakeChecks.laidMetH_plain _ _ _ (by kernel_rfl)]; exact laidMet_laidAll _ (by kernel_rfl) (by kernel_rfl))) ?_
  intro W base args ds gs before hval0 hW _ hsz0 hL _
  have hval : ∀ (j : Nat) t v, Tryd.f4.params[j]? = some t → args[j]? = some v → Value.okWide Tryd.prog W .any base t v := hval0
  have hW' := hW
  obtain ⟨p, q, hA0, hV, rfl, hfz, hnd⟩ := hW
  have hA : DataW.TrodAll enc Tryd.prog W 0 (fun _ => true) true Tryd.f4.params.toList args.toList ds p := hA0
  rw [Tryd.params4] at hA hval
  obtain ⟨v0, vs0, d0, ds0, q0, qq0, hargs, rfl, rfl, h0, rr0⟩ := trodAll_cons hA
  obtain ⟨rfl, rfl, rfl⟩ := trodAll_nil rr0
  obtain rfl : args = #[v0] := by cases args; simp_all
  obtain ⟨rfl, rfl⟩ := trodVars_none hV
  have lt0 : ∀ x ∈ q0, x.block < W.heap.size := by obtain ⟨m, hm⟩ := h0; exact DataW.trod_lt m _ _ _ hm
  obtain ⟨r0, c0, b0, p0, rfl, I0⟩ := vecIn_open (hval 0 32 v0 rfl rfl) h0
  clear hA0 hval0
  refine (walk r0 c0 b0 p0 W I0 (tab_of_laid hL)).mono fun e W' ⟨he, bel⟩ => ?_
  subst he
  exact ⟨_, rfl, _, _, _, [], _, [], hW', trodAll_mk1 (shut_bool Tryd.underlying4 _), (trodAll_cons_mk (Below.trod laidOut (by kernel_rfl) (of_decide_eq_true (by kernel_rfl)) h0 bel lt0) trodAll_mk0), rfl, bel.frame _, fun h => by cases h⟩

theorem over : Rows.fnExactVecTextRow.holds Tryd.pinned (OpenSpec.ofChange Rows.fnExactVecTextSpec) :=
  OpenClaim.holds_of_wide 4 Tryd.f4 rfl rfl rfl rfl rfl rfl rfl ⟨rfl, rfl, rfl, rfl, rfl⟩ rfl rfl rfl rfl rfl (by kernel_rfl) Tryd.func4 (by kernel_rfl)
    (of_decide_eq_true (by kernel_rfl)) (by unfold Func.isWrapper; first | (rw [if_pos (by decide +kernel)]; kernel_rfl) | (rw [if_neg (by decide +kernel)]; exact ⟨rfl, rfl⟩))
    (fun os started H enc _ => lifted os started H enc)

theorem proved : Rows.FnExactVecTextSaid := over
end Go.Proofs.YtamnjaadmagdnaaDoor.fnExactVecText
namespace Go.Proofs.YtamnjaadmagdnaaDoor
theorem vecText_holds : Rows.FnExactVecTextCardSaid :=
  Claim7.holds_tied_plain_at .later [] [.data, .data, .data] true (true, "bf8d902cb7268fa42738433f02163cbce3bc24b32b84dc3ea8186c6606ce4f46") false
    fnExactVecText.proved (fun _ h => by cases h) (by kernel_rfl) (fun _ h => by cases h) fnExactVecText_row_tie rfl ⟨rfl, rfl⟩ (by kernel_rfl) rfl
    (fun f fn hf hfn => by
      obtain rfl : f = 4 := Option.some.inj ((show Tryd.prog.funcNamed "loop.example/g00470/laws.FnExactVecText" = some 4 by kernel_rfl).symm.trans hf) |>.symm
      obtain rfl : fn = Tryd.f4 := (Option.some.inj (Tryd.func4.symm.trans hfn)).symm
      exact ⟨by kernel_rfl, fun j t ht => by
        rw [Tryd.params4] at ht
        have hm : t ∈ [32] := by simpa using Array.mem_of_getElem? ht
        have hall : ([32].all fun u => !Tryd.prog.wantsStandIn u) = true := by kernel_rfl
        exact (show Tryd.prog.wantsStandIn t = false by simpa using List.all_eq_true.1 hall t hm)⟩)
    (by kernel_rfl)
#print axioms vecText_holds
end Go.Proofs.YtamnjaadmagdnaaDoor
