/- For every number and every number of ports the call of FnExactBridgeNew returns true: impl.BridgeNew answers as spec.BridgeNew, every field, it writes into no argument, and its answer owns its memory. No condition. -/
import Derived.Test.YtbffdkjgadhdoaaRows
import Derived.Test.YtbffdkjgadhdoaaBr9s
import Derived.Test.YtbffdkjgadhdoaaBr2
import Derived.Deep.Cut
import Derived.WalkKit
import Derived.Below
import Derived.ChangeOld
import Derived.WalkSmall
import Derived.ProofKit
import Derived.OpenShut
import Derived.ShutString
import Derived.BigQuiet
namespace Go.Proofs.Ytbffdkjgadhdoaa.fnExactBridgeNew
open Go.ChangeShapes Go.WideShapes Go.ChangeAt Go.RowKit
set_option linter.unusedVariables false

theorem own : ownKnob Try.prog.godebug = none := by kernel_rfl
theorem laidOut : laidOutB Try.prog = true := by kernel_rfl

set_option maxRecDepth 100000 in
theorem intIn_open {H : Type} {enc : TypeId × Value → H} {w : World} {r : Reach} {b0 : Nat} {v : Value} {d : DataW H} {p : List MemPlace} (hv : Value.okWide Try.prog w r b0 3 v) (h : DataW.Trod enc Try.prog w 0 (fun _ => true) true 3 v d p) : ∃ n : Int, v = .int .i64 n ∧ (Lit.int .i64 n).wf = true := by
  obtain ⟨n, rfl, _, _, I⟩ := open_int Try.underlying3 hv h
  exact ⟨n, rfl, I⟩
set_option maxRecDepth 100000 in
theorem boolIn_open {H : Type} {enc : TypeId × Value → H} {w : World} {r : Reach} {b0 : Nat} {v : Value} {d : DataW H} {p : List MemPlace} (hv : Value.okWide Try.prog w r b0 4 v) (h : DataW.Trod enc Try.prog w 0 (fun _ => true) true 4 v d p) : ∃ b : Bool, v = .bool b ∧ True := by
  obtain ⟨b, rfl, _, _⟩ := open_bool Try.underlying4 hv h
  exact ⟨b, rfl, trivial⟩
set_option maxHeartbeats 8000000 in
set_option maxRecDepth 100000 in
theorem walk (n0 : Int) (n1 : Int) (w : World) (I0 : (Lit.int .i64 n0).wf = true) (I1 : (Lit.int .i64 n1).wf = true) :
    Calls Try.prog 7 #[.int .i64 n0, .int .i64 n1] w fun e w' => e = .returned (.bool true) ∧ Below w.heap.size w w' := by
  clear I0 I1
  obtain ⟨x0, hx⟩ : ∃ y_, y_ = w := ⟨_, rfl⟩
  have BW : Below w.heap.size w x0 := by rw [hx]; exact Below.refl _ _
  have sx0 := BW.size
  obtain ⟨id0, hI⟩ : ∃ v, newI n0 n1 = v := ⟨_, rfl⟩
  obtain ⟨D, hD⟩ : ∃ D, newL n0 n1 = D := ⟨_, rfl⟩
  obtain ⟨nk, hK⟩ : ∃ v, nOk n0 n1 = v := ⟨_, rfl⟩
  have hDl : D.length ≤ 1048576 := by
    rw [← hD]
    unfold newL
    split
    · rename_i q
      unfold nOk at q
      simp only [Bool.and_eq_true, decide_eq_true_eq] at q
      rw [List.length_replicate]
      omega
    · simp
  replace hI : Hid _ := hI
  replace hD : Hid _ := hD
  replace hK : Hid _ := hK
  go_enter Try.func7, Try.ntmps7
  go_wp2_with fail
  go_at_call 30
  rw [← hx]
  clear hx
  refine (newBS n0 n1 x0).mono ?_
  rintro e x1 ⟨aW, cW, rfl, OW, kq⟩
  have sx1 := kq.size
  have BW := BW.trans (kq.mono BW.size)
  clear kq
  rw [hI.out, hK.out, hD.out]
  rw [hD.out] at OW
  have iOW : ∀ g, (Value.slice aW D.length cW).ownBlock = some g → x0.heap.size ≤ g ∧ g < x1.heap.size := fun g e => OW.lt g e
  obtain ⟨x2, hx2⟩ : ∃ y_, y_ = x1.alloc (Obj.cells #[.int .i64 id0, .slice aW D.length cW] 26) := ⟨_, rfl⟩
  have AW : BrAt x2 x1.heap.size id0 (.slice aW D.length cW) := by rw [hx2]; exact BrAt.new x1 _ _ _
  have kq : Below x1.heap.size x1 x2 := by rw [hx2]; exact below_new _
  have lx2 := AW.lt
  have sx2 := kq.size
  have OW := OW.later kq
  have BW := BW.trans (kq.mono BW.size)
  clear kq
  go_upto_region 2 with fail
  rw [← hx2]
  clear hx2
  go_wp2_with fail
  go_at_call 31
  refine (newBI n0 n1 x2).mono ?_
  rintro e x3 ⟨aG, cG, rfl, OG, kq⟩
  have sx3 := kq.size
  have OW := OW.later kq
  have AW := AW.below kq AW.lt
  have BW := BW.trans (kq.mono BW.size)
  clear kq
  rw [hI.out, hK.out, hD.out]
  rw [hD.out] at OG
  have iOG : ∀ g, (Value.slice aG D.length cG).ownBlock = some g → x2.heap.size ≤ g ∧ g < x3.heap.size := fun g e => OG.lt g e
  obtain ⟨x4, hx4⟩ : ∃ y_, y_ = x3.alloc (Obj.cells #[.int .i64 id0, .slice aG D.length cG] 26) := ⟨_, rfl⟩
  have AG : BrAt x4 x3.heap.size id0 (.slice aG D.length cG) := by rw [hx4]; exact BrAt.new x3 _ _ _
  have kq : Below x3.heap.size x3 x4 := by rw [hx4]; exact below_new _
  have lx4 := AG.lt
  have sx4 := kq.size
  have OW := OW.later kq
  have AW := AW.below kq AW.lt
  have OG := OG.later kq
  have BW := BW.trans (kq.mono BW.size)
  clear kq
  go_upto_region 3 with fail
  rw [← hx4]
  clear hx4
  have cc := AG
  obtain ⟨m0_0, m0_1⟩ := cc
  have cc := AW
  obtain ⟨m1_0, m1_1⟩ := cc
  go_wp2_with fail
  go_at_call 29
  clear m0_0 m0_1 m1_0 m1_1
  refine (brEq id0 aG aW cG cW D x4 OG.view.2 OW.view.2 hDl).mono ?_
  rintro e x5 ⟨rfl, kq⟩
  have sx5 := kq.size
  have OW := OW.later kq
  have AW := AW.below kq AW.lt
  have OG := OG.later kq
  have AG := AG.below kq AG.lt
  have BW := BW.trans (kq.mono BW.size)
  clear kq
  have cc := AG
  obtain ⟨m0_0, m0_1⟩ := cc
  go_wp2_with fail
  go_at_call 32
  clear m0_0 m0_1
  refine (brMark id0 (aG) cG 1 _ D x5 OG (by omega) (by decide) (by decide)).mono ?_
  rintro e x6 ⟨rfl, OG', gq⟩
  have iOG' := iOG
  have sx6 := gq.size
  have OW := OW.keep (fun g' e' => gq.block g' (OW.lt g' e').2 (fun e2 => by have := iOG _ e2.symm; have := iOW _ e'; omega))
  have AW := AW.keep (gq.block _ AW.lt (fun e => by have := iOG _ e.symm; omega))
  have AG := AG.keep (gq.block _ AG.lt (fun e => by have := iOG _ e.symm; omega))
  have BW := BW.grown gq BW.size (fun g' e => by have := iOG _ e; omega)
  clear gq
  have OG := OG'
  clear OG'
  have hk0 : 0 ≤ 1 + 11 * (D.length : Int) := by omega
  obtain ⟨m, hm⟩ : ∃ m, m = 1 + 11 * (D.length : Int) := ⟨_, rfl⟩
  have m0 : 0 ≤ m := by omega
  rw [← hm]
  replace hm : Hid _ := hm
  have hml : ((List.range D.length).map (ptMk 1)).length = D.length := by simp
  have cc := AG
  obtain ⟨m0_0, m0_1⟩ := cc
  go_wp2_with fail
  go_at_call 33
  clear m0_0 m0_1
  refine (brHeld id0 aG D.length cG 1 x6 (by have := OG.view.2; exact this) hDl (by decide) (by decide)).mono ?_
  rintro e x7 ⟨rfl, kq⟩
  have sx7 := kq.size
  have OW := OW.later kq
  have AW := AW.below kq AW.lt
  have OG := OG.later kq
  have AG := AG.below kq AG.lt
  have BW := BW.trans (kq.mono BW.size)
  clear kq
  rw [← hm.out]
  go_wp2_with fail
  go_at_call 31
  refine (newBI n0 n1 x7).mono ?_
  rintro e x8 ⟨aH, cH, rfl, OZ, kq⟩
  have sx8 := kq.size
  have OW := OW.later kq
  have AW := AW.below kq AW.lt
  have OG := OG.later kq
  have AG := AG.below kq AG.lt
  have BW := BW.trans (kq.mono BW.size)
  clear kq
  rw [hI.out, hK.out, hD.out]
  rw [hD.out] at OZ
  have iOZ : ∀ g, (Value.slice aH D.length cH).ownBlock = some g → x7.heap.size ≤ g ∧ g < x8.heap.size := fun g e => OZ.lt g e
  obtain ⟨x9, hx9⟩ : ∃ y_, y_ = x8.alloc (Obj.cells #[.int .i64 id0, .slice aH D.length cH] 26) := ⟨_, rfl⟩
  have AH : BrAt x9 x8.heap.size id0 (.slice aH D.length cH) := by rw [hx9]; exact BrAt.new x8 _ _ _
  have kq : Below x8.heap.size x8 x9 := by rw [hx9]; exact below_new _
  have lx9 := AH.lt
  have sx9 := kq.size
  have OW := OW.later kq
  have AW := AW.below kq AW.lt
  have OG := OG.later kq
  have AG := AG.below kq AG.lt
  have OZ := OZ.later kq
  have BW := BW.trans (kq.mono BW.size)
  clear kq
  go_upto_region 14 with fail
  rw [← hx9]
  clear hx9
  have cc := AH
  obtain ⟨m0_0, m0_1⟩ := cc
  have cc := AW
  obtain ⟨m1_0, m1_1⟩ := cc
  go_wp2_with fail
  go_at_call 29
  clear m0_0 m0_1 m1_0 m1_1
  refine (brEq id0 aH aW cH cW D x9 OZ.view.2 OW.view.2 hDl).mono ?_
  rintro e x10 ⟨rfl, kq⟩
  have sx10 := kq.size
  have OW := OW.later kq
  have AW := AW.below kq AW.lt
  have OG := OG.later kq
  have AG := AG.below kq AG.lt
  have OZ := OZ.later kq
  have AH := AH.below kq AH.lt
  have BW := BW.trans (kq.mono BW.size)
  clear kq
  have cc := AG
  obtain ⟨m0_0, m0_1⟩ := cc
  go_wp2_with fail
  go_at_call 33
  clear m0_0 m0_1
  refine (brHeld id0 aG D.length cG 1 x10 (by have := OG.view.2; exact this) hDl (by decide) (by decide)).mono ?_
  rintro e x11 ⟨rfl, kq⟩
  have sx11 := kq.size
  have OW := OW.later kq
  have AW := AW.below kq AW.lt
  have OG := OG.later kq
  have AG := AG.below kq AG.lt
  have OZ := OZ.later kq
  have AH := AH.below kq AH.lt
  have BW := BW.trans (kq.mono BW.size)
  clear kq
  rw [← hm.out]
  go_wp2
  go_ret
  exact ⟨rfl, BW⟩


set_option maxRecDepth 100000 in
theorem lifted (os : Os) (started : os.Started) (H : Type) (enc : TypeId × Value → H) :
    ReturnsInHanded {} Try.checked os 7 .any (Rows.fnExactBridgeNewSpec.pre6 enc Try.prog Try.f7 Rows.fnExactBridgeNewRow.domain false) (Rows.fnExactBridgeNewSpec.post enc Try.prog Try.f7 false true false false) := by
  refine returnsInHanded_of_change (C := Try.checked) own started (by kernel_rfl) Try.func7
    (ChangeSpec.witness6 (enc := enc) (C := Try.checked) false ⟨#[], #[.int .i64 0, .int .i64 0], []⟩ 8 (by kernel_rfl) (by kernel_rfl) (by kernel_rfl) (by kernel_rfl)) ?_
  intro W base args ds gs before hval0 hW hcnd _
  have hval : ∀ (j : Nat) t v, Try.f7.params[j]? = some t → args[j]? = some v → Value.okWide Try.prog W .any base t v := hval0
  have hW' := hW
  obtain ⟨p, q, hA0, hV, rfl, hfz, hnd⟩ := hW
  have hA : DataW.TrodAll enc Try.prog W 0 (fun _ => true) true Try.f7.params.toList args.toList ds p := hA0
  rw [Try.params7] at hA hval
  obtain ⟨v0, vs0, d0, ds0, p0, q0, hargs, rfl, rfl, h0, r0⟩ := trodAll_cons hA
  obtain ⟨v1, vs1, d1, ds1, p1, q1, rfl, rfl, rfl, h1, r1⟩ := trodAll_cons r0
  obtain ⟨rfl, rfl, rfl⟩ := trodAll_nil r1
  obtain rfl : args = #[v0, v1] := by cases args; simp_all
  obtain ⟨rfl, rfl⟩ := trodVars_none hV
  obtain ⟨n0, rfl, I0⟩ := intIn_open (hval 0 3 v0 rfl rfl) h0
  have lt0 : ∀ x ∈ p0, x.block < W.heap.size := by obtain ⟨m, hm⟩ := h0; exact DataW.trod_lt m _ _ _ hm
  obtain ⟨n1, rfl, I1⟩ := intIn_open (hval 1 3 v1 rfl rfl) h1
  have lt1 : ∀ x ∈ p1, x.block < W.heap.size := by obtain ⟨m, hm⟩ := h1; exact DataW.trod_lt m _ _ _ hm
  clear hA0 hval0
  refine (walk n0 n1 W I0 I1).mono fun e W' ⟨he, bel⟩ => ?_
  subst he
  exact ⟨_, rfl, _, _, _, [], _, [], hW', trodAll_mk1 (shut_bool Try.underlying4 _), (trodAll_cons_mk (Below.trod laidOut (by kernel_rfl) (of_decide_eq_true (by kernel_rfl)) h0 bel lt0) (trodAll_cons_mk (Below.trod laidOut (by kernel_rfl) (of_decide_eq_true (by kernel_rfl)) h1 bel lt1) trodAll_mk0)), rfl, bel.frame _, fun h => by cases h⟩

theorem over : Rows.fnExactBridgeNewRow.holds Try.pinned (OpenSpec.ofChange Rows.fnExactBridgeNewSpec) :=
  OpenClaim.holds_of_wide 7 Try.f7 rfl rfl rfl rfl rfl rfl rfl ⟨rfl, rfl, rfl, rfl, rfl⟩ rfl rfl rfl rfl rfl (by kernel_rfl) Try.func7 (by kernel_rfl)
    (of_decide_eq_true (by kernel_rfl)) (by unfold Func.isWrapper; first | (rw [if_pos (by decide +kernel)]; kernel_rfl) | (rw [if_neg (by decide +kernel)]; exact ⟨rfl, rfl⟩))
    (fun os started H enc _ => lifted os started H enc)

theorem proved : Rows.FnExactBridgeNewSaid := over
end Go.Proofs.Ytbffdkjgadhdoaa.fnExactBridgeNew
namespace Go.Proofs.Ytbffdkjgadhdoaa
theorem bridgeNew_holds : Rows.FnExactBridgeNewSaid := fnExactBridgeNew.proved
#print axioms bridgeNew_holds
end Go.Proofs.Ytbffdkjgadhdoaa
