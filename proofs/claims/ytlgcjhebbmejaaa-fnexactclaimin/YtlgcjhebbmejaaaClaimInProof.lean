/- FnExactClaimIn: at every Bpdu and every port the program's ClaimIn answers as the specification's; no condition. -/
import Derived.Test.YtlgcjhebbmejaaaRows
import Derived.Test.YtlgcjhebbmejaaaBp2
import Derived.Test.YtlgcjhebbmejaaaIns19
import Derived.Test.YtlgcjhebbmejaaaTakes
import Derived.Deep.Cut
import Derived.WalkKit
import Derived.Below
import Derived.ChangeOld
import Derived.WalkSmall
import Derived.ProofKit
import Derived.OpenShut
import Derived.ShutString
import Derived.BigQuiet
namespace Go.Proofs.Ytlgcjhebbmejaaa.fnExactClaimIn
open Go.ChangeShapes Go.WideShapes Go.ChangeAt Go.RowKit
set_option linter.unusedVariables false

theorem own : ownKnob Try.prog.godebug = none := by kernel_rfl
theorem laidOut : laidOutB Try.prog = true := by kernel_rfl

set_option maxRecDepth 100000 in
theorem intIn_open {H : Type} {enc : TypeId × Value → H} {w : World} {r : Reach} {b0 : Nat} {v : Value} {d : DataW H} {p : List MemPlace} (hv : Value.okWide Try.prog w r b0 3 v) (h : DataW.Trod enc Try.prog w 0 (fun _ => true) true 3 v d p) : ∃ n : Int, v = .int .i64 n ∧ (Lit.int .i64 n).wf = true := by
  obtain ⟨n, rfl, _, _, I⟩ := open_int Try.underlying3 hv h
  exact ⟨n, rfl, I⟩
set_option maxRecDepth 100000 in
theorem boolIn_open {H : Type} {enc : TypeId × Value → H} {w : World} {r : Reach} {b0 : Nat} {v : Value} {d : DataW H} {p : List MemPlace} (hv : Value.okWide Try.prog w r b0 4 v) (h : DataW.Trod enc Try.prog w 0 (fun _ => true) true 4 v d p) : ∃ b : Bool, v = .bool b ∧ True := by
  obtain ⟨b, rfl, _, _⟩ := open_bool Try.underlying4 hv h
  exact ⟨b, rfl, trivial⟩
set_option maxHeartbeats 8000000 in
set_option maxRecDepth 100000 in
theorem walk (z0 : Bp) (n1 : Int) (w : World) (I0 : True) (I1 : (Lit.int .i64 n1).wf = true) :
    Calls Try.prog 8 #[.agg #[.bool z0.ch, .bool z0.ak, .bool z0.ag, .bool z0.le, .bool z0.op, .int .i64 z0.ro, .int .i64 z0.r, .int .i64 z0.c, .int .i64 z0.b, .int .i64 z0.p, .int .i64 z0.h], .int .i64 n1] w fun e w' => e = .returned (.bool true) ∧ Below w.heap.size w w' := by
  clear I0 I1
  obtain ⟨y0, hx⟩ : ∃ y_, y_ = w.alloc (Obj.cells #[.bool z0.ch, .bool z0.ak, .bool z0.ag, .bool z0.le, .bool z0.op, .int .i64 z0.ro, .int .i64 z0.r, .int .i64 z0.c, .int .i64 z0.b, .int .i64 z0.p, .int .i64 z0.h] 44) := ⟨_, rfl⟩
  have A0 : BpAt y0 w.heap.size z0 := by rw [hx]; exact BpAt.new w _ _
  have BW : Below w.heap.size w y0 := by rw [hx]; exact below_new _
  go_enter Try.func8, Try.ntmps8
  go_wp2_with fail
  go_at_call 26
  rw [← hx]
  clear hx
  refine (toBpI z0 y0).mono ?_
  rintro e y1 ⟨rfl, kq⟩
  have sy1 := kq.size
  have A0 := A0.below kq A0.lt
  have BW := BW.trans (kq.mono BW.size)
  clear kq
  go_wp2_with fail
  go_at_call 19
  refine (claimS z0 n1 y1).mono ?_
  rintro e x1 ⟨rfl, kq⟩
  have sx1 := kq.size
  have A0 := A0.below kq A0.lt
  have BW := BW.trans (kq.mono BW.size)
  clear kq
  obtain ⟨R, hR⟩ : ∃ R, R = clV z0 n1 := ⟨_, rfl⟩
  obtain ⟨B, hB⟩ : ∃ B, B = clB z0 n1 := ⟨_, rfl⟩
  rw [← hR, ← hB]
  replace hR : Hid _ := hR
  replace hB : Hid _ := hB
  obtain ⟨x2, hx2⟩ : ∃ y_, y_ = x1.alloc (Obj.cells #[.int .i64 R.k, .int .i64 R.q, .int .i64 R.r, .int .i64 R.c, .int .i64 R.b, .int .i64 R.p, .int .i64 R.h, .bool R.up] 36) := ⟨_, rfl⟩
  have AW : InAt x2 x1.heap.size R := by rw [hx2]; exact InAt.new x1 _ _
  have kq : Below x1.heap.size x1 x2 := by rw [hx2]; exact below_new _
  have lx2 := AW.lt
  have sx2 := kq.size
  have A0 := A0.below kq A0.lt
  have BW := BW.trans (kq.mono BW.size)
  clear kq
  go_upto_region 2 with fail
  rw [← hx2]
  clear hx2
  have cc := A0
  obtain ⟨m0_0, m0_1, m0_2, m0_3, m0_4, m0_5, m0_6, m0_7, m0_8, m0_9, m0_10⟩ := cc
  go_wp2_with fail
  go_at_call 26
  clear m0_0 m0_1 m0_2 m0_3 m0_4 m0_5 m0_6 m0_7 m0_8 m0_9 m0_10
  refine (toBpI z0 x2).mono ?_
  rintro e x3 ⟨rfl, kq⟩
  have sx3 := kq.size
  have A0 := A0.below kq A0.lt
  have AW := AW.below kq AW.lt
  have BW := BW.trans (kq.mono BW.size)
  clear kq
  go_wp2_with fail
  go_at_call 18
  refine (claimI z0 n1 x3).mono ?_
  rintro e x4 ⟨rfl, kq⟩
  have sx4 := kq.size
  have A0 := A0.below kq A0.lt
  have AW := AW.below kq AW.lt
  have BW := BW.trans (kq.mono BW.size)
  clear kq
  rw [← hR.out, ← hB.out]
  clear hR hB
  obtain ⟨x5, hx5⟩ : ∃ y_, y_ = x4.alloc (Obj.cells #[.int .i64 R.k, .int .i64 R.q, .int .i64 R.r, .int .i64 R.c, .int .i64 R.b, .int .i64 R.p, .int .i64 R.h, .bool R.up] 36) := ⟨_, rfl⟩
  have AG : InAt x5 x4.heap.size R := by rw [hx5]; exact InAt.new x4 _ _
  have kq : Below x4.heap.size x4 x5 := by rw [hx5]; exact below_new _
  have lx5 := AG.lt
  have sx5 := kq.size
  have A0 := A0.below kq A0.lt
  have AW := AW.below kq AW.lt
  have BW := BW.trans (kq.mono BW.size)
  clear kq
  go_upto_region 3 with fail
  rw [← hx5]
  clear hx5
  have cc := AW
  obtain ⟨m0_0, m0_1, m0_2, m0_3, m0_4, m0_5, m0_6, m0_7⟩ := cc
  have cc := AG
  obtain ⟨m1_0, m1_1, m1_2, m1_3, m1_4, m1_5, m1_6, m1_7⟩ := cc
  go_wp2_with fail
  go_at_call 32
  clear m0_0 m0_1 m0_2 m0_3 m0_4 m0_5 m0_6 m0_7 m1_0 m1_1 m1_2 m1_3 m1_4 m1_5 m1_6 m1_7
  refine (eqInI R x5).mono ?_
  rintro e x6 ⟨rfl, kq⟩
  have sx6 := kq.size
  have A0 := A0.below kq A0.lt
  have AW := AW.below kq AW.lt
  have AG := AG.below kq AG.lt
  have BW := BW.trans (kq.mono BW.size)
  clear kq
  go_wp2
  go_ret
  exact ⟨rfl, BW⟩


set_option maxRecDepth 100000 in
theorem lifted (os : Os) (started : os.Started) (H : Type) (enc : TypeId × Value → H) :
    ReturnsInHanded {} Try.checked os 8 .any (Rows.fnExactClaimInSpec.pre6 enc Try.prog Try.f8 Rows.fnExactClaimInRow.domain false) (Rows.fnExactClaimInSpec.post enc Try.prog Try.f8 false true false false) := by
  refine returnsInHanded_of_change (C := Try.checked) own started (by kernel_rfl) Try.func8
    (ChangeSpec.witness6 (enc := enc) (C := Try.checked) false ⟨#[], #[.agg #[.bool false, .bool false, .bool false, .bool false, .bool false, .int .i64 0, .int .i64 0, .int .i64 0, .int .i64 0, .int .i64 0, .int .i64 0], .int .i64 0], []⟩ 8 (by kernel_rfl) (by kernel_rfl) (by kernel_rfl) (by kernel_rfl)) ?_
  intro W base args ds gs before hval0 hW hcnd _
  have hval : ∀ (j : Nat) t v, Try.f8.params[j]? = some t → args[j]? = some v → Value.okWide Try.prog W .any base t v := hval0
  have hW' := hW
  obtain ⟨p, q, hA0, hV, rfl, hfz, hnd⟩ := hW
  have hA : DataW.TrodAll enc Try.prog W 0 (fun _ => true) true Try.f8.params.toList args.toList ds p := hA0
  rw [Try.params8] at hA hval
  obtain ⟨v0, vs0, d0, ds0, p0, q0, hargs, rfl, rfl, h0, r0⟩ := trodAll_cons hA
  obtain ⟨v1, vs1, d1, ds1, p1, q1, rfl, rfl, rfl, h1, r1⟩ := trodAll_cons r0
  obtain ⟨rfl, rfl, rfl⟩ := trodAll_nil r1
  obtain rfl : args = #[v0, v1] := by cases args; simp_all
  obtain ⟨rfl, rfl⟩ := trodVars_none hV
  obtain ⟨z0, rfl, I0⟩ := bpIn_open (hval 0 44 v0 rfl rfl) h0
  have lt0 : ∀ x ∈ p0, x.block < W.heap.size := by obtain ⟨m, hm⟩ := h0; exact DataW.trod_lt m _ _ _ hm
  obtain ⟨n1, rfl, I1⟩ := intIn_open (hval 1 3 v1 rfl rfl) h1
  have lt1 : ∀ x ∈ p1, x.block < W.heap.size := by obtain ⟨m, hm⟩ := h1; exact DataW.trod_lt m _ _ _ hm
  clear hA0 hval0
  refine (walk z0 n1 W I0 I1).mono fun e W' ⟨he, bel⟩ => ?_
  subst he
  exact ⟨_, rfl, _, _, _, [], _, [], hW', trodAll_mk1 (shut_bool Try.underlying4 _), (trodAll_cons_mk (Below.trod laidOut (by kernel_rfl) (of_decide_eq_true (by kernel_rfl)) h0 bel lt0) (trodAll_cons_mk (Below.trod laidOut (by kernel_rfl) (of_decide_eq_true (by kernel_rfl)) h1 bel lt1) trodAll_mk0)), rfl, bel.frame _, fun h => by cases h⟩

theorem over : Rows.fnExactClaimInRow.holds Try.pinned (OpenSpec.ofChange Rows.fnExactClaimInSpec) :=
  OpenClaim.holds_of_wide 8 Try.f8 rfl rfl rfl rfl rfl rfl rfl ⟨rfl, rfl, rfl, rfl, rfl⟩ rfl rfl rfl rfl rfl (by kernel_rfl) Try.func8 (by kernel_rfl)
    (of_decide_eq_true (by kernel_rfl)) (by unfold Func.isWrapper; first | (rw [if_pos (by decide +kernel)]; kernel_rfl) | (rw [if_neg (by decide +kernel)]; exact ⟨rfl, rfl⟩))
    (fun os started H enc _ => lifted os started H enc)

theorem proved : Rows.FnExactClaimInSaid := over
end Go.Proofs.Ytlgcjhebbmejaaa.fnExactClaimIn
namespace Go.Proofs.Ytlgcjhebbmejaaa
theorem claimIn_holds : Rows.FnExactClaimInSaid := fnExactClaimIn.proved
#print axioms claimIn_holds
end Go.Proofs.Ytlgcjhebbmejaaa
