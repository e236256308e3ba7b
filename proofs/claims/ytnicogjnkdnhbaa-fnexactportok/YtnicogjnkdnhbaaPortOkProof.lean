/- For every port the call of FnExactPortOk returns true: impl.PortOk answers as spec.PortOk, and writes into no argument. No condition. -/
import Derived.Test.YtnicogjnkdnhbaaRows
import Derived.Test.YtnicogjnkdnhbaaPort3
import Derived.WalkKit
import Derived.Below
import Derived.ChangeOld
import Derived.WalkSmall
import Derived.ProofKit
import Derived.OpenShut
import Derived.ShutString
import Derived.BigQuiet
namespace Go.Proofs.Ytnicogjnkdnhbaa.fnExactPortOk
open Go.ChangeShapes Go.WideShapes Go.ChangeAt Go.RowKit
set_option linter.unusedVariables false

theorem own : ownKnob Try.prog.godebug = none := by kernel_rfl
theorem laidOut : laidOutB Try.prog = true := by kernel_rfl

set_option maxHeartbeats 1000000 in
theorem walk (x0 : Pt) (w : World)  :
    Calls Try.prog 4 #[.agg #[.bool x0.up, .bool x0.has, .int .i64 x0.r, .int .i64 x0.c, .int .i64 x0.b, .int .i64 x0.p, .int .i64 x0.h, .int .i64 x0.l, .int .i64 x0.ro, .int .i64 x0.wa, .bool x0.op]] w fun e w' => e = .returned (.bool true) ∧ Below w.heap.size w w' := by
  obtain ⟨y, hy⟩ : ∃ y, y = w.alloc (Obj.cells #[.bool x0.up, .bool x0.has, .int .i64 x0.r, .int .i64 x0.c, .int .i64 x0.b, .int .i64 x0.p, .int .i64 x0.h, .int .i64 x0.l, .int .i64 x0.ro, .int .i64 x0.wa, .bool x0.op] 39) := ⟨_, rfl⟩
  have A0 : PtAt y w.heap.size x0 := by rw [hy]; exact ptAt_box w _ _
  have B0 : Below w.heap.size w y := by rw [hy]; exact (Below.refl _ _).alloc (Nat.le_refl _) _
  have S0 : w.heap.size < y.heap.size := A0.lt
  go_enter Try.func4, Try.ntmps4
  go_wp2_with fail
  go_at_call 21
  rw [← hy]
  clear hy
  refine (toP x0 y).mono ?_
  rintro e w1 ⟨rfl, k1⟩
  have s1 := k1.size
  go_wp2_with fail
  go_at_call 20
  refine (pOkS x0 w1).mono ?_
  rintro e w2 ⟨rfl, k2⟩
  have s2 := k2.size
  have B2 := (B0.trans (k1.mono (by omega))).trans (k2.mono (by omega))
  obtain ⟨c0, c1, c2, c3, c4, c5, c6, c7, c8, c9, c10⟩ := (A0.below k1 S0).below k2 (by omega)
  go_wp2_with fail
  go_at_call 21
  refine (toP x0 w2).mono ?_
  rintro e w3 ⟨rfl, k3⟩
  have s3 := k3.size
  go_wp2_with fail
  go_at_call 19
  refine (pOkI x0 w3).mono ?_
  rintro e w4 ⟨rfl, k4⟩
  have B4 := (B2.trans (k3.mono (by omega))).trans (k4.mono (by omega))
  generalize pOk x0 = o
  cases o
  · go_wp2
    go_ret
    exact ⟨rfl, B4⟩
  · go_wp2
    go_ret
    exact ⟨rfl, B4⟩

set_option maxRecDepth 100000 in
theorem lifted (os : Os) (started : os.Started) (H : Type) (enc : TypeId × Value → H) :
    ReturnsInHanded {} Try.checked os 4 .any (Rows.fnExactPortOkSpec.pre6 enc Try.prog Try.f4 Rows.fnExactPortOkRow.domain false) (Rows.fnExactPortOkSpec.post enc Try.prog Try.f4 false true false false) := by
  refine returnsInHanded_of_change (C := Try.checked) own started (by kernel_rfl) Try.func4
    (ChangeSpec.witness6 (enc := enc) (C := Try.checked) false ⟨#[], #[.agg #[.bool false, .bool false, .int .i64 0, .int .i64 0, .int .i64 0, .int .i64 0, .int .i64 0, .int .i64 0, .int .i64 0, .int .i64 0, .bool false]], []⟩ 8 (by kernel_rfl) (by kernel_rfl) (by kernel_rfl) (by kernel_rfl)) ?_
  intro W base args ds gs before hval0 hW hcnd _
  have hval : ∀ (j : Nat) t v, Try.f4.params[j]? = some t → args[j]? = some v → Value.okWide Try.prog W .any base t v := hval0
  have hW' := hW
  obtain ⟨p, q, hA0, hV, rfl, hfz, hnd⟩ := hW
  have hA : DataW.TrodAll enc Try.prog W 0 (fun _ => true) true Try.f4.params.toList args.toList ds p := hA0
  rw [Try.params4] at hA hval
  obtain ⟨v0, vs0, d0, ds0, q0, qq0, hargs, rfl, rfl, h0, rr0⟩ := trodAll_cons hA
  obtain ⟨rfl, rfl, rfl⟩ := trodAll_nil rr0
  obtain rfl : args = #[v0] := by cases args; simp_all
  obtain ⟨rfl, rfl⟩ := trodVars_none hV
  have lt0 : ∀ x ∈ q0, x.block < W.heap.size := by obtain ⟨m, hm⟩ := h0; exact DataW.trod_lt m _ _ _ hm
  obtain ⟨x0, rfl⟩ := portIn_open (hval 0 39 v0 rfl rfl) h0
  clear hA0 hval0
  refine (walk x0 W ).mono fun e W' ⟨he, bel⟩ => ?_
  subst he
  exact ⟨_, rfl, _, _, _, [], _, [], hW', trodAll_mk1 (shut_bool Try.underlying4 _), (trodAll_cons_mk (Below.trod laidOut (by kernel_rfl) (of_decide_eq_true (by kernel_rfl)) h0 bel lt0) trodAll_mk0), rfl, bel.frame _, fun h => by cases h⟩

theorem over : Rows.fnExactPortOkRow.holds Try.pinned (OpenSpec.ofChange Rows.fnExactPortOkSpec) :=
  OpenClaim.holds_of_wide 4 Try.f4 rfl rfl rfl rfl rfl rfl rfl ⟨rfl, rfl, rfl, rfl, rfl⟩ rfl rfl rfl rfl rfl (by kernel_rfl) Try.func4 (by kernel_rfl)
    (of_decide_eq_true (by kernel_rfl)) (by unfold Func.isWrapper; first | (rw [if_pos (by decide +kernel)]; kernel_rfl) | (rw [if_neg (by decide +kernel)]; exact ⟨rfl, rfl⟩))
    (fun os started H enc _ => lifted os started H enc)

theorem proved : Rows.FnExactPortOkSaid := over
end Go.Proofs.Ytnicogjnkdnhbaa.fnExactPortOk
namespace Go.Proofs.Ytnicogjnkdnhbaa
theorem portOk_holds : Rows.FnExactPortOkSaid := fnExactPortOk.proved
#print axioms portOk_holds
end Go.Proofs.Ytnicogjnkdnhbaa
