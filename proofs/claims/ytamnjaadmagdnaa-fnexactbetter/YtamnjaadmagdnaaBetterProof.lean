/- For every two claims the call of FnExactBetter returns true: impl.Better answers as spec.Better, and writes into no argument. No condition. -/
import Derived.Test.YtamnjaadmagdnaaRows
import Derived.Test.YtamnjaadmagdnaaVecIn
import Derived.Test.YtamnjaadmagdnaaVec2
import Derived.Test.YtamnjaadmagdnaaTakes
import Derived.WalkKit
import Derived.Below
import Derived.ChangeOld
import Derived.WalkSmall
import Derived.ProofKit
import Derived.OpenShut
import Derived.ShutString
import Derived.BigQuiet
namespace Go.Proofs.Ytamnjaadmagdnaa.fnExactBetter
open Go.ChangeShapes Go.WideShapes Go.ChangeAt Go.RowKit
set_option linter.unusedVariables false

theorem own : ownKnob Try.prog.godebug = none := by kernel_rfl
theorem laidOut : laidOutB Try.prog = true := by kernel_rfl

set_option maxHeartbeats 4000000 in
theorem walk (r0 c0 b0 p0 : Int) (r1 c1 b1 p1 : Int) (w : World) (I0 : VecWf r0 c0 b0 p0) (I1 : VecWf r1 c1 b1 p1) :
    Calls Try.prog 4 #[.agg #[.int .i64 r0, .int .i64 c0, .int .i64 b0, .int .i64 p0], .agg #[.int .i64 r1, .int .i64 c1, .int .i64 b1, .int .i64 p1]] w fun e w' => e = .returned (.bool true) ∧ Below w.heap.size w w' := by
  clear I0 I1
  obtain ⟨x, hx⟩ : ∃ x, x = (w.alloc (Obj.cells #[.int .i64 r0, .int .i64 c0, .int .i64 b0, .int .i64 p0] 23)).alloc (Obj.cells #[.int .i64 r1, .int .i64 c1, .int .i64 b1, .int .i64 p1] 23) := ⟨_, rfl⟩
  have A0 : VecAt x w.heap.size r0 c0 b0 p0 := by rw [hx]; refine ⟨?_, ?_, ?_, ?_⟩ <;> simp [go_sem]
  have A1 : VecAt x (w.heap.size + 1) r1 c1 b1 p1 := by rw [hx]; refine ⟨?_, ?_, ?_, ?_⟩ <;> simp [go_sem]
  have B0 : Below w.heap.size w x := by rw [hx]; exact ((Below.refl _ _).alloc (Nat.le_refl _) _).alloc (by simp) _
  have S0 : w.heap.size + 1 < x.heap.size := by rw [hx]; simp
  go_enter Try.func4, Try.ntmps4
  go_wp2
  rw [← hx]
  clear hx
  refine wp_region_held (S := fun Y => Below x.heap.size x Y) (by kernel_rfl) ?_
  change wpAnyH _ _ _ _ _ _ _ _ (World.drew _)
  have hb0 : Below x.heap.size x x.drew := (Below.refl _ _).drew
  obtain ⟨y0, hy0⟩ : ∃ y, y = x.drew := ⟨_, rfl⟩
  rw [← hy0] at hb0 ⊢
  clear hy0
  refine takeW 0 7 (.agg #[.int .i64 r0, .int .i64 c0, .int .i64 b0, .int .i64 p0]) rfl rfl (by kernel_rfl) (by kernel_rfl) (by kernel_rfl) (fun _ _ _ h => h) (by kernel_rfl) (by (intro Y hSw; obtain ⟨C1, C2, C3, C4⟩ := A0.below hSw (by omega); go_simp)) (by assumption) ?_
  simp only [List.set_cons_zero, List.set_cons_succ]
  refine takeW 2 9 (.agg #[.int .i64 r1, .int .i64 c1, .int .i64 b1, .int .i64 p1]) rfl rfl (by kernel_rfl) (by kernel_rfl) (by kernel_rfl) (fun _ _ _ h => h) (by kernel_rfl) (by (intro Y hSw; obtain ⟨C1, C2, C3, C4⟩ := A1.below hSw (by omega); go_simp)) (by assumption) ?_
  simp only [List.set_cons_zero, List.set_cons_succ]
  refine wpAnyH_all (rs := [1]) (by kernel_rfl) (by simp) ?_
  intro i hi; obtain rfl : i = 1 := by simpa using hi
  refine wpOp_step rfl (fun K hK => ?_)
  rw [if_pos (by kernel_rfl)]
  go_simp
  go_at_call 6
  refine (toV r0 c0 b0 p0 y0).mono ?_
  rintro e y1 ⟨rfl, kq⟩
  have hb1 : Below x.heap.size x y1 := hb0.trans (kq.mono hb0.size)
  clear kq
  refine hK _ _ ⟨hb1, ?_⟩
  clear hK K hi
  refine wpAnyH_all (rs := [3]) (by kernel_rfl) (by simp) ?_
  intro i hi; obtain rfl : i = 3 := by simpa using hi
  refine wpOp_step rfl (fun K hK => ?_)
  rw [if_pos (by kernel_rfl)]
  go_simp
  go_at_call 6
  refine (toV r1 c1 b1 p1 y1).mono ?_
  rintro e y2 ⟨rfl, kq⟩
  have hb2 : Below x.heap.size x y2 := hb1.trans (kq.mono hb1.size)
  clear kq
  refine hK _ _ ⟨hb2, ?_⟩
  clear hK K hi
  refine wpAnyH_all (rs := [4]) (by kernel_rfl) (by simp) ?_
  intro i hi; obtain rfl : i = 4 := by simpa using hi
  refine wpOp_step rfl (fun K hK => ?_)
  rw [if_pos (by kernel_rfl)]
  go_simp
  go_at_call 8
  refine (betterS r0 c0 b0 p0 r1 c1 b1 p1 y2).mono ?_
  rintro e y3 ⟨rfl, kq⟩
  have hb3 : Below x.heap.size x y3 := hb2.trans (kq.mono hb2.size)
  clear kq
  refine hK _ _ ⟨hb3, ?_⟩
  clear hK K hi
  refine takeW 5 5 (.bool (vLt r0 c0 b0 p0 r1 c1 b1 p1)) rfl rfl (by kernel_rfl) (by kernel_rfl) (by kernel_rfl) (fun _ _ _ h => h) (by kernel_rfl) (by (intro w hSw; go_simp)) (by assumption) ?_
  simp only [List.set_cons_zero, List.set_cons_succ]
  refine wpAnyH_done (by kernel_rfl) ?_ _
  have A0 := A0.below hb3 (by omega)
  have A1 := A1.below hb3 (by omega)
  have B3 := B0.trans (hb3.mono B0.size)
  have S3 := hb3.size
  clear hb0 hb1 hb2 hb3 B0
  go_wp2
  refine wp_region_held (S := fun Y => Below y3.heap.size y3 Y) (by kernel_rfl) ?_
  change wpAnyH _ _ _ _ _ _ _ _ (World.drew _)
  have hb0 : Below y3.heap.size y3 y3.drew := (Below.refl _ _).drew
  obtain ⟨z0, hz0⟩ : ∃ y, y = y3.drew := ⟨_, rfl⟩
  rw [← hz0] at hb0 ⊢
  clear hz0
  refine takeW 0 12 (.agg #[.int .i64 r0, .int .i64 c0, .int .i64 b0, .int .i64 p0]) rfl rfl (by kernel_rfl) (by kernel_rfl) (by kernel_rfl) (fun _ _ _ h => h) (by kernel_rfl) (by (intro Y hSw; obtain ⟨C1, C2, C3, C4⟩ := A0.below hSw (by omega); go_simp)) (by assumption) ?_
  simp only [List.set_cons_zero, List.set_cons_succ]
  refine takeW 2 14 (.agg #[.int .i64 r1, .int .i64 c1, .int .i64 b1, .int .i64 p1]) rfl rfl (by kernel_rfl) (by kernel_rfl) (by kernel_rfl) (fun _ _ _ h => h) (by kernel_rfl) (by (intro Y hSw; obtain ⟨C1, C2, C3, C4⟩ := A1.below hSw (by omega); go_simp)) (by assumption) ?_
  simp only [List.set_cons_zero, List.set_cons_succ]
  refine wpAnyH_all (rs := [1]) (by kernel_rfl) (by simp) ?_
  intro i hi; obtain rfl : i = 1 := by simpa using hi
  refine wpOp_step rfl (fun K hK => ?_)
  rw [if_pos (by kernel_rfl)]
  go_simp
  go_at_call 6
  refine (toV r0 c0 b0 p0 z0).mono ?_
  rintro e z1 ⟨rfl, kq⟩
  have hb1 : Below y3.heap.size y3 z1 := hb0.trans (kq.mono hb0.size)
  clear kq
  refine hK _ _ ⟨hb1, ?_⟩
  clear hK K hi
  refine wpAnyH_all (rs := [3]) (by kernel_rfl) (by simp) ?_
  intro i hi; obtain rfl : i = 3 := by simpa using hi
  refine wpOp_step rfl (fun K hK => ?_)
  rw [if_pos (by kernel_rfl)]
  go_simp
  go_at_call 6
  refine (toV r1 c1 b1 p1 z1).mono ?_
  rintro e z2 ⟨rfl, kq⟩
  have hb2 : Below y3.heap.size y3 z2 := hb1.trans (kq.mono hb1.size)
  clear kq
  refine hK _ _ ⟨hb2, ?_⟩
  clear hK K hi
  refine wpAnyH_all (rs := [4]) (by kernel_rfl) (by simp) ?_
  intro i hi; obtain rfl : i = 4 := by simpa using hi
  refine wpOp_step rfl (fun K hK => ?_)
  rw [if_pos (by kernel_rfl)]
  go_simp
  go_at_call 9
  refine (betterI r0 c0 b0 p0 r1 c1 b1 p1 z2).mono ?_
  rintro e z3 ⟨rfl, kq⟩
  have hb3 : Below y3.heap.size y3 z3 := hb2.trans (kq.mono hb2.size)
  clear kq
  refine hK _ _ ⟨hb3, ?_⟩
  clear hK K hi
  refine takeW 5 6 (.bool (vLt r0 c0 b0 p0 r1 c1 b1 p1)) rfl rfl (by kernel_rfl) (by kernel_rfl) (by kernel_rfl) (fun _ _ _ h => h) (by kernel_rfl) (by (intro w hSw; go_simp)) (by assumption) ?_
  simp only [List.set_cons_zero, List.set_cons_succ]
  refine wpAnyH_done (by kernel_rfl) ?_ _
  have B4 := B3.trans (hb3.mono B3.size)
  generalize vLt r0 c0 b0 p0 r1 c1 b1 p1 = o
  cases o
  · go_wp2
    go_ret
    exact ⟨rfl, B4⟩
  · go_wp2
    go_ret
    exact ⟨rfl, B4⟩

set_option maxRecDepth 100000 in
theorem lifted (os : Os) (started : os.Started) (H : Type) (enc : TypeId × Value → H) :
    ReturnsInHanded {} Try.checked os 4 .any (Rows.fnExactBetterSpec.pre6 enc Try.prog Try.f4 Rows.fnExactBetterRow.domain false) (Rows.fnExactBetterSpec.post enc Try.prog Try.f4 false true false false) := by
  refine returnsInHanded_of_change (C := Try.checked) own started (by kernel_rfl) Try.func4
    (ChangeSpec.witness6 (enc := enc) (C := Try.checked) false ⟨#[], #[.agg #[.int .i64 0, .int .i64 0, .int .i64 0, .int .i64 0], .agg #[.int .i64 0, .int .i64 0, .int .i64 0, .int .i64 0]], []⟩ 8 (by kernel_rfl) (by kernel_rfl) (by kernel_rfl) (by kernel_rfl)) ?_
  intro W base args ds gs before hval0 hW hcnd _
  have hval : ∀ (j : Nat) t v, Try.f4.params[j]? = some t → args[j]? = some v → Value.okWide Try.prog W .any base t v := hval0
  have hW' := hW
  obtain ⟨p, q, hA0, hV, rfl, hfz, hnd⟩ := hW
  have hA : DataW.TrodAll enc Try.prog W 0 (fun _ => true) true Try.f4.params.toList args.toList ds p := hA0
  rw [Try.params4] at hA hval
  obtain ⟨v0, vs0, d0, ds0, q0, qq0, hargs, rfl, rfl, h0, rr0⟩ := trodAll_cons hA
  obtain ⟨v1, vs1, d1, ds1, q1, qq1, rfl, rfl, rfl, h1, rr1⟩ := trodAll_cons rr0
  obtain ⟨rfl, rfl, rfl⟩ := trodAll_nil rr1
  obtain rfl : args = #[v0, v1] := by cases args; simp_all
  obtain ⟨rfl, rfl⟩ := trodVars_none hV
  have lt0 : ∀ x ∈ q0, x.block < W.heap.size := by obtain ⟨m, hm⟩ := h0; exact DataW.trod_lt m _ _ _ hm
  obtain ⟨r0, c0, b0, p0, rfl, I0⟩ := vecIn_open (hval 0 23 v0 rfl rfl) h0
  have lt1 : ∀ x ∈ q1, x.block < W.heap.size := by obtain ⟨m, hm⟩ := h1; exact DataW.trod_lt m _ _ _ hm
  obtain ⟨r1, c1, b1, p1, rfl, I1⟩ := vecIn_open (hval 1 23 v1 rfl rfl) h1
  clear hA0 hval0
  refine (walk r0 c0 b0 p0 r1 c1 b1 p1 W I0 I1).mono fun e W' ⟨he, bel⟩ => ?_
  subst he
  exact ⟨_, rfl, _, _, _, [], _, [], hW', trodAll_mk1 (shut_bool Try.underlying4 _), (trodAll_cons_mk (Below.trod laidOut (by kernel_rfl) (of_decide_eq_true (by kernel_rfl)) h0 bel lt0) (trodAll_cons_mk (Below.trod laidOut (by kernel_rfl) (of_decide_eq_true (by kernel_rfl)) h1 bel lt1) trodAll_mk0)), rfl, bel.frame _, fun h => by cases h⟩

theorem over : Rows.fnExactBetterRow.holds Try.pinned (OpenSpec.ofChange Rows.fnExactBetterSpec) :=
  OpenClaim.holds_of_wide 4 Try.f4 rfl rfl rfl rfl rfl rfl rfl ⟨rfl, rfl, rfl, rfl, rfl⟩ rfl rfl rfl rfl rfl (by kernel_rfl) Try.func4 (by kernel_rfl)
    (of_decide_eq_true (by kernel_rfl)) (by unfold Func.isWrapper; first | (rw [if_pos (by decide +kernel)]; kernel_rfl) | (rw [if_neg (by decide +kernel)]; exact ⟨rfl, rfl⟩))
    (fun os started H enc _ => lifted os started H enc)

theorem proved : Rows.FnExactBetterSaid := over
end Go.Proofs.Ytamnjaadmagdnaa.fnExactBetter
namespace Go.Proofs.Ytamnjaadmagdnaa
theorem better_holds : Rows.FnExactBetterSaid := fnExactBetter.proved
#print axioms better_holds
end Go.Proofs.Ytamnjaadmagdnaa
