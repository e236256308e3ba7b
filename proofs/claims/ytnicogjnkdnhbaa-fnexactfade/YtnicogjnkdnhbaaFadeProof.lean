/- For every port the call of FnExactFade returns true: impl.Fade answers as spec.Fade, every field, and writes into no argument. No condition. -/
import Derived.Test.YtnicogjnkdnhbaaRows
import Derived.Test.YtnicogjnkdnhbaaPort5
import Derived.Deep.Cut
import Derived.WalkKit
import Derived.Below
import Derived.ChangeOld
import Derived.WalkSmall
import Derived.ProofKit
import Derived.OpenShut
import Derived.ShutString
import Derived.BigQuiet
namespace Go.Proofs.Ytnicogjnkdnhbaa.fnExactFade
open Go.ChangeShapes Go.WideShapes Go.ChangeAt Go.RowKit
set_option linter.unusedVariables false

theorem own : ownKnob Try.prog.godebug = none := by kernel_rfl
theorem laidOut : laidOutB Try.prog = true := by kernel_rfl

set_option maxHeartbeats 2000000 in
theorem walk (x0 : Pt) (w : World)  :
    Calls Try.prog 6 #[.agg #[.bool x0.up, .bool x0.has, .int .i64 x0.r, .int .i64 x0.c, .int .i64 x0.b, .int .i64 x0.p, .int .i64 x0.h, .int .i64 x0.l, .int .i64 x0.ro, .int .i64 x0.wa, .bool x0.op]] w fun e w' => e = .returned (.bool true) ∧ Below w.heap.size w w' := by
  obtain ⟨y, hy⟩ : ∃ y, y = w.alloc (Obj.cells #[.bool x0.up, .bool x0.has, .int .i64 x0.r, .int .i64 x0.c, .int .i64 x0.b, .int .i64 x0.p, .int .i64 x0.h, .int .i64 x0.l, .int .i64 x0.ro, .int .i64 x0.wa, .bool x0.op] 39) := ⟨_, rfl⟩
  have A0 : PtAt y w.heap.size x0 := by rw [hy]; exact ptAt_box w _ _
  have B0 : Below w.heap.size w y := by rw [hy]; exact (Below.refl _ _).alloc (Nat.le_refl _) _
  have S0 : w.heap.size < y.heap.size := A0.lt
  go_enter Try.func6, Try.ntmps6
  go_wp2_with fail
  go_at_call 21
  rw [← hy]
  clear hy
  refine (toP x0 y).mono ?_
  rintro e w1 ⟨rfl, k1⟩
  have s1 := k1.size
  go_wp2_with fail
  go_at_call 17
  refine (fadeS x0 w1).mono ?_
  rintro e w2 ⟨rfl, k2⟩
  have s2 := k2.size
  have B2 := (B0.trans (k1.mono (by omega))).trans (k2.mono (by omega))
  have A2 := (A0.below k1 S0).below k2 (by omega)
  clear A0 B0 k1 k2
  generalize hz : fadeR x0 = z
  replace hz : Hid _ := hz
  obtain ⟨c0, c1, c2, c3, c4, c5, c6, c7, c8, c9, c10⟩ := A2
  obtain ⟨y3, hy3⟩ : ∃ y3, y3 = w2.alloc (Obj.cells #[.bool z.up, .bool z.has, .int .i64 z.r, .int .i64 z.c, .int .i64 z.b, .int .i64 z.p, .int .i64 z.h, .int .i64 z.l, .int .i64 z.ro, .int .i64 z.wa, .bool z.op] 27) := ⟨_, rfl⟩
  obtain ⟨M, hM⟩ : ∃ M, M = w2.heap.size := ⟨_, rfl⟩
  have A3 : PtAt y3 w.heap.size x0 := by rw [hy3]; exact (⟨c0, c1, c2, c3, c4, c5, c6, c7, c8, c9, c10⟩ : PtAt w2 w.heap.size x0).keep (Below.heap_alloc w2 _ _ (by omega))
  have Z3 : PtAt y3 M z := by rw [hy3, hM]; exact ptAt_box w2 _ _
  have B3 : Below w.heap.size w y3 := by rw [hy3]; exact B2.alloc (by omega) _
  have S3 : M < y3.heap.size := Z3.lt
  have hM' : w.heap.size ≤ M := by omega
  go_upto_region 2 with fail
  rw [← hy3, ← hM]
  clear hy3 hM c0 c1 c2 c3 c4 c5 c6 c7 c8 c9 c10 B2 s1 s2
  obtain ⟨c0, c1, c2, c3, c4, c5, c6, c7, c8, c9, c10⟩ := A3
  go_wp2_with fail
  go_at_call 21
  refine (toP x0 y3).mono ?_
  rintro e w4 ⟨rfl, k4⟩
  have s4 := k4.size
  go_wp2_with fail
  go_at_call 12
  refine (fadeI x0 w4).mono ?_
  rintro e w5 ⟨rfl, k5⟩
  have s5 := k5.size
  have B5 := (B3.trans (k4.mono (by omega))).trans (k5.mono (by omega))
  obtain ⟨d0, d1, d2, d3, d4, d5, d6, d7, d8, d9, d10⟩ := (Z3.below k4 (by omega)).below k5 (by omega)
  clear Z3 B3 k4 k5
  rw [hz.out]
  clear hz
  have D5 : PtAt w5 M z := ⟨d0, d1, d2, d3, d4, d5, d6, d7, d8, d9, d10⟩
  obtain ⟨y6, hy6⟩ : ∃ y6, y6 = w5.alloc (Obj.cells #[.bool z.up, .bool z.has, .int .i64 z.r, .int .i64 z.c, .int .i64 z.b, .int .i64 z.p, .int .i64 z.h, .int .i64 z.l, .int .i64 z.ro, .int .i64 z.wa, .bool z.op] 27) := ⟨_, rfl⟩
  have B6 : Below w.heap.size w y6 := by rw [hy6]; exact B5.alloc (by omega) _
  have S6 : w.heap.size ≤ y6.heap.size := B6.size
  obtain ⟨K, hK⟩ : ∃ K, K = w5.heap.size := ⟨_, rfl⟩
  have D6 : PtAt y6 M z := by rw [hy6]; exact D5.keep (Below.heap_alloc w5 _ _ D5.lt)
  have G6 : PtAt y6 K z := by rw [hy6, hK]; exact ptAt_box w5 _ _
  go_upto_region 3 with fail
  rw [← hy6, ← hK]
  clear hy6 hK D5 d0 d1 d2 d3 d4 d5 d6 d7 d8 d9 d10 c0 c1 c2 c3 c4 c5 c6 c7 c8 c9 c10 
  obtain ⟨d0, d1, d2, d3, d4, d5, d6, d7, d8, d9, d10⟩ := D6
  obtain ⟨e0, e1, e2, e3, e4, e5, e6, e7, e8, e9, e10⟩ := G6
  go_wp2_with fail
  go_at_call 23
  refine (eqP z y6).mono ?_
  rintro e w7 ⟨rfl, k7⟩
  have B7 := B6.trans (k7.mono S6)
  go_wp2
  go_ret
  exact ⟨rfl, B7⟩

set_option maxRecDepth 100000 in
theorem lifted (os : Os) (started : os.Started) (H : Type) (enc : TypeId × Value → H) :
    ReturnsInHanded {} Try.checked os 6 .any (Rows.fnExactFadeSpec.pre6 enc Try.prog Try.f6 Rows.fnExactFadeRow.domain false) (Rows.fnExactFadeSpec.post enc Try.prog Try.f6 false true false false) := by
  refine returnsInHanded_of_change (C := Try.checked) own started (by kernel_rfl) Try.func6
    (ChangeSpec.witness6 (enc := enc) (C := Try.checked) false ⟨#[], #[.agg #[.bool false, .bool false, .int .i64 0, .int .i64 0, .int .i64 0, .int .i64 0, .int .i64 0, .int .i64 0, .int .i64 0, .int .i64 0, .bool false]], []⟩ 8 (by kernel_rfl) (by kernel_rfl) (by kernel_rfl) (by kernel_rfl)) ?_
  intro W base args ds gs before hval0 hW hcnd _
  have hval : ∀ (j : Nat) t v, Try.f6.params[j]? = some t → args[j]? = some v → Value.okWide Try.prog W .any base t v := hval0
  have hW' := hW
  obtain ⟨p, q, hA0, hV, rfl, hfz, hnd⟩ := hW
  have hA : DataW.TrodAll enc Try.prog W 0 (fun _ => true) true Try.f6.params.toList args.toList ds p := hA0
  rw [Try.params6] at hA hval
  obtain ⟨v0, vs0, d0, ds0, q0, qq0, hargs, rfl, rfl, h0, rr0⟩ := trodAll_cons hA
  obtain ⟨rfl, rfl, rfl⟩ := trodAll_nil rr0
  obtain rfl : args = #[v0] := by cases args; simp_all
  obtain ⟨rfl, rfl⟩ := trodVars_none hV
  have lt0 : ∀ x ∈ q0, x.block < W.heap.size := by obtain ⟨m, hm⟩ := h0; exact DataW.trod_lt m _ _ _ hm
  obtain ⟨x0, rfl⟩ := portIn_open (hval 0 39 v0 rfl rfl) h0
  clear hA0 hval0
  refine (walk x0 W ).mono fun e W' ⟨he, bel⟩ => ?_
  subst he
  exact ⟨_, rfl, _, _, _, [], _, [], hW', trodAll_mk1 (shut_bool Try.underlying4 _), (trodAll_cons_mk (Below.trod laidOut (by kernel_rfl) (of_decide_eq_true (by kernel_rfl)) h0 bel lt0) trodAll_mk0), rfl, bel.frame _, fun h => by cases h⟩

theorem over : Rows.fnExactFadeRow.holds Try.pinned (OpenSpec.ofChange Rows.fnExactFadeSpec) :=
  OpenClaim.holds_of_wide 6 Try.f6 rfl rfl rfl rfl rfl rfl rfl ⟨rfl, rfl, rfl, rfl, rfl⟩ rfl rfl rfl rfl rfl (by kernel_rfl) Try.func6 (by kernel_rfl)
    (of_decide_eq_true (by kernel_rfl)) (by unfold Func.isWrapper; first | (rw [if_pos (by decide +kernel)]; kernel_rfl) | (rw [if_neg (by decide +kernel)]; exact ⟨rfl, rfl⟩))
    (fun os started H enc _ => lifted os started H enc)

theorem proved : Rows.FnExactFadeSaid := over
end Go.Proofs.Ytnicogjnkdnhbaa.fnExactFade
namespace Go.Proofs.Ytnicogjnkdnhbaa
theorem fade_holds : Rows.FnExactFadeSaid := fnExactFade.proved
#print axioms fade_holds
end Go.Proofs.Ytnicogjnkdnhbaa
