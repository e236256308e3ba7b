/- For every member the call of FnExactMemberOk returns true: impl.MemberOk answers as spec.MemberOk, and writes into no argument (a list of more than 1048576 nets is answered true at once). No condition. -/
import Derived.Test.YtmeofihjimgldaaRows
import Derived.Test.YtmeofihjimgldaaMember1
import Derived.Test.YtmeofihjimgldaaNets5
import Derived.Test.YtmeofihjimgldaaTakes
import Derived.WalkKit
import Derived.Below
import Derived.ChangeOld
import Derived.WalkSmall
import Derived.ProofKit
import Derived.OpenShut
import Derived.ShutString
import Derived.BigQuiet
namespace Go.Proofs.Ytmeofihjimgldaa.fnExactMemberOk
open Go.ChangeShapes Go.WideShapes Go.ChangeAt Go.RowKit
set_option linter.unusedVariables false

theorem own : ownKnob Try.prog.godebug = none := by kernel_rfl
theorem laidOut : laidOutB Try.prog = true := by kernel_rfl

set_option maxHeartbeats 1000000 in
theorem walk (o0 : Int) (ad0 : Option Addr) (len0 cap0 : Nat) (f0 : Nat → Int) (w : World) (I0 : MemIn w o0 ad0 len0 cap0 f0) :
    Calls Try.prog 4 #[.agg #[.int .i64 o0, .slice ad0 len0 cap0]] w fun e w' => e = .returned (.bool true) ∧ Below w.heap.size w w' := by
  obtain ⟨lm, hv⟩ := I0
  by_cases hbig : 1048576 < len0
  · go_enter Try.func4, Try.ntmps4
    go_wp2_with fail
    go_at_call 18
    refine (szM o0 ad0 len0 cap0 1048576 _ (by omega) (by omega) lm).mono ?_
    rintro e w1 ⟨rfl, k1⟩
    rw [if_neg (by omega)]
    go_wp2
    go_ret
    exact ⟨rfl, (below_box w _).trans (k1.mono (by simp))⟩
  have hl : len0 ≤ 1048576 := by omega
  have hl' : (len0 : Int) ≤ 1048576 := by omega
  have hl2 : 0 ≤ 1048576 - (len0 : Int) := by omega
  clear hbig
  go_enter Try.func4, Try.ntmps4
  go_wp2_with fail
  go_at_call 18
  obtain ⟨x, hx⟩ : ∃ x, x = w.alloc (Obj.cells #[.int .i64 o0, .slice ad0 len0 cap0] 36) := ⟨_, rfl⟩
  have F0 : MemAt x w.heap.size o0 ad0 len0 cap0 := by rw [hx]; refine ⟨?_, ?_⟩ <;> simp [go_sem]
  have B0 : Below w.heap.size w x := by rw [hx]; exact below_box w _
  have S0 : w.heap.size < x.heap.size := by rw [hx]; exact size_box w _
  rw [← hx]
  clear hx
  refine (szM o0 ad0 len0 cap0 1048576 x (by omega) (by omega) lm).mono ?_
  rintro e w1 ⟨rfl, k1⟩
  rw [if_pos hl']
  have s1 := k1.size
  have B1 := B0.trans (k1.mono (by omega))
  have F1 := F0.below k1 S0
  obtain ⟨C1, C2⟩ := F1
  go_wp2_with fail
  go_at_call 19
  refine (toM o0 ad0 len0 cap0 f0 w1 (hv.below B1 (Nat.le_refl _)) hl).mono ?_
  rintro e w2 ⟨N2, rfl, n2, m2, v2, r2, k2⟩
  have s2 := k2.size
  have B2 := B1.trans (k2.mono (by omega))
  go_wp2_with fail
  go_at_call 17
  refine (memberOkS o0 _ len0 _ f0 w2 v2 lm).mono ?_
  rintro e w3 ⟨rfl, k3⟩
  have s3 := k3.size
  have B3 := B2.trans (k3.mono (by omega))
  obtain ⟨D1, D2⟩ : MemAt w3 w.heap.size o0 ad0 len0 cap0 := (MemAt.below (⟨C1, C2⟩ : MemAt w1 w.heap.size o0 ad0 len0 cap0) k2 (by omega)).below k3 (by omega)
  clear C1 C2
  go_wp2_with fail
  go_at_call 19
  refine (toM o0 ad0 len0 cap0 f0 w3 (hv.below B3 (Nat.le_refl _)) hl).mono ?_
  rintro e w4 ⟨N4, rfl, n4, m4, v4, r4, k4⟩
  have s4 := k4.size
  have B4 := B3.trans (k4.mono (by omega))
  go_wp2_with fail
  go_at_call 16
  obtain ⟨y, hy⟩ : ∃ y, y = w4.alloc (Obj.cells #[.int .i64 o0, .slice (some ⟨N4, 0, none⟩) len0 len0] 26) := ⟨_, rfl⟩
  have F5 : MemAt y w4.heap.size o0 (some ⟨N4, 0, none⟩) len0 len0 := by rw [hy]; refine ⟨?_, ?_⟩ <;> simp [go_sem]
  have k5 : Below w4.heap.size w4 y := by rw [hy]; exact below_box w4 _
  have s5 : w4.heap.size < y.heap.size := by rw [hy]; exact size_box w4 _
  rw [← hy]
  clear hy
  have v5 := v4.below k5 (Nat.le_refl _)
  refine (memberOkI o0 _ len0 _ f0 y v5 lm).mono ?_
  rintro e w6 ⟨rfl, k6⟩
  have s6 := k6.size
  have B6 := (B4.trans (k5.mono (by omega))).trans (k6.mono (by omega))
  have FX := F5.below k6 s5
  have FA : MemAt w6 w.heap.size o0 ad0 len0 cap0 := ((MemAt.below (⟨D1, D2⟩ : MemAt w3 w.heap.size o0 ad0 len0 cap0) k4 (by omega)).below k5 (by omega)).below k6 (by omega)
  have v6 := v5.below k6 (Nat.le_refl _)
  clear F5 v4 r4 v2 r2 v5
  cases mOk o0 f0 len0 <;> (
    go_wp2_with fail
    refine wp_region_held (S := fun Y => Below w6.heap.size w6 Y) (by kernel_rfl) ?_
    change wpAnyH _ _ _ _ _ _ _ _ (World.drew _)
    have hb0 : Below w6.heap.size w6 w6.drew := (Below.refl _ _).drew
    refine takeW 0 22 (.agg #[.int .i64 o0, .slice (some ⟨N4, 0, none⟩) len0 len0]) rfl rfl (by kernel_rfl) (by kernel_rfl) (by kernel_rfl) (fun _ _ _ h => h) (by kernel_rfl) (by (intro Y hSw; obtain ⟨C1, C2⟩ := FX.below hSw (by omega); go_simp)) (by assumption) ?_
    simp only [List.set_cons_zero, List.set_cons_succ]
    refine takeW 1 23 (.agg #[.int .i64 o0, .slice ad0 len0 cap0]) rfl rfl (by kernel_rfl) (by kernel_rfl) (by kernel_rfl) (fun _ _ _ h => h) (by kernel_rfl) (by (intro Y hSw; obtain ⟨C1, C2⟩ := FA.below hSw (by omega); go_simp)) (by assumption) ?_
    simp only [List.set_cons_zero, List.set_cons_succ]
    refine wpAnyH_all (rs := [2]) (by kernel_rfl) (by simp) ?_
    intro i hi; obtain rfl : i = 2 := by simpa using hi
    refine wpOp_step rfl (fun K hK => ?_)
    rw [if_pos (by kernel_rfl)]
    go_simp
    go_at_call 19
    refine (toM o0 ad0 len0 cap0 f0 _ ((hv.below B6 (Nat.le_refl _)).below hb0 (Nat.le_refl _)) hl).mono ?_
    rintro e y1 ⟨N1, rfl, nq1, mq1, vq1, rq1, jq1⟩
    have hb1 : Below w6.heap.size w6 y1 := hb0.trans (jq1.mono hb0.size)
    refine hK _ _ ⟨hb1, ?_⟩
    clear hK K hi
    refine wpAnyH_all (rs := [3]) (by kernel_rfl) (by simp) ?_
    intro i hi; obtain rfl : i = 3 := by simpa using hi
    refine wpOp_step rfl (fun K hK => ?_)
    rw [if_pos (by kernel_rfl)]
    go_simp
    go_at_call 20
    refine (eqM o0 _ _ len0 _ _ f0 _ (v6.below hb1 (Nat.le_refl _)) vq1 hl).mono ?_
    rintro e y2 ⟨rfl, jq2⟩
    have k7 : Below w6.heap.size w6 y2 := hb1.trans (jq2.mono hb1.size)
    refine hK _ _ ⟨k7, ?_⟩
    clear hK K hi
    refine takeW 4 26 (.bool false) rfl rfl (by kernel_rfl) (by kernel_rfl) (by kernel_rfl) (fun _ _ _ h => h) (by kernel_rfl) (by (intro w hSw; go_simp)) (by assumption) ?_
    simp only [List.set_cons_zero, List.set_cons_succ]
    refine wpAnyH_done (by kernel_rfl) ?_ _
    go_wp2
    go_ret
    exact ⟨rfl, B6.trans (k7.mono B6.size)⟩)

set_option maxRecDepth 100000 in
theorem lifted (os : Os) (started : os.Started) (H : Type) (enc : TypeId × Value → H) :
    ReturnsInHanded {} Try.checked os 4 .any (Rows.fnExactMemberOkSpec.pre6 enc Try.prog Try.f4 Rows.fnExactMemberOkRow.domain false) (Rows.fnExactMemberOkSpec.post enc Try.prog Try.f4 false true false false) := by
  refine returnsInHanded_of_change (C := Try.checked) own started (by kernel_rfl) Try.func4
    (ChangeSpec.witness6 (enc := enc) (C := Try.checked) false ⟨#[], #[.agg #[.int .i64 0, .slice none 0 0]], []⟩ 8 (by kernel_rfl) (by kernel_rfl) (by kernel_rfl) (by kernel_rfl)) ?_
  intro W base args ds gs before hval0 hW hcnd _
  have hval : ∀ (j : Nat) t v, Try.f4.params[j]? = some t → args[j]? = some v → Value.okWide Try.prog W .any base t v := hval0
  have hW' := hW
  obtain ⟨p, q, hA0, hV, rfl, hfz, hnd⟩ := hW
  have hA : DataW.TrodAll enc Try.prog W 0 (fun _ => true) true Try.f4.params.toList args.toList ds p := hA0
  rw [Try.params4] at hA hval
  obtain ⟨v0, vs0, d0, ds0, p0, q0, hargs, rfl, rfl, h0, r0⟩ := trodAll_cons hA
  obtain ⟨rfl, rfl, rfl⟩ := trodAll_nil r0
  obtain rfl : args = #[v0] := by cases args; simp_all
  obtain ⟨rfl, rfl⟩ := trodVars_none hV
  obtain ⟨o0, ad0, len0, cap0, f0, rfl, I0⟩ := memIn_open (hval 0 36 v0 rfl rfl) h0
  have lt0 : ∀ x ∈ p0, x.block < W.heap.size := by obtain ⟨m, hm⟩ := h0; exact DataW.trod_lt m _ _ _ hm
  clear hA0 hval0
  refine (walk o0 ad0 len0 cap0 f0 W I0).mono fun e W' ⟨he, bel⟩ => ?_
  subst he
  exact ⟨_, rfl, _, _, _, [], _, [], hW', trodAll_mk1 (shut_bool Try.underlying4 _), (trodAll_cons_mk (Below.trod laidOut (by kernel_rfl) (of_decide_eq_true (by kernel_rfl)) h0 bel lt0) trodAll_mk0), rfl, bel.frame _, fun h => by cases h⟩

theorem over : Rows.fnExactMemberOkRow.holds Try.pinned (OpenSpec.ofChange Rows.fnExactMemberOkSpec) :=
  OpenClaim.holds_of_wide 4 Try.f4 rfl rfl rfl rfl rfl rfl rfl ⟨rfl, rfl, rfl, rfl, rfl⟩ rfl rfl rfl rfl rfl (by kernel_rfl) Try.func4 (by kernel_rfl)
    (of_decide_eq_true (by kernel_rfl)) (by unfold Func.isWrapper; first | (rw [if_pos (by decide +kernel)]; kernel_rfl) | (rw [if_neg (by decide +kernel)]; exact ⟨rfl, rfl⟩))
    (fun os started H enc _ => lifted os started H enc)

theorem proved : Rows.FnExactMemberOkSaid := over
end Go.Proofs.Ytmeofihjimgldaa.fnExactMemberOk
namespace Go.Proofs.Ytmeofihjimgldaa
theorem memberOk_holds : Rows.FnExactMemberOkSaid := fnExactMemberOk.proved
#print axioms memberOk_holds
end Go.Proofs.Ytmeofihjimgldaa
