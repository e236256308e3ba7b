/- FnExactMinderOk, proved: at every minder the program's MinderOk answers as the specification's, and no argument is written into; no condition. -/
import Derived.Test.YtghmmcenjdbfgaaRows
import Derived.Test.YtghmmcenjdbfgaaMg5
import Derived.Test.YtghmmcenjdbfgaaMg6
import Derived.Test.YtghmmcenjdbfgaaMi2
import Derived.Test.YtghmmcenjdbfgaaTakes
import Derived.Deep.Cut
import Derived.WalkKit
import Derived.Below
import Derived.ChangeOld
import Derived.WalkSmall
import Derived.ProofKit
import Derived.OpenShut
import Derived.ShutString
import Derived.BigQuiet
namespace Go.Proofs.Ytghmmcenjdbfgaa.fnExactMinderOk
open Go.ChangeShapes Go.WideShapes Go.ChangeAt Go.RowKit
set_option linter.unusedVariables false

theorem own : ownKnob Try.prog.godebug = none := by kernel_rfl
theorem laidOut : laidOutB Try.prog = true := by kernel_rfl

set_option maxHeartbeats 8000000 in
set_option maxRecDepth 100000 in
theorem walk (m0 : Mi) (ad0 : Option Addr) (cap0 : Nat) (w : World) (I0 : MiIn w ad0 cap0 m0) :
    Calls Try.prog 6 #[.agg #[.bool m0.up, .int .i64 m0.li, .int .i64 m0.ep, .slice ad0 m0.lg.length cap0, .int .i64 m0.sd, .int .i64 m0.ac, .int .i64 m0.al]] w fun e w' => e = .returned (.bool true) ∧ Below w.heap.size w w' := by
  obtain ⟨hlm, V0, hn0⟩ := I0
  obtain ⟨x0, hx⟩ : ∃ y_, y_ = w.alloc (Obj.cells #[.bool m0.up, .int .i64 m0.li, .int .i64 m0.ep, .slice ad0 m0.lg.length cap0, .int .i64 m0.sd, .int .i64 m0.ac, .int .i64 m0.al] 68) := ⟨_, rfl⟩
  have A0 : MiAt x0 w.heap.size m0 (.slice ad0 m0.lg.length cap0) := by rw [hx]; exact MiAt.new w _ _ _
  have BW : Below w.heap.size w x0 := by rw [hx]; exact below_new _
  have lx0 := A0.lt
  have vb : ∀ a, ad0 = some a → 0 < m0.lg.length → a.block < w.heap.size := V0.lt ikEnc_len (by omega)
  have V0 := V0.below BW vb
  go_enter Try.func6, Try.ntmps6
  go_wp2_with fail
  go_at_call 36
  rw [← hx]
  clear hx
  refine (miSz m0 ad0 cap0 1048576 x0 (by decide) (by decide) hlm).mono ?_
  rintro e y1 ⟨rfl, kq⟩
  have sy1 := kq.size
  have A0 := A0.below kq A0.lt
  have V0 := V0.below kq (V0.lt ikEnc_len (by omega))
  have BW := BW.trans (kq.mono BW.size)
  clear kq
  by_cases hl : m0.lg.length ≤ 1048576
  rotate_left
  · rw [if_neg (by omega)]
    go_wp2
    go_ret
    exact ⟨rfl, BW⟩
  rw [if_pos (by omega)]
  have hlf : 0 ≤ 1048576 - (m0.lg.length : Int) := by omega
  generalize 1048576 - (m0.lg.length : Int) = lf at hlf ⊢
  have cc := A0
  obtain ⟨m0_0, m0_1, m0_2, m0_3, m0_4, m0_5, m0_6⟩ := cc
  go_wp2_with fail
  go_at_call 37
  clear m0_0 m0_1 m0_2 m0_3 m0_4 m0_5 m0_6
  refine (miTo m0 ad0 cap0 y1 V0 hl).mono ?_
  rintro e x1 ⟨gO1, rfl, _, _, O1, kq⟩
  have sx1 := kq.size
  have A0 := A0.below kq A0.lt
  have V0 := V0.below kq (V0.lt ikEnc_len (by omega))
  have BW := BW.trans (kq.mono BW.size)
  clear kq
  have iO1 : ∀ g, (Value.slice (some ⟨gO1, 0, none⟩) m0.lg.length m0.lg.length).ownBlock = some g → y1.heap.size ≤ g ∧ g < x1.heap.size := fun g e => O1.lt g e
  go_wp2_with fail
  go_at_call 35
  refine (miOkS m0 (some ⟨gO1, 0, none⟩) m0.lg.length x1 O1.view.2 (by omega)).mono ?_
  rintro e x2 ⟨rfl, kq⟩
  have sx2 := kq.size
  have A0 := A0.below kq A0.lt
  have V0 := V0.below kq (V0.lt ikEnc_len (by omega))
  have BW := BW.trans (kq.mono BW.size)
  clear kq
  have cc := A0
  obtain ⟨m0_0, m0_1, m0_2, m0_3, m0_4, m0_5, m0_6⟩ := cc
  go_wp2_with fail
  go_at_call 37
  clear m0_0 m0_1 m0_2 m0_3 m0_4 m0_5 m0_6
  refine (miTo m0 ad0 cap0 x2 V0 hl).mono ?_
  rintro e x3 ⟨gOX, rfl, _, _, OX, kq⟩
  have sx3 := kq.size
  have A0 := A0.below kq A0.lt
  have V0 := V0.below kq (V0.lt ikEnc_len (by omega))
  have BW := BW.trans (kq.mono BW.size)
  clear kq
  have iOX : ∀ g, (Value.slice (some ⟨gOX, 0, none⟩) m0.lg.length m0.lg.length).ownBlock = some g → x2.heap.size ≤ g ∧ g < x3.heap.size := fun g e => OX.lt g e
  obtain ⟨x4, hx4⟩ : ∃ y_, y_ = x3.alloc (Obj.cells #[.bool m0.up, .int .i64 m0.li, .int .i64 m0.ep, .slice (some ⟨gOX, 0, none⟩) m0.lg.length m0.lg.length, .int .i64 m0.sd, .int .i64 m0.ac, .int .i64 m0.al] 55) := ⟨_, rfl⟩
  have AX : MiAt x4 x3.heap.size m0 (.slice (some ⟨gOX, 0, none⟩) m0.lg.length m0.lg.length) := by rw [hx4]; exact MiAt.new x3 _ _ _
  have kq : Below x3.heap.size x3 x4 := by rw [hx4]; exact below_new _
  have lx4 := AX.lt
  have sx4 := kq.size
  have A0 := A0.below kq A0.lt
  have V0 := V0.below kq (V0.lt ikEnc_len (by omega))
  have OX := OX.later kq
  have BW := BW.trans (kq.mono BW.size)
  clear kq
  go_upto_region 7 with fail
  rw [← hx4]
  clear hx4
  have cc := AX
  obtain ⟨m0_0, m0_1, m0_2, m0_3, m0_4, m0_5, m0_6⟩ := cc
  go_wp2_with fail
  go_at_call 34
  clear m0_0 m0_1 m0_2 m0_3 m0_4 m0_5 m0_6
  refine (miOkI m0 (some ⟨gOX, 0, none⟩) m0.lg.length x4 OX.view.2 (by omega)).mono ?_
  rintro e x5 ⟨rfl, kq⟩
  have sx5 := kq.size
  have A0 := A0.below kq A0.lt
  have AX := AX.below kq AX.lt
  have V0 := V0.below kq (V0.lt ikEnc_len (by omega))
  have OX := OX.later kq
  have BW := BW.trans (kq.mono BW.size)
  clear kq
  generalize miOk m0 = o
  go_upto_region 10 with fail
  refine wp_region_held (S := fun Y => Below x5.heap.size x5 Y) (by kernel_rfl) ?_
  change wpAnyH _ _ _ _ _ _ _ _ (World.drew _)
  have hb0 : Below x5.heap.size x5 x5.drew := (Below.refl _ _).drew
  obtain ⟨u0, hy0⟩ : ∃ y_, y_ = x5.drew := ⟨_, rfl⟩
  rw [← hy0] at hb0 ⊢
  clear hy0
  refine takeW 0 22 (.agg #[.bool m0.up, .int .i64 m0.li, .int .i64 m0.ep, .slice (some ⟨gOX, 0, none⟩) m0.lg.length m0.lg.length, .int .i64 m0.sd, .int .i64 m0.ac, .int .i64 m0.al]) rfl rfl (by kernel_rfl) (by kernel_rfl) (by kernel_rfl) (fun _ _ _ h => h) (by kernel_rfl) (by (intro Y hSw; obtain ⟨X0, X1, X2, X3, X4, X5, X6⟩ := AX.below hSw AX.lt; go_simp)) (by assumption) ?_
  simp only [List.set_cons_zero, List.set_cons_succ]
  refine takeW 1 23 (.agg #[.bool m0.up, .int .i64 m0.li, .int .i64 m0.ep, .slice ad0 m0.lg.length cap0, .int .i64 m0.sd, .int .i64 m0.ac, .int .i64 m0.al]) rfl rfl (by kernel_rfl) (by kernel_rfl) (by kernel_rfl) (fun _ _ _ h => h) (by kernel_rfl) (by (intro Y hSw; obtain ⟨X0, X1, X2, X3, X4, X5, X6⟩ := A0.below hSw A0.lt; go_simp)) (by assumption) ?_
  simp only [List.set_cons_zero, List.set_cons_succ]
  refine wpAnyH_all (rs := [2]) (by kernel_rfl) (by simp) ?_
  intro i hi; obtain rfl : i = 2 := by simpa using hi
  refine wpOp_step rfl (fun Kz hKz => ?_)
  rw [if_pos (by kernel_rfl)]
  go_simp
  go_at_call 37
  refine (miTo m0 ad0 cap0 u0 (V0.below hb0 (V0.lt ikEnc_len (by omega))) hl).mono ?_
  rintro e u1 ⟨gz, rfl, _, _, oz, kq⟩
  have hb1 : Below x5.heap.size x5 u1 := hb0.trans (kq.mono hb0.size)
  clear kq
  refine hKz _ _ ⟨hb1, ?_⟩
  clear hKz Kz hi
  refine wpAnyH_all (rs := [3]) (by kernel_rfl) (by simp) ?_
  intro i hi; obtain rfl : i = 3 := by simpa using hi
  refine wpOp_step rfl (fun Kz hKz => ?_)
  rw [if_pos (by kernel_rfl)]
  go_simp
  go_at_call 38
  refine (miEq m0 (some ⟨gOX, 0, none⟩) (some ⟨gz, 0, none⟩) m0.lg.length m0.lg.length u1 (OX.later hb1).view.2 oz.view.2 hl).mono ?_
  rintro e u2 ⟨rfl, kq⟩
  have hb2 : Below x5.heap.size x5 u2 := hb1.trans (kq.mono hb1.size)
  clear kq oz
  refine hKz _ _ ⟨hb2, ?_⟩
  clear hKz Kz hi
  refine takeW 4 26 (.bool false) rfl rfl (by kernel_rfl) (by kernel_rfl) (by kernel_rfl) (fun _ _ _ h => h) (by kernel_rfl) (by (intro w hSw; go_simp)) (by assumption) ?_
  simp only [List.set_cons_zero, List.set_cons_succ]
  refine wpAnyH_done (by kernel_rfl) ?_ _
  have su2 := hb2.size
  have A0 := A0.below hb2 A0.lt
  have AX := AX.below hb2 AX.lt
  have V0 := V0.below hb2 (V0.lt ikEnc_len (by omega))
  have OX := OX.later hb2
  have BW := BW.trans (hb2.mono BW.size)
  clear hb2
  clear hb0 hb1
  go_wp2
  go_ret
  exact ⟨rfl, BW⟩


set_option maxRecDepth 100000 in
theorem lifted (os : Os) (started : os.Started) (H : Type) (enc : TypeId × Value → H) :
    ReturnsInHanded {} Try.checked os 6 .any (Rows.fnExactMinderOkSpec.pre6 enc Try.prog Try.f6 Rows.fnExactMinderOkRow.domain false) (Rows.fnExactMinderOkSpec.post enc Try.prog Try.f6 false true false false) := by
  refine returnsInHanded_of_change (C := Try.checked) own started (by kernel_rfl) Try.func6
    (ChangeSpec.witness6 (enc := enc) (C := Try.checked) false ⟨#[], #[.agg #[.bool false, .int .i64 0, .int .i64 0, .slice none 0 0, .int .i64 0, .int .i64 0, .int .i64 0]], []⟩ 8 (by kernel_rfl) (by kernel_rfl) (by kernel_rfl) (by kernel_rfl)) ?_
  intro W base args ds gs before hval0 hW hcnd _
  have hval : ∀ (j : Nat) t v, Try.f6.params[j]? = some t → args[j]? = some v → Value.okWide Try.prog W .any base t v := hval0
  have hW' := hW
  obtain ⟨p, q, hA0, hV, rfl, hfz, hnd⟩ := hW
  have hA : DataW.TrodAll enc Try.prog W 0 (fun _ => true) true Try.f6.params.toList args.toList ds p := hA0
  rw [Try.params6] at hA hval
  obtain ⟨v0, vs0, d0, ds0, p0, q0, hargs, rfl, rfl, h0, r0⟩ := trodAll_cons hA
  obtain ⟨rfl, rfl, rfl⟩ := trodAll_nil r0
  obtain rfl : args = #[v0] := by cases args; simp_all
  obtain ⟨rfl, rfl⟩ := trodVars_none hV
  obtain ⟨m0, ad0, cap0, rfl, I0⟩ := miIn_open (hval 0 68 v0 rfl rfl) h0
  have lt0 : ∀ x ∈ p0, x.block < W.heap.size := by obtain ⟨m, hm⟩ := h0; exact DataW.trod_lt m _ _ _ hm
  clear hA0 hval0
  refine (walk m0 ad0 cap0 W I0).mono fun e W' ⟨he, bel⟩ => ?_
  subst he
  exact ⟨_, rfl, _, _, _, [], _, [], hW', trodAll_mk1 (shut_bool Try.underlying4 _), (trodAll_cons_mk (Below.trod laidOut (by kernel_rfl) (of_decide_eq_true (by kernel_rfl)) h0 bel lt0) trodAll_mk0), rfl, bel.frame _, fun h => by cases h⟩

theorem over : Rows.fnExactMinderOkRow.holds Try.pinned (OpenSpec.ofChange Rows.fnExactMinderOkSpec) :=
  OpenClaim.holds_of_wide 6 Try.f6 rfl rfl rfl rfl rfl rfl rfl ⟨rfl, rfl, rfl, rfl, rfl⟩ rfl rfl rfl rfl rfl (by kernel_rfl) Try.func6 (by kernel_rfl)
    (of_decide_eq_true (by kernel_rfl)) (by unfold Func.isWrapper; first | (rw [if_pos (by decide +kernel)]; kernel_rfl) | (rw [if_neg (by decide +kernel)]; exact ⟨rfl, rfl⟩))
    (fun os started H enc _ => lifted os started H enc)

theorem proved : Rows.FnExactMinderOkSaid := over
end Go.Proofs.Ytghmmcenjdbfgaa.fnExactMinderOk
namespace Go.Proofs.Ytghmmcenjdbfgaa
theorem minderOk_holds : Rows.FnExactMinderOkSaid := fnExactMinderOk.proved
#print axioms minderOk_holds
end Go.Proofs.Ytghmmcenjdbfgaa
