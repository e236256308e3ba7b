/- FnExactGates, proved: at every bridge the program's Gates answers as the specification's, its answer owns its memory, and no argument is written into; no condition. -/
import Derived.Test.YtghmmcenjdbfgabRows
import Derived.Test.YtghmmcenjdbfgabGa2
import Derived.Test.YtghmmcenjdbfgabGa3
import Derived.Test.YtghmmcenjdbfgabGa4
import Derived.Test.YtghmmcenjdbfgabBr2
import Derived.Deep.Cut
import Derived.WalkKit
import Derived.Below
import Derived.ChangeOld
import Derived.WalkSmall
import Derived.ProofKit
import Derived.OpenShut
import Derived.ShutString
import Derived.BigQuiet
namespace Go.Proofs.Ytghmmcenjdbfgab.fnExactGates
open Go.ChangeShapes Go.WideShapes Go.ChangeAt Go.RowKit
set_option linter.unusedVariables false

theorem own : ownKnob Try.prog.godebug = none := by kernel_rfl
theorem laidOut : laidOutB Try.prog = true := by kernel_rfl

set_option maxHeartbeats 8000000 in
set_option maxRecDepth 100000 in
theorem walk (id0 : Int) (ad0 : Option Addr) (cap0 : Nat) (L0 : List Pt) (w : World) (I0 : (Lit.int .i64 id0).wf = true ∧ BrIn w ad0 cap0 L0) :
    Calls Try.prog 3 #[.agg #[.int .i64 id0, .slice ad0 L0.length cap0]] w fun e w' => e = .returned (.bool true) ∧ Below w.heap.size w w' := by
  obtain ⟨hwf, hlm, V0, hn0⟩ := I0
  clear hwf
  obtain ⟨x0, hx⟩ : ∃ y_, y_ = w.alloc (Obj.cells #[.int .i64 id0, .slice ad0 L0.length cap0] 24) := ⟨_, rfl⟩
  have A0 : BrAt x0 w.heap.size id0 (.slice ad0 L0.length cap0) := by rw [hx]; exact BrAt.new w _ _ _
  have BW : Below w.heap.size w x0 := by rw [hx]; exact below_new _
  have lx0 := A0.lt
  have vb : ∀ a, ad0 = some a → 0 < L0.length → a.block < w.heap.size := V0.lt ptEnc_len (by omega)
  have V0 := V0.below BW vb
  go_enter Try.func3, Try.ntmps3
  go_wp2_with fail
  go_at_call 6
  rw [← hx]
  clear hx
  refine (brSz id0 ad0 L0.length cap0 1048576 x0 (by decide) (by decide) hlm).mono ?_
  rintro e y1 ⟨rfl, kq⟩
  have sy1 := kq.size
  have A0 := A0.below kq A0.lt
  have V0 := V0.below kq (V0.lt ptEnc_len (by omega))
  have BW := BW.trans (kq.mono BW.size)
  clear kq
  by_cases hl : L0.length ≤ 1048576
  rotate_left
  · rw [if_neg (by omega)]
    go_wp2
    go_ret
    exact ⟨rfl, BW⟩
  rw [if_pos (by omega)]
  have hlf : 0 ≤ 1048576 - (L0.length : Int) := by omega
  generalize 1048576 - (L0.length : Int) = lf at hlf ⊢
  obtain ⟨D, hD⟩ : ∃ D, gatesR L0 = D := ⟨_, rfl⟩
  have hDm : D.length ≤ 1048576 := by rw [← hD, gatesR_len]; exact hl
  replace hD : Hid _ := hD
  have cc := A0
  obtain ⟨m0_0, m0_1⟩ := cc
  go_wp2_with fail
  go_at_call 8
  clear m0_0 m0_1
  refine (brTo id0 ad0 cap0 L0 y1 V0 hl).mono ?_
  rintro e x1 ⟨gO1, rfl, _, _, O1, kq⟩
  have sx1 := kq.size
  have A0 := A0.below kq A0.lt
  have V0 := V0.below kq (V0.lt ptEnc_len (by omega))
  have BW := BW.trans (kq.mono BW.size)
  clear kq
  have iO1 : ∀ g, (Value.slice (some ⟨gO1, 0, none⟩) L0.length L0.length).ownBlock = some g → y1.heap.size ≤ g ∧ g < x1.heap.size := fun g e => O1.lt g e
  go_wp2_with fail
  go_at_call 7
  refine (gatesS12 id0 (some ⟨gO1, 0, none⟩) L0.length L0 x1 O1.view.2 hl).mono ?_
  rintro e x2 ⟨aW, cW, rfl, OW, kq⟩
  have sx2 := kq.size
  have A0 := A0.below kq A0.lt
  have V0 := V0.below kq (V0.lt ptEnc_len (by omega))
  have BW := BW.trans (kq.mono BW.size)
  clear kq
  rw [hD.out] at OW ⊢
  have iOW : ∀ g, (Value.slice aW D.length cW).ownBlock = some g → x1.heap.size ≤ g ∧ g < x2.heap.size := fun g e => OW.lt g e
  have cc := A0
  obtain ⟨m0_0, m0_1⟩ := cc
  go_wp2_with fail
  go_at_call 8
  clear m0_0 m0_1
  refine (brTo id0 ad0 cap0 L0 x2 V0 hl).mono ?_
  rintro e x3 ⟨gOX, rfl, _, _, OX, kq⟩
  have sx3 := kq.size
  have A0 := A0.below kq A0.lt
  have V0 := V0.below kq (V0.lt ptEnc_len (by omega))
  have OW := OW.later kq
  have BW := BW.trans (kq.mono BW.size)
  clear kq
  have iOX : ∀ g, (Value.slice (some ⟨gOX, 0, none⟩) L0.length L0.length).ownBlock = some g → x2.heap.size ≤ g ∧ g < x3.heap.size := fun g e => OX.lt g e
  obtain ⟨x4, hx4⟩ : ∃ y_, y_ = x3.alloc (Obj.cells #[.int .i64 id0, .slice (some ⟨gOX, 0, none⟩) L0.length L0.length] 30) := ⟨_, rfl⟩
  have AX : BrAt x4 x3.heap.size id0 (.slice (some ⟨gOX, 0, none⟩) L0.length L0.length) := by rw [hx4]; exact BrAt.new x3 _ _ _
  have kq : Below x3.heap.size x3 x4 := by rw [hx4]; exact below_new _
  have lx4 := AX.lt
  have sx4 := kq.size
  have A0 := A0.below kq A0.lt
  have V0 := V0.below kq (V0.lt ptEnc_len (by omega))
  have OW := OW.later kq
  have OX := OX.later kq
  have BW := BW.trans (kq.mono BW.size)
  clear kq
  go_upto_region 7 with fail
  rw [← hx4]
  clear hx4
  have cc := AX
  obtain ⟨m0_0, m0_1⟩ := cc
  go_wp2_with fail
  go_at_call 9
  clear m0_0 m0_1
  refine (gatesI12 id0 (some ⟨gOX, 0, none⟩) L0.length L0 x4 OX.view.2 hl).mono ?_
  rintro e x5 ⟨aG, cG, rfl, OG, kq⟩
  have sx5 := kq.size
  have A0 := A0.below kq A0.lt
  have V0 := V0.below kq (V0.lt ptEnc_len (by omega))
  have OW := OW.later kq
  have OX := OX.later kq
  have AX := AX.below kq AX.lt
  have BW := BW.trans (kq.mono BW.size)
  clear kq
  rw [hD.out] at OG ⊢
  have iOG : ∀ g, (Value.slice aG D.length cG).ownBlock = some g → x4.heap.size ≤ g ∧ g < x5.heap.size := fun g e => OG.lt g e
  go_wp2_with fail
  go_at_call 10
  refine (boEq aG aW cG cW D x5 OG.view.2 OW.view.2 hDm).mono ?_
  rintro e x6 ⟨rfl, kq⟩
  have sx6 := kq.size
  have A0 := A0.below kq A0.lt
  have V0 := V0.below kq (V0.lt ptEnc_len (by omega))
  have OW := OW.later kq
  have OX := OX.later kq
  have AX := AX.below kq AX.lt
  have OG := OG.later kq
  have BW := BW.trans (kq.mono BW.size)
  clear kq
  go_upto_region 10 with fail
  refine wp_region_held (S := fun Y => Below x6.heap.size x6 Y) (by kernel_rfl) ?_
  change wpAnyH _ _ _ _ _ _ _ _ (World.drew _)
  have hb0 : Below x6.heap.size x6 x6.drew := (Below.refl _ _).drew
  obtain ⟨u0, hy0⟩ : ∃ y_, y_ = x6.drew := ⟨_, rfl⟩
  rw [← hy0] at hb0 ⊢
  clear hy0
  refine takeW 0 27 (.agg #[.int .i64 id0, .slice (some ⟨gOX, 0, none⟩) L0.length L0.length]) rfl rfl (by kernel_rfl) (by kernel_rfl) (by kernel_rfl) (fun _ _ _ h => h) (by kernel_rfl) (by (intro Y hSw; obtain ⟨X0, X1⟩ := AX.below hSw AX.lt; go_simp)) (by assumption) ?_
  simp only [List.set_cons_zero, List.set_cons_succ]
  refine takeW 1 28 (.agg #[.int .i64 id0, .slice ad0 L0.length cap0]) rfl rfl (by kernel_rfl) (by kernel_rfl) (by kernel_rfl) (fun _ _ _ h => h) (by kernel_rfl) (by (intro Y hSw; obtain ⟨X0, X1⟩ := A0.below hSw A0.lt; go_simp)) (by assumption) ?_
  simp only [List.set_cons_zero, List.set_cons_succ]
  refine wpAnyH_all (rs := [2]) (by kernel_rfl) (by simp) ?_
  intro i hi; obtain rfl : i = 2 := by simpa using hi
  refine wpOp_step rfl (fun Kz hKz => ?_)
  rw [if_pos (by kernel_rfl)]
  go_simp
  go_at_call 8
  refine (brTo id0 ad0 cap0 L0 u0 (V0.below hb0 (V0.lt ptEnc_len (by omega))) hl).mono ?_
  rintro e u1 ⟨gz, rfl, _, _, oz, kq⟩
  have hb1 : Below x6.heap.size x6 u1 := hb0.trans (kq.mono hb0.size)
  clear kq
  refine hKz _ _ ⟨hb1, ?_⟩
  clear hKz Kz hi
  refine wpAnyH_all (rs := [3]) (by kernel_rfl) (by simp) ?_
  intro i hi; obtain rfl : i = 3 := by simpa using hi
  refine wpOp_step rfl (fun Kz hKz => ?_)
  rw [if_pos (by kernel_rfl)]
  go_simp
  go_at_call 11
  refine (brEq id0 (some ⟨gOX, 0, none⟩) (some ⟨gz, 0, none⟩) L0.length L0.length L0 u1 (OX.later hb1).view.2 oz.view.2 hl).mono ?_
  rintro e u2 ⟨rfl, kq⟩
  have hb2 : Below x6.heap.size x6 u2 := hb1.trans (kq.mono hb1.size)
  clear kq oz
  refine hKz _ _ ⟨hb2, ?_⟩
  clear hKz Kz hi
  refine takeW 4 31 (.bool false) rfl rfl (by kernel_rfl) (by kernel_rfl) (by kernel_rfl) (fun _ _ _ h => h) (by kernel_rfl) (by (intro w hSw; go_simp)) (by assumption) ?_
  simp only [List.set_cons_zero, List.set_cons_succ]
  refine wpAnyH_done (by kernel_rfl) ?_ _
  have su2 := hb2.size
  have A0 := A0.below hb2 A0.lt
  have V0 := V0.below hb2 (V0.lt ptEnc_len (by omega))
  have OW := OW.later hb2
  have OX := OX.later hb2
  have AX := AX.below hb2 AX.lt
  have OG := OG.later hb2
  have BW := BW.trans (hb2.mono BW.size)
  clear hb2
  clear hb0 hb1
  have cc := AX
  obtain ⟨m0_0, m0_1⟩ := cc
  go_wp2_with fail
  go_at_call 12
  clear m0_0 m0_1
  refine (brMark id0 (some ⟨gOX, 0, none⟩) L0.length 1 _ L0 u2 OX (by omega) (by decide) (by decide)).mono ?_
  rintro e x7 ⟨rfl, OX', gq⟩
  have iOX' := iOX
  have sx7 := gq.size
  have A0 := A0.keep (gq.block _ A0.lt (fun e => by have := iOX _ e.symm; omega))
  have V0 := V0.carry (fun a e p => gq.block _ (V0.lt ptEnc_len (by omega) a e p) (fun e2 => by have := iOX _ e2.symm; have := vb a e p; omega))
  have OW := OW.keep (fun g' e' => gq.block g' (OW.lt g' e').2 (fun e2 => by have := iOX _ e2.symm; have := iOW _ e'; omega))
  have AX := AX.keep (gq.block _ AX.lt (fun e => by have := iOX _ e.symm; omega))
  have OG := OG.keep (fun g' e' => gq.block g' (OG.lt g' e').2 (fun e2 => by have := iOX _ e2.symm; have := iOG _ e'; omega))
  have BW := BW.grown gq BW.size (fun g' e => by have := iOX _ e; omega)
  clear gq
  have OX := OX'
  clear OX'
  have hk0 : 0 ≤ 1 + 11 * (L0.length : Int) := by omega
  go_wp2_with fail
  go_at_call 10
  refine (boEq aG aW cG cW D x7 OG.view.2 OW.view.2 hDm).mono ?_
  rintro e x8 ⟨rfl, kq⟩
  have sx8 := kq.size
  have A0 := A0.below kq A0.lt
  have V0 := V0.below kq (V0.lt ptEnc_len (by omega))
  have OW := OW.later kq
  have AX := AX.below kq AX.lt
  have OG := OG.later kq
  have BW := BW.trans (kq.mono BW.size)
  clear kq
  go_wp2_with fail
  go_at_call 13
  refine (markOwnB _ aG cG D x8 OG hDm (by have := BW.size; omega)).mono ?_
  rintro e x9 ⟨rfl, MG, kq⟩
  have sx9 := kq.size
  have OW := OW.below kq (fun g e => by have := iOW g e; omega)
  have A0 := A0.below kq (by omega)
  have AX := AX.below kq (by omega)
  have V0 := V0.below kq (fun a e p => by have := vb a e p; have := BW.size; omega)
  have BW := BW.trans (kq.mono (by have := BW.size; omega))
  clear kq OG
  obtain ⟨m, hm⟩ : ∃ m, m = 1 + (D.length : Int) := ⟨_, rfl⟩
  have m0 : ¬ m < 0 := by omega
  rw [← hm]
  replace hm : Hid _ := hm
  go_wp2_with fail
  go_at_call 14
  refine (heldRowB aG D.length cG x9 MG hDm).mono ?_
  rintro e x10 ⟨rfl, kq⟩
  have sx10 := kq.size
  have A0 := A0.below kq A0.lt
  have V0 := V0.below kq (V0.lt ptEnc_len (by omega))
  have OW := OW.later kq
  have AX := AX.below kq AX.lt
  have MG := MG.later kq
  have BW := BW.trans (kq.mono BW.size)
  clear kq
  rw [← hm.out]
  have cc := A0
  obtain ⟨m0_0, m0_1⟩ := cc
  go_wp2_with fail
  go_at_call 8
  clear m0_0 m0_1
  refine (brTo id0 ad0 cap0 L0 x10 V0 hl).mono ?_
  rintro e x11 ⟨gOH, rfl, _, _, OH, kq⟩
  have sx11 := kq.size
  have A0 := A0.below kq A0.lt
  have V0 := V0.below kq (V0.lt ptEnc_len (by omega))
  have OW := OW.later kq
  have AX := AX.below kq AX.lt
  have MG := MG.later kq
  have BW := BW.trans (kq.mono BW.size)
  clear kq
  have iOH : ∀ g, (Value.slice (some ⟨gOH, 0, none⟩) L0.length L0.length).ownBlock = some g → x10.heap.size ≤ g ∧ g < x11.heap.size := fun g e => OH.lt g e
  go_wp2_with fail
  go_at_call 9
  refine (gatesI12 id0 (some ⟨gOH, 0, none⟩) L0.length L0 x11 OH.view.2 hl).mono ?_
  rintro e x12 ⟨aH, cH, rfl, OH, kq⟩
  have sx12 := kq.size
  have A0 := A0.below kq A0.lt
  have V0 := V0.below kq (V0.lt ptEnc_len (by omega))
  have OW := OW.later kq
  have AX := AX.below kq AX.lt
  have MG := MG.later kq
  have BW := BW.trans (kq.mono BW.size)
  clear kq
  rw [hD.out] at OH ⊢
  have iOH : ∀ g, (Value.slice aH D.length cH).ownBlock = some g → x11.heap.size ≤ g ∧ g < x12.heap.size := fun g e => OH.lt g e
  go_wp2_with fail
  go_at_call 10
  refine (boEq aH aW cH cW D x12 OH.view.2 OW.view.2 hDm).mono ?_
  rintro e x13 ⟨rfl, kq⟩
  have sx13 := kq.size
  have A0 := A0.below kq A0.lt
  have V0 := V0.below kq (V0.lt ptEnc_len (by omega))
  have OW := OW.later kq
  have AX := AX.below kq AX.lt
  have MG := MG.later kq
  have OH := OH.later kq
  have BW := BW.trans (kq.mono BW.size)
  clear kq
  go_wp2_with fail
  go_at_call 14
  refine (heldRowB aG D.length cG x13 MG hDm).mono ?_
  rintro e x14 ⟨rfl, kq⟩
  have sx14 := kq.size
  have A0 := A0.below kq A0.lt
  have V0 := V0.below kq (V0.lt ptEnc_len (by omega))
  have OW := OW.later kq
  have AX := AX.below kq AX.lt
  have MG := MG.later kq
  have OH := OH.later kq
  have BW := BW.trans (kq.mono BW.size)
  clear kq
  rw [← hm.out]
  go_wp2
  go_ret
  exact ⟨rfl, BW⟩


set_option maxRecDepth 100000 in
theorem lifted (os : Os) (started : os.Started) (H : Type) (enc : TypeId × Value → H) :
    ReturnsInHanded {} Try.checked os 3 .any (Rows.fnExactGatesSpec.pre6 enc Try.prog Try.f3 Rows.fnExactGatesRow.domain false) (Rows.fnExactGatesSpec.post enc Try.prog Try.f3 false true false false) := by
  refine returnsInHanded_of_change (C := Try.checked) own started (by kernel_rfl) Try.func3
    (ChangeSpec.witness6 (enc := enc) (C := Try.checked) false ⟨#[], #[.agg #[.int .i64 0, .slice none 0 0]], []⟩ 8 (by kernel_rfl) (by kernel_rfl) (by kernel_rfl) (by kernel_rfl)) ?_
  intro W base args ds gs before hval0 hW hcnd _
  have hval : ∀ (j : Nat) t v, Try.f3.params[j]? = some t → args[j]? = some v → Value.okWide Try.prog W .any base t v := hval0
  have hW' := hW
  obtain ⟨p, q, hA0, hV, rfl, hfz, hnd⟩ := hW
  have hA : DataW.TrodAll enc Try.prog W 0 (fun _ => true) true Try.f3.params.toList args.toList ds p := hA0
  rw [Try.params3] at hA hval
  obtain ⟨v0, vs0, d0, ds0, p0, q0, hargs, rfl, rfl, h0, r0⟩ := trodAll_cons hA
  obtain ⟨rfl, rfl, rfl⟩ := trodAll_nil r0
  obtain rfl : args = #[v0] := by cases args; simp_all
  obtain ⟨rfl, rfl⟩ := trodVars_none hV
  obtain ⟨id0, ad0, cap0, L0, rfl, I0⟩ := brIn_open (hval 0 24 v0 rfl rfl) h0
  have lt0 : ∀ x ∈ p0, x.block < W.heap.size := by obtain ⟨m, hm⟩ := h0; exact DataW.trod_lt m _ _ _ hm
  clear hA0 hval0
  refine (walk id0 ad0 cap0 L0 W I0).mono fun e W' ⟨he, bel⟩ => ?_
  subst he
  exact ⟨_, rfl, _, _, _, [], _, [], hW', trodAll_mk1 (shut_bool Try.underlying4 _), (trodAll_cons_mk (Below.trod laidOut (by kernel_rfl) (of_decide_eq_true (by kernel_rfl)) h0 bel lt0) trodAll_mk0), rfl, bel.frame _, fun h => by cases h⟩

theorem over : Rows.fnExactGatesRow.holds Try.pinned (OpenSpec.ofChange Rows.fnExactGatesSpec) :=
  OpenClaim.holds_of_wide 3 Try.f3 rfl rfl rfl rfl rfl rfl rfl ⟨rfl, rfl, rfl, rfl, rfl⟩ rfl rfl rfl rfl rfl (by kernel_rfl) Try.func3 (by kernel_rfl)
    (of_decide_eq_true (by kernel_rfl)) (by unfold Func.isWrapper; first | (rw [if_pos (by decide +kernel)]; kernel_rfl) | (rw [if_neg (by decide +kernel)]; exact ⟨rfl, rfl⟩))
    (fun os started H enc _ => lifted os started H enc)

theorem proved : Rows.FnExactGatesSaid := over
end Go.Proofs.Ytghmmcenjdbfgab.fnExactGates
namespace Go.Proofs.Ytghmmcenjdbfgab
theorem gates_holds : Rows.FnExactGatesSaid := fnExactGates.proved
#print axioms gates_holds
end Go.Proofs.Ytghmmcenjdbfgab
