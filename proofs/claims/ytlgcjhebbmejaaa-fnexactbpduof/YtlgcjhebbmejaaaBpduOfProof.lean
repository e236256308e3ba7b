/- FnExactBpduOf: at every row of bytes the program's BpduOf answers as the specification's; no condition; a row longer than 1048576 is answered true at once. -/
import Derived.Test.YtlgcjhebbmejaaaRows
import Derived.Test.YtlgcjhebbmejaaaBp8
import Derived.Test.YtlgcjhebbmejaaaBTo19
import Derived.Test.YtlgcjhebbmejaaaCodeIn
import Derived.Deep.Cut
import Derived.WalkKit
import Derived.Below
import Derived.ChangeOld
import Derived.WalkSmall
import Derived.ProofKit
import Derived.OpenShut
import Derived.ShutString
import Derived.BigQuiet
namespace Go.Proofs.Ytlgcjhebbmejaaa.fnExactBpduOf
open Go.ChangeShapes Go.WideShapes Go.ChangeAt Go.RowKit
set_option linter.unusedVariables false

theorem own : ownKnob Try.prog.godebug = none := by kernel_rfl
theorem laidOut : laidOutB Try.prog = true := by kernel_rfl

set_option maxHeartbeats 8000000 in
set_option maxRecDepth 100000 in
theorem walk (ad0 : Option Addr) (len0 cap0 : Nat) (f0 : Nat → Int) (w : World) (I0 : CodeIn w ad0 len0 f0) :
    Calls Try.prog 7 #[.slice ad0 len0 cap0] w fun e w' => e = .returned (.bool true) ∧ Below w.heap.size w w' := by
  obtain ⟨hlm, hv0, hB0, hf0⟩ := I0
  by_cases hbig : 1048576 < len0
  · go_enter Try.func7, Try.ntmps7
    go_wp2
    go_ret
    exact ⟨rfl, Below.refl _ _⟩
  obtain ⟨LL, rfl, hvL, hLbd⟩ := view_list hv0 hf0
  have hl : LL.length ≤ 1048576 := by omega
  have V0 : FView bEnc w ad0 LL := bVof hvL
  have BW : Below w.heap.size w w := Below.refl _ _
  have vb : ∀ a, ad0 = some a → 0 < LL.length → a.block < w.heap.size := hB0
  clear hbig hv0 hf0 hvL hB0 hlm
  have sw : w.heap.size ≤ w.heap.size := Nat.le_refl _
  obtain ⟨⟨X, o⟩, hO⟩ : ∃ R, outS LL = R := ⟨_, rfl⟩
  have hO2 : Hid (outI LL = (X, o)) := (out_same LL).trans hO
  replace hO : Hid _ := hO
  go_enter Try.func7, Try.ntmps7
  go_wp2_with fail
  go_at_call 30
  refine (bToS ad0 cap0 LL w V0 hl).mono ?_
  rintro e wd1 ⟨rfl, O1, kq⟩
  obtain ⟨gO1, hgO1⟩ : ∃ g_, g_ = w.heap.size := ⟨_, rfl⟩
  rw [← hgO1] at O1 ⊢
  have lgO1 : w.heap.size ≤ gO1 ∧ gO1 ≤ w.heap.size := by omega
  clear hgO1
  have qgO1 := (O1.lt gO1 rfl).2
  have O1 := O1.base (base' := w.heap.size) (by have := BW.size; omega)
  have swd1 := kq.size
  have V0 := V0.below kq (V0.lt bEnc_len (by omega))
  have BW := BW.trans (kq.mono BW.size)
  clear kq
  have iO1 : ∀ g, (Value.slice (some ⟨gO1, 0, none⟩) LL.length LL.length).ownBlock = some g → w.heap.size ≤ g ∧ g < wd1.heap.size := fun g e => by simp [Value.ownBlock] at e; omega
  go_wp2_with fail
  go_at_call 14
  refine (bpduOfS (some ⟨gO1, 0, none⟩) LL.length LL wd1 (bV O1.view.2) (fun x h _ => by cases h; exact (O1.lt _ rfl).2) (Nat.le_refl _) hl hLbd).mono ?_
  rintro e wd2 ⟨rfl, kq⟩
  rw [hO.out]
  simp only [outV]
  have swd2 := kq.size
  have V0 := V0.below kq (V0.lt bEnc_len (by omega))
  have O1 := O1.later kq
  have BW := BW.trans (kq.mono BW.size)
  clear kq
  obtain ⟨wd3, hwd3⟩ : ∃ y_, y_ = wd2.alloc (Obj.cells #[.bool X.ch, .bool X.ak, .bool X.ag, .bool X.le, .bool X.op, .int .i64 X.ro, .int .i64 X.r, .int .i64 X.c, .int .i64 X.b, .int .i64 X.p, .int .i64 X.h] 27) := ⟨_, rfl⟩
  have AW : BpAt wd3 wd2.heap.size X := by rw [hwd3]; exact BpAt.new wd2 _ _
  have kq : Below wd2.heap.size wd2 wd3 := by rw [hwd3]; exact below_new _
  have lwd3 := AW.lt
  have swd3 := kq.size
  have V0 := V0.below kq (V0.lt bEnc_len (by omega))
  have BW := BW.trans (kq.mono BW.size)
  clear kq
  go_wp2_with fail
  go_at_call 30
  rw [← hwd3]
  clear hwd3
  refine (bToS ad0 cap0 LL wd3 V0 hl).mono ?_
  rintro e wd4 ⟨rfl, OX, kq⟩
  obtain ⟨gOX, hgx⟩ : ∃ g_, g_ = wd3.heap.size := ⟨_, rfl⟩
  rw [← hgx] at OX ⊢
  have lgx : wd3.heap.size ≤ gOX ∧ gOX ≤ wd3.heap.size := by omega
  clear hgx
  have qgx := (OX.lt gOX rfl).2
  have OX := OX.base (base' := w.heap.size) (by have := BW.size; omega)
  have swd4 := kq.size
  have AW := AW.below kq AW.lt
  have V0 := V0.below kq (V0.lt bEnc_len (by omega))
  have BW := BW.trans (kq.mono BW.size)
  clear kq
  have iOX : ∀ g, (Value.slice (some ⟨gOX, 0, none⟩) LL.length LL.length).ownBlock = some g → wd3.heap.size ≤ g ∧ g < wd4.heap.size := fun g e => by simp [Value.ownBlock] at e; omega
  go_wp2_with fail
  go_at_call 13
  refine (bpduOfI (some ⟨gOX, 0, none⟩) LL.length LL wd4 (bV OX.view.2) (fun x h _ => by cases h; exact (OX.lt _ rfl).2) (Nat.le_refl _) hl hLbd).mono ?_
  rintro e wd5 ⟨rfl, kq⟩
  rw [hO2.out]
  simp only [outV]
  have swd5 := kq.size
  have AW := AW.below kq AW.lt
  have V0 := V0.below kq (V0.lt bEnc_len (by omega))
  have OX := OX.later kq
  have BW := BW.trans (kq.mono BW.size)
  clear kq
  obtain ⟨wd6, hwd6⟩ : ∃ y_, y_ = wd5.alloc (Obj.cells #[.bool X.ch, .bool X.ak, .bool X.ag, .bool X.le, .bool X.op, .int .i64 X.ro, .int .i64 X.r, .int .i64 X.c, .int .i64 X.b, .int .i64 X.p, .int .i64 X.h] 27) := ⟨_, rfl⟩
  have AG : BpAt wd6 wd5.heap.size X := by rw [hwd6]; exact BpAt.new wd5 _ _
  have kq : Below wd5.heap.size wd5 wd6 := by rw [hwd6]; exact below_new _
  have lwd6 := AG.lt
  have swd6 := kq.size
  have AW := AW.below kq AW.lt
  have V0 := V0.below kq (V0.lt bEnc_len (by omega))
  have OX := OX.later kq
  have BW := BW.trans (kq.mono BW.size)
  clear kq
  have c1 := AG
  obtain ⟨m0, m1, m2, m3, m4, m5, m6, m7, m8, m9, m10⟩ := c1
  have c2 := AW
  obtain ⟨k0, k1, k2, k3, k4, k5, k6, k7, k8, k9, k10⟩ := c2
  rw [hwd6] at m0 k0 m1 k1 m2 k2 m3 k3 m4 k4 m5 k5 m6 k6 m7 k7 m8 k8 m9 k9 m10 k10
  go_wp2_with fail
  go_at_call 31
  rw [← hwd6]
  clear hwd6 m0 k0 m1 k1 m2 k2 m3 k3 m4 k4 m5 k5 m6 k6 m7 k7 m8 k8 m9 k9 m10 k10
  refine (eqBpI X wd6).mono ?_
  rintro e wd7 ⟨rfl, kq⟩
  have swd7 := kq.size
  have AW := AW.below kq AW.lt
  have AG := AG.below kq AG.lt
  have V0 := V0.below kq (V0.lt bEnc_len (by omega))
  have OX := OX.later kq
  have BW := BW.trans (kq.mono BW.size)
  clear kq
  go_wp2_with fail
  go_at_call 30
  refine (bToS ad0 cap0 LL wd7 V0 hl).mono ?_
  rintro e wd8 ⟨rfl, O2, kq⟩
  obtain ⟨gO2, hgO2⟩ : ∃ g_, g_ = wd7.heap.size := ⟨_, rfl⟩
  rw [← hgO2] at O2 ⊢
  have lgO2 : wd7.heap.size ≤ gO2 ∧ gO2 ≤ wd7.heap.size := by omega
  clear hgO2
  have qgO2 := (O2.lt gO2 rfl).2
  have O2 := O2.base (base' := w.heap.size) (by have := BW.size; omega)
  have swd8 := kq.size
  have V0 := V0.below kq (V0.lt bEnc_len (by omega))
  have OX := OX.later kq
  have BW := BW.trans (kq.mono BW.size)
  clear kq
  have iO2 : ∀ g, (Value.slice (some ⟨gO2, 0, none⟩) LL.length LL.length).ownBlock = some g → wd7.heap.size ≤ g ∧ g < wd8.heap.size := fun g e => by simp [Value.ownBlock] at e; omega
  go_wp2_with fail
  go_at_call 27
  refine (bEq (some ⟨gOX, 0, none⟩) (some ⟨gO2, 0, none⟩) LL.length LL.length LL wd8 OX.view.2 O2.view.2 (by omega)).mono ?_
  rintro e wd9 ⟨rfl, kq⟩
  have swd9 := kq.size
  have V0 := V0.below kq (V0.lt bEnc_len (by omega))
  have OX := OX.later kq
  have O2 := O2.later kq
  have BW := BW.trans (kq.mono BW.size)
  clear kq
  go_wp2
  go_ret
  exact ⟨rfl, BW⟩


set_option maxRecDepth 100000 in
theorem lifted (os : Os) (started : os.Started) (H : Type) (enc : TypeId × Value → H) :
    ReturnsInHanded {} Try.checked os 7 .any (Rows.fnExactBpduOfSpec.pre6 enc Try.prog Try.f7 Rows.fnExactBpduOfRow.domain false) (Rows.fnExactBpduOfSpec.post enc Try.prog Try.f7 false true false false) := by
  refine returnsInHanded_of_change (C := Try.checked) own started (by kernel_rfl) Try.func7
    (ChangeSpec.witness6 (enc := enc) (C := Try.checked) false ⟨#[], #[.slice none 0 0], []⟩ 8 (by kernel_rfl) (by kernel_rfl) (by kernel_rfl) (by kernel_rfl)) ?_
  intro W base args ds gs before hval0 hW hcnd _
  have hval : ∀ (j : Nat) t v, Try.f7.params[j]? = some t → args[j]? = some v → Value.okWide Try.prog W .any base t v := hval0
  have hW' := hW
  obtain ⟨p, q, hA0, hV, rfl, hfz, hnd⟩ := hW
  have hA : DataW.TrodAll enc Try.prog W 0 (fun _ => true) true Try.f7.params.toList args.toList ds p := hA0
  rw [Try.params7] at hA hval
  obtain ⟨v0, vs0, d0, ds0, p0, q0, hargs, rfl, rfl, h0, r0⟩ := trodAll_cons hA
  obtain ⟨rfl, rfl, rfl⟩ := trodAll_nil r0
  obtain rfl : args = #[v0] := by cases args; simp_all
  obtain ⟨rfl, rfl⟩ := trodVars_none hV
  obtain ⟨ad0, len0, cap0, f0, rfl, I0⟩ := codeIn_open (hval 0 22 v0 rfl rfl) h0
  have lt0 : ∀ x ∈ p0, x.block < W.heap.size := by obtain ⟨m, hm⟩ := h0; exact DataW.trod_lt m _ _ _ hm
  clear hA0 hval0
  refine (walk ad0 len0 cap0 f0 W I0).mono fun e W' ⟨he, bel⟩ => ?_
  subst he
  exact ⟨_, rfl, _, _, _, [], _, [], hW', trodAll_mk1 (shut_bool Try.underlying4 _), (trodAll_cons_mk (Below.trod laidOut (by kernel_rfl) (of_decide_eq_true (by kernel_rfl)) h0 bel lt0) trodAll_mk0), rfl, bel.frame _, fun h => by cases h⟩

theorem over : Rows.fnExactBpduOfRow.holds Try.pinned (OpenSpec.ofChange Rows.fnExactBpduOfSpec) :=
  OpenClaim.holds_of_wide 7 Try.f7 rfl rfl rfl rfl rfl rfl rfl ⟨rfl, rfl, rfl, rfl, rfl⟩ rfl rfl rfl rfl rfl (by kernel_rfl) Try.func7 (by kernel_rfl)
    (of_decide_eq_true (by kernel_rfl)) (by unfold Func.isWrapper; first | (rw [if_pos (by decide +kernel)]; kernel_rfl) | (rw [if_neg (by decide +kernel)]; exact ⟨rfl, rfl⟩))
    (fun os started H enc _ => lifted os started H enc)

theorem proved : Rows.FnExactBpduOfSaid := over
end Go.Proofs.Ytlgcjhebbmejaaa.fnExactBpduOf
namespace Go.Proofs.Ytlgcjhebbmejaaa
theorem bpduOf_holds : Rows.FnExactBpduOfSaid := fnExactBpduOf.proved
#print axioms bpduOf_holds
end Go.Proofs.Ytlgcjhebbmejaaa
