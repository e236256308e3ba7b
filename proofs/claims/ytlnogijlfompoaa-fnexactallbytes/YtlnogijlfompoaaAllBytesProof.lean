/- FnExactAllBytes, proved: at every list of what comes in the program's AllBytes answers as the specification's, its answer owns its memory, and no argument is written into; no condition. -/
import Derived.Test.YtlnogijlfompoaaRows
import Derived.Test.YtlnogijlfompoaaAb
import Derived.Test.YtlnogijlfompoaaIns2
import Derived.Test.YtlnogijlfompoaaIns3
import Derived.Test.YtlnogijlfompoaaIns4
import Derived.Deep.Cut
import Derived.WalkKit
import Derived.Below
import Derived.ChangeOld
import Derived.WalkSmall
import Derived.ProofKit
import Derived.OpenShut
import Derived.ShutString
import Derived.BigQuiet
namespace Go.Proofs.Ytlnogijlfompoaa.fnExactAllBytes
open Go.ChangeShapes Go.WideShapes Go.ChangeAt Go.RowKit
set_option linter.unusedVariables false

theorem own : ownKnob Try.prog.godebug = none := by kernel_rfl
theorem laidOut : laidOutB Try.prog = true := by kernel_rfl

set_option maxRecDepth 100000 in
theorem insIn_open {H : Type} {enc : TypeId × Value → H} {w : World} {r : Reach} {b0 : Nat} {v : Value} {d : DataW H} {p : List MemPlace} (hv : Value.okWide Try.prog w r b0 35 v) (h : DataW.Trod enc Try.prog w 0 (fun _ => true) true 35 v d p) :
    ∃ ad cap L, v = .slice ad (List.length L) cap ∧ (L.length ≤ maxLen ∧ FView ikEnc w ad L ∧ (ad = none → cap = 0)) := by
  obtain ⟨n, hn⟩ := h
  obtain ⟨a0, len0, cap0, rfl⟩ := okWide_slice (P := Try.prog) (t := 35) (e := 25) Try.underlying35 hv
  simp only [Value.cells] at hn
  obtain ⟨ad, cap, L, e, m, V, c⟩ := ikRow_open hn
  exact ⟨ad, cap, L, e, m, V, c⟩
set_option maxHeartbeats 8000000 in
set_option maxRecDepth 100000 in
theorem walk (ad0 : Option Addr) (cap0 : Nat) (L0 : List Ik) (w : World) (I0 : L0.length ≤ maxLen ∧ FView ikEnc w ad0 L0 ∧ (ad0 = none → cap0 = 0)) :
    Calls Try.prog 4 #[.slice ad0 L0.length cap0] w fun e w' => e = .returned (.bool true) ∧ Below w.heap.size w w' := by
  obtain ⟨hlm, V0, hn0⟩ := I0
  have vb : ∀ a, ad0 = some a → 0 < L0.length → a.block < w.heap.size := V0.lt ikEnc_len (by omega)
  go_enter Try.func4, Try.ntmps4
  go_wp2_with fail
  go_at_call 11
  refine (ikSz ad0 L0.length cap0 1048576 w (by decide) (by decide) hlm).mono ?_
  rintro e y1 ⟨rfl, hw_⟩
  have BW : Below w.heap.size w y1 := by rw [hw_]; exact Below.refl _ _
  have V0 : FView ikEnc y1 ad0 L0 := by rw [hw_]; exact V0
  clear hw_
  have sy1 := BW.size
  by_cases hl : L0.length ≤ 1048576
  rotate_left
  · rw [if_neg (by omega)]
    go_wp2
    go_ret
    exact ⟨rfl, BW⟩
  rw [if_pos (by omega)]
  have hlf : 0 ≤ 1048576 - (L0.length : Int) := by omega
  generalize 1048576 - (L0.length : Int) = lf at hlf ⊢
  obtain ⟨D, hD⟩ : ∃ D, allB L0 = D := ⟨_, rfl⟩
  have hDl : D.length ≤ 11534336 := by rw [← hD]; have := allB_len L0; omega
  have hDm : D.length ≤ 16777216 := by omega
  replace hD : Hid _ := hD
  go_wp2_with fail
  go_at_call 13
  refine (ikToS ad0 cap0 L0 y1 V0 hl).mono ?_
  rintro e wd1 ⟨rfl, O1, kq⟩
  obtain ⟨gO1, hgO1⟩ : ∃ g_, g_ = y1.heap.size := ⟨_, rfl⟩
  rw [← hgO1] at O1 ⊢
  have lgO1 : y1.heap.size ≤ gO1 ∧ gO1 ≤ y1.heap.size := by omega
  clear hgO1
  have qgO1 := (O1.lt gO1 rfl).2
  have O1 := O1.base (base' := w.heap.size) (by have := BW.size; omega)
  have swd1 := kq.size
  have V0 := V0.below kq (V0.lt ikEnc_len (by omega))
  have BW := BW.trans (kq.mono BW.size)
  clear kq
  have iO1 : ∀ g, (Value.slice (some ⟨gO1, 0, none⟩) L0.length L0.length).ownBlock = some g → y1.heap.size ≤ g ∧ g < wd1.heap.size := fun g e => by simp [Value.ownBlock] at e; omega
  go_wp2_with fail
  go_at_call 12
  refine (allBS (some ⟨gO1, 0, none⟩) L0.length L0 wd1 O1.view.2 hl).mono ?_
  rintro e wd2 ⟨aW, cW, rfl, OW, kq⟩
  rw [hD.out] at OW ⊢
  have swd2 := kq.size
  have V0 := V0.below kq (V0.lt ikEnc_len (by omega))
  have O1 := O1.later kq
  have BW := BW.trans (kq.mono BW.size)
  clear kq
  have iOW : ∀ g, (Value.slice aW D.length cW).ownBlock = some g → wd1.heap.size ≤ g ∧ g < wd2.heap.size := fun g e => OW.lt g e
  go_wp2_with fail
  go_at_call 13
  refine (ikToS ad0 cap0 L0 wd2 V0 hl).mono ?_
  rintro e wd3 ⟨rfl, OX, kq⟩
  obtain ⟨gOX, hgOX⟩ : ∃ g_, g_ = wd2.heap.size := ⟨_, rfl⟩
  rw [← hgOX] at OX ⊢
  have lgOX : wd2.heap.size ≤ gOX ∧ gOX ≤ wd2.heap.size := by omega
  clear hgOX
  have qgOX := (OX.lt gOX rfl).2
  have OX := OX.base (base' := w.heap.size) (by have := BW.size; omega)
  have swd3 := kq.size
  have V0 := V0.below kq (V0.lt ikEnc_len (by omega))
  have OW := OW.later kq
  have BW := BW.trans (kq.mono BW.size)
  clear kq
  have iOX : ∀ g, (Value.slice (some ⟨gOX, 0, none⟩) L0.length L0.length).ownBlock = some g → wd2.heap.size ≤ g ∧ g < wd3.heap.size := fun g e => by simp [Value.ownBlock] at e; omega
  go_wp2_with fail
  go_at_call 14
  refine (allBI (some ⟨gOX, 0, none⟩) L0.length L0 wd3 OX.view.2 hl).mono ?_
  rintro e wd4 ⟨aG, cG, rfl, OG, kq⟩
  rw [hD.out] at OG ⊢
  have swd4 := kq.size
  have V0 := V0.below kq (V0.lt ikEnc_len (by omega))
  have OW := OW.later kq
  have OX := OX.later kq
  have BW := BW.trans (kq.mono BW.size)
  clear kq
  have iOG : ∀ g, (Value.slice aG D.length cG).ownBlock = some g → wd3.heap.size ≤ g ∧ g < wd4.heap.size := fun g e => OG.lt g e
  go_wp2_with fail
  go_at_call 8
  refine (bEq aG aW cG cW D wd4 OG.view.2 OW.view.2 hDm).mono ?_
  rintro e wd5 ⟨rfl, kq⟩
  have swd5 := kq.size
  have V0 := V0.below kq (V0.lt ikEnc_len (by omega))
  have OW := OW.later kq
  have OX := OX.later kq
  have OG := OG.later kq
  have BW := BW.trans (kq.mono BW.size)
  clear kq
  go_wp2_with fail
  go_at_call 13
  refine (ikToS ad0 cap0 L0 wd5 V0 hl).mono ?_
  rintro e wd6 ⟨rfl, O2, kq⟩
  obtain ⟨gO2, hgO2⟩ : ∃ g_, g_ = wd5.heap.size := ⟨_, rfl⟩
  rw [← hgO2] at O2 ⊢
  have lgO2 : wd5.heap.size ≤ gO2 ∧ gO2 ≤ wd5.heap.size := by omega
  clear hgO2
  have qgO2 := (O2.lt gO2 rfl).2
  have O2 := O2.base (base' := w.heap.size) (by have := BW.size; omega)
  have swd6 := kq.size
  have V0 := V0.below kq (V0.lt ikEnc_len (by omega))
  have OW := OW.later kq
  have OX := OX.later kq
  have OG := OG.later kq
  have BW := BW.trans (kq.mono BW.size)
  clear kq
  have iO2 : ∀ g, (Value.slice (some ⟨gO2, 0, none⟩) L0.length L0.length).ownBlock = some g → wd5.heap.size ≤ g ∧ g < wd6.heap.size := fun g e => by simp [Value.ownBlock] at e; omega
  go_wp2_with fail
  go_at_call 15
  refine (ikEqS (some ⟨gOX, 0, none⟩) (some ⟨gO2, 0, none⟩) L0.length L0.length L0 wd6 OX.view.2 O2.view.2 hl).mono ?_
  rintro e wd7 ⟨rfl, kq⟩
  have swd7 := kq.size
  have V0 := V0.below kq (V0.lt ikEnc_len (by omega))
  have OW := OW.later kq
  have OX := OX.later kq
  have OG := OG.later kq
  have O2 := O2.later kq
  have BW := BW.trans (kq.mono BW.size)
  clear kq
  go_wp2_with fail
  go_at_call 16
  refine (ikMark (some ⟨gOX, 0, none⟩) L0.length 1 _ L0 wd7 OX hl (by decide) (by decide)).mono ?_
  rintro e wd8 ⟨rfl, OX', gq⟩
  have swd8 := gq.size
  have V0 := V0.carry (fun a e p => gq.block _ (V0.lt ikEnc_len (by omega) a e p) (fun e2 => by have := iOX _ e2.symm; have := vb a e p; omega))
  have OW := OW.keep (fun g' e' => gq.block g' (OW.lt g' e').2 (fun e2 => by have := iOX _ e2.symm; have := iOW _ e'; omega))
  have OG := OG.keep (fun g' e' => gq.block g' (OG.lt g' e').2 (fun e2 => by have := iOX _ e2.symm; have := iOG _ e'; omega))
  have BW := BW.grown gq BW.size (fun g' e => by have := iOX _ e; omega)
  clear gq
  clear OX OX'
  have hk0 : ¬ (1 + 8 * (L0.length : Int) < 0) := by omega
  have hk1 : decide (1 + 8 * (L0.length : Int) < 0) = false := decide_eq_false hk0
  go_wp2_with fail
  go_at_call 8
  refine (bEq aG aW cG cW D wd8 OG.view.2 OW.view.2 hDm).mono ?_
  rintro e wd9 ⟨rfl, kq⟩
  have swd9 := kq.size
  have V0 := V0.below kq (V0.lt ikEnc_len (by omega))
  have OW := OW.later kq
  have OG := OG.later kq
  have BW := BW.trans (kq.mono BW.size)
  clear kq
  go_wp2_with fail
  go_at_call 9
  refine (bMark aG cG 1 _ D wd9 OG hDm (by omega) (by omega)).mono ?_
  rintro e wd10 ⟨rfl, OG', gq⟩
  have swd10 := gq.size
  have V0 := V0.carry (fun a e p => gq.block _ (V0.lt ikEnc_len (by omega) a e p) (fun e2 => by have := iOG _ e2.symm; have := vb a e p; omega))
  have OW := OW.keep (fun g' e' => gq.block g' (OW.lt g' e').2 (fun e2 => by have := iOG _ e2.symm; have := iOW _ e'; omega))
  have BW := BW.grown gq BW.size (fun g' e => by have := iOG _ e; omega)
  clear gq
  have OG := OG'
  clear OG'
  obtain ⟨m, hm⟩ : ∃ m, m = 1 + (D.length : Int) := ⟨_, rfl⟩
  have m0 : 0 ≤ m := by omega
  rw [← hm]
  replace hm : Hid _ := hm
  go_wp2_with fail
  go_at_call 10
  refine (bHeld aG D.length cG 1 wd10 OG.view.2 hDm (by omega) (by omega)).mono ?_
  rintro e wd11 ⟨rfl, hw_⟩
  have kq : Below wd10.heap.size wd10 wd11 := by rw [hw_]; exact Below.refl _ _
  clear hw_
  have swd11 := kq.size
  have V0 := V0.below kq (V0.lt ikEnc_len (by omega))
  have OW := OW.later kq
  have OG := OG.later kq
  have BW := BW.trans (kq.mono BW.size)
  clear kq
  rw [← hm.out]
  go_wp2_with fail
  go_at_call 13
  refine (ikToS ad0 cap0 L0 wd11 V0 hl).mono ?_
  rintro e wd12 ⟨rfl, O3, kq⟩
  obtain ⟨gO3, hgO3⟩ : ∃ g_, g_ = wd11.heap.size := ⟨_, rfl⟩
  rw [← hgO3] at O3 ⊢
  have lgO3 : wd11.heap.size ≤ gO3 ∧ gO3 ≤ wd11.heap.size := by omega
  clear hgO3
  have qgO3 := (O3.lt gO3 rfl).2
  have O3 := O3.base (base' := w.heap.size) (by have := BW.size; omega)
  have swd12 := kq.size
  have V0 := V0.below kq (V0.lt ikEnc_len (by omega))
  have OW := OW.later kq
  have OG := OG.later kq
  have BW := BW.trans (kq.mono BW.size)
  clear kq
  have iO3 : ∀ g, (Value.slice (some ⟨gO3, 0, none⟩) L0.length L0.length).ownBlock = some g → wd11.heap.size ≤ g ∧ g < wd12.heap.size := fun g e => by simp [Value.ownBlock] at e; omega
  go_wp2_with fail
  go_at_call 14
  refine (allBI (some ⟨gO3, 0, none⟩) L0.length L0 wd12 O3.view.2 hl).mono ?_
  rintro e wd13 ⟨aH, cH, rfl, OH, kq⟩
  rw [hD.out] at OH ⊢
  have swd13 := kq.size
  have V0 := V0.below kq (V0.lt ikEnc_len (by omega))
  have OW := OW.later kq
  have OG := OG.later kq
  have O3 := O3.later kq
  have BW := BW.trans (kq.mono BW.size)
  clear kq
  have iOH : ∀ g, (Value.slice aH D.length cH).ownBlock = some g → wd12.heap.size ≤ g ∧ g < wd13.heap.size := fun g e => OH.lt g e
  go_wp2_with fail
  go_at_call 8
  refine (bEq aH aW cH cW D wd13 OH.view.2 OW.view.2 hDm).mono ?_
  rintro e wd14 ⟨rfl, kq⟩
  have swd14 := kq.size
  have V0 := V0.below kq (V0.lt ikEnc_len (by omega))
  have OW := OW.later kq
  have OG := OG.later kq
  have OH := OH.later kq
  have BW := BW.trans (kq.mono BW.size)
  clear kq
  go_wp2_with fail
  go_at_call 10
  refine (bHeld aG D.length cG 1 wd14 OG.view.2 hDm (by omega) (by omega)).mono ?_
  rintro e wd15 ⟨rfl, hw_⟩
  have kq : Below wd14.heap.size wd14 wd15 := by rw [hw_]; exact Below.refl _ _
  clear hw_
  have swd15 := kq.size
  have V0 := V0.below kq (V0.lt ikEnc_len (by omega))
  have OW := OW.later kq
  have OG := OG.later kq
  have OH := OH.later kq
  have BW := BW.trans (kq.mono BW.size)
  clear kq
  rw [← hm.out]
  go_wp2
  go_ret
  exact ⟨rfl, BW⟩


set_option maxRecDepth 100000 in
theorem lifted (os : Os) (started : os.Started) (H : Type) (enc : TypeId × Value → H) :
    ReturnsInHanded {} Try.checked os 4 .any (Rows.fnExactAllBytesSpec.pre6 enc Try.prog Try.f4 Rows.fnExactAllBytesRow.domain false) (Rows.fnExactAllBytesSpec.post enc Try.prog Try.f4 false true false false) := by
  refine returnsInHanded_of_change (C := Try.checked) own started (by kernel_rfl) Try.func4
    (ChangeSpec.witness6 (enc := enc) (C := Try.checked) false ⟨#[], #[.slice none 0 0], []⟩ 8 (by kernel_rfl) (by kernel_rfl) (by kernel_rfl) (by kernel_rfl)) ?_
  intro W base args ds gs before hval0 hW hcnd _
  have hval : ∀ (j : Nat) t v, Try.f4.params[j]? = some t → args[j]? = some v → Value.okWide Try.prog W .any base t v := hval0
  have hW' := hW
  obtain ⟨p, q, hA0, hV, rfl, hfz, hnd⟩ := hW
  have hA : DataW.TrodAll enc Try.prog W 0 (fun _ => true) true Try.f4.params.toList args.toList ds p := hA0
  rw [Try.params4] at hA hval
  obtain ⟨v0, vs0, d0, ds0, p0, q0, hargs, rfl, rfl, h0, r0⟩ := trodAll_cons hA
  obtain ⟨rfl, rfl, rfl⟩ := trodAll_nil r0
  obtain rfl : args = #[v0] := by cases args; simp_all
  obtain ⟨rfl, rfl⟩ := trodVars_none hV
  obtain ⟨ad0, cap0, L0, rfl, I0⟩ := insIn_open (hval 0 35 v0 rfl rfl) h0
  have lt0 : ∀ x ∈ p0, x.block < W.heap.size := by obtain ⟨m, hm⟩ := h0; exact DataW.trod_lt m _ _ _ hm
  clear hA0 hval0
  refine (walk ad0 cap0 L0 W I0).mono fun e W' ⟨he, bel⟩ => ?_
  subst he
  exact ⟨_, rfl, _, _, _, [], _, [], hW', trodAll_mk1 (shut_bool Try.underlying4 _), (trodAll_cons_mk (Below.trod laidOut (by kernel_rfl) (of_decide_eq_true (by kernel_rfl)) h0 bel lt0) trodAll_mk0), rfl, bel.frame _, fun h => by cases h⟩

theorem over : Rows.fnExactAllBytesRow.holds Try.pinned (OpenSpec.ofChange Rows.fnExactAllBytesSpec) :=
  OpenClaim.holds_of_wide 4 Try.f4 rfl rfl rfl rfl rfl rfl rfl ⟨rfl, rfl, rfl, rfl, rfl⟩ rfl rfl rfl rfl rfl (by kernel_rfl) Try.func4 (by kernel_rfl)
    (of_decide_eq_true (by kernel_rfl)) (by unfold Func.isWrapper; first | (rw [if_pos (by decide +kernel)]; kernel_rfl) | (rw [if_neg (by decide +kernel)]; exact ⟨rfl, rfl⟩))
    (fun os started H enc _ => lifted os started H enc)

theorem proved : Rows.FnExactAllBytesSaid := over
end Go.Proofs.Ytlnogijlfompoaa.fnExactAllBytes
namespace Go.Proofs.Ytlnogijlfompoaa
theorem allBytes_holds : Rows.FnExactAllBytesSaid := fnExactAllBytes.proved
#print axioms allBytes_holds
end Go.Proofs.Ytlnogijlfompoaa
