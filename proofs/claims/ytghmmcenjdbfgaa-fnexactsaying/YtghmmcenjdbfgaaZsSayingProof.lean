/- FnExactSaying, proved: at every three numbers and every log the program's Saying answers as the specification's, its answer owns its memory, and no argument is written into; no condition. -/
import Derived.Test.YtghmmcenjdbfgaaRows
import Derived.Test.YtghmmcenjdbfgaaZs
import Derived.Deep.Cut
import Derived.WalkKit
import Derived.Below
import Derived.ChangeOld
import Derived.WalkSmall
import Derived.ProofKit
import Derived.OpenShut
import Derived.ShutString
import Derived.BigQuiet
namespace Go.Proofs.Ytghmmcenjdbfgaa.fnExactSaying
open Go.ChangeShapes Go.WideShapes Go.ChangeAt Go.RowKit
set_option linter.unusedVariables false

theorem own : ownKnob Try.prog.godebug = none := by kernel_rfl
theorem laidOut : laidOutB Try.prog = true := by kernel_rfl

set_option maxRecDepth 100000 in
theorem intIn_open {H : Type} {enc : TypeId × Value → H} {w : World} {r : Reach} {b0 : Nat} {v : Value} {d : DataW H} {p : List MemPlace} (hv : Value.okWide Try.prog w r b0 3 v) (h : DataW.Trod enc Try.prog w 0 (fun _ => true) true 3 v d p) : ∃ n : Int, v = .int .i64 n ∧ (Lit.int .i64 n).wf = true := by
  obtain ⟨n, rfl, _, _, I⟩ := open_int Try.underlying3 hv h
  exact ⟨n, rfl, I⟩
set_option maxRecDepth 100000 in
theorem boolIn_open {H : Type} {enc : TypeId × Value → H} {w : World} {r : Reach} {b0 : Nat} {v : Value} {d : DataW H} {p : List MemPlace} (hv : Value.okWide Try.prog w r b0 4 v) (h : DataW.Trod enc Try.prog w 0 (fun _ => true) true 4 v d p) : ∃ b : Bool, v = .bool b ∧ True := by
  obtain ⟨b, rfl, _, _⟩ := open_bool Try.underlying4 hv h
  exact ⟨b, rfl, trivial⟩
set_option maxRecDepth 100000 in
theorem insIn_open {H : Type} {enc : TypeId × Value → H} {w : World} {r : Reach} {b0 : Nat} {v : Value} {d : DataW H} {p : List MemPlace} (hv : Value.okWide Try.prog w r b0 66 v) (h : DataW.Trod enc Try.prog w 0 (fun _ => true) true 66 v d p) :
    ∃ ad cap L, v = .slice ad (List.length L) cap ∧ (L.length ≤ maxLen ∧ FView ikEnc w ad L ∧ (ad = none → cap = 0)) := by
  obtain ⟨n, hn⟩ := h
  obtain ⟨a0, len0, cap0, rfl⟩ := okWide_slice (P := Try.prog) (t := 66) (e := 124) Try.underlying66 hv
  simp only [Value.cells] at hn
  obtain ⟨ad, cap, L, e, m, V, c⟩ := ikRow_open hn
  exact ⟨ad, cap, L, e, m, V, c⟩
set_option maxHeartbeats 8000000 in
set_option maxRecDepth 100000 in
theorem walk (n0 : Int) (n1 : Int) (ad2 : Option Addr) (cap2 : Nat) (L2 : List Ik) (n3 : Int) (w : World) (I0 : (Lit.int .i64 n0).wf = true) (I1 : (Lit.int .i64 n1).wf = true) (I2 : L2.length ≤ maxLen ∧ FView ikEnc w ad2 L2 ∧ (ad2 = none → cap2 = 0)) (I3 : (Lit.int .i64 n3).wf = true) :
    Calls Try.prog 8 #[.int .i64 n0, .int .i64 n1, .slice ad2 L2.length cap2, .int .i64 n3] w fun e w' => e = .returned (.bool true) ∧ Below w.heap.size w w' := by
  obtain ⟨hlm, V2, hn0⟩ := I2
  clear I0 I1 I3
  have vb : ∀ a, ad2 = some a → 0 < L2.length → a.block < w.heap.size := V2.lt ikEnc_len (by omega)
  go_enter Try.func8, Try.ntmps8
  go_wp2_with fail
  go_at_call 39
  refine (ikSz ad2 L2.length cap2 1048576 w (by decide) (by decide) hlm).mono ?_
  rintro e y1 ⟨rfl, hw_⟩
  have BW : Below w.heap.size w y1 := by rw [hw_]; exact Below.refl _ _
  have V2 : FView ikEnc y1 ad2 L2 := by rw [hw_]; exact V2
  clear hw_
  have sy1 := BW.size
  by_cases hl : L2.length ≤ 1048576
  rotate_left
  · rw [if_neg (by omega)]
    go_wp2
    go_ret
    exact ⟨rfl, BW⟩
  rw [if_pos (by omega)]
  have hlf : 0 ≤ 1048576 - (L2.length : Int) := by omega
  generalize 1048576 - (L2.length : Int) = lf at hlf ⊢
  obtain ⟨D, hD⟩ : ∃ D, sayR n0 n1 L2 n3 = D := ⟨_, rfl⟩
  have hDl : D.length ≤ 1048576 := by rw [← hD]; have := sayR_len n0 n1 L2 n3; omega
  replace hD : Hid _ := hD
  go_wp2_with fail
  go_at_call 40
  refine (ikToS ad2 cap2 L2 y1 V2 hl).mono ?_
  rintro e wd1 ⟨rfl, O1, kq⟩
  obtain ⟨gO1, hgO1⟩ : ∃ g_, g_ = y1.heap.size := ⟨_, rfl⟩
  rw [← hgO1] at O1 ⊢
  have lgO1 : y1.heap.size ≤ gO1 ∧ gO1 ≤ y1.heap.size := by omega
  clear hgO1
  have qgO1 := (O1.lt gO1 rfl).2
  have O1 := O1.base (base' := w.heap.size) (by have := BW.size; omega)
  have swd1 := kq.size
  have V2 := V2.below kq (V2.lt ikEnc_len (by omega))
  have BW := BW.trans (kq.mono BW.size)
  clear kq
  have iO1 : ∀ g, (Value.slice (some ⟨gO1, 0, none⟩) L2.length L2.length).ownBlock = some g → y1.heap.size ≤ g ∧ g < wd1.heap.size := fun g e => by simp [Value.ownBlock] at e; omega
  go_wp2_with fail
  go_at_call 22
  refine (sayS n0 n1 (some ⟨gO1, 0, none⟩) L2.length L2 n3 wd1 O1.view.2 hl (Nat.le_refl _)).mono ?_
  rintro e wd2 ⟨aW, cW, rfl, OW, kq⟩
  rw [hD.out] at OW ⊢
  have swd2 := kq.size
  have V2 := V2.below kq (V2.lt ikEnc_len (by omega))
  have O1 := O1.later kq
  have BW := BW.trans (kq.mono BW.size)
  clear kq
  have iOW : ∀ g, (Value.slice aW D.length cW).ownBlock = some g → wd1.heap.size ≤ g ∧ g < wd2.heap.size := fun g e => OW.lt g e
  go_wp2_with fail
  go_at_call 40
  refine (ikToS ad2 cap2 L2 wd2 V2 hl).mono ?_
  rintro e wd3 ⟨rfl, OX, kq⟩
  obtain ⟨gOX, hgOX⟩ : ∃ g_, g_ = wd2.heap.size := ⟨_, rfl⟩
  rw [← hgOX] at OX ⊢
  have lgOX : wd2.heap.size ≤ gOX ∧ gOX ≤ wd2.heap.size := by omega
  clear hgOX
  have qgOX := (OX.lt gOX rfl).2
  have OX := OX.base (base' := w.heap.size) (by have := BW.size; omega)
  have swd3 := kq.size
  have V2 := V2.below kq (V2.lt ikEnc_len (by omega))
  have OW := OW.later kq
  have BW := BW.trans (kq.mono BW.size)
  clear kq
  have iOX : ∀ g, (Value.slice (some ⟨gOX, 0, none⟩) L2.length L2.length).ownBlock = some g → wd2.heap.size ≤ g ∧ g < wd3.heap.size := fun g e => by simp [Value.ownBlock] at e; omega
  go_wp2_with fail
  go_at_call 20
  refine (sayI n0 n1 (some ⟨gOX, 0, none⟩) L2.length L2 n3 wd3 OX.view.2 hl (Nat.le_refl _)).mono ?_
  rintro e wd4 ⟨aG, cG, rfl, OG, kq⟩
  rw [hD.out] at OG ⊢
  have swd4 := kq.size
  have V2 := V2.below kq (V2.lt ikEnc_len (by omega))
  have OW := OW.later kq
  have OX := OX.later kq
  have BW := BW.trans (kq.mono BW.size)
  clear kq
  have iOG : ∀ g, (Value.slice aG D.length cG).ownBlock = some g → wd3.heap.size ≤ g ∧ g < wd4.heap.size := fun g e => OG.lt g e
  go_wp2_with fail
  go_at_call 46
  refine (ouEqS aG aW cG cW D wd4 OG.view.2 OW.view.2 hDl).mono ?_
  rintro e wd5 ⟨rfl, kq⟩
  have swd5 := kq.size
  have V2 := V2.below kq (V2.lt ikEnc_len (by omega))
  have OW := OW.later kq
  have OX := OX.later kq
  have OG := OG.later kq
  have BW := BW.trans (kq.mono BW.size)
  clear kq
  go_wp2_with fail
  go_at_call 40
  refine (ikToS ad2 cap2 L2 wd5 V2 hl).mono ?_
  rintro e wd6 ⟨rfl, O2, kq⟩
  obtain ⟨gO2, hgO2⟩ : ∃ g_, g_ = wd5.heap.size := ⟨_, rfl⟩
  rw [← hgO2] at O2 ⊢
  have lgO2 : wd5.heap.size ≤ gO2 ∧ gO2 ≤ wd5.heap.size := by omega
  clear hgO2
  have qgO2 := (O2.lt gO2 rfl).2
  have O2 := O2.base (base' := w.heap.size) (by have := BW.size; omega)
  have swd6 := kq.size
  have V2 := V2.below kq (V2.lt ikEnc_len (by omega))
  have OW := OW.later kq
  have OX := OX.later kq
  have OG := OG.later kq
  have BW := BW.trans (kq.mono BW.size)
  clear kq
  have iO2 : ∀ g, (Value.slice (some ⟨gO2, 0, none⟩) L2.length L2.length).ownBlock = some g → wd5.heap.size ≤ g ∧ g < wd6.heap.size := fun g e => by simp [Value.ownBlock] at e; omega
  go_wp2_with fail
  go_at_call 42
  refine (ikEqS (some ⟨gOX, 0, none⟩) (some ⟨gO2, 0, none⟩) L2.length L2.length L2 wd6 OX.view.2 O2.view.2 hl).mono ?_
  rintro e wd7 ⟨rfl, kq⟩
  have swd7 := kq.size
  have V2 := V2.below kq (V2.lt ikEnc_len (by omega))
  have OW := OW.later kq
  have OX := OX.later kq
  have OG := OG.later kq
  have O2 := O2.later kq
  have BW := BW.trans (kq.mono BW.size)
  clear kq
  go_wp2_with fail
  go_at_call 43
  refine (ikMark (some ⟨gOX, 0, none⟩) L2.length 1 _ L2 wd7 OX hl (by decide) (by decide)).mono ?_
  rintro e wd8 ⟨rfl, OX', gq⟩
  have swd8 := gq.size
  have V2 := V2.carry (fun a e p => gq.block _ (V2.lt ikEnc_len (by omega) a e p) (fun e2 => by have := iOX _ e2.symm; have := vb a e p; omega))
  have OW := OW.keep (fun g' e' => gq.block g' (OW.lt g' e').2 (fun e2 => by have := iOX _ e2.symm; have := iOW _ e'; omega))
  have OG := OG.keep (fun g' e' => gq.block g' (OG.lt g' e').2 (fun e2 => by have := iOX _ e2.symm; have := iOG _ e'; omega))
  have BW := BW.grown gq BW.size (fun g' e => by have := iOX _ e; omega)
  clear gq
  clear OX OX'
  have hk0 : ¬ (1 + 8 * (L2.length : Int) < 0) := by omega
  have hk1 : decide (1 + 8 * (L2.length : Int) < 0) = false := decide_eq_false hk0
  go_wp2_with fail
  go_at_call 46
  refine (ouEqS aG aW cG cW D wd8 OG.view.2 OW.view.2 hDl).mono ?_
  rintro e wd9 ⟨rfl, kq⟩
  have swd9 := kq.size
  have V2 := V2.below kq (V2.lt ikEnc_len (by omega))
  have OW := OW.later kq
  have OG := OG.later kq
  have BW := BW.trans (kq.mono BW.size)
  clear kq
  go_wp2_with fail
  go_at_call 47
  refine (ouMark aG cG 1 _ D wd9 OG hDl (by decide) (by decide)).mono ?_
  rintro e wd10 ⟨rfl, OG', gq⟩
  have swd10 := gq.size
  have V2 := V2.carry (fun a e p => gq.block _ (V2.lt ikEnc_len (by omega) a e p) (fun e2 => by have := iOG _ e2.symm; have := vb a e p; omega))
  have OW := OW.keep (fun g' e' => gq.block g' (OW.lt g' e').2 (fun e2 => by have := iOG _ e2.symm; have := iOW _ e'; omega))
  have BW := BW.grown gq BW.size (fun g' e => by have := iOG _ e; omega)
  clear gq
  have OG := OG'
  clear OG'
  obtain ⟨m, hm⟩ : ∃ m, m = 1 + 8 * (D.length : Int) := ⟨_, rfl⟩
  have m0 : ¬ m < 0 := by omega
  rw [← hm]
  replace hm : Hid _ := hm
  have hml : ((List.range D.length).map (ouMk 1)).length = D.length := by simp
  go_wp2_with fail
  go_at_call 48
  refine (ouHeld aG D.length cG 1 wd10 (by have := OG.view.2; exact this) hDl (by decide) (by decide)).mono ?_
  rintro e wd11 ⟨rfl, hw_⟩
  have kq : Below wd10.heap.size wd10 wd11 := by rw [hw_]; exact Below.refl _ _
  clear hw_
  have swd11 := kq.size
  have V2 := V2.below kq (V2.lt ikEnc_len (by omega))
  have OW := OW.later kq
  have OG := OG.later kq
  have BW := BW.trans (kq.mono BW.size)
  clear kq
  rw [← hm.out]
  go_wp2_with fail
  go_at_call 40
  refine (ikToS ad2 cap2 L2 wd11 V2 hl).mono ?_
  rintro e wd12 ⟨rfl, O3, kq⟩
  obtain ⟨gO3, hgO3⟩ : ∃ g_, g_ = wd11.heap.size := ⟨_, rfl⟩
  rw [← hgO3] at O3 ⊢
  have lgO3 : wd11.heap.size ≤ gO3 ∧ gO3 ≤ wd11.heap.size := by omega
  clear hgO3
  have qgO3 := (O3.lt gO3 rfl).2
  have O3 := O3.base (base' := w.heap.size) (by have := BW.size; omega)
  have swd12 := kq.size
  have V2 := V2.below kq (V2.lt ikEnc_len (by omega))
  have OW := OW.later kq
  have OG := OG.later kq
  have BW := BW.trans (kq.mono BW.size)
  clear kq
  have iO3 : ∀ g, (Value.slice (some ⟨gO3, 0, none⟩) L2.length L2.length).ownBlock = some g → wd11.heap.size ≤ g ∧ g < wd12.heap.size := fun g e => by simp [Value.ownBlock] at e; omega
  go_wp2_with fail
  go_at_call 20
  refine (sayI n0 n1 (some ⟨gO3, 0, none⟩) L2.length L2 n3 wd12 O3.view.2 hl (Nat.le_refl _)).mono ?_
  rintro e wd13 ⟨aH, cH, rfl, OH, kq⟩
  rw [hD.out] at OH ⊢
  have swd13 := kq.size
  have V2 := V2.below kq (V2.lt ikEnc_len (by omega))
  have OW := OW.later kq
  have OG := OG.later kq
  have O3 := O3.later kq
  have BW := BW.trans (kq.mono BW.size)
  clear kq
  have iOH : ∀ g, (Value.slice aH D.length cH).ownBlock = some g → wd12.heap.size ≤ g ∧ g < wd13.heap.size := fun g e => OH.lt g e
  go_wp2_with fail
  go_at_call 46
  refine (ouEqS aH aW cH cW D wd13 OH.view.2 OW.view.2 hDl).mono ?_
  rintro e wd14 ⟨rfl, kq⟩
  have swd14 := kq.size
  have V2 := V2.below kq (V2.lt ikEnc_len (by omega))
  have OW := OW.later kq
  have OG := OG.later kq
  have OH := OH.later kq
  have BW := BW.trans (kq.mono BW.size)
  clear kq
  go_wp2_with fail
  go_at_call 48
  refine (ouHeld aG D.length cG 1 wd14 (by have := OG.view.2; exact this) hDl (by decide) (by decide)).mono ?_
  rintro e wd15 ⟨rfl, hw_⟩
  have kq : Below wd14.heap.size wd14 wd15 := by rw [hw_]; exact Below.refl _ _
  clear hw_
  have swd15 := kq.size
  have V2 := V2.below kq (V2.lt ikEnc_len (by omega))
  have OW := OW.later kq
  have OG := OG.later kq
  have OH := OH.later kq
  have BW := BW.trans (kq.mono BW.size)
  clear kq
  rw [← hm.out]
  go_wp2
  go_ret
  exact ⟨rfl, BW⟩


set_option maxRecDepth 100000 in
theorem lifted (os : Os) (started : os.Started) (H : Type) (enc : TypeId × Value → H) :
    ReturnsInHanded {} Try.checked os 8 .any (Rows.fnExactSayingSpec.pre6 enc Try.prog Try.f8 Rows.fnExactSayingRow.domain false) (Rows.fnExactSayingSpec.post enc Try.prog Try.f8 false true false false) := by
  refine returnsInHanded_of_change (C := Try.checked) own started (by kernel_rfl) Try.func8
    (ChangeSpec.witness6 (enc := enc) (C := Try.checked) false ⟨#[], #[.int .i64 0, .int .i64 0, .slice none 0 0, .int .i64 0], []⟩ 8 (by kernel_rfl) (by kernel_rfl) (by kernel_rfl) (by kernel_rfl)) ?_
  intro W base args ds gs before hval0 hW hcnd _
  have hval : ∀ (j : Nat) t v, Try.f8.params[j]? = some t → args[j]? = some v → Value.okWide Try.prog W .any base t v := hval0
  have hW' := hW
  obtain ⟨p, q, hA0, hV, rfl, hfz, hnd⟩ := hW
  have hA : DataW.TrodAll enc Try.prog W 0 (fun _ => true) true Try.f8.params.toList args.toList ds p := hA0
  rw [Try.params8] at hA hval
  obtain ⟨v0, vs0, d0, ds0, p0, q0, hargs, rfl, rfl, h0, r0⟩ := trodAll_cons hA
  obtain ⟨v1, vs1, d1, ds1, p1, q1, rfl, rfl, rfl, h1, r1⟩ := trodAll_cons r0
  obtain ⟨v2, vs2, d2, ds2, p2, q2, rfl, rfl, rfl, h2, r2⟩ := trodAll_cons r1
  obtain ⟨v3, vs3, d3, ds3, p3, q3, rfl, rfl, rfl, h3, r3⟩ := trodAll_cons r2
  obtain ⟨rfl, rfl, rfl⟩ := trodAll_nil r3
  obtain rfl : args = #[v0, v1, v2, v3] := by cases args; simp_all
  obtain ⟨rfl, rfl⟩ := trodVars_none hV
  obtain ⟨n0, rfl, I0⟩ := intIn_open (hval 0 3 v0 rfl rfl) h0
  have lt0 : ∀ x ∈ p0, x.block < W.heap.size := by obtain ⟨m, hm⟩ := h0; exact DataW.trod_lt m _ _ _ hm
  obtain ⟨n1, rfl, I1⟩ := intIn_open (hval 1 3 v1 rfl rfl) h1
  have lt1 : ∀ x ∈ p1, x.block < W.heap.size := by obtain ⟨m, hm⟩ := h1; exact DataW.trod_lt m _ _ _ hm
  obtain ⟨ad2, cap2, L2, rfl, I2⟩ := insIn_open (hval 2 66 v2 rfl rfl) h2
  have lt2 : ∀ x ∈ p2, x.block < W.heap.size := by obtain ⟨m, hm⟩ := h2; exact DataW.trod_lt m _ _ _ hm
  obtain ⟨n3, rfl, I3⟩ := intIn_open (hval 3 3 v3 rfl rfl) h3
  have lt3 : ∀ x ∈ p3, x.block < W.heap.size := by obtain ⟨m, hm⟩ := h3; exact DataW.trod_lt m _ _ _ hm
  clear hA0 hval0
  refine (walk n0 n1 ad2 cap2 L2 n3 W I0 I1 I2 I3).mono fun e W' ⟨he, bel⟩ => ?_
  subst he
  exact ⟨_, rfl, _, _, _, [], _, [], hW', trodAll_mk1 (shut_bool Try.underlying4 _), (trodAll_cons_mk (Below.trod laidOut (by kernel_rfl) (of_decide_eq_true (by kernel_rfl)) h0 bel lt0) (trodAll_cons_mk (Below.trod laidOut (by kernel_rfl) (of_decide_eq_true (by kernel_rfl)) h1 bel lt1) (trodAll_cons_mk (Below.trod laidOut (by kernel_rfl) (of_decide_eq_true (by kernel_rfl)) h2 bel lt2) (trodAll_cons_mk (Below.trod laidOut (by kernel_rfl) (of_decide_eq_true (by kernel_rfl)) h3 bel lt3) trodAll_mk0)))), rfl, bel.frame _, fun h => by cases h⟩

theorem over : Rows.fnExactSayingRow.holds Try.pinned (OpenSpec.ofChange Rows.fnExactSayingSpec) :=
  OpenClaim.holds_of_wide 8 Try.f8 rfl rfl rfl rfl rfl rfl rfl ⟨rfl, rfl, rfl, rfl, rfl⟩ rfl rfl rfl rfl rfl (by kernel_rfl) Try.func8 (by kernel_rfl)
    (of_decide_eq_true (by kernel_rfl)) (by unfold Func.isWrapper; first | (rw [if_pos (by decide +kernel)]; kernel_rfl) | (rw [if_neg (by decide +kernel)]; exact ⟨rfl, rfl⟩))
    (fun os started H enc _ => lifted os started H enc)

theorem proved : Rows.FnExactSayingSaid := over
end Go.Proofs.Ytghmmcenjdbfgaa.fnExactSaying
namespace Go.Proofs.Ytghmmcenjdbfgaa
theorem saying_holds : Rows.FnExactSayingSaid := fnExactSaying.proved
#print axioms saying_holds
end Go.Proofs.Ytghmmcenjdbfgaa
