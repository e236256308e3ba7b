/- FnExactAllOf, proved: at every slice of bytes the program's AllOf answers as the specification's, its answer owns its memory, and no argument is written into; the variables errNoNumber and errors.errorType hold what their texts lay (the card ties them, over the pruned copy of the project); an argument longer than 1048576 is answered true at once. -/
import Derived.Test.YtlnogijlfompoaaDoorRows
import Derived.Test.YtlnogijlfompoaaDoorTie
import Derived.Test.YtlnogijlfompoaaDoorCards
import Derived.SevenTiedAt
import Derived.LaidMore
import Derived.LaidHandle
import Derived.LaidLaws
import Derived.Stop.Joined
import Derived.Stop.LaidErr
import Derived.Lay
import Derived.Shelf.Vars
import Derived.Lib.SmallJoins
import Derived.Test.YtlnogijlfompoaaDoorAo
import Derived.Test.YtlnogijlfompoaaDoorAoi
import Derived.Test.YtlnogijlfompoaaDoorBTo
import Derived.Test.YtlnogijlfompoaaDoorCodeIn
import Derived.Test.YtlnogijlfompoaaDoorIns3
import Derived.Test.YtlnogijlfompoaaDoorIns5
import Derived.Deep.Cut
import Derived.WalkKit
import Derived.Below
import Derived.ChangeOld
import Derived.WalkSmall
import Derived.ProofKit
import Derived.OpenShut
import Derived.ShutString
import Derived.BigQuiet
namespace Go.Proofs.YtlnogijlfompoaaDoor.fnExactAllOf
open Go.ChangeShapes Go.WideShapes Go.ChangeAt Go.RowKit
set_option linter.unusedVariables false

theorem own : ownKnob Tryd.prog.godebug = none := by kernel_rfl
theorem laidOut : laidOutB Tryd.prog = true := by kernel_rfl

set_option maxHeartbeats 16000000 in
set_option maxRecDepth 100000 in
theorem walk (ad0 : Option Addr) (len0 cap0 : Nat) (f0 : Nat → Int) (w : World) (I0 : CodeIn w ad0 len0 f0) (tp : TypeId) (pE : Value) (hE : w.cell? ⟨1, 0, none⟩ = some (.iface tp pE)) (hH : w.cell? ⟨0, 0, none⟩ = some (.iface 100 (.agg #[.pointer (some ⟨6, 52, none⟩)]))) :
    Calls Tryd.prog 4 #[.slice ad0 len0 cap0] w fun e w' => e = .returned (.bool true) ∧ Below w.heap.size w w' := by
  obtain ⟨hlm, hv0, hB0, hf0⟩ := I0
  by_cases hbig : 1048576 < len0
  · go_enter Tryd.func4, Tryd.ntmps4
    go_wp2
    go_ret
    exact ⟨rfl, Below.refl _ _⟩
  obtain ⟨LL, rfl, hvL, hLbd⟩ := view_list hv0 hf0
  have hl : LL.length ≤ 1048576 := by omega
  have V0 : FView bEnc w ad0 LL := bVof hvL
  have hsl : 1 < w.heap.size := World.block_lt_of_cell? w _ hE
  have hhl : 0 < w.heap.size := World.block_lt_of_cell? w _ hH
  have BW : Below w.heap.size w w := Below.refl _ _
  have vb : ∀ a, ad0 = some a → 0 < LL.length → a.block < w.heap.size := hB0
  clear hbig hv0 hf0 hvL hB0 hlm
  have sw : w.heap.size ≤ w.heap.size := Nat.le_refl _
  obtain ⟨⟨D, n⟩, hD⟩ : ∃ R, allG LL 0 = R := ⟨_, rfl⟩
  have hDl : D.length ≤ 1048576 := by have := allG_len LL; rw [hD] at this; simp only at this; omega
  replace hD : Hid _ := hD
  go_enter Tryd.func4, Tryd.ntmps4
  go_wp2_with fail
  go_at_call 7
  refine (bToS ad0 cap0 LL w V0 hl).mono ?_
  rintro e wd1 ⟨rfl, O1, kq⟩
  obtain ⟨gO1, hgO1⟩ : ∃ g_, g_ = w.heap.size := ⟨_, rfl⟩
  rw [← hgO1] at O1 ⊢
  have lgO1 : w.heap.size ≤ gO1 ∧ gO1 ≤ w.heap.size := by omega
  clear hgO1
  have qgO1 := (O1.lt gO1 rfl).2
  have O1 := O1.base (base' := w.heap.size) (by have := BW.size; omega)
  have swd1 := kq.size
  have V0 := V0.below kq (V0.lt bEnc_len (by omega))
  have BW := BW.trans (kq.mono BW.size)
  clear kq
  have iO1 : ∀ g, (Value.slice (some ⟨gO1, 0, none⟩) LL.length LL.length).ownBlock = some g → w.heap.size ≤ g ∧ g < wd1.heap.size := fun g e => by simp [Value.ownBlock] at e; omega
  go_wp2_with fail
  go_at_call 11
  refine (allOfS (some ⟨gO1, 0, none⟩) LL.length LL wd1 (bV O1.view.2) (fun x h _ => by cases h; exact (O1.lt _ rfl).2) hl (Nat.le_refl _) hLbd).mono ?_
  rintro e wd2 ⟨aW, cW, rfl, OW, kq⟩
  rw [hD.out] at OW ⊢
  dsimp only at OW ⊢
  have swd2 := kq.size
  have V0 := V0.below kq (V0.lt bEnc_len (by omega))
  have O1 := O1.later kq
  have BW := BW.trans (kq.mono BW.size)
  clear kq
  have iOW : ∀ g, (Value.slice aW D.length cW).ownBlock = some g → wd1.heap.size ≤ g ∧ g < wd2.heap.size := fun g e => OW.lt g e
  go_wp2_with fail
  go_at_call 7
  refine (bToS ad0 cap0 LL wd2 V0 hl).mono ?_
  rintro e wd3 ⟨rfl, OX, kq⟩
  obtain ⟨gOX, hgOX⟩ : ∃ g_, g_ = wd2.heap.size := ⟨_, rfl⟩
  rw [← hgOX] at OX ⊢
  have lgOX : wd2.heap.size ≤ gOX ∧ gOX ≤ wd2.heap.size := by omega
  clear hgOX
  have qgOX := (OX.lt gOX rfl).2
  have OX := OX.base (base' := w.heap.size) (by have := BW.size; omega)
  have swd3 := kq.size
  have V0 := V0.below kq (V0.lt bEnc_len (by omega))
  have OW := OW.later kq
  have BW := BW.trans (kq.mono BW.size)
  clear kq
  have iOX : ∀ g, (Value.slice (some ⟨gOX, 0, none⟩) LL.length LL.length).ownBlock = some g → wd2.heap.size ≤ g ∧ g < wd3.heap.size := fun g e => by simp [Value.ownBlock] at e; omega
  go_wp2_with fail
  go_at_call 12
  refine (allOfI (some ⟨gOX, 0, none⟩) LL.length LL wd3 (bV OX.view.2) (fun x h _ => by cases h; exact (OX.lt _ rfl).2) hl (Nat.le_refl _) hLbd tp pE ((BW.cell (p := ⟨1, 0, none⟩) hsl).trans hE) ((BW.cell (p := ⟨0, 0, none⟩) hhl).trans hH)).mono ?_
  rintro e wd4 ⟨aG, cG, rfl, OG, kq⟩
  rw [hD.out] at OG ⊢
  dsimp only at OG ⊢
  have swd4 := kq.size
  have V0 := V0.below kq (V0.lt bEnc_len (by omega))
  have OW := OW.later kq
  have OX := OX.later kq
  have BW := BW.trans (kq.mono BW.size)
  clear kq
  have iOG : ∀ g, (Value.slice aG D.length cG).ownBlock = some g → wd3.heap.size ≤ g ∧ g < wd4.heap.size := fun g e => OG.lt g e
  go_wp2_with fail
  go_at_call 13
  refine (ikEqS aG aW cG cW D wd4 OG.view.2 OW.view.2 hDl).mono ?_
  rintro e wd5 ⟨rfl, kq⟩
  have swd5 := kq.size
  have V0 := V0.below kq (V0.lt bEnc_len (by omega))
  have OW := OW.later kq
  have OX := OX.later kq
  have OG := OG.later kq
  have BW := BW.trans (kq.mono BW.size)
  clear kq
  go_wp2_with fail
  go_at_call 7
  refine (bToS ad0 cap0 LL wd5 V0 hl).mono ?_
  rintro e wd6 ⟨rfl, O2, kq⟩
  obtain ⟨gO2, hgO2⟩ : ∃ g_, g_ = wd5.heap.size := ⟨_, rfl⟩
  rw [← hgO2] at O2 ⊢
  have lgO2 : wd5.heap.size ≤ gO2 ∧ gO2 ≤ wd5.heap.size := by omega
  clear hgO2
  have qgO2 := (O2.lt gO2 rfl).2
  have O2 := O2.base (base' := w.heap.size) (by have := BW.size; omega)
  have swd6 := kq.size
  have V0 := V0.below kq (V0.lt bEnc_len (by omega))
  have OW := OW.later kq
  have OX := OX.later kq
  have OG := OG.later kq
  have BW := BW.trans (kq.mono BW.size)
  clear kq
  have iO2 : ∀ g, (Value.slice (some ⟨gO2, 0, none⟩) LL.length LL.length).ownBlock = some g → wd5.heap.size ≤ g ∧ g < wd6.heap.size := fun g e => by simp [Value.ownBlock] at e; omega
  go_wp2_with fail
  go_at_call 10
  refine (bEq (some ⟨gOX, 0, none⟩) (some ⟨gO2, 0, none⟩) LL.length LL.length LL wd6 OX.view.2 O2.view.2 (by omega)).mono ?_
  rintro e wd7 ⟨rfl, kq⟩
  have swd7 := kq.size
  have V0 := V0.below kq (V0.lt bEnc_len (by omega))
  have OW := OW.later kq
  have OX := OX.later kq
  have OG := OG.later kq
  have O2 := O2.later kq
  have BW := BW.trans (kq.mono BW.size)
  clear kq
  go_wp2_with fail
  go_at_call 14
  refine (bMark (some ⟨gOX, 0, none⟩) LL.length 1 _ LL wd7 OX (by omega) (by omega) (by omega)).mono ?_
  rintro e wd8 ⟨rfl, OX', gq⟩
  have swd8 := gq.size
  have V0 := V0.carry (fun a e p => gq.block _ (V0.lt bEnc_len (by omega) a e p) (fun e2 => by have := iOX _ e2.symm; have := vb a e p; omega))
  have OW := OW.keep (fun g' e' => gq.block g' (OW.lt g' e').2 (fun e2 => by have := iOX _ e2.symm; have := iOW _ e'; omega))
  have OG := OG.keep (fun g' e' => gq.block g' (OG.lt g' e').2 (fun e2 => by have := iOX _ e2.symm; have := iOG _ e'; omega))
  have BW := BW.grown gq BW.size (fun g' e => by have := iOX _ e; omega)
  clear gq
  have OX := OX'
  clear OX'
  clear OX
  have hk1 : decide (1 + (LL.length : Int) < 0) = false := decide_eq_false (by omega)
  go_wp2_with fail
  go_at_call 13
  refine (ikEqS aG aW cG cW D wd8 OG.view.2 OW.view.2 hDl).mono ?_
  rintro e wd9 ⟨rfl, kq⟩
  have swd9 := kq.size
  have V0 := V0.below kq (V0.lt bEnc_len (by omega))
  have OW := OW.later kq
  have OG := OG.later kq
  have BW := BW.trans (kq.mono BW.size)
  clear kq
  go_wp2_with fail
  go_at_call 15
  refine (ikMark aG cG 1 _ D wd9 OG hDl (by decide) (by decide)).mono ?_
  rintro e wd10 ⟨rfl, OG', gq⟩
  have swd10 := gq.size
  have V0 := V0.carry (fun a e p => gq.block _ (V0.lt bEnc_len (by omega) a e p) (fun e2 => by have := iOG _ e2.symm; have := vb a e p; omega))
  have OW := OW.keep (fun g' e' => gq.block g' (OW.lt g' e').2 (fun e2 => by have := iOG _ e2.symm; have := iOW _ e'; omega))
  have BW := BW.grown gq BW.size (fun g' e => by have := iOG _ e; omega)
  clear gq
  have OG := OG'
  clear OG'
  obtain ⟨m, hm⟩ : ∃ m, m = 1 + 8 * (D.length : Int) := ⟨_, rfl⟩
  have m0 : 0 ≤ m := by omega
  rw [← hm]
  replace hm : Hid _ := hm
  go_wp2_with fail
  go_at_call 16
  refine (ikHeld aG D.length cG 1 wd10 OG.view.2 hDl (by decide) (by decide)).mono ?_
  rintro e wd11 ⟨rfl, hw_⟩
  have kq : Below wd10.heap.size wd10 wd11 := by rw [hw_]; exact Below.refl _ _
  clear hw_
  have swd11 := kq.size
  have V0 := V0.below kq (V0.lt bEnc_len (by omega))
  have OW := OW.later kq
  have OG := OG.later kq
  have BW := BW.trans (kq.mono BW.size)
  clear kq
  rw [← hm.out]
  go_wp2_with fail
  go_at_call 7
  refine (bToS ad0 cap0 LL wd11 V0 hl).mono ?_
  rintro e wd12 ⟨rfl, O3, kq⟩
  obtain ⟨gO3, hgO3⟩ : ∃ g_, g_ = wd11.heap.size := ⟨_, rfl⟩
  rw [← hgO3] at O3 ⊢
  have lgO3 : wd11.heap.size ≤ gO3 ∧ gO3 ≤ wd11.heap.size := by omega
  clear hgO3
  have qgO3 := (O3.lt gO3 rfl).2
  have O3 := O3.base (base' := w.heap.size) (by have := BW.size; omega)
  have swd12 := kq.size
  have V0 := V0.below kq (V0.lt bEnc_len (by omega))
  have OW := OW.later kq
  have OG := OG.later kq
  have BW := BW.trans (kq.mono BW.size)
  clear kq
  have iO3 : ∀ g, (Value.slice (some ⟨gO3, 0, none⟩) LL.length LL.length).ownBlock = some g → wd11.heap.size ≤ g ∧ g < wd12.heap.size := fun g e => by simp [Value.ownBlock] at e; omega
  go_wp2_with fail
  go_at_call 12
  refine (allOfI (some ⟨gO3, 0, none⟩) LL.length LL wd12 (bV O3.view.2) (fun x h _ => by cases h; exact (O3.lt _ rfl).2) hl (Nat.le_refl _) hLbd tp pE ((BW.cell (p := ⟨1, 0, none⟩) hsl).trans hE) ((BW.cell (p := ⟨0, 0, none⟩) hhl).trans hH)).mono ?_
  rintro e wd13 ⟨aH, cH, rfl, OH, kq⟩
  rw [hD.out] at OH ⊢
  dsimp only at OH ⊢
  have swd13 := kq.size
  have V0 := V0.below kq (V0.lt bEnc_len (by omega))
  have OW := OW.later kq
  have OG := OG.later kq
  have O3 := O3.later kq
  have BW := BW.trans (kq.mono BW.size)
  clear kq
  have iOH : ∀ g, (Value.slice aH D.length cH).ownBlock = some g → wd12.heap.size ≤ g ∧ g < wd13.heap.size := fun g e => OH.lt g e
  go_wp2_with fail
  go_at_call 13
  refine (ikEqS aH aW cH cW D wd13 OH.view.2 OW.view.2 hDl).mono ?_
  rintro e wd14 ⟨rfl, kq⟩
  have swd14 := kq.size
  have V0 := V0.below kq (V0.lt bEnc_len (by omega))
  have OW := OW.later kq
  have OG := OG.later kq
  have OH := OH.later kq
  have BW := BW.trans (kq.mono BW.size)
  clear kq
  go_wp2_with fail
  go_at_call 16
  refine (ikHeld aG D.length cG 1 wd14 OG.view.2 hDl (by decide) (by decide)).mono ?_
  rintro e wd15 ⟨rfl, hw_⟩
  have kq : Below wd14.heap.size wd14 wd15 := by rw [hw_]; exact Below.refl _ _
  clear hw_
  have swd15 := kq.size
  have V0 := V0.below kq (V0.lt bEnc_len (by omega))
  have OW := OW.later kq
  have OG := OG.later kq
  have OH := OH.later kq
  have BW := BW.trans (kq.mono BW.size)
  clear kq
  rw [← hm.out]
  go_wp2
  go_ret
  exact ⟨rfl, BW⟩


theorem door_met (os : Os) (args : Array Value) : laidMetH Tryd.prog Rows.fnExactAllOfRow.laid ((World.doorLaid Tryd.prog 42 os).forCall (fun _ _ => 0) ⟨#[], args, []⟩).memory :=
  laidMetH_of_parts3 (fuel := 8) (laidMet_of_run' 8 (by kernel_rfl) (by kernel_rfl)) (by kernel_rfl) (by kernel_rfl)
theorem laid_both {W : World} (h : laidMetH Tryd.prog Rows.fnExactAllOfRow.laid W) : laidMet Tryd.prog [("loop.example/g00470/impl.errNoNumber", Rows.laid_loop_example_g00470_impl_errNoNumber)] W ∧ handlesMet Tryd.prog [("errors.errorType", Rows.laid_errors_errorType)] W := h
theorem rtRow : (Tryd.prog.cutTypes.find? (·.1 == "internal/reflectlite.rtype")).map (·.2) = some 100 := by kernel_rfl
theorem etG : Tryd.prog.globalNamed "errors.errorType" = some 0 := by kernel_rfl
theorem oneRow : ((List.range 180).filter fun t => Tryd.prog.rowNamed t [101, 114, 114, 111, 114]) = [52] := by kernel_rfl
theorem ntypes : Tryd.prog.types.size = 180 := by kernel_rfl
theorem handle_of_laid {W : World} (h : laidMetH Tryd.prog Rows.fnExactAllOfRow.laid W) : W.cell? ⟨0, 0, none⟩ = some (.iface 100 (.agg #[.pointer (some ⟨6, 52, none⟩)])) := by
  obtain ⟨name, u, ty, e1, e2, e3, e4, e5⟩ := (laid_both h).2 _ (List.mem_singleton.2 rfl)
  have en : name = [101, 114, 114, 111, 114] := (Option.some.inj e1).symm
  subst en
  obtain rfl := Option.some.inj (rtRow.symm.trans e2)
  have hm : ty ∈ (List.range 180).filter fun t => Tryd.prog.rowNamed t [101, 114, 114, 111, 114] := List.mem_filter.2 ⟨List.mem_range.2 (by rw [← ntypes]; exact e3), e4⟩
  rw [oneRow] at hm
  obtain rfl := List.mem_singleton.1 hm
  have hh : typeHandle Tryd.prog 52 = .pointer (some ⟨6, 52, none⟩) := by kernel_rfl
  rw [hh] at e5
  simpa using World.var?_cell etG e5 0
theorem gErr : Tryd.prog.globalNamed "loop.example/g00470/impl.errNoNumber" = some 1 := by kernel_rfl
theorem gErrT : (Tryd.prog.globals[1]?).map (·.type) = some 52 := by kernel_rfl
theorem rowErr (u : TypeId) (h : Tryd.prog.typeName? 3 u = some "*errors.errorString") : u = 149 := by
  have star : "*" ++ "errors.errorString" = "*errors.errorString" := by decide
  exact typeName_ptr_named (nm := "errors.errorString") (by rw [star]; kernel_rfl) (by kernel_rfl) (by decide) u (by rw [star]; exact h)
theorem sentinel_of_laid {W : World} (h : laidMetH Tryd.prog Rows.fnExactAllOfRow.laid W) : ∃ a : Addr, W.var? Tryd.prog "loop.example/g00470/impl.errNoNumber" = some #[.iface 149 (.pointer (some a))] := by
  obtain ⟨a0, s0, hv0, _⟩ := laid_sentinel (laid_both h).1 gErr gErrT Tryd.underlying52 rowErr Tryd.underlying149 Tryd.underlying168 rfl rfl Tryd.underlying9 (by kernel_rfl) (by kernel_rfl)
  exact ⟨a0, hv0⟩
set_option maxRecDepth 100000 in
theorem lifted (os : Os) (started : os.Started) (H : Type) (enc : TypeId × Value → H) :
    ReturnsInHanded {} Tryd.checked os 4 .any (fun w args => (Rows.fnExactAllOfSpec.pre enc Tryd.prog Tryd.f4 [] false w args ∧ laidMetH Tryd.prog Rows.fnExactAllOfRow.laid w) ∧ sizedMet enc Tryd.prog Tryd.f4 (OpenSpec.ofChange Rows.fnExactAllOfSpec) false w args) (Rows.fnExactAllOfSpec.post enc Tryd.prog Tryd.f4 false true false false) := by
  refine returnsInHanded_of_change_and (C := Tryd.checked) (X := fun w _ => laidMetH Tryd.prog Rows.fnExactAllOfRow.laid w) (fun _ _ _ hh h => h.of_heap hh) own started (by kernel_rfl) Tryd.func4
    (ChangeSpec.witness_shaped (enc := enc) (C := Tryd.checked) (os := os) (X := fun w _ => laidMetH Tryd.prog Rows.fnExactAllOfRow.laid w) false (World.doorLaid Tryd.prog 42 os) #[.slice none 0 0] 8 rfl (World.shaped_of_RefB (by kernel_rfl) (by kernel_rfl)) (by kernel_rfl) (by kernel_rfl) (by kernel_rfl) (door_met os _)) ?_
  intro W base args ds gs before hval0 hW _ hsz0 hL _
  have hval : ∀ (j : Nat) t v, Tryd.f4.params[j]? = some t → args[j]? = some v → Value.okWide Tryd.prog W .any base t v := hval0
  have hW' := hW
  obtain ⟨p, q, hA0, hV, rfl, hfz, hnd⟩ := hW
  have hA : DataW.TrodAll enc Tryd.prog W 0 (fun _ => true) true Tryd.f4.params.toList args.toList ds p := hA0
  rw [Tryd.params4] at hA hval
  obtain ⟨v0, vs0, d0, ds0, p0, q0, hargs, rfl, rfl, h0, r0⟩ := trodAll_cons hA
  obtain ⟨rfl, rfl, rfl⟩ := trodAll_nil r0
  obtain rfl : args = #[v0] := by cases args; simp_all
  have hV1 : DataW.TrodVars enc Tryd.prog W (fun _ => true) ["loop.example/g00470/impl.errNoNumber"] gs q := hV
  obtain ⟨sa, hvE⟩ := sentinel_of_laid hL
  obtain ⟨rfl, rfl⟩ := hV1.unique (vars_read1 enc gErr gErrT Tryd.underlying52 hvE trivial _)
  have hcE : W.cell? ⟨1, 0, none⟩ = some (.iface 149 (.pointer (some sa))) := by simpa using World.var?_cell gErr hvE 0
  obtain ⟨ad0, len0, cap0, f0, rfl, I0⟩ := codeIn_open (hval 0 22 v0 rfl rfl) h0
  have lt0 : ∀ x ∈ p0, x.block < W.heap.size := by obtain ⟨m, hm⟩ := h0; exact DataW.trod_lt m _ _ _ hm
  clear hA0 hval0
  refine (walk ad0 len0 cap0 f0 W I0 _ _ hcE (handle_of_laid hL)).mono fun e W' ⟨he, bel⟩ => ?_
  subst he
  exact ⟨_, rfl, _, _, _, [], _, [.cell 1 0], hW', trodAll_mk1 (shut_bool Tryd.underlying4 _), (trodAll_cons_mk (Below.trod laidOut (by kernel_rfl) (of_decide_eq_true (by kernel_rfl)) h0 bel lt0) trodAll_mk0), vars_read1 enc gErr gErrT Tryd.underlying52 (Joins.var_stays gErr hvE bel (Nat.le_refl _)) trivial _, bel.frame _, fun h => by cases h⟩

theorem over : Rows.fnExactAllOfRow.holds Tryd.pinned (OpenSpec.ofChange Rows.fnExactAllOfSpec) :=
  OpenClaim.holds_of_wide 4 Tryd.f4 rfl rfl rfl rfl rfl rfl rfl ⟨rfl, rfl, rfl, rfl, rfl⟩ rfl rfl rfl rfl rfl (by kernel_rfl) Tryd.func4 (by kernel_rfl)
    (of_decide_eq_true (by kernel_rfl)) (by unfold Func.isWrapper; first | (rw [if_pos (by decide +kernel)]; kernel_rfl) | (rw [if_neg (by decide +kernel)]; exact ⟨rfl, rfl⟩))
    (fun os started H enc _ => lifted os started H enc)

theorem proved : Rows.FnExactAllOfSaid := over
end Go.Proofs.YtlnogijlfompoaaDoor.fnExactAllOf
namespace Go.Proofs.YtlnogijlfompoaaDoor
theorem allOf_holds : Rows.FnExactAllOfCardSaid :=
  Claim7.holds_tied_plain_at .later [] [.handle, .sentinel] true (true, "af51a4e3bb943953f7cd5cc576422d65dd80ed8dc7b464412f2fc62da1b182c2") true
    fnExactAllOf.proved (fun _ h => by cases h) (by kernel_rfl) (fun _ h => by cases h) fnExactAllOf_row_tie rfl ⟨rfl, rfl⟩ (by kernel_rfl) rfl
    (fun f fn hf hfn => by
      obtain rfl : f = 4 := Option.some.inj ((show Tryd.prog.funcNamed "loop.example/g00470/laws.FnExactAllOf" = some 4 by kernel_rfl).symm.trans hf) |>.symm
      obtain rfl : fn = Tryd.f4 := (Option.some.inj (Tryd.func4.symm.trans hfn)).symm
      exact ⟨by kernel_rfl, fun j t ht => by
        rw [Tryd.params4] at ht
        have hm : t ∈ [22] := by simpa using Array.mem_of_getElem? ht
        have hall : ([22].all fun u => !Tryd.prog.wantsStandIn u) = true := by kernel_rfl
        exact (show Tryd.prog.wantsStandIn t = false by simpa using List.all_eq_true.1 hall t hm)⟩)
    (by kernel_rfl)
#print axioms allOf_holds
end Go.Proofs.YtlnogijlfompoaaDoor
