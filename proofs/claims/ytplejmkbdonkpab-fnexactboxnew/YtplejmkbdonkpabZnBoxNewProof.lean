/- FnExactBoxNew, proved: at every two numbers the program's BoxNew answers as the specification's, and its answer owns its memory; no condition. -/
import Derived.Test.YtplejmkbdonkpabRows
import Derived.Test.YtplejmkbdonkpabZn2
import Derived.Test.YtplejmkbdonkpabZn3
import Derived.Deep.Cut
import Derived.WalkKit
import Derived.Below
import Derived.ChangeOld
import Derived.WalkSmall
import Derived.ProofKit
import Derived.OpenShut
import Derived.ShutString
import Derived.BigQuiet
namespace Go.Proofs.Ytplejmkbdonkpab.fnExactBoxNew
open Go.ChangeShapes Go.WideShapes Go.ChangeAt Go.RowKit
set_option linter.unusedVariables false

theorem own : ownKnob Try.prog.godebug = none := by kernel_rfl
theorem laidOut : laidOutB Try.prog = true := by kernel_rfl

set_option maxRecDepth 100000 in
theorem intIn_open {H : Type} {enc : TypeId × Value → H} {w : World} {r : Reach} {b0 : Nat} {v : Value} {d : DataW H} {p : List MemPlace} (hv : Value.okWide Try.prog w r b0 3 v) (h : DataW.Trod enc Try.prog w 0 (fun _ => true) true 3 v d p) : ∃ n : Int, v = .int .i64 n ∧ (Lit.int .i64 n).wf = true := by
  obtain ⟨n, rfl, _, _, I⟩ := open_int Try.underlying3 hv h
  exact ⟨n, rfl, I⟩
set_option maxRecDepth 100000 in
theorem boolIn_open {H : Type} {enc : TypeId × Value → H} {w : World} {r : Reach} {b0 : Nat} {v : Value} {d : DataW H} {p : List MemPlace} (hv : Value.okWide Try.prog w r b0 4 v) (h : DataW.Trod enc Try.prog w 0 (fun _ => true) true 4 v d p) : ∃ b : Bool, v = .bool b ∧ True := by
  obtain ⟨b, rfl, _, _⟩ := open_bool Try.underlying4 hv h
  exact ⟨b, rfl, trivial⟩
set_option maxHeartbeats 8000000 in
set_option maxRecDepth 100000 in
theorem walk (n0 : Int) (n1 : Int) (w : World) (I0 : (Lit.int .i64 n0).wf = true) (I1 : (Lit.int .i64 n1).wf = true) :
    Calls Try.prog 4 #[.int .i64 n0, .int .i64 n1] w fun e w' => e = .returned (.bool true) ∧ Below w.heap.size w w' := by
  clear I0 I1
  have BW : Below w.heap.size w w := Below.refl _ _
  obtain ⟨o, hO⟩ : ∃ o, nOk n0 n1 = o := ⟨_, rfl⟩
  replace hO : Hid _ := hO
  go_enter Try.func4, Try.ntmps4
  go_wp2_with fail
  go_at_call 11
  refine (newXS n0 n1 w).mono ?_
  rintro e wd1 ⟨zW, ⟨rfl, pW, KW⟩, JW, kq⟩
  have swd1 := kq.size
  have BW := BW.trans (kq.mono BW.size)
  clear kq
  rw [hO.out]
  have LW := JW.lt
  replace pW : Hid _ := pW
  obtain ⟨wd2, hwd2⟩ : ∃ y_, y_ = wd1.alloc (Obj.cells #[.int .i64 zW.id, .int .i64 zW.po, .int .i64 zW.rg.ep, .int .i64 zW.rg.ow, .int .i64 zW.rg.pa, .slice zW.aT zW.two.length zW.cT, .slice zW.aN zW.net.length zW.cN, .slice zW.aG zW.ga.length zW.cG, .slice zW.aL zW.ln.length zW.cL, .slice zW.aS zW.sd.length zW.cS] 39) := ⟨_, rfl⟩
  have AW : BxAt wd2 wd1.heap.size zW := by rw [hwd2]; exact BxAt.new wd1 _ _
  have kq : Below wd1.heap.size wd1 wd2 := by rw [hwd2]; exact below_new _
  have lwd2 := AW.lt
  have swd2 := kq.size
  have JW := JW.below kq
  have BW := BW.trans (kq.mono BW.size)
  clear kq
  go_upto_region 2 with fail
  rw [← hwd2]
  clear hwd2
  go_wp2_with fail
  go_at_call 12
  refine (newXI n0 n1 wd2).mono ?_
  rintro e wd3 ⟨zG, ⟨rfl, pG, KG⟩, ⟨midG, NG⟩, kq⟩
  have swd3 := kq.size
  have JW := JW.below kq
  have AW := AW.below kq AW.lt
  have BW := BW.trans (kq.mono BW.size)
  clear kq
  rw [hO.out]
  replace pG : Hid _ := pG
  obtain ⟨hG, ehG⟩ : ∃ h_, h_ = wd3.heap.size := ⟨_, rfl⟩
  rw [← ehG] at NG
  have ehG' := Nat.le_of_eq ehG
  replace ehG := Nat.le_of_eq ehG.symm
  obtain ⟨lG, elG⟩ : ∃ h_, h_ = wd2.heap.size := ⟨_, rfl⟩
  rw [← elG] at NG
  have elG' := Nat.le_of_eq elG
  replace elG := Nat.le_of_eq elG.symm
  obtain ⟨wd4, hwd4⟩ : ∃ y_, y_ = wd3.alloc (Obj.cells #[.int .i64 zG.id, .int .i64 zG.po, .int .i64 zG.rg.ep, .int .i64 zG.rg.ow, .int .i64 zG.rg.pa, .slice zG.aT zG.two.length zG.cT, .slice zG.aN zG.net.length zG.cN, .slice zG.aG zG.ga.length zG.cG, .slice zG.aL zG.ln.length zG.cL, .slice zG.aS zG.sd.length zG.cS] 39) := ⟨_, rfl⟩
  have AG : BxAt wd4 wd3.heap.size zG := by rw [hwd4]; exact BxAt.new wd3 _ _
  have kq : Below wd3.heap.size wd3 wd4 := by rw [hwd4]; exact below_new _
  have lwd4 := AG.lt
  have swd4 := kq.size
  have JW := JW.below kq
  have NG := NG.below kq (by omega)
  have AW := AW.below kq AW.lt
  have BW := BW.trans (kq.mono BW.size)
  clear kq
  go_upto_region 3 with fail
  rw [← hwd4]
  clear hwd4
  have cc := AG
  obtain ⟨m0_0, m0_1, m0_2, m0_3, m0_4, m0_5, m0_6, m0_7, m0_8, m0_9⟩ := cc
  have cc := AW
  obtain ⟨m1_0, m1_1, m1_2, m1_3, m1_4, m1_5, m1_6, m1_7, m1_8, m1_9⟩ := cc
  go_wp2_with fail
  go_at_call 10
  clear m0_0 m0_1 m0_2 m0_3 m0_4 m0_5 m0_6 m0_7 m0_8 m0_9 m1_0 m1_1 m1_2 m1_3 m1_4 m1_5 m1_6 m1_7 m1_8 m1_9
  refine (bxEq zG zW wd4 (NG.m.in_ KG) JW KG (pW.out.trans pG.out.symm)).mono ?_
  rintro e wd5 ⟨rfl, kq⟩
  have swd5 := kq.size
  have JW := JW.below kq
  have NG := NG.below kq (by omega)
  have AW := AW.below kq AW.lt
  have AG := AG.below kq AG.lt
  have BW := BW.trans (kq.mono BW.size)
  clear kq
  have cc := AG
  obtain ⟨m0_0, m0_1, m0_2, m0_3, m0_4, m0_5, m0_6, m0_7, m0_8, m0_9⟩ := cc
  go_wp2_with fail
  go_at_call 13
  clear m0_0 m0_1 m0_2 m0_3 m0_4 m0_5 m0_6 m0_7 m0_8 m0_9
  refine (bxMark zG lG midG hG wd5 NG KG (by omega)).mono ?_
  rintro e wd6 ⟨rfl, NM, kr⟩
  have swd6 := kr.size
  have AW := AW.keep (kr.block _ AW.lt (by omega))
  have AG := AG.keep (kr.block _ AG.lt (by omega))
  have JW := JW.kept LW (fun g hg => kr.block g (by omega) (by omega))
  have BW := BW.trans (kr.below (by omega) |>.mono (by omega))
  clear kr
  clear NG
  have hkE := k_le KG
  obtain ⟨m, hm⟩ : ∃ m, m = kE zG := ⟨_, rfl⟩
  rw [← hm]
  have m0 : ¬ m < 0 := by omega
  replace hm : Hid _ := hm
  have cc := AG
  obtain ⟨m0_0, m0_1, m0_2, m0_3, m0_4, m0_5, m0_6, m0_7, m0_8, m0_9⟩ := cc
  go_wp2_with fail
  go_at_call 14
  clear m0_0 m0_1 m0_2 m0_3 m0_4 m0_5 m0_6 m0_7 m0_8 m0_9
  refine (bxHeld zG wd6 (NM.m.in_ KG.mk_) KG).mono ?_
  rintro e wd7 ⟨rfl, kq⟩
  have swd7 := kq.size
  have JW := JW.below kq
  have NM := NM.below kq (by omega)
  have AW := AW.below kq AW.lt
  have AG := AG.below kq AG.lt
  have BW := BW.trans (kq.mono BW.size)
  clear kq
  rw [← hm.out]
  go_wp2_with fail
  go_at_call 12
  refine (newXI n0 n1 wd7).mono ?_
  rintro e wd8 ⟨zH, ⟨rfl, pH, KH⟩, ⟨midH, NH⟩, kq⟩
  have swd8 := kq.size
  have JW := JW.below kq
  have NM := NM.below kq (by omega)
  have AW := AW.below kq AW.lt
  have AG := AG.below kq AG.lt
  have BW := BW.trans (kq.mono BW.size)
  clear kq
  rw [hO.out]
  replace pH : Hid _ := pH
  obtain ⟨hH, ehH⟩ : ∃ h_, h_ = wd8.heap.size := ⟨_, rfl⟩
  rw [← ehH] at NH
  have ehH' := Nat.le_of_eq ehH
  replace ehH := Nat.le_of_eq ehH.symm
  obtain ⟨lH, elH⟩ : ∃ h_, h_ = wd7.heap.size := ⟨_, rfl⟩
  rw [← elH] at NH
  have elH' := Nat.le_of_eq elH
  replace elH := Nat.le_of_eq elH.symm
  obtain ⟨wd9, hwd9⟩ : ∃ y_, y_ = wd8.alloc (Obj.cells #[.int .i64 zH.id, .int .i64 zH.po, .int .i64 zH.rg.ep, .int .i64 zH.rg.ow, .int .i64 zH.rg.pa, .slice zH.aT zH.two.length zH.cT, .slice zH.aN zH.net.length zH.cN, .slice zH.aG zH.ga.length zH.cG, .slice zH.aL zH.ln.length zH.cL, .slice zH.aS zH.sd.length zH.cS] 39) := ⟨_, rfl⟩
  have AH : BxAt wd9 wd8.heap.size zH := by rw [hwd9]; exact BxAt.new wd8 _ _
  have kq : Below wd8.heap.size wd8 wd9 := by rw [hwd9]; exact below_new _
  have lwd9 := AH.lt
  have swd9 := kq.size
  have JW := JW.below kq
  have NM := NM.below kq (by omega)
  have NH := NH.below kq (by omega)
  have AW := AW.below kq AW.lt
  have AG := AG.below kq AG.lt
  have BW := BW.trans (kq.mono BW.size)
  clear kq
  go_upto_region 14 with fail
  rw [← hwd9]
  clear hwd9
  have cc := AH
  obtain ⟨m0_0, m0_1, m0_2, m0_3, m0_4, m0_5, m0_6, m0_7, m0_8, m0_9⟩ := cc
  have cc := AW
  obtain ⟨m1_0, m1_1, m1_2, m1_3, m1_4, m1_5, m1_6, m1_7, m1_8, m1_9⟩ := cc
  go_wp2_with fail
  go_at_call 10
  clear m0_0 m0_1 m0_2 m0_3 m0_4 m0_5 m0_6 m0_7 m0_8 m0_9 m1_0 m1_1 m1_2 m1_3 m1_4 m1_5 m1_6 m1_7 m1_8 m1_9
  refine (bxEq zH zW wd9 (NH.m.in_ KH) JW KH (pW.out.trans pH.out.symm)).mono ?_
  rintro e wd10 ⟨rfl, kq⟩
  have swd10 := kq.size
  have JW := JW.below kq
  have NM := NM.below kq (by omega)
  have NH := NH.below kq (by omega)
  have AW := AW.below kq AW.lt
  have AG := AG.below kq AG.lt
  have AH := AH.below kq AH.lt
  have BW := BW.trans (kq.mono BW.size)
  clear kq
  have cc := AG
  obtain ⟨m0_0, m0_1, m0_2, m0_3, m0_4, m0_5, m0_6, m0_7, m0_8, m0_9⟩ := cc
  go_wp2_with fail
  go_at_call 14
  clear m0_0 m0_1 m0_2 m0_3 m0_4 m0_5 m0_6 m0_7 m0_8 m0_9
  refine (bxHeld zG wd10 (NM.m.in_ KG.mk_) KG).mono ?_
  rintro e wd11 ⟨rfl, kq⟩
  have swd11 := kq.size
  have JW := JW.below kq
  have NM := NM.below kq (by omega)
  have NH := NH.below kq (by omega)
  have AW := AW.below kq AW.lt
  have AG := AG.below kq AG.lt
  have AH := AH.below kq AH.lt
  have BW := BW.trans (kq.mono BW.size)
  clear kq
  rw [← hm.out]
  go_wp2
  go_ret
  exact ⟨rfl, BW⟩


set_option maxRecDepth 100000 in
theorem lifted (os : Os) (started : os.Started) (H : Type) (enc : TypeId × Value → H) :
    ReturnsInHanded {} Try.checked os 4 .any (Rows.fnExactBoxNewSpec.pre6 enc Try.prog Try.f4 Rows.fnExactBoxNewRow.domain false) (Rows.fnExactBoxNewSpec.post enc Try.prog Try.f4 false true false false) := by
  refine returnsInHanded_of_change (C := Try.checked) own started (by kernel_rfl) Try.func4
    (ChangeSpec.witness6 (enc := enc) (C := Try.checked) false ⟨#[], #[.int .i64 0, .int .i64 0], []⟩ 8 (by kernel_rfl) (by kernel_rfl) (by kernel_rfl) (by kernel_rfl)) ?_
  intro W base args ds gs before hval0 hW hcnd _
  have hval : ∀ (j : Nat) t v, Try.f4.params[j]? = some t → args[j]? = some v → Value.okWide Try.prog W .any base t v := hval0
  have hW' := hW
  obtain ⟨p, q, hA0, hV, rfl, hfz, hnd⟩ := hW
  have hA : DataW.TrodAll enc Try.prog W 0 (fun _ => true) true Try.f4.params.toList args.toList ds p := hA0
  rw [Try.params4] at hA hval
  obtain ⟨v0, vs0, d0, ds0, p0, q0, hargs, rfl, rfl, h0, r0⟩ := trodAll_cons hA
  obtain ⟨v1, vs1, d1, ds1, p1, q1, rfl, rfl, rfl, h1, r1⟩ := trodAll_cons r0
  obtain ⟨rfl, rfl, rfl⟩ := trodAll_nil r1
  obtain rfl : args = #[v0, v1] := by cases args; simp_all
  obtain ⟨rfl, rfl⟩ := trodVars_none hV
  obtain ⟨n0, rfl, I0⟩ := intIn_open (hval 0 3 v0 rfl rfl) h0
  have lt0 : ∀ x ∈ p0, x.block < W.heap.size := by obtain ⟨m, hm⟩ := h0; exact DataW.trod_lt m _ _ _ hm
  obtain ⟨n1, rfl, I1⟩ := intIn_open (hval 1 3 v1 rfl rfl) h1
  have lt1 : ∀ x ∈ p1, x.block < W.heap.size := by obtain ⟨m, hm⟩ := h1; exact DataW.trod_lt m _ _ _ hm
  clear hA0 hval0
  refine (walk n0 n1 W I0 I1).mono fun e W' ⟨he, bel⟩ => ?_
  subst he
  exact ⟨_, rfl, _, _, _, [], _, [], hW', trodAll_mk1 (shut_bool Try.underlying4 _), (trodAll_cons_mk (Below.trod laidOut (by kernel_rfl) (of_decide_eq_true (by kernel_rfl)) h0 bel lt0) (trodAll_cons_mk (Below.trod laidOut (by kernel_rfl) (of_decide_eq_true (by kernel_rfl)) h1 bel lt1) trodAll_mk0)), rfl, bel.frame _, fun h => by cases h⟩

theorem over : Rows.fnExactBoxNewRow.holds Try.pinned (OpenSpec.ofChange Rows.fnExactBoxNewSpec) :=
  OpenClaim.holds_of_wide 4 Try.f4 rfl rfl rfl rfl rfl rfl rfl ⟨rfl, rfl, rfl, rfl, rfl⟩ rfl rfl rfl rfl rfl (by kernel_rfl) Try.func4 (by kernel_rfl)
    (of_decide_eq_true (by kernel_rfl)) (by unfold Func.isWrapper; first | (rw [if_pos (by decide +kernel)]; kernel_rfl) | (rw [if_neg (by decide +kernel)]; exact ⟨rfl, rfl⟩))
    (fun os started H enc _ => lifted os started H enc)

theorem proved : Rows.FnExactBoxNewSaid := over
end Go.Proofs.Ytplejmkbdonkpab.fnExactBoxNew
namespace Go.Proofs.Ytplejmkbdonkpab
theorem boxNew_holds : Rows.FnExactBoxNewSaid := fnExactBoxNew.proved
#print axioms boxNew_holds
end Go.Proofs.Ytplejmkbdonkpab
