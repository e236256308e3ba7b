/- For every net, number and flag the call of FnExactReach returns true: impl.Reach answers as spec.Reach, every field, it writes into no argument, and its answer owns its memory. No condition. -/
import Derived.Test.YtdfjfodfnildiaaRows
import Derived.Test.YtdfjfodfnildiaaTr10
import Derived.Test.YtdfjfodfnildiaaZq
import Derived.Deep.Cut
import Derived.WalkKit
import Derived.Below
import Derived.ChangeOld
import Derived.WalkSmall
import Derived.ProofKit
import Derived.OpenShut
import Derived.ShutString
import Derived.BigQuiet
namespace Go.Proofs.Ytdfjfodfnildiaa.fnExactReach
open Go.ChangeShapes Go.WideShapes Go.ChangeAt Go.RowKit
set_option maxRecDepth 100000
set_option linter.unusedVariables false

theorem own : ownKnob Try.prog.godebug = none := by kernel_rfl
theorem laidOut : laidOutB Try.prog = true := by kernel_rfl

set_option maxRecDepth 100000 in
theorem intIn_open {H : Type} {enc : TypeId × Value → H} {w : World} {r : Reach} {b0 : Nat} {v : Value} {d : DataW H} {p : List MemPlace} (hv : Value.okWide Try.prog w r b0 3 v) (h : DataW.Trod enc Try.prog w 0 (fun _ => true) true 3 v d p) : ∃ n : Int, v = .int .i64 n ∧ (Lit.int .i64 n).wf = true := by
  obtain ⟨n, rfl, _, _, I⟩ := open_int Try.underlying3 hv h
  exact ⟨n, rfl, I⟩
set_option maxRecDepth 100000 in
theorem boolIn_open {H : Type} {enc : TypeId × Value → H} {w : World} {r : Reach} {b0 : Nat} {v : Value} {d : DataW H} {p : List MemPlace} (hv : Value.okWide Try.prog w r b0 4 v) (h : DataW.Trod enc Try.prog w 0 (fun _ => true) true 4 v d p) : ∃ b : Bool, v = .bool b ∧ True := by
  obtain ⟨b, rfl, _, _⟩ := open_bool Try.underlying4 hv h
  exact ⟨b, rfl, trivial⟩
theorem NetIn.later {w w' : World} {adB : Option Addr} {capB : Nat} {Bs : List Bd} {adK : Option Addr} {capK : Nat} {K : List Lk} (h : NetIn w adB capB Bs adK capK K) (k : Below w.heap.size w w') : NetIn w' adB capB Bs adK capK K :=
  ⟨h.lb, h.vb.below k (Nat.le_refl _), h.ls, h.nb, h.lk, h.vk.below k (h.vk.lt lkEnc_len (by omega)), h.nk⟩
set_option maxHeartbeats 8000000 in
set_option maxRecDepth 100000 in
theorem walk (adB0 : Option Addr) (cB0 : Nat) (Bs0 : List Bd) (adK0 : Option Addr) (cK0 : Nat) (K0 : List Lk) (n1 : Int) (b2 : Bool) (w : World) (I0 : NetIn w adB0 cB0 Bs0 adK0 cK0 K0) (I1 : (Lit.int .i64 n1).wf = true) (I2 : True) :
    Calls Try.prog 5 #[.agg #[.slice adB0 Bs0.length cB0, .slice adK0 K0.length cK0], .int .i64 n1, .bool b2] w fun e w' => e = .returned (.bool true) ∧ Below w.heap.size w w' := by
  obtain ⟨x0, hx⟩ : ∃ y_, y_ = (w.alloc (Obj.cells #[.slice adB0 Bs0.length cB0, .slice adK0 K0.length cK0] 43)) := ⟨_, rfl⟩
  have A0 : NeAt x0 (w.heap.size) (.slice adB0 Bs0.length cB0) (.slice adK0 K0.length cK0) := by rw [hx]; constructor <;> simp [go_sem]
  have BW : Below w.heap.size w x0 := by rw [hx]; exact below_new _
  have sx0 := BW.size
  go_enter Try.func5, Try.ntmps5
  go_wp2_with fail
  go_at_call 29
  rw [← hx]
  clear hx
  refine (neSz adB0 cB0 Bs0 adK0 cK0 K0 1048576 x0 (NetIn.later I0 BW) (by omega) (by omega)).mono ?_
  rintro e y0 ⟨⟨r0, rfl, r0m, hr0⟩, kq⟩
  have sy0 := kq.size
  have A0 := A0.below kq A0.lt
  have BW := BW.trans (kq.mono BW.size)
  clear kq
  by_cases q0 : 0 ≤ r0
  rotate_left
  · have q0' : r0 < 0 := by omega
    clear hr0
    go_wp2
    go_ret
    exact ⟨rfl, BW⟩
  have q0' : ¬ r0 < 0 := by omega
  obtain ⟨hb0, hs0, hk0⟩ := hr0 q0
  clear hr0
  have V0 : NN w adB0 Bs0 adK0 K0 := ⟨I0.vb, I0.vk, hb0, fun i hi => Nat.le_trans (getL_le Bs0 hi) hs0, hk0⟩
  have W0' := V0
  have V0 := V0.later BW
  have hs0' := hs0
  clear I0 hs0
  have W0 : NN w adB0 Bs0 adK0 K0 := W0'
  have lA0 := A0.lt
  have cc := A0
  obtain ⟨m0_0, m0_1⟩ := cc
  go_wp2_with fail
  go_at_call 30
  clear m0_0 m0_1
  refine (netTo adB0 cB0 Bs0 adK0 cK0 K0 y0 V0).mono ?_
  rintro e x1 ⟨gBs, gKs, Cs, rfl, ds, Ms, Vs, kq⟩
  have sx1 := kq.size
  have A0 := A0.below kq A0.lt
  have V0 := V0.later kq
  have BW := BW.trans (kq.mono BW.size)
  clear kq
  replace ds : Hid _ := ds
  go_wp2_with fail
  go_at_call 16
  refine (reachS (some ⟨gBs, 0, none⟩) Cs.length Cs (some ⟨gKs, 0, none⟩) K0.length K0 n1 b2 x1 Vs).mono ?_
  rintro e x2 ⟨Lw, aw, cw, hw, rfl, Ow, kq⟩
  have sx2 := kq.size
  have A0 := A0.below kq A0.lt
  have V0 := V0.later kq
  have BW := BW.trans (kq.mono BW.size)
  clear kq
  have hLs : Lw.length ≤ 1048576 := reach_small hw
  replace hw : Hid _ := hw
  have Owb : ∀ g, (Value.slice aw Lw.length cw).ownBlock = some g → g < x2.heap.size := fun g e => (Ow.lt g e).2
  have cc := A0
  obtain ⟨m0_0, m0_1⟩ := cc
  go_wp2_with fail
  go_at_call 30
  clear m0_0 m0_1
  refine (netTo adB0 cB0 Bs0 adK0 cK0 K0 x2 V0).mono ?_
  rintro e x3 ⟨gBx, gKx, Cx, rfl, dx, Mx, Vx, kq⟩
  have sx3 := kq.size
  have A0 := A0.below kq A0.lt
  have V0 := V0.later kq
  have Ow := Ow.later kq
  have BW := BW.trans (kq.mono BW.size)
  clear kq
  replace dx : Hid _ := dx
  have gKl := Mx.lt
  obtain ⟨x4, hx4⟩ : ∃ y_, y_ = x3.alloc (Obj.cells #[.slice (some ⟨gBx, 0, none⟩) Cx.length Cx.length, .slice (some ⟨gKx, 0, none⟩) K0.length K0.length] 27) := ⟨_, rfl⟩
  have AX : NeAt x4 x3.heap.size (.slice (some ⟨gBx, 0, none⟩) Cx.length Cx.length) (.slice (some ⟨gKx, 0, none⟩) K0.length K0.length) := by rw [hx4]; exact NeAt.new x3 _
  have kq : Below x3.heap.size x3 x4 := by rw [hx4]; exact below_new _
  have lAX := AX.lt
  have sx4 := kq.size
  have A0 := A0.below kq A0.lt
  have V0 := V0.later kq
  have Ow := Ow.later kq
  have Vx := Vx.later kq
  have Mx := Mx.later kq
  have BW := BW.trans (kq.mono BW.size)
  clear kq
  go_upto_region 7 with fail
  rw [← hx4]
  clear hx4
  have cc := AX
  obtain ⟨m0_0, m0_1⟩ := cc
  go_wp2_with fail
  go_at_call 9
  clear m0_0 m0_1
  refine (reachI (some ⟨gBx, 0, none⟩) Cx.length Cx (some ⟨gKx, 0, none⟩) K0.length K0 n1 b2 x4 Vx (Nat.le_refl _)).mono ?_
  rintro e x5 ⟨Lg, ag, cg, hg, rfl, Og, kq⟩
  have sx5 := kq.size
  have A0 := A0.below kq A0.lt
  have V0 := V0.later kq
  have Ow := Ow.later kq
  have Vx := Vx.later kq
  have Mx := Mx.later kq
  have AX := AX.below kq AX.lt
  have BW := BW.trans (kq.mono BW.size)
  clear kq
  obtain rfl : Lw = Lg := (hg.unique (by have := hw.out; unfold dB at this ⊢; rw [ds.out] at this; rw [dx.out]; exact this)).symm
  clear hg
  go_wp2_with fail
  go_at_call 32
  refine (intEq ag aw cg cw Lw.length (fun i => Lw.getD i 0) x5 Og.view.2.toI Ow.view.2.toI hLs).mono ?_
  rintro e x6 ⟨rfl, kq⟩
  have sx6 := kq.size
  have A0 := A0.below kq A0.lt
  have V0 := V0.later kq
  have Ow := Ow.later kq
  have Vx := Vx.later kq
  have Mx := Mx.later kq
  have AX := AX.below kq AX.lt
  have Og := Og.later kq
  have BW := BW.trans (kq.mono BW.size)
  clear kq
  go_upto_region 10 with fail
  refine wp_region_held (S := fun Y => Below x6.heap.size x6 Y) (by kernel_rfl) ?_
  change wpAnyH _ _ _ _ _ _ _ _ (World.drew _)
  have hb0 : Below x6.heap.size x6 x6.drew := (Below.refl _ _).drew
  obtain ⟨u0, hy0⟩ : ∃ y_, y_ = x6.drew := ⟨_, rfl⟩
  rw [← hy0] at hb0 ⊢
  clear hy0
  refine takeW 0 35 (.agg #[.slice (some ⟨gBx, 0, none⟩) Cx.length Cx.length, .slice (some ⟨gKx, 0, none⟩) K0.length K0.length]) rfl rfl (by kernel_rfl) (by kernel_rfl) (by kernel_rfl) (fun _ _ _ h => h) (by kernel_rfl) (by (intro Y hSw; obtain ⟨X0, X1⟩ := AX.below hSw AX.lt; go_simp)) (by assumption) ?_
  simp only [List.set_cons_zero, List.set_cons_succ]
  refine takeW 1 36 (.agg #[.slice adB0 Bs0.length cB0, .slice adK0 K0.length cK0]) rfl rfl (by kernel_rfl) (by kernel_rfl) (by kernel_rfl) (fun _ _ _ h => h) (by kernel_rfl) (by (intro Y hSw; obtain ⟨X0, X1⟩ := A0.below hSw A0.lt; go_simp)) (by assumption) ?_
  simp only [List.set_cons_zero, List.set_cons_succ]
  refine wpAnyH_all (rs := [2]) (by kernel_rfl) (by simp) ?_
  intro i hi; obtain rfl : i = 2 := by simpa using hi
  refine wpOp_step rfl (fun Kz hKz => ?_)
  rw [if_pos (by kernel_rfl)]
  go_simp
  go_at_call 30
  refine (netTo adB0 cB0 Bs0 adK0 cK0 K0 u0 (V0.later hb0)).mono ?_
  rintro e u1 ⟨gBq, gKq, Cq, rfl, dq, mq, vq, kq⟩
  have hb1 : Below x6.heap.size x6 u1 := hb0.trans (kq.mono hb0.size)
  clear kq mq
  replace dq : Hid _ := dq
  refine hKz _ _ ⟨hb1, ?_⟩
  clear hKz Kz hi
  refine wpAnyH_all (rs := [3]) (by kernel_rfl) (by simp) ?_
  intro i hi; obtain rfl : i = 3 := by simpa using hi
  refine wpOp_step rfl (fun Kz hKz => ?_)
  rw [if_pos (by kernel_rfl)]
  go_simp
  go_at_call 31
  refine (netEq (some ⟨gBx, 0, none⟩) (some ⟨gBq, 0, none⟩) Cx.length Cq.length Cx Cq (some ⟨gKx, 0, none⟩) (some ⟨gKq, 0, none⟩) K0.length K0.length K0 u1 (Vx.later hb1) vq (dq.out.trans dx.out.symm)).mono ?_
  rintro e x7 ⟨rfl, kq⟩
  have hb2 : Below x6.heap.size x6 x7 := hb1.trans (kq.mono hb1.size)
  clear kq vq
  refine hKz _ _ ⟨hb2, ?_⟩
  clear hKz Kz hi
  refine takeW 4 39 (.bool false) rfl rfl (by kernel_rfl) (by kernel_rfl) (by kernel_rfl) (fun _ _ _ h => h) (by kernel_rfl) (by (intro w hSw; go_simp)) (by assumption) ?_
  simp only [List.set_cons_zero, List.set_cons_succ]
  refine wpAnyH_done (by kernel_rfl) ?_ _
  have sx7 := hb2.size
  have A0 := A0.below hb2 A0.lt
  have V0 := V0.later hb2
  have Ow := Ow.later hb2
  have Vx := Vx.later hb2
  have Mx := Mx.later hb2
  have AX := AX.below hb2 AX.lt
  have Og := Og.later hb2
  have BW := BW.trans (hb2.mono BW.size)
  clear hb2
  clear hb0 hb1
  have cc := AX
  obtain ⟨m0_0, m0_1⟩ := cc
  go_wp2_with fail
  go_at_call 33
  clear m0_0 m0_1
  refine (netMarkM gBx gKx Cx K0 _ x7 Mx (by rw [len_same dx.out]; exact hb0) (by rw [len_same dx.out, lTo_same dx.out]; exact hs0') hk0).mono ?_
  rintro e x8 ⟨⟨rk, rfl, rk0⟩, kr⟩
  have sx8 := kr.size
  have A0 := A0.keep (kr.block _ A0.lt (.inl (by omega)))
  have AX := AX.keep (kr.block _ AX.lt (.inr (by omega)))
  have Ow := Ow.keep (fun g e => kr.block g (Ow.lt g e).2 (.inl (by have := Owb g e; omega)))
  have Og := Og.keep (fun g e => kr.block g (Og.lt g e).2 (.inr (by have := (Og.lt g e).1; omega)))
  have BW := BW.trans ((kr.below (by omega)).mono (by omega))
  have V0 := W0.later BW
  have rkn : ¬ rk < 0 := by omega
  clear kr Vx Mx
  go_wp2_with fail
  go_at_call 32
  refine (intEq ag aw cg cw Lw.length (fun i => Lw.getD i 0) x8 Og.view.2.toI Ow.view.2.toI hLs).mono ?_
  rintro e x9 ⟨rfl, kq⟩
  have sx9 := kq.size
  have A0 := A0.below kq A0.lt
  have V0 := V0.later kq
  have Ow := Ow.later kq
  have AX := AX.below kq AX.lt
  have Og := Og.later kq
  have BW := BW.trans (kq.mono BW.size)
  clear kq
  go_wp2_with fail
  go_at_call 34
  refine (markOwn _ ag cg Lw x9 Og hLs (by omega)).mono ?_
  rintro e x10 ⟨rfl, Vm, kb⟩
  have sx10 := kb.size
  have A0 := A0.below kb (by omega)
  have AX := AX.below kb (by omega)
  have Ow := Ow.below kb (fun g e => by have := Owb g e; omega)
  have BW := BW.trans (kb.mono (by omega))
  have V0 := W0.later BW
  clear kb Og
  obtain ⟨mm, hmm⟩ : ∃ z, z = 1 + (Lw.length : Int) := ⟨_, rfl⟩
  have mm0 : ¬ mm < 0 := by omega
  rw [← hmm]
  replace hmm : Hid _ := hmm
  go_wp2_with fail
  go_at_call 35
  refine (heldRow ag Lw.length cg x10 Vm hLs).mono ?_
  rintro e x11 ⟨rfl, kq⟩
  have sx11 := kq.size
  have A0 := A0.below kq A0.lt
  have V0 := V0.later kq
  have Ow := Ow.later kq
  have AX := AX.below kq AX.lt
  have Vm := Vm.later kq
  have BW := BW.trans (kq.mono BW.size)
  clear kq
  rw [← hmm.out]
  have cc := A0
  obtain ⟨m0_0, m0_1⟩ := cc
  go_wp2_with fail
  go_at_call 30
  clear m0_0 m0_1
  refine (netTo adB0 cB0 Bs0 adK0 cK0 K0 x11 V0).mono ?_
  rintro e x12 ⟨gBh, gKh, Ch, rfl, dh, Mh, Vh, kq⟩
  have sx12 := kq.size
  have A0 := A0.below kq A0.lt
  have V0 := V0.later kq
  have Ow := Ow.later kq
  have AX := AX.below kq AX.lt
  have Vm := Vm.later kq
  have BW := BW.trans (kq.mono BW.size)
  clear kq
  replace dh : Hid _ := dh
  go_wp2_with fail
  go_at_call 9
  refine (reachI (some ⟨gBh, 0, none⟩) Ch.length Ch (some ⟨gKh, 0, none⟩) K0.length K0 n1 b2 x12 Vh (Nat.le_refl _)).mono ?_
  rintro e x13 ⟨Lh, ah, ch, hh, rfl, Oh, kq⟩
  have sx13 := kq.size
  have A0 := A0.below kq A0.lt
  have V0 := V0.later kq
  have Ow := Ow.later kq
  have AX := AX.below kq AX.lt
  have Vm := Vm.later kq
  have BW := BW.trans (kq.mono BW.size)
  clear kq
  obtain rfl : Lw = Lh := (hh.unique (by have := hw.out; unfold dB at this ⊢; rw [ds.out] at this; rw [dh.out]; exact this)).symm
  clear hh
  go_wp2_with fail
  go_at_call 32
  refine (intEq ah aw ch cw Lw.length (fun i => Lw.getD i 0) x13 Oh.view.2.toI Ow.view.2.toI hLs).mono ?_
  rintro e x14 ⟨rfl, kq⟩
  have sx14 := kq.size
  have A0 := A0.below kq A0.lt
  have V0 := V0.later kq
  have Ow := Ow.later kq
  have AX := AX.below kq AX.lt
  have Vm := Vm.later kq
  have Oh := Oh.later kq
  have BW := BW.trans (kq.mono BW.size)
  clear kq
  go_wp2_with fail
  go_at_call 35
  refine (heldRow ag Lw.length cg x14 Vm hLs).mono ?_
  rintro e x15 ⟨rfl, kq⟩
  have sx15 := kq.size
  have A0 := A0.below kq A0.lt
  have V0 := V0.later kq
  have Ow := Ow.later kq
  have AX := AX.below kq AX.lt
  have Vm := Vm.later kq
  have Oh := Oh.later kq
  have BW := BW.trans (kq.mono BW.size)
  clear kq
  rw [← hmm.out]
  go_wp2
  go_ret
  exact ⟨rfl, BW⟩


set_option maxRecDepth 100000 in
theorem lifted (os : Os) (started : os.Started) (H : Type) (enc : TypeId × Value → H) :
    ReturnsInHanded {} Try.checked os 5 .any (Rows.fnExactReachSpec.pre6 enc Try.prog Try.f5 Rows.fnExactReachRow.domain false) (Rows.fnExactReachSpec.post enc Try.prog Try.f5 false true false false) := by
  refine returnsInHanded_of_change (C := Try.checked) own started (by kernel_rfl) Try.func5
    (ChangeSpec.witness6 (enc := enc) (C := Try.checked) false ⟨#[], #[.agg #[.slice none 0 0, .slice none 0 0], .int .i64 0, .bool false], []⟩ 8 (by kernel_rfl) (by kernel_rfl) (by kernel_rfl) (by kernel_rfl)) ?_
  intro W base args ds gs before hval0 hW hcnd _
  have hval : ∀ (j : Nat) t v, Try.f5.params[j]? = some t → args[j]? = some v → Value.okWide Try.prog W .any base t v := hval0
  have hW' := hW
  obtain ⟨p, q, hA0, hV, rfl, hfz, hnd⟩ := hW
  have hA : DataW.TrodAll enc Try.prog W 0 (fun _ => true) true Try.f5.params.toList args.toList ds p := hA0
  rw [Try.params5] at hA hval
  obtain ⟨v0, vs0, d0, ds0, p0, q0, hargs, rfl, rfl, h0, r0⟩ := trodAll_cons hA
  obtain ⟨v1, vs1, d1, ds1, p1, q1, rfl, rfl, rfl, h1, r1⟩ := trodAll_cons r0
  obtain ⟨v2, vs2, d2, ds2, p2, q2, rfl, rfl, rfl, h2, r2⟩ := trodAll_cons r1
  obtain ⟨rfl, rfl, rfl⟩ := trodAll_nil r2
  obtain rfl : args = #[v0, v1, v2] := by cases args; simp_all
  obtain ⟨rfl, rfl⟩ := trodVars_none hV
  obtain ⟨adB0, cB0, Bs0, adK0, cK0, K0, rfl, I0⟩ := netIn_open (hval 0 43 v0 rfl rfl) h0
  have lt0 : ∀ x ∈ p0, x.block < W.heap.size := by obtain ⟨m, hm⟩ := h0; exact DataW.trod_lt m _ _ _ hm
  obtain ⟨n1, rfl, I1⟩ := intIn_open (hval 1 3 v1 rfl rfl) h1
  have lt1 : ∀ x ∈ p1, x.block < W.heap.size := by obtain ⟨m, hm⟩ := h1; exact DataW.trod_lt m _ _ _ hm
  obtain ⟨b2, rfl, I2⟩ := boolIn_open (hval 2 4 v2 rfl rfl) h2
  have lt2 : ∀ x ∈ p2, x.block < W.heap.size := by obtain ⟨m, hm⟩ := h2; exact DataW.trod_lt m _ _ _ hm
  clear hA0 hval0
  refine (walk adB0 cB0 Bs0 adK0 cK0 K0 n1 b2 W I0 I1 I2).mono fun e W' ⟨he, bel⟩ => ?_
  subst he
  exact ⟨_, rfl, _, _, _, [], _, [], hW', trodAll_mk1 (shut_bool Try.underlying4 _), (trodAll_cons_mk (Below.trod laidOut (by kernel_rfl) (of_decide_eq_true (by kernel_rfl)) h0 bel lt0) (trodAll_cons_mk (Below.trod laidOut (by kernel_rfl) (of_decide_eq_true (by kernel_rfl)) h1 bel lt1) (trodAll_cons_mk (Below.trod laidOut (by kernel_rfl) (of_decide_eq_true (by kernel_rfl)) h2 bel lt2) trodAll_mk0))), rfl, bel.frame _, fun h => by cases h⟩

theorem over : Rows.fnExactReachRow.holds Try.pinned (OpenSpec.ofChange Rows.fnExactReachSpec) :=
  OpenClaim.holds_of_wide 5 Try.f5 rfl rfl rfl rfl rfl rfl rfl ⟨rfl, rfl, rfl, rfl, rfl⟩ rfl rfl rfl rfl rfl (by kernel_rfl) Try.func5 (by kernel_rfl)
    (of_decide_eq_true (by kernel_rfl)) (by unfold Func.isWrapper; first | (rw [if_pos (by decide +kernel)]; kernel_rfl) | (rw [if_neg (by decide +kernel)]; exact ⟨rfl, rfl⟩))
    (fun os started H enc _ => lifted os started H enc)

theorem proved : Rows.FnExactReachSaid := over
end Go.Proofs.Ytdfjfodfnildiaa.fnExactReach
namespace Go.Proofs.Ytdfjfodfnildiaa
theorem reach_holds : Rows.FnExactReachSaid := fnExactReach.proved
#print axioms reach_holds
end Go.Proofs.Ytdfjfodfnildiaa
