/- For every bridge and every port the call of FnExactOwn returns true: impl.Own answers as spec.Own, every field, it writes into no argument, and its answer owns its memory. No condition. -/
import Derived.Test.YtbffdkjgadhdoabRows
import Derived.Test.YtbffdkjgadhdoabBr6s
import Derived.Test.YtbffdkjgadhdoabBr2
import Derived.Deep.Cut
import Derived.WalkKit
import Derived.Below
import Derived.ChangeOld
import Derived.WalkSmall
import Derived.ProofKit
import Derived.OpenShut
import Derived.ShutString
import Derived.BigQuiet
namespace Go.Proofs.Ytbffdkjgadhdoab.fnExactOwn
open Go.ChangeShapes Go.WideShapes Go.ChangeAt Go.RowKit
set_option linter.unusedVariables false

theorem own : ownKnob Try.prog.godebug = none := by kernel_rfl
theorem laidOut : laidOutB Try.prog = true := by kernel_rfl

set_option maxRecDepth 100000 in
theorem intIn_open {H : Type} {enc : TypeId × Value → H} {w : World} {r : Reach} {b0 : Nat} {v : Value} {d : DataW H} {p : List MemPlace} (hv : Value.okWide Try.prog w r b0 3 v) (h : DataW.Trod enc Try.prog w 0 (fun _ => true) true 3 v d p) : ∃ n : Int, v = .int .i64 n ∧ (Lit.int .i64 n).wf = true := by
  obtain ⟨n, rfl, _, _, I⟩ := open_int Try.underlying3 hv h
  exact ⟨n, rfl, I⟩
set_option maxRecDepth 100000 in
theorem boolIn_open {H : Type} {enc : TypeId × Value → H} {w : World} {r : Reach} {b0 : Nat} {v : Value} {d : DataW H} {p : List MemPlace} (hv : Value.okWide Try.prog w r b0 4 v) (h : DataW.Trod enc Try.prog w 0 (fun _ => true) true 4 v d p) : ∃ b : Bool, v = .bool b ∧ True := by
  obtain ⟨b, rfl, _, _⟩ := open_bool Try.underlying4 hv h
  exact ⟨b, rfl, trivial⟩
set_option maxHeartbeats 8000000 in
set_option maxRecDepth 100000 in
theorem walk (id0 : Int) (ad0 : Option Addr) (cap0 : Nat) (L0 : List Pt) (n1 : Int) (w : World) (I0 : (Lit.int .i64 id0).wf = true ∧ BrIn w ad0 cap0 L0) (I1 : (Lit.int .i64 n1).wf = true) :
    Calls Try.prog 3 #[.agg #[.int .i64 id0, .slice ad0 L0.length cap0], .int .i64 n1] w fun e w' => e = .returned (.bool true) ∧ Below w.heap.size w w' := by
  obtain ⟨hwf, hlm, V0, hn0⟩ := I0
  clear hwf
  obtain ⟨x0, hx⟩ : ∃ y_, y_ = w.alloc (Obj.cells #[.int .i64 id0, .slice ad0 L0.length cap0] 24) := ⟨_, rfl⟩
  have A0 : BrAt x0 w.heap.size id0 (.slice ad0 L0.length cap0) := by rw [hx]; exact BrAt.new w _ _ _
  have BW : Below w.heap.size w x0 := by rw [hx]; exact below_new _
  have lx0 := A0.lt
  have vb : ∀ a, ad0 = some a → 0 < L0.length → a.block < w.heap.size := V0.lt ptEnc_len (by omega)
  have V0 := V0.below BW vb
  go_enter Try.func3, Try.ntmps3
  go_wp2_with fail
  go_at_call 8
  rw [← hx]
  clear hx
  refine (brSz id0 ad0 L0.length cap0 1048576 x0 (by decide) (by decide) hlm).mono ?_
  rintro e y1 ⟨rfl, kq⟩
  have sy1 := kq.size
  have A0 := A0.below kq A0.lt
  have V0 := V0.below kq (V0.lt ptEnc_len (by omega))
  have BW := BW.trans (kq.mono BW.size)
  clear kq
  by_cases hl : L0.length ≤ 1048576
  rotate_left
  · rw [if_neg (by omega)]
    go_wp2
    go_ret
    exact ⟨rfl, BW⟩
  rw [if_pos (by omega)]
  have hlf : 0 ≤ 1048576 - (L0.length : Int) := by omega
  generalize 1048576 - (L0.length : Int) = lf at hlf ⊢
  have cc := A0
  obtain ⟨m0_0, m0_1⟩ := cc
  go_wp2_with fail
  go_at_call 10
  clear m0_0 m0_1
  refine (brTo id0 ad0 cap0 L0 y1 V0 hl).mono ?_
  rintro e x1 ⟨gO1, rfl, _, _, O1, kq⟩
  have sx1 := kq.size
  have A0 := A0.below kq A0.lt
  have V0 := V0.below kq (V0.lt ptEnc_len (by omega))
  have BW := BW.trans (kq.mono BW.size)
  clear kq
  have iO1 : ∀ g, (Value.slice (some ⟨gO1, 0, none⟩) L0.length L0.length).ownBlock = some g → y1.heap.size ≤ g ∧ g < x1.heap.size := fun g e => O1.lt g e
  go_wp2_with fail
  go_at_call 9
  refine (ownS id0 (some ⟨gO1, 0, none⟩) L0.length L0 n1 x1 O1.view.2 hl).mono ?_
  rintro e x2 ⟨rfl, kq⟩
  have sx2 := kq.size
  have A0 := A0.below kq A0.lt
  have V0 := V0.below kq (V0.lt ptEnc_len (by omega))
  have BW := BW.trans (kq.mono BW.size)
  clear kq
  obtain ⟨⟨v1, v2, v3, v4⟩, hov⟩ : ∃ v, ownR id0 L0 n1 = v := ⟨_, rfl⟩
  rw [hov]
  replace hov : Hid _ := hov
  obtain ⟨x3, hx3⟩ : ∃ y_, y_ = x2.alloc (Obj.cells #[.int .i64 v1, .int .i64 v2, .int .i64 v3, .int .i64 v4] 27) := ⟨_, rfl⟩
  have E1 : VecAt x3 x2.heap.size v1 v2 v3 v4 := by rw [hx3]; exact vecAt_box x2 _ _ _ _ _
  have kq : Below x2.heap.size x2 x3 := by rw [hx3]; exact below_new _
  have lx3 := (World.block_lt_of_cell? _ _ E1.1)
  have sx3 := kq.size
  have A0 := A0.below kq A0.lt
  have V0 := V0.below kq (V0.lt ptEnc_len (by omega))
  have BW := BW.trans (kq.mono BW.size)
  clear kq
  go_upto_region 6 with fail
  rw [← hx3]
  clear hx3
  have cc := A0
  obtain ⟨m0_0, m0_1⟩ := cc
  go_wp2_with fail
  go_at_call 10
  clear m0_0 m0_1
  refine (brTo id0 ad0 cap0 L0 x3 V0 hl).mono ?_
  rintro e x4 ⟨gOX, rfl, _, _, OX, kq⟩
  have sx4 := kq.size
  have A0 := A0.below kq A0.lt
  have V0 := V0.below kq (V0.lt ptEnc_len (by omega))
  have E1 := E1.below kq (World.block_lt_of_cell? _ _ E1.1)
  have BW := BW.trans (kq.mono BW.size)
  clear kq
  have iOX : ∀ g, (Value.slice (some ⟨gOX, 0, none⟩) L0.length L0.length).ownBlock = some g → x3.heap.size ≤ g ∧ g < x4.heap.size := fun g e => OX.lt g e
  obtain ⟨x5, hx5⟩ : ∃ y_, y_ = x4.alloc (Obj.cells #[.int .i64 id0, .slice (some ⟨gOX, 0, none⟩) L0.length L0.length] 31) := ⟨_, rfl⟩
  have AX : BrAt x5 x4.heap.size id0 (.slice (some ⟨gOX, 0, none⟩) L0.length L0.length) := by rw [hx5]; exact BrAt.new x4 _ _ _
  have kq : Below x4.heap.size x4 x5 := by rw [hx5]; exact below_new _
  have lx5 := AX.lt
  have sx5 := kq.size
  have A0 := A0.below kq A0.lt
  have V0 := V0.below kq (V0.lt ptEnc_len (by omega))
  have E1 := E1.below kq (World.block_lt_of_cell? _ _ E1.1)
  have OX := OX.later kq
  have BW := BW.trans (kq.mono BW.size)
  clear kq
  go_upto_region 7 with fail
  rw [← hx5]
  clear hx5
  have cc := AX
  obtain ⟨m0_0, m0_1⟩ := cc
  go_wp2_with fail
  go_at_call 11
  clear m0_0 m0_1
  refine (ownI id0 (some ⟨gOX, 0, none⟩) L0.length L0 n1 x5 OX.view.2 hl).mono ?_
  rintro e x6 ⟨rfl, kq⟩
  have sx6 := kq.size
  have A0 := A0.below kq A0.lt
  have V0 := V0.below kq (V0.lt ptEnc_len (by omega))
  have E1 := E1.below kq (World.block_lt_of_cell? _ _ E1.1)
  have OX := OX.later kq
  have AX := AX.below kq AX.lt
  have BW := BW.trans (kq.mono BW.size)
  clear kq
  rw [hov.out]
  clear hov
  obtain ⟨x7, hx7⟩ : ∃ y_, y_ = x6.alloc (Obj.cells #[.int .i64 v1, .int .i64 v2, .int .i64 v3, .int .i64 v4] 27) := ⟨_, rfl⟩
  have E2 : VecAt x7 x6.heap.size v1 v2 v3 v4 := by rw [hx7]; exact vecAt_box x6 _ _ _ _ _
  have kq : Below x6.heap.size x6 x7 := by rw [hx7]; exact below_new _
  have lx7 := (World.block_lt_of_cell? _ _ E2.1)
  have sx7 := kq.size
  have A0 := A0.below kq A0.lt
  have V0 := V0.below kq (V0.lt ptEnc_len (by omega))
  have E1 := E1.below kq (World.block_lt_of_cell? _ _ E1.1)
  have OX := OX.later kq
  have AX := AX.below kq AX.lt
  have BW := BW.trans (kq.mono BW.size)
  clear kq
  go_upto_region 8 with fail
  rw [← hx7]
  clear hx7
  have cc := E2
  obtain ⟨m0_0, m0_1, m0_2, m0_3⟩ := cc
  have cc := E1
  obtain ⟨m1_0, m1_1, m1_2, m1_3⟩ := cc
  go_wp2_with fail
  go_at_call 12
  clear m0_0 m0_1 m0_2 m0_3 m1_0 m1_1 m1_2 m1_3
  refine (eqVs v1 v2 v3 v4 x7).mono ?_
  rintro e x8 ⟨rfl, kq⟩
  have sx8 := kq.size
  have A0 := A0.below kq A0.lt
  have V0 := V0.below kq (V0.lt ptEnc_len (by omega))
  have E1 := E1.below kq (World.block_lt_of_cell? _ _ E1.1)
  have OX := OX.later kq
  have AX := AX.below kq AX.lt
  have E2 := E2.below kq (World.block_lt_of_cell? _ _ E2.1)
  have BW := BW.trans (kq.mono BW.size)
  clear kq
  go_upto_region 10 with fail
  refine wp_region_held (S := fun Y => Below x8.heap.size x8 Y) (by kernel_rfl) ?_
  change wpAnyH _ _ _ _ _ _ _ _ (World.drew _)
  have hb0 : Below x8.heap.size x8 x8.drew := (Below.refl _ _).drew
  obtain ⟨u0, hy0⟩ : ∃ y_, y_ = x8.drew := ⟨_, rfl⟩
  rw [← hy0] at hb0 ⊢
  clear hy0
  refine takeW 0 27 (.agg #[.int .i64 id0, .slice (some ⟨gOX, 0, none⟩) L0.length L0.length]) rfl rfl (by kernel_rfl) (by kernel_rfl) (by kernel_rfl) (fun _ _ _ h => h) (by kernel_rfl) (by (intro Y hSw; obtain ⟨X0, X1⟩ := AX.below hSw AX.lt; go_simp)) (by assumption) ?_
  simp only [List.set_cons_zero, List.set_cons_succ]
  refine takeW 1 28 (.agg #[.int .i64 id0, .slice ad0 L0.length cap0]) rfl rfl (by kernel_rfl) (by kernel_rfl) (by kernel_rfl) (fun _ _ _ h => h) (by kernel_rfl) (by (intro Y hSw; obtain ⟨X0, X1⟩ := A0.below hSw A0.lt; go_simp)) (by assumption) ?_
  simp only [List.set_cons_zero, List.set_cons_succ]
  refine wpAnyH_all (rs := [2]) (by kernel_rfl) (by simp) ?_
  intro i hi; obtain rfl : i = 2 := by simpa using hi
  refine wpOp_step rfl (fun K hK => ?_)
  rw [if_pos (by kernel_rfl)]
  go_simp
  go_at_call 10
  refine (brTo id0 ad0 cap0 L0 u0 (V0.below hb0 (V0.lt ptEnc_len (by omega))) hl).mono ?_
  rintro e u1 ⟨gz, rfl, _, _, oz, kq⟩
  have hb1 : Below x8.heap.size x8 u1 := hb0.trans (kq.mono hb0.size)
  clear kq
  refine hK _ _ ⟨hb1, ?_⟩
  clear hK K hi
  refine wpAnyH_all (rs := [3]) (by kernel_rfl) (by simp) ?_
  intro i hi; obtain rfl : i = 3 := by simpa using hi
  refine wpOp_step rfl (fun K hK => ?_)
  rw [if_pos (by kernel_rfl)]
  go_simp
  go_at_call 13
  refine (brEq id0 (some ⟨gOX, 0, none⟩) (some ⟨gz, 0, none⟩) L0.length L0.length L0 u1 (OX.later hb1).view.2 oz.view.2 hl).mono ?_
  rintro e u2 ⟨rfl, kq⟩
  have hb2 : Below x8.heap.size x8 u2 := hb1.trans (kq.mono hb1.size)
  clear kq oz
  refine hK _ _ ⟨hb2, ?_⟩
  clear hK K hi
  refine takeW 4 31 (.bool false) rfl rfl (by kernel_rfl) (by kernel_rfl) (by kernel_rfl) (fun _ _ _ h => h) (by kernel_rfl) (by (intro w hSw; go_simp)) (by assumption) ?_
  simp only [List.set_cons_zero, List.set_cons_succ]
  refine wpAnyH_done (by kernel_rfl) ?_ _
  have su2 := hb2.size
  have A0 := A0.below hb2 A0.lt
  have V0 := V0.below hb2 (V0.lt ptEnc_len (by omega))
  have E1 := E1.below hb2 (World.block_lt_of_cell? _ _ E1.1)
  have OX := OX.later hb2
  have AX := AX.below hb2 AX.lt
  have E2 := E2.below hb2 (World.block_lt_of_cell? _ _ E2.1)
  have BW := BW.trans (hb2.mono BW.size)
  clear hb2
  clear hb0 hb1
  go_wp2
  go_ret
  exact ⟨rfl, BW⟩


set_option maxRecDepth 100000 in
theorem lifted (os : Os) (started : os.Started) (H : Type) (enc : TypeId × Value → H) :
    ReturnsInHanded {} Try.checked os 3 .any (Rows.fnExactOwnSpec.pre6 enc Try.prog Try.f3 Rows.fnExactOwnRow.domain false) (Rows.fnExactOwnSpec.post enc Try.prog Try.f3 false true false false) := by
  refine returnsInHanded_of_change (C := Try.checked) own started (by kernel_rfl) Try.func3
    (ChangeSpec.witness6 (enc := enc) (C := Try.checked) false ⟨#[], #[.agg #[.int .i64 0, .slice none 0 0], .int .i64 0], []⟩ 8 (by kernel_rfl) (by kernel_rfl) (by kernel_rfl) (by kernel_rfl)) ?_
  intro W base args ds gs before hval0 hW hcnd _
  have hval : ∀ (j : Nat) t v, Try.f3.params[j]? = some t → args[j]? = some v → Value.okWide Try.prog W .any base t v := hval0
  have hW' := hW
  obtain ⟨p, q, hA0, hV, rfl, hfz, hnd⟩ := hW
  have hA : DataW.TrodAll enc Try.prog W 0 (fun _ => true) true Try.f3.params.toList args.toList ds p := hA0
  rw [Try.params3] at hA hval
  obtain ⟨v0, vs0, d0, ds0, p0, q0, hargs, rfl, rfl, h0, r0⟩ := trodAll_cons hA
  obtain ⟨v1, vs1, d1, ds1, p1, q1, rfl, rfl, rfl, h1, r1⟩ := trodAll_cons r0
  obtain ⟨rfl, rfl, rfl⟩ := trodAll_nil r1
  obtain rfl : args = #[v0, v1] := by cases args; simp_all
  obtain ⟨rfl, rfl⟩ := trodVars_none hV
  obtain ⟨id0, ad0, cap0, L0, rfl, I0⟩ := brIn_open (hval 0 24 v0 rfl rfl) h0
  have lt0 : ∀ x ∈ p0, x.block < W.heap.size := by obtain ⟨m, hm⟩ := h0; exact DataW.trod_lt m _ _ _ hm
  obtain ⟨n1, rfl, I1⟩ := intIn_open (hval 1 3 v1 rfl rfl) h1
  have lt1 : ∀ x ∈ p1, x.block < W.heap.size := by obtain ⟨m, hm⟩ := h1; exact DataW.trod_lt m _ _ _ hm
  clear hA0 hval0
  refine (walk id0 ad0 cap0 L0 n1 W I0 I1).mono fun e W' ⟨he, bel⟩ => ?_
  subst he
  exact ⟨_, rfl, _, _, _, [], _, [], hW', trodAll_mk1 (shut_bool Try.underlying4 _), (trodAll_cons_mk (Below.trod laidOut (by kernel_rfl) (of_decide_eq_true (by kernel_rfl)) h0 bel lt0) (trodAll_cons_mk (Below.trod laidOut (by kernel_rfl) (of_decide_eq_true (by kernel_rfl)) h1 bel lt1) trodAll_mk0)), rfl, bel.frame _, fun h => by cases h⟩

theorem over : Rows.fnExactOwnRow.holds Try.pinned (OpenSpec.ofChange Rows.fnExactOwnSpec) :=
  OpenClaim.holds_of_wide 3 Try.f3 rfl rfl rfl rfl rfl rfl rfl ⟨rfl, rfl, rfl, rfl, rfl⟩ rfl rfl rfl rfl rfl (by kernel_rfl) Try.func3 (by kernel_rfl)
    (of_decide_eq_true (by kernel_rfl)) (by unfold Func.isWrapper; first | (rw [if_pos (by decide +kernel)]; kernel_rfl) | (rw [if_neg (by decide +kernel)]; exact ⟨rfl, rfl⟩))
    (fun os started H enc _ => lifted os started H enc)

theorem proved : Rows.FnExactOwnSaid := over
end Go.Proofs.Ytbffdkjgadhdoab.fnExactOwn
namespace Go.Proofs.Ytbffdkjgadhdoab
theorem own_holds : Rows.FnExactOwnSaid := fnExactOwn.proved
#print axioms own_holds
end Go.Proofs.Ytbffdkjgadhdoab
