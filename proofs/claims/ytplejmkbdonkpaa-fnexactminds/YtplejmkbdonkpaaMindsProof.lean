/- FnExactMinds, proved: at every register, number and minder the program's Minds answers as the specification's, and no argument is written into; no condition. -/
import Derived.Test.YtplejmkbdonkpaaRows
import Derived.Test.YtplejmkbdonkpaaRr4
import Derived.Test.YtplejmkbdonkpaaRr7
import Derived.Test.YtplejmkbdonkpaaRg2
import Derived.Test.YtplejmkbdonkpaaMi2
import Derived.Test.YtplejmkbdonkpaaTakes
import Derived.Deep.Cut
import Derived.WalkKit
import Derived.Below
import Derived.ChangeOld
import Derived.WalkSmall
import Derived.ProofKit
import Derived.OpenShut
import Derived.ShutString
import Derived.BigQuiet
namespace Go.Proofs.Ytplejmkbdonkpaa.fnExactMinds
open Go.ChangeShapes Go.WideShapes Go.ChangeAt Go.RowKit
set_option linter.unusedVariables false

theorem own : ownKnob Try.prog.godebug = none := by kernel_rfl
theorem laidOut : laidOutB Try.prog = true := by kernel_rfl

set_option maxRecDepth 100000 in
theorem intIn_open {H : Type} {enc : TypeId × Value → H} {w : World} {r : Reach} {b0 : Nat} {v : Value} {d : DataW H} {p : List MemPlace} (hv : Value.okWide Try.prog w r b0 3 v) (h : DataW.Trod enc Try.prog w 0 (fun _ => true) true 3 v d p) : ∃ n : Int, v = .int .i64 n ∧ (Lit.int .i64 n).wf = true := by
  obtain ⟨n, rfl, _, _, I⟩ := open_int Try.underlying3 hv h
  exact ⟨n, rfl, I⟩
set_option maxRecDepth 100000 in
theorem boolIn_open {H : Type} {enc : TypeId × Value → H} {w : World} {r : Reach} {b0 : Nat} {v : Value} {d : DataW H} {p : List MemPlace} (hv : Value.okWide Try.prog w r b0 4 v) (h : DataW.Trod enc Try.prog w 0 (fun _ => true) true 4 v d p) : ∃ b : Bool, v = .bool b ∧ True := by
  obtain ⟨b, rfl, _, _⟩ := open_bool Try.underlying4 hv h
  exact ⟨b, rfl, trivial⟩
set_option maxHeartbeats 8000000 in
set_option maxRecDepth 100000 in
theorem walk (rg0 : Rg) (n1 : Int) (m2 : Mi) (ad2 : Option Addr) (cap2 : Nat) (w : World) (I0 : True) (I1 : (Lit.int .i64 n1).wf = true) (I2 : MiIn w ad2 cap2 m2) :
    Calls Try.prog 5 #[.agg #[.int .i64 rg0.ep, .int .i64 rg0.ow, .int .i64 rg0.pa], .int .i64 n1, .agg #[.bool m2.up, .int .i64 m2.li, .int .i64 m2.ep, .slice ad2 m2.lg.length cap2, .int .i64 m2.sd, .int .i64 m2.ac, .int .i64 m2.al]] w fun e w' => e = .returned (.bool true) ∧ Below w.heap.size w w' := by
  obtain ⟨hlm, V2, hn2⟩ := I2
  obtain ⟨y0, hx⟩ : ∃ y_, y_ = (w.alloc (Obj.cells #[.int .i64 rg0.ep, .int .i64 rg0.ow, .int .i64 rg0.pa] 42)).alloc (Obj.cells #[.bool m2.up, .int .i64 m2.li, .int .i64 m2.ep, .slice ad2 m2.lg.length cap2, .int .i64 m2.sd, .int .i64 m2.ac, .int .i64 m2.al] 49) := ⟨_, rfl⟩
  have A0 : RgAt y0 w.heap.size rg0 := by rw [hx]; constructor <;> simp [go_sem]
  have A2 : MiAt y0 (w.heap.size + 1) m2 (.slice ad2 m2.lg.length cap2) := by rw [hx]; constructor <;> simp [go_sem]
  have BW : Below w.heap.size w y0 := by rw [hx]; exact ((Below.refl _ _).alloc (Nat.le_refl _) _).alloc (by simp) _
  have lx0 := A2.lt
  have vb : ∀ a, ad2 = some a → 0 < m2.lg.length → a.block < w.heap.size := V2.lt ikEnc_len (by omega)
  have V2 := V2.below BW vb
  go_enter Try.func5, Try.ntmps5
  go_wp2_with fail
  go_at_call 22
  rw [← hx]
  clear hx
  refine (miSz m2 ad2 cap2 1048576 y0 (by decide) (by decide) hlm).mono ?_
  rintro e y1 ⟨rfl, kq⟩
  have sy1 := kq.size
  have A0 := A0.below kq A0.lt
  have A2 := A2.below kq A2.lt
  have V2 := V2.below kq (V2.lt ikEnc_len (by omega))
  have BW := BW.trans (kq.mono BW.size)
  clear kq
  by_cases hl : m2.lg.length ≤ 1048576
  rotate_left
  · rw [if_neg (by omega)]
    go_wp2
    go_ret
    exact ⟨rfl, BW⟩
  rw [if_pos (by omega)]
  have hlf : 0 ≤ 1048576 - (m2.lg.length : Int) := by omega
  generalize 1048576 - (m2.lg.length : Int) = lf at hlf ⊢
  obtain ⟨o, hO⟩ : ∃ o, mindsB rg0 n1 m2 = o := ⟨_, rfl⟩
  replace hO : Hid _ := hO
  go_upto_region 5 with fail
  refine wp_region_held (S := fun Y => Below y1.heap.size y1 Y) (by kernel_rfl) ?_
  change wpAnyH _ _ _ _ _ _ _ _ (World.drew _)
  have hb0 : Below y1.heap.size y1 y1.drew := (Below.refl _ _).drew
  obtain ⟨u0, hy0⟩ : ∃ y_, y_ = y1.drew := ⟨_, rfl⟩
  rw [← hy0] at hb0 ⊢
  clear hy0
  refine takeW 0 16 (.agg #[.int .i64 rg0.ep, .int .i64 rg0.ow, .int .i64 rg0.pa]) rfl rfl (by kernel_rfl) (by kernel_rfl) (by kernel_rfl) (fun _ _ _ h => h) (by kernel_rfl) (by (intro Y hSw; obtain ⟨X0, X1, X2⟩ := A0.below hSw A0.lt; go_simp)) (by assumption) ?_
  simp only [List.set_cons_zero, List.set_cons_succ]
  refine takeW 2 18 (.int .i64 n1) rfl rfl (by kernel_rfl) (by kernel_rfl) (by kernel_rfl) (fun _ _ _ h => h) (by kernel_rfl) (by (intro w hSw; go_simp)) (by assumption) ?_
  simp only [List.set_cons_zero, List.set_cons_succ]
  refine takeW 3 19 (.agg #[.bool m2.up, .int .i64 m2.li, .int .i64 m2.ep, .slice ad2 m2.lg.length cap2, .int .i64 m2.sd, .int .i64 m2.ac, .int .i64 m2.al]) rfl rfl (by kernel_rfl) (by kernel_rfl) (by kernel_rfl) (fun _ _ _ h => h) (by kernel_rfl) (by (intro Y hSw; obtain ⟨X0, X1, X2, X3, X4, X5, X6⟩ := A2.below hSw A2.lt; go_simp)) (by assumption) ?_
  simp only [List.set_cons_zero, List.set_cons_succ]
  refine wpAnyH_all (rs := [1]) (by kernel_rfl) (by simp) ?_
  intro i hi; obtain rfl : i = 1 := by simpa using hi
  refine wpOp_step rfl (fun Kz hKz => ?_)
  rw [if_pos (by kernel_rfl)]
  go_simp
  go_at_call 20
  refine (toRg rg0 u0).mono ?_
  rintro e u1 ⟨rfl, kq⟩
  have hb1 : Below y1.heap.size y1 u1 := hb0.trans (kq.mono hb0.size)
  clear kq
  refine hKz _ _ ⟨hb1, ?_⟩
  clear hKz Kz hi
  refine wpAnyH_all (rs := [4]) (by kernel_rfl) (by simp) ?_
  intro i hi; obtain rfl : i = 4 := by simpa using hi
  refine wpOp_step rfl (fun Kz hKz => ?_)
  rw [if_pos (by kernel_rfl)]
  go_simp
  go_at_call 24
  refine (miTo m2 ad2 cap2 u1 (V2.below hb1 (V2.lt ikEnc_len (by omega))) hl).mono ?_
  rintro e u2 ⟨gT, rfl, _, _, oT, kq⟩
  have hb2 : Below y1.heap.size y1 u2 := hb1.trans (kq.mono hb1.size)
  clear kq
  refine hKz _ _ ⟨hb2, ?_⟩
  clear hKz Kz hi
  refine wpAnyH_all (rs := [5]) (by kernel_rfl) (by simp) ?_
  intro i hi; obtain rfl : i = 5 := by simpa using hi
  refine wpOp_step rfl (fun Kz hKz => ?_)
  rw [if_pos (by kernel_rfl)]
  go_simp
  go_at_call 23
  refine (mindsS rg0 n1 m2 (some ⟨gT, 0, none⟩) m2.lg.length u2 oT.view.2 (by omega)).mono ?_
  rintro e u3 ⟨rfl, kq⟩
  rw [hO.out]
  have hb3 : Below y1.heap.size y1 u3 := hb2.trans (kq.mono hb2.size)
  clear kq
  refine hKz _ _ ⟨hb3, ?_⟩
  clear hKz Kz hi
  refine takeW 6 8 (.bool o) rfl rfl (by kernel_rfl) (by kernel_rfl) (by kernel_rfl) (fun _ _ _ h => h) (by kernel_rfl) (by (intro w hSw; go_simp)) (by assumption) ?_
  simp only [List.set_cons_zero, List.set_cons_succ]
  refine wpAnyH_done (by kernel_rfl) ?_ _
  have su3 := hb3.size
  have A0 := A0.below hb3 A0.lt
  have A2 := A2.below hb3 A2.lt
  have V2 := V2.below hb3 (V2.lt ikEnc_len (by omega))
  have BW := BW.trans (hb3.mono BW.size)
  clear hb3
  clear hb0 hb1 hb2 oT
  have cc := A2
  obtain ⟨m0_0, m0_1, m0_2, m0_3, m0_4, m0_5, m0_6⟩ := cc
  go_wp2_with fail
  go_at_call 24
  clear m0_0 m0_1 m0_2 m0_3 m0_4 m0_5 m0_6
  refine (miTo m2 ad2 cap2 u3 V2 hl).mono ?_
  rintro e wd1 ⟨gOX, rfl, _, _, OX, kq⟩
  have swd1 := kq.size
  have A0 := A0.below kq A0.lt
  have A2 := A2.below kq A2.lt
  have V2 := V2.below kq (V2.lt ikEnc_len (by omega))
  have BW := BW.trans (kq.mono BW.size)
  clear kq
  have iOX : ∀ g, (Value.slice (some ⟨gOX, 0, none⟩) m2.lg.length m2.lg.length).ownBlock = some g → u3.heap.size ≤ g ∧ g < wd1.heap.size := fun g e => OX.lt g e
  obtain ⟨wd2, hwd2⟩ : ∃ y_, y_ = wd1.alloc (Obj.cells #[.bool m2.up, .int .i64 m2.li, .int .i64 m2.ep, .slice (some ⟨gOX, 0, none⟩) m2.lg.length m2.lg.length, .int .i64 m2.sd, .int .i64 m2.ac, .int .i64 m2.al] 26) := ⟨_, rfl⟩
  have AX : MiAt wd2 wd1.heap.size m2 (.slice (some ⟨gOX, 0, none⟩) m2.lg.length m2.lg.length) := by rw [hwd2]; exact MiAt.new wd1 _ _ _
  have kq : Below wd1.heap.size wd1 wd2 := by rw [hwd2]; exact below_new _
  have lwd2 := AX.lt
  have swd2 := kq.size
  have A0 := A0.below kq A0.lt
  have A2 := A2.below kq A2.lt
  have V2 := V2.below kq (V2.lt ikEnc_len (by omega))
  have OX := OX.later kq
  have BW := BW.trans (kq.mono BW.size)
  clear kq
  go_upto_region 7 with fail
  rw [← hwd2]
  clear hwd2
  refine wp_region_held (S := fun Y => Below wd2.heap.size wd2 Y) (by kernel_rfl) ?_
  change wpAnyH _ _ _ _ _ _ _ _ (World.drew _)
  have hc0 : Below wd2.heap.size wd2 wd2.drew := (Below.refl _ _).drew
  obtain ⟨t0, hy0⟩ : ∃ y_, y_ = wd2.drew := ⟨_, rfl⟩
  rw [← hy0] at hc0 ⊢
  clear hy0
  refine takeW 0 24 (.agg #[.int .i64 rg0.ep, .int .i64 rg0.ow, .int .i64 rg0.pa]) rfl rfl (by kernel_rfl) (by kernel_rfl) (by kernel_rfl) (fun _ _ _ h => h) (by kernel_rfl) (by (intro Y hSw; obtain ⟨X0, X1, X2⟩ := A0.below hSw A0.lt; go_simp)) (by assumption) ?_
  simp only [List.set_cons_zero, List.set_cons_succ]
  refine takeW 2 26 (.int .i64 n1) rfl rfl (by kernel_rfl) (by kernel_rfl) (by kernel_rfl) (fun _ _ _ h => h) (by kernel_rfl) (by (intro w hSw; go_simp)) (by assumption) ?_
  simp only [List.set_cons_zero, List.set_cons_succ]
  refine takeW 3 27 (.agg #[.bool m2.up, .int .i64 m2.li, .int .i64 m2.ep, .slice (some ⟨gOX, 0, none⟩) m2.lg.length m2.lg.length, .int .i64 m2.sd, .int .i64 m2.ac, .int .i64 m2.al]) rfl rfl (by kernel_rfl) (by kernel_rfl) (by kernel_rfl) (fun _ _ _ h => h) (by kernel_rfl) (by (intro Y hSw; obtain ⟨X0, X1, X2, X3, X4, X5, X6⟩ := AX.below hSw AX.lt; go_simp)) (by assumption) ?_
  simp only [List.set_cons_zero, List.set_cons_succ]
  refine wpAnyH_all (rs := [1]) (by kernel_rfl) (by simp) ?_
  intro i hi; obtain rfl : i = 1 := by simpa using hi
  refine wpOp_step rfl (fun Kz hKz => ?_)
  rw [if_pos (by kernel_rfl)]
  go_simp
  go_at_call 20
  refine (toRg rg0 t0).mono ?_
  rintro e t1 ⟨rfl, kq⟩
  have hc1 : Below wd2.heap.size wd2 t1 := hc0.trans (kq.mono hc0.size)
  clear kq
  refine hKz _ _ ⟨hc1, ?_⟩
  clear hKz Kz hi
  refine wpAnyH_all (rs := [4]) (by kernel_rfl) (by simp) ?_
  intro i hi; obtain rfl : i = 4 := by simpa using hi
  refine wpOp_step rfl (fun Kz hKz => ?_)
  rw [if_pos (by kernel_rfl)]
  go_simp
  go_at_call 25
  refine (mindsI rg0 n1 m2 (some ⟨gOX, 0, none⟩) m2.lg.length t1 (OX.later hc1).view.2 (by omega)).mono ?_
  rintro e t2 ⟨rfl, kq⟩
  rw [hO.out]
  have hc2 : Below wd2.heap.size wd2 t2 := hc1.trans (kq.mono hc1.size)
  clear kq
  refine hKz _ _ ⟨hc2, ?_⟩
  clear hKz Kz hi
  refine takeW 5 10 (.bool o) rfl rfl (by kernel_rfl) (by kernel_rfl) (by kernel_rfl) (fun _ _ _ h => h) (by kernel_rfl) (by (intro w hSw; go_simp)) (by assumption) ?_
  simp only [List.set_cons_zero, List.set_cons_succ]
  refine wpAnyH_done (by kernel_rfl) ?_ _
  have st2 := hc2.size
  have A0 := A0.below hc2 A0.lt
  have A2 := A2.below hc2 A2.lt
  have AX := AX.below hc2 AX.lt
  have V2 := V2.below hc2 (V2.lt ikEnc_len (by omega))
  have OX := OX.later hc2
  have BW := BW.trans (hc2.mono BW.size)
  clear hc2
  clear hc0 hc1
  go_upto_region 10 with fail
  refine wp_region_held (S := fun Y => Below t2.heap.size t2 Y) (by kernel_rfl) ?_
  change wpAnyH _ _ _ _ _ _ _ _ (World.drew _)
  have hz0 : Below t2.heap.size t2 t2.drew := (Below.refl _ _).drew
  obtain ⟨z0, hy0⟩ : ∃ y_, y_ = t2.drew := ⟨_, rfl⟩
  rw [← hy0] at hz0 ⊢
  clear hy0
  refine takeW 0 32 (.agg #[.bool m2.up, .int .i64 m2.li, .int .i64 m2.ep, .slice (some ⟨gOX, 0, none⟩) m2.lg.length m2.lg.length, .int .i64 m2.sd, .int .i64 m2.ac, .int .i64 m2.al]) rfl rfl (by kernel_rfl) (by kernel_rfl) (by kernel_rfl) (fun _ _ _ h => h) (by kernel_rfl) (by (intro Y hSw; obtain ⟨X0, X1, X2, X3, X4, X5, X6⟩ := AX.below hSw AX.lt; go_simp)) (by assumption) ?_
  simp only [List.set_cons_zero, List.set_cons_succ]
  refine takeW 1 33 (.agg #[.bool m2.up, .int .i64 m2.li, .int .i64 m2.ep, .slice ad2 m2.lg.length cap2, .int .i64 m2.sd, .int .i64 m2.ac, .int .i64 m2.al]) rfl rfl (by kernel_rfl) (by kernel_rfl) (by kernel_rfl) (fun _ _ _ h => h) (by kernel_rfl) (by (intro Y hSw; obtain ⟨X0, X1, X2, X3, X4, X5, X6⟩ := A2.below hSw A2.lt; go_simp)) (by assumption) ?_
  simp only [List.set_cons_zero, List.set_cons_succ]
  refine wpAnyH_all (rs := [2]) (by kernel_rfl) (by simp) ?_
  intro i hi; obtain rfl : i = 2 := by simpa using hi
  refine wpOp_step rfl (fun Kz hKz => ?_)
  rw [if_pos (by kernel_rfl)]
  go_simp
  go_at_call 24
  refine (miTo m2 ad2 cap2 z0 (V2.below hz0 (V2.lt ikEnc_len (by omega))) hl).mono ?_
  rintro e z1 ⟨gz, rfl, _, _, oz, kq⟩
  have hz1 : Below t2.heap.size t2 z1 := hz0.trans (kq.mono hz0.size)
  clear kq
  refine hKz _ _ ⟨hz1, ?_⟩
  clear hKz Kz hi
  refine wpAnyH_all (rs := [3]) (by kernel_rfl) (by simp) ?_
  intro i hi; obtain rfl : i = 3 := by simpa using hi
  refine wpOp_step rfl (fun Kz hKz => ?_)
  rw [if_pos (by kernel_rfl)]
  go_simp
  go_at_call 26
  refine (miEq m2 (some ⟨gOX, 0, none⟩) (some ⟨gz, 0, none⟩) m2.lg.length m2.lg.length z1 (OX.later hz1).view.2 oz.view.2 hl).mono ?_
  rintro e z2 ⟨rfl, kq⟩
  have hz2 : Below t2.heap.size t2 z2 := hz1.trans (kq.mono hz1.size)
  clear kq
  refine hKz _ _ ⟨hz2, ?_⟩
  clear hKz Kz hi
  refine takeW 4 36 (.bool false) rfl rfl (by kernel_rfl) (by kernel_rfl) (by kernel_rfl) (fun _ _ _ h => h) (by kernel_rfl) (by (intro w hSw; go_simp)) (by assumption) ?_
  simp only [List.set_cons_zero, List.set_cons_succ]
  refine wpAnyH_done (by kernel_rfl) ?_ _
  have su2 := hz2.size
  have A0 := A0.below hz2 A0.lt
  have A2 := A2.below hz2 A2.lt
  have AX := AX.below hz2 AX.lt
  have V2 := V2.below hz2 (V2.lt ikEnc_len (by omega))
  have OX := OX.later hz2
  have BW := BW.trans (hz2.mono BW.size)
  clear hz2
  clear hz0 hz1 oz
  go_wp2
  go_ret
  exact ⟨rfl, BW⟩


set_option maxRecDepth 100000 in
theorem lifted (os : Os) (started : os.Started) (H : Type) (enc : TypeId × Value → H) :
    ReturnsInHanded {} Try.checked os 5 .any (Rows.fnExactMindsSpec.pre6 enc Try.prog Try.f5 Rows.fnExactMindsRow.domain false) (Rows.fnExactMindsSpec.post enc Try.prog Try.f5 false true false false) := by
  refine returnsInHanded_of_change (C := Try.checked) own started (by kernel_rfl) Try.func5
    (ChangeSpec.witness6 (enc := enc) (C := Try.checked) false ⟨#[], #[.agg #[.int .i64 0, .int .i64 0, .int .i64 0], .int .i64 0, .agg #[.bool false, .int .i64 0, .int .i64 0, .slice none 0 0, .int .i64 0, .int .i64 0, .int .i64 0]], []⟩ 8 (by kernel_rfl) (by kernel_rfl) (by kernel_rfl) (by kernel_rfl)) ?_
  intro W base args ds gs before hval0 hW hcnd _
  have hval : ∀ (j : Nat) t v, Try.f5.params[j]? = some t → args[j]? = some v → Value.okWide Try.prog W .any base t v := hval0
  have hW' := hW
  obtain ⟨p, q, hA0, hV, rfl, hfz, hnd⟩ := hW
  have hA : DataW.TrodAll enc Try.prog W 0 (fun _ => true) true Try.f5.params.toList args.toList ds p := hA0
  rw [Try.params5] at hA hval
  obtain ⟨v0, vs0, d0, ds0, p0, q0, hargs, rfl, rfl, h0, r0⟩ := trodAll_cons hA
  obtain ⟨v1, vs1, d1, ds1, p1, q1, rfl, rfl, rfl, h1, r1⟩ := trodAll_cons r0
  obtain ⟨v2, vs2, d2, ds2, p2, q2, rfl, rfl, rfl, h2, r2⟩ := trodAll_cons r1
  obtain ⟨rfl, rfl, rfl⟩ := trodAll_nil r2
  obtain rfl : args = #[v0, v1, v2] := by cases args; simp_all
  obtain ⟨rfl, rfl⟩ := trodVars_none hV
  obtain ⟨rg0, rfl, I0⟩ := rgIn_open (hval 0 42 v0 rfl rfl) h0
  have lt0 : ∀ x ∈ p0, x.block < W.heap.size := by obtain ⟨m, hm⟩ := h0; exact DataW.trod_lt m _ _ _ hm
  obtain ⟨n1, rfl, I1⟩ := intIn_open (hval 1 3 v1 rfl rfl) h1
  have lt1 : ∀ x ∈ p1, x.block < W.heap.size := by obtain ⟨m, hm⟩ := h1; exact DataW.trod_lt m _ _ _ hm
  obtain ⟨m2, ad2, cap2, rfl, I2⟩ := miIn_open (hval 2 49 v2 rfl rfl) h2
  have lt2 : ∀ x ∈ p2, x.block < W.heap.size := by obtain ⟨m, hm⟩ := h2; exact DataW.trod_lt m _ _ _ hm
  clear hA0 hval0
  refine (walk rg0 n1 m2 ad2 cap2 W I0 I1 I2).mono fun e W' ⟨he, bel⟩ => ?_
  subst he
  exact ⟨_, rfl, _, _, _, [], _, [], hW', trodAll_mk1 (shut_bool Try.underlying4 _), (trodAll_cons_mk (Below.trod laidOut (by kernel_rfl) (of_decide_eq_true (by kernel_rfl)) h0 bel lt0) (trodAll_cons_mk (Below.trod laidOut (by kernel_rfl) (of_decide_eq_true (by kernel_rfl)) h1 bel lt1) (trodAll_cons_mk (Below.trod laidOut (by kernel_rfl) (of_decide_eq_true (by kernel_rfl)) h2 bel lt2) trodAll_mk0))), rfl, bel.frame _, fun h => by cases h⟩

theorem over : Rows.fnExactMindsRow.holds Try.pinned (OpenSpec.ofChange Rows.fnExactMindsSpec) :=
  OpenClaim.holds_of_wide 5 Try.f5 rfl rfl rfl rfl rfl rfl rfl ⟨rfl, rfl, rfl, rfl, rfl⟩ rfl rfl rfl rfl rfl (by kernel_rfl) Try.func5 (by kernel_rfl)
    (of_decide_eq_true (by kernel_rfl)) (by unfold Func.isWrapper; first | (rw [if_pos (by decide +kernel)]; kernel_rfl) | (rw [if_neg (by decide +kernel)]; exact ⟨rfl, rfl⟩))
    (fun os started H enc _ => lifted os started H enc)

theorem proved : Rows.FnExactMindsSaid := over
end Go.Proofs.Ytplejmkbdonkpaa.fnExactMinds
namespace Go.Proofs.Ytplejmkbdonkpaa
theorem minds_holds : Rows.FnExactMindsSaid := fnExactMinds.proved
#print axioms minds_holds
end Go.Proofs.Ytplejmkbdonkpaa
