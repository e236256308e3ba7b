/- impl.Note, walked. -/
import Derived.Test.YtghmmcenjdbfgabRows
import Derived.WalkKit
import Derived.ProofKit
import Derived.OpenShut
import Derived.ShutString
import Derived.ChangeOld
import Derived.Below
import Derived.Deep.QuietTactic
import Derived.BigQuiet
import Derived.WalkSmall
import Derived.Laws.OwnMore
import Derived.WalkSpells
import Derived.WalkLawsBesides
import Derived.Deep.Cut
import Derived.Test.YtghmmcenjdbfgabMg9
import Derived.Test.YtghmmcenjdbfgabMg5
namespace Go.Proofs.Ytghmmcenjdbfgab
open Go.ChangeShapes Go.WideShapes Go.ChangeAt Go.RowKit
open Go.ChangeMaps (open_string shut_string)
set_option linter.unusedVariables false
set_option maxRecDepth 100000

theorem note_is (m : Mi) (x : Ik) : noteB m x = miOk (noteM m x) := by
  unfold noteB
  cases hU : m.up with
  | true => rfl
  | false =>
    have h : miOk (noteM m x) = false := by
      rw [Bool.eq_false_iff]
      intro e
      unfold miOk noteM at e
      rw [hU] at e
      simp at e
    rw [h]; rfl
set_option maxHeartbeats 4000000 in
theorem noteI (m : Mi) (x : Ik) (ad : Option Addr) (cap : Nat) (w : World) (hv : FView ikEnc w ad m.lg) (hl : m.lg.length ≤ 1048576) :
    Calls Try.prog 19 #[.agg #[.bool m.up, .int .i64 m.li, .int .i64 m.ep, .slice ad m.lg.length cap, .int .i64 m.sd, .int .i64 m.ac, .int .i64 m.al], .agg #[.int .i64 x.k, .int .i64 x.q, .int .i64 x.r, .int .i64 x.c, .int .i64 x.b, .int .i64 x.p, .int .i64 x.h, .bool x.up]] w fun e w' => ∃ a c, e = .returned (.tuple #[.agg #[.bool (noteR m x).up, .int .i64 (noteR m x).li, .int .i64 (noteR m x).ep, .slice a (noteR m x).lg.length c, .int .i64 (noteR m x).sd, .int .i64 (noteR m x).ac, .int .i64 (noteR m x).al], .bool (noteB m x)]) ∧ FOwn ikEnc 8 53 w.heap.size w' (.slice a (noteR m x).lg.length c) (noteR m x).lg ∧ Below w.heap.size w w' := by
  have hB := hv.lt ikEnc_len (by omega)
  obtain ⟨y, hy⟩ : ∃ y, y = ((w.alloc (Obj.cells #[.bool m.up, .int .i64 m.li, .int .i64 m.ep, .slice ad m.lg.length cap, .int .i64 m.sd, .int .i64 m.ac, .int .i64 m.al] 47)).alloc (Obj.cells #[.int .i64 x.k, .int .i64 x.q, .int .i64 x.r, .int .i64 x.c, .int .i64 x.b, .int .i64 x.p, .int .i64 x.h, .bool x.up] 53)).alloc (Obj.cells #[.bool false, .int .i64 0, .int .i64 0, .slice none 0 0, .int .i64 0, .int .i64 0, .int .i64 0] 47) := ⟨_, rfl⟩
  have B0 : Below w.heap.size w y := by rw [hy]; exact (((Below.refl _ _).alloc (Nat.le_refl _) _).alloc (by simp) _).alloc (by simp; omega) _
  have A0 : MiAt y w.heap.size m (.slice ad m.lg.length cap) := by rw [hy]; constructor <;> simp [go_sem]
  have X0 : InAt y (w.heap.size + 1) x := by rw [hy]; constructor <;> simp [go_sem]
  have A1 : MiBox y (w.heap.size + 1 + 1) ⟨false, 0, 0, [], 0, 0, 0⟩ (.slice none 0 0) := by rw [hy]; constructor <;> simp [go_sem]
  have S0 := A1.lt
  have hv1 := hv.below B0 hB
  clear hv hB
  have HV : ∀ a, ad = some a → 0 < m.lg.length → a.block < y.heap.size := hv1.lt ikEnc_len (by omega)
  go_enter Try.func19, Try.ntmps19
  have cc := A0
  obtain ⟨x0, x1, x2, x3, x4, x5, x6⟩ := cc
  go_wp2_with fail
  go_at_call 34
  rw [← hy]
  clear hy x0 x1 x2 x3 x4 x5 x6
  refine (mindOf m ad cap y hv1 (by omega)).mono ?_
  rintro e u1 ⟨q, a1, c1, rfl, M1, O1, lo1, lq1, k1⟩
  have B1 := B0.trans (k1.mono B0.size)
  have A0 := A0.below k1 A0.lt
  have X0 := X0.below k1 X0.lt
  have A1 := A1.below k1 A1.lt
  have hv1 := hv1.below k1 (hv1.lt ikEnc_len (by omega))
  have s1 := k1.size
  clear k1 B0
  go_upto_region 2 with fail
  refine wp_region_held (S := fun Y => Below y.heap.size u1 Y) (by kernel_rfl) ?_
  change wpAnyH _ _ _ _ _ _ _ _ (World.drew _)
  have hb0 : Below u1.heap.size u1 u1.drew := (Below.refl _ _).drew
  obtain ⟨u0, hy0'⟩ : ∃ y_, y_ = u1.drew := ⟨_, rfl⟩
  rw [← hy0'] at hb0 ⊢
  clear hy0'
  have hc0 : Below y.heap.size u1 u0 := hb0.mono s1
  have lx := S0
  refine takeW 0 10 (.pointer (some ⟨q, 0, none⟩)) rfl rfl (by kernel_rfl) (by kernel_rfl) (by kernel_rfl) (fun _ _ _ h => h) (by kernel_rfl) (by (intro w hSw; go_simp)) (by assumption) ?_
  simp only [List.set_cons_zero, List.set_cons_succ]
  refine takeW 1 11 (.pointer (some ⟨q, 0, none⟩)) rfl rfl (by kernel_rfl) (by kernel_rfl) (by kernel_rfl) (fun _ _ _ h => h) (by kernel_rfl) (by (intro w hSw; go_simp)) (by assumption) ?_
  simp only [List.set_cons_zero, List.set_cons_succ]
  refine takeW 2 12 (.pointer (some ⟨q, 0, none⟩)) rfl rfl (by kernel_rfl) (by kernel_rfl) (by kernel_rfl) (fun _ _ _ h => h) (by kernel_rfl) (by (intro w hSw; go_simp)) (by assumption) ?_
  simp only [List.set_cons_zero, List.set_cons_succ]
  refine takeW 3 13 (.agg #[.int .i64 x.k, .int .i64 x.q, .int .i64 x.r, .int .i64 x.c, .int .i64 x.b, .int .i64 x.p, .int .i64 x.h, .bool x.up]) rfl rfl (by kernel_rfl) (by kernel_rfl) (by kernel_rfl) (fun _ _ _ h => h) (by kernel_rfl) (by (intro Y hSw; obtain ⟨X0_, X1_, X2_, X3_, X4_, X5_, X6_, X7_⟩ := X0.below hSw (by omega); go_simp)) (by assumption) ?_
  simp only [List.set_cons_zero, List.set_cons_succ]
  refine wpAnyH_all (rs := [4]) (by kernel_rfl) (by simp) ?_
  intro i hi; obtain rfl : i = 4 := by simpa using hi
  refine wpOp_step rfl (fun Kz hKz => ?_)
  rw [if_pos (by kernel_rfl)]
  go_simp
  go_at_call 35
  refine (writeI m x q _ a1 c1 u0 (M1.below hb0 M1.lt) (O1.later hb0) (fun g e => by have := lo1 g e; omega) (by omega) (by have := hb0.size; omega)).mono ?_
  rintro e u2 ⟨rfl, a2, c2, M2, O2, hq2, T2⟩
  have k2 : Below y.heap.size u1 u2 := hc0.trans (T2.below (by have := hb0.size; omega) (by omega) (fun g e => (O1.lt g e).1))
  clear T2 M1 O1 lo1 hb0 hc0
  refine hKz _ _ ⟨k2, ?_⟩
  clear hKz Kz hi
  refine wpAnyH_done (by kernel_rfl) ?_ _
  have B2 := B1.trans (k2.mono (by omega))
  have A0 := A0.below k2 (by omega)
  have A1 := A1.below k2 (by omega)
  have hv1 := hv1.below k2 (fun a e p => HV a e p)
  have s2 := k2.size
  clear k2 B1 X0
  go_wp2_with fail
  go_at_call 36
  refine (toldI12 (noteM m x) q a2 c2 u2 M2).mono ?_
  rintro e u3 ⟨rfl, k3⟩
  have B3 := B2.trans (k3.mono B2.size)
  have A0 := A0.below k3 A0.lt
  have A1 := A1.below k3 A1.lt
  have hv1 := hv1.below k3 (hv1.lt ikEnc_len (by omega))
  have O2 := O2.later k3
  have s3 := k3.size
  clear k3 B2 M2 hq2
  obtain ⟨u4, hu4⟩ : ∃ u4, u4 = u3.alloc (Obj.cells #[.bool (noteM m x).up, .int .i64 (noteM m x).li, .int .i64 (noteM m x).ep, .slice a2 (noteM m x).lg.length c2, .int .i64 (noteM m x).sd, .int .i64 (noteM m x).ac, .int .i64 (noteM m x).al] 47) := ⟨_, rfl⟩
  have k4 : Below u3.heap.size u3 u4 := by rw [hu4]; exact below_new _
  have N : MiAt u4 u3.heap.size (noteM m x) (.slice a2 (noteM m x).lg.length c2) := by rw [hu4]; exact MiAt.new u3 _ _ _
  have B4 := B3.trans (k4.mono B3.size)
  have A0 := A0.below k4 A0.lt
  have A1 := A1.below k4 A1.lt
  have hv1 := hv1.below k4 (hv1.lt ikEnc_len (by omega))
  have O2 := O2.later k4
  have s4 := k4.size
  go_upto_region 4 with fail
  rw [← hu4]
  clear hu4 k4 B3
  have cc := N
  obtain ⟨n0, n1, n2, n3, n4, n5, n6⟩ := cc
  go_wp2_with fail
  go_at_call 37
  clear n0 n1 n2 n3 n4 n5 n6
  refine (miOkI (noteM m x) a2 c2 u4 O2.view.2 (by show (m.lg ++ [x]).length ≤ _; simp; omega)).mono ?_
  rintro e u5 ⟨rfl, k5⟩
  have B5 := B4.trans (k5.mono B4.size)
  have A0 := A0.below k5 A0.lt
  have A1 := A1.below k5 A1.lt
  have hv1 := hv1.below k5 (hv1.lt ikEnc_len (by omega))
  have O2 := O2.later k5
  have N := N.below k5 N.lt
  have s5 := k5.size
  clear k5 B4
  have hM : Hid (noteB m x = miOk (noteM m x)) := note_is m x
  cases hO : miOk (noteM m x)
  · have hNB : Hid (noteB m x = false) := by unfold Hid; rw [hM.out, hO]
    have hNR : Hid (noteR m x = m) := note_not hNB.out
    have cc := A0
    obtain ⟨x0, x1, x2, x3, x4, x5, x6⟩ := cc
    clear hO
    go_wp2_with fail
    go_at_call 34
    clear x0 x1 x2 x3 x4 x5 x6
    refine (mindOf m ad cap u5 hv1 (by omega)).mono ?_
    rintro e u6 ⟨q6, a3, c3, rfl, M6, O3, _, _, k6⟩
    have B6 := B5.trans (k6.mono B5.size)
    have A1 := A1.below k6 A1.lt
    have s6 := k6.size
    clear k6 B5
    go_wp2_with fail
    go_at_call 36
    refine (toldI12 m q6 a3 c3 u6 M6).mono ?_
    rintro e u7 ⟨rfl, k7⟩
    have B7 := B6.trans (k7.mono B6.size)
    have A1 := A1.below k7 A1.lt
    have O3 := O3.later k7
    have s7 := k7.size
    clear k7 B6 M6
    have B9 := below_put7 (q := w.heap.size + 1 + 1) m (.slice a3 m.lg.length c3) B7 (by omega)
    have O9 := (O3.base (base' := w.heap.size) (by omega)).keep (fun g e => heap_put7 u7 (w.heap.size + 1 + 1) g m (.slice a3 m.lg.length c3) (by have := (O3.lt g e).1; omega))
    obtain ⟨z0, z1, z2, z3, z4, z5, z6, zf⟩ := A1
    have g0 := zf 0
    have g1 := zf 1
    have g2 := zf 2
    have g3 := zf 3
    have g4 := zf 4
    have g5 := zf 5
    have g6 := zf 6
    clear zf
    go_wp2
    refine bodyPost_ret (v := .tuple #[.agg #[.bool m.up, .int .i64 m.li, .int .i64 m.ep, .slice a3 m.lg.length c3, .int .i64 m.sd, .int .i64 m.ac, .int .i64 m.al], .bool false]) (by simp [results, Try.results19, go_sem, *]) rfl ⟨a3, c3, by rw [hNR.out, hNB.out], by rw [hNR.out]; exact O9, B9⟩
  · have hNB : Hid (noteB m x = true) := by unfold Hid; rw [hM.out, hO]
    have hNR : Hid (noteR m x = (noteM m x)) := by unfold Hid noteR; rw [if_pos hNB.out]
    clear hO
    obtain ⟨n0, n1, n2, n3, n4, n5, n6⟩ := N
    have B9 := below_put7 (q := w.heap.size + 1 + 1) (noteM m x) (.slice a2 (noteM m x).lg.length c2) B5 (by omega)
    have O9 := (O2.base (base' := w.heap.size) (by omega)).keep (fun g e => heap_put7 u5 (w.heap.size + 1 + 1) g (noteM m x) (.slice a2 (noteM m x).lg.length c2) (by have := (O2.lt g e).1; omega))
    obtain ⟨z0, z1, z2, z3, z4, z5, z6, zf⟩ := A1
    have g0 := zf 0
    have g1 := zf 1
    have g2 := zf 2
    have g3 := zf 3
    have g4 := zf 4
    have g5 := zf 5
    have g6 := zf 6
    clear zf
    go_wp2
    refine bodyPost_ret (v := .tuple #[.agg #[.bool (noteM m x).up, .int .i64 (noteM m x).li, .int .i64 (noteM m x).ep, .slice a2 (noteM m x).lg.length c2, .int .i64 (noteM m x).sd, .int .i64 (noteM m x).ac, .int .i64 (noteM m x).al], .bool true]) (by simp [results, Try.results19, go_sem, *]) rfl ⟨a2, c2, by rw [hNR.out, hNB.out], by rw [hNR.out]; exact O9, B9⟩

end Go.Proofs.Ytghmmcenjdbfgab
