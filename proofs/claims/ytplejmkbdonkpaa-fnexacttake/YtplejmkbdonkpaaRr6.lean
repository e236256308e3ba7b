/- impl.Take, walked. -/
import Derived.Test.YtplejmkbdonkpaaRows
import Derived.WalkKit
import Derived.ProofKit
import Derived.OpenShut
import Derived.ShutString
import Derived.ChangeOld
import Derived.Below
import Derived.Deep.QuietTactic
import Derived.BigQuiet
import Derived.WalkSmall
import Derived.Laws.OwnMore
import Derived.WalkSpells
import Derived.WalkLawsBesides
import Derived.Deep.Cut
import Derived.Conc.MuLone
import Derived.Test.YtplejmkbdonkpaaRr4
import Derived.Test.YtplejmkbdonkpaaRg4
import Derived.Test.YtplejmkbdonkpaaMg9
namespace Go.Proofs.Ytplejmkbdonkpaa
open Go.ChangeShapes Go.WideShapes Go.ChangeAt Go.RowKit
open Go.ChangeMaps (open_string shut_string)
set_option linter.unusedVariables false
set_option maxRecDepth 100000

theorem takeB_is (r : Rg) (s : Int) (m : Mi) : takeB r s m = (rgOk r && (miOk m && (m.up && (handB r s m.li && rgOk (takeN r s))))) := by
  rw [Bool.eq_iff_iff]
  unfold takeB handB
  simp only [Bool.and_eq_true, decide_eq_true_eq]
  constructor
  · rintro ⟨h, h8, h9⟩
    obtain ⟨h1, h2, h3, h4, h5, h6, h7⟩ := takeG_is.1 h
    exact ⟨h1, h2, h3, ⟨h5, h6, h7⟩, h8⟩
  · rintro ⟨h1, h2, h3, ⟨h5, h6, h7⟩, h8⟩
    obtain ⟨e1, e2, e3⟩ := rgOk_is.1 h8
    refine ⟨takeG_is.2 ⟨h1, h2, h3, e2, h5, h6, h7⟩, h8, ?_⟩
    obtain ⟨m1, m2, m3, m4, m5, m6, m7⟩ := miOk_iff.1 h2
    refine miOk_iff.2 ⟨m1, ?_, ?_, m4, m5, ?_, Or.inl h3⟩
    · have : (takeN r s).ep = r.ep + 1 := rfl
      have h0 := (rgOk_is.1 h1).1
      show numB (r.ep + 1) = true
      unfold numB
      rw [this] at e1
      simp only [decide_eq_true_eq]
      omega
    · rfl
    · exact ⟨Int.le_refl 0, Int.natCast_nonneg _⟩
set_option maxHeartbeats 8000000 in
theorem takeIp (r : Rg) (s : Int) (m : Mi) (ad : Option Addr) (cap : Nat) (w : World) (hv : FView ikEnc w ad m.lg) (hl : m.lg.length ≤ 1048577) :
    Calls Try.prog 28 #[.agg #[.int .i64 r.ep, .int .i64 r.ow, .int .i64 r.pa], .int .i64 s, .agg #[.bool m.up, .int .i64 m.li, .int .i64 m.ep, .slice ad m.lg.length cap, .int .i64 m.sd, .int .i64 m.ac, .int .i64 m.al]] w fun e w' => ∃ a c, e = .returned (.tuple #[.agg #[.int .i64 (takeR r s m).ep, .int .i64 (takeR r s m).ow, .int .i64 (takeR r s m).pa], .agg #[.bool (takeMm r s m).up, .int .i64 (takeMm r s m).li, .int .i64 (takeMm r s m).ep, .slice a m.lg.length c, .int .i64 (takeMm r s m).sd, .int .i64 (takeMm r s m).ac, .int .i64 (takeMm r s m).al], .bool (takeB r s m)]) ∧ FOwn ikEnc 8 30 w.heap.size w' (.slice a m.lg.length c) m.lg ∧ Below w.heap.size w w' := by
  have hB := hv.lt ikEnc_len (by omega)
  obtain ⟨y, hy⟩ : ∃ y, y = (((w.alloc (Obj.cells #[.int .i64 r.ep, .int .i64 r.ow, .int .i64 r.pa] 44)).alloc (Obj.cells #[.bool m.up, .int .i64 m.li, .int .i64 m.ep, .slice ad m.lg.length cap, .int .i64 m.sd, .int .i64 m.ac, .int .i64 m.al] 26)).alloc (Obj.cells #[.int .i64 0, .int .i64 0, .int .i64 0] 44)).alloc (Obj.cells #[.bool false, .int .i64 0, .int .i64 0, .slice none 0 0, .int .i64 0, .int .i64 0, .int .i64 0] 26) := ⟨_, rfl⟩
  have B0 : Below w.heap.size w y := by rw [hy]; exact ((((Below.refl _ _).alloc (Nat.le_refl _) _).alloc (by simp) _).alloc (by simp; omega) _).alloc (by simp; omega) _
  have A : RgBox y w.heap.size r := by rw [hy]; refine ⟨?_, fun i => ?_⟩; constructor <;> simp [go_sem]; simp [go_sem]
  have M : MiAt y (w.heap.size + 1) m (.slice ad m.lg.length cap) := by rw [hy]; constructor <;> simp [go_sem]
  have Z2 : RgBox y (w.heap.size + 1 + 1) ⟨0, 0, 0⟩ := by rw [hy]; refine ⟨?_, fun i => ?_⟩; constructor <;> simp [go_sem]; simp [go_sem]
  have Z3 : MiBox y (w.heap.size + 1 + 1 + 1) ⟨false, 0, 0, [], 0, 0, 0⟩ (.slice none 0 0) := by rw [hy]; constructor <;> simp [go_sem]
  have S0 := Z3.lt
  have hv1 := hv.below B0 hB
  have HV : ∀ a, ad = some a → 0 < m.lg.length → a.block < y.heap.size := hv1.lt ikEnc_len (by omega)
  clear hv hB
  go_enter Try.func28, Try.ntmps28
  go_upto_region 1 with fail
  rw [← hy]
  clear hy
  refine wp_region_held (S := fun Y => Below y.heap.size y Y) (by kernel_rfl) ?_
  change wpAnyH _ _ _ _ _ _ _ _ (World.drew _)
  have kd : Below y.heap.size y y.drew := (Below.refl _ _).drew
  obtain ⟨u0, hu0⟩ : ∃ y_, y_ = y.drew := ⟨_, rfl⟩
  rw [← hu0] at kd ⊢
  clear hu0
  have hb0 := kd
  refine takeW 0 12 (.agg #[.int .i64 r.ep, .int .i64 r.ow, .int .i64 r.pa]) rfl rfl (by kernel_rfl) (by kernel_rfl) (by kernel_rfl) (fun _ _ _ h => h) (by kernel_rfl) (by (intro Y hSw; obtain ⟨⟨X0, X1, X2⟩, _⟩ := A.below hSw A.lt; go_simp)) (by assumption) ?_
  simp only [List.set_cons_zero, List.set_cons_succ]
  refine takeW 2 14 (.agg #[.bool m.up, .int .i64 m.li, .int .i64 m.ep, .slice ad m.lg.length cap, .int .i64 m.sd, .int .i64 m.ac, .int .i64 m.al]) rfl rfl (by kernel_rfl) (by kernel_rfl) (by kernel_rfl) (fun _ _ _ h => h) (by kernel_rfl) (by (intro Y hSw; obtain ⟨X0, X1, X2, X3, X4, X5, X6⟩ := M.below hSw M.lt; go_simp)) (by assumption) ?_
  simp only [List.set_cons_zero, List.set_cons_succ]
  refine wpAnyH_all (rs := [1]) (by kernel_rfl) (by simp) ?_
  intro i hi; obtain rfl : i = 1 := by simpa using hi
  refine wpOp_step rfl (fun Kz hKz => ?_)
  rw [if_pos (by kernel_rfl)]
  go_simp
  go_at_call 50
  refine (regOfI r u0).mono ?_
  rintro e u1 ⟨qg, rfl, G, lg, k1⟩
  have hb1 : Below y.heap.size y u1 := hb0.trans (k1.mono hb0.size)
  have su0 := hb0.size
  have su1 := k1.size
  have gl := G.lt
  clear k1
  refine hKz _ _ ⟨hb1, ?_⟩
  clear hKz Kz hi
  refine wpAnyH_all (rs := [3]) (by kernel_rfl) (by simp) ?_
  intro i hi; obtain rfl : i = 3 := by simpa using hi
  refine wpOp_step rfl (fun Kz hKz => ?_)
  rw [if_pos (by kernel_rfl)]
  go_simp
  go_at_call 37
  refine (mindOf m ad cap u1 (hv1.below hb1 (hv1.lt ikEnc_len (by omega))) hl).mono ?_
  rintro e u2 ⟨qk, a1, c1, rfl, K, O1, lo1, lqk, k2⟩
  have hb2 : Below y.heap.size y u2 := hb1.trans (k2.mono hb1.size)
  have G := G.below k2 G.lt
  have su2 := k2.size
  clear k2
  refine hKz _ _ ⟨hb2, ?_⟩
  clear hKz Kz hi
  refine takeW 4 9 (.pointer (some ⟨qg, 0, none⟩)) rfl rfl (by kernel_rfl) (by kernel_rfl) (by kernel_rfl) (fun _ _ _ h => h) (by kernel_rfl) (by (intro w hSw; go_simp)) (by assumption) ?_
  simp only [List.set_cons_zero, List.set_cons_succ]
  refine takeW 5 10 (.pointer (some ⟨qk, 0, none⟩)) rfl rfl (by kernel_rfl) (by kernel_rfl) (by kernel_rfl) (fun _ _ _ h => h) (by kernel_rfl) (by (intro w hSw; go_simp)) (by assumption) ?_
  simp only [List.set_cons_zero, List.set_cons_succ]
  refine wpAnyH_done (by kernel_rfl) ?_ _
  have A := A.below hb2 A.lt
  have M := M.below hb2 M.lt
  have Z2 := Z2.below hb2 Z2.lt
  have Z3 := Z3.below hb2 Z3.lt
  have hv1 := hv1.below hb2 HV
  have HV : ∀ a, ad = some a → 0 < m.lg.length → a.block < y.heap.size := HV
  have B2 := B0.trans (hb2.mono B0.size)
  have ob := fun g e => O1.lt g e
  have gq : qg < qk := by omega
  have yq : y.heap.size < qg := by omega
  clear hb0 hb1 hb2 kd su0 lg lqk B0
  have cc := A
  obtain ⟨⟨x0, x1, x2⟩, xf⟩ := cc
  go_wp2_with fail
  go_at_call 21
  clear x0 x1 x2 xf
  refine (regOkI r u2).mono ?_
  rintro e u3 ⟨rfl, k3⟩
  have A := A.below k3 A.lt
  have M := M.below k3 M.lt
  have Z2 := Z2.below k3 Z2.lt
  have Z3 := Z3.below k3 Z3.lt
  have G := G.below k3 G.lt
  have K := K.below k3 K.lt
  have O1 := O1.later k3
  have hv1 := hv1.below k3 (hv1.lt ikEnc_len (by omega))
  have B3 := B2.trans (k3.mono B2.size)
  have s3 := k3.size
  clear k3 B2
  cases h1 : rgOk r
  · have hT : Hid (takeB r s m = false) := by unfold Hid; rw [takeB_is]; rw [h1]; rfl
    have hTR : Hid (takeR r s m = r) := by unfold Hid takeR; rw [hT.out]; rfl
    have hTM : Hid (takeMm r s m = m) := by unfold Hid takeMm; rw [hT.out]; rfl
    clear h1
    have s9 : w.heap.size ≤ u3.heap.size := B3.size
    go_upto_region 7 with fail
    refine wp_region_held (S := fun Y => RgAt Y w.heap.size r ∧ MiAt Y (w.heap.size + 1) m (.slice ad m.lg.length cap)) (by kernel_rfl) ?_
    change wpAnyH _ _ _ _ _ _ _ _ (World.drew _)
    have kd : Below u3.heap.size u3 u3.drew := (Below.refl _ _).drew
    obtain ⟨u0, hu0⟩ : ∃ y_, y_ = u3.drew := ⟨_, rfl⟩
    rw [← hu0] at kd ⊢
    clear hu0
    have hs0 : RgAt u0 w.heap.size r ∧ MiAt u0 (w.heap.size + 1) m (.slice ad m.lg.length cap) := ⟨A.at_.below kd A.at_.lt, M.below kd M.lt⟩
    have Z2 := Z2.below kd Z2.lt
    have Z3 := Z3.below kd Z3.lt
    have Bd := B3.trans (kd.mono B3.size)
    have kds := kd.size
    refine takeW 0 44 (.agg #[.int .i64 r.ep, .int .i64 r.ow, .int .i64 r.pa]) rfl rfl (by kernel_rfl) (by kernel_rfl) (by kernel_rfl) (fun _ _ _ h => h) (by kernel_rfl) (by (intro Y hSw; obtain ⟨⟨X0, X1, X2⟩, _⟩ := hSw; go_simp)) (by assumption) ?_
    simp only [List.set_cons_zero, List.set_cons_succ]
    refine takeW 1 45 (.agg #[.bool m.up, .int .i64 m.li, .int .i64 m.ep, .slice ad m.lg.length cap, .int .i64 m.sd, .int .i64 m.ac, .int .i64 m.al]) rfl rfl (by kernel_rfl) (by kernel_rfl) (by kernel_rfl) (fun _ _ _ h => h) (by kernel_rfl) (by (intro Y hSw; obtain ⟨_, X0, X1, X2, X3, X4, X5, X6⟩ := hSw; go_simp)) (by assumption) ?_
    simp only [List.set_cons_zero, List.set_cons_succ]
    refine wpAnyH_all (rs := [2]) (by kernel_rfl) (by simp) ?_
    intro i hi; obtain rfl : i = 2 := by simpa using hi
    refine wpOp_step rfl (fun Kz hKz => ?_)
    rw [if_pos (by kernel_rfl)]
    go_simp
    go_at_call 37
    refine (mindOf m ad cap u0 (hv1.below kd (hv1.lt ikEnc_len (by omega))) hl).mono ?_
    rintro e u1 ⟨q7, a7, c7, rfl, M7, O7, lo7, lq7, k7⟩
    have hs1 : RgAt u1 w.heap.size r ∧ MiAt u1 (w.heap.size + 1) m (.slice ad m.lg.length cap) := ⟨hs0.1.below k7 hs0.1.lt, hs0.2.below k7 hs0.2.lt⟩
    have Z2 := Z2.below k7 Z2.lt
    have Z3 := Z3.below k7 Z3.lt
    have Bd := Bd.trans (k7.mono Bd.size)
    clear k7 lo7 lq7
    refine hKz _ _ ⟨hs1, ?_⟩
    clear hKz Kz hi
    refine wpAnyH_all (rs := [3]) (by kernel_rfl) (by simp) ?_
    intro i hi; obtain rfl : i = 3 := by simpa using hi
    refine wpOp_step rfl (fun Kz hKz => ?_)
    rw [if_pos (by kernel_rfl)]
    go_simp
    go_at_call 39
    refine (toldI12 m q7 a7 c7 u1 M7).mono ?_
    rintro e u2 ⟨rfl, k8⟩
    have hs2 : RgAt u2 w.heap.size r ∧ MiAt u2 (w.heap.size + 1) m (.slice ad m.lg.length cap) := ⟨hs1.1.below k8 hs1.1.lt, hs1.2.below k8 hs1.2.lt⟩
    have Z2 := Z2.below k8 Z2.lt
    have Z3 := Z3.below k8 Z3.lt
    have O7 := O7.later k8
    have Bd := Bd.trans (k8.mono Bd.size)
    have lo := O7.lt
    clear k8 M7
    refine hKz _ _ ⟨hs2, ?_⟩
    clear hKz Kz hi
    refine wpAnyH_all (rs := [4]) (by kernel_rfl) (by simp) ?_
    intro i hi; obtain rfl : i = 4 := by simpa using hi
    refine wpOp_step rfl (fun Kz hKz => ?_)
    rw [if_pos (by kernel_rfl)]
    have cc := Z2
    obtain ⟨⟨z0, z1, z2⟩, zf⟩ := cc
    have g0 := zf 0
    have g1 := zf 1
    have g2 := zf 2
    go_simp
    clear z0 z1 z2 zf g0 g1 g2
    obtain ⟨t2, ht2⟩ : ∃ y_, y_ = (((u2.setCell ⟨w.heap.size + 1 + 1, 0, none⟩ (.int .i64 r.ep)).setCell ⟨w.heap.size + 1 + 1, 1, none⟩ (.int .i64 r.ow)).setCell ⟨w.heap.size + 1 + 1, 2, none⟩ (.int .i64 r.pa)) := ⟨_, rfl⟩
    have Q2 : RgBox t2 (w.heap.size + 1 + 1) r := by rw [ht2]; exact Z2.put r
    have kp : ∀ k, k ≠ w.heap.size + 1 + 1 → t2.heap[k]? = u2.heap[k]? := fun k hk => by rw [ht2]; exact heap_put3 _ _ _ r hk
    have hs8 := (⟨hs2.1.keep (kp _ (by omega)), hs2.2.keep (kp _ (by omega))⟩ : RgAt _ w.heap.size r ∧ MiAt _ (w.heap.size + 1) m (.slice ad m.lg.length cap))
    have Z3 := Z3.keep (kp _ (by omega))
    have O7 := O7.keep (fun g e => kp g (by have := lo g e; omega))
    have Bd : Below w.heap.size w t2 := by rw [ht2]; exact below_put3 r Bd (by omega)
    rw [← ht2]
    clear ht2 kp
    refine hKz _ _ ⟨hs8, ?_⟩
    clear hKz Kz hi
    refine wpAnyH_all (rs := [5]) (by kernel_rfl) (by simp) ?_
    intro i hi; obtain rfl : i = 5 := by simpa using hi
    refine wpOp_step rfl (fun Kz hKz => ?_)
    rw [if_pos (by kernel_rfl)]
    have cc := Z3
    obtain ⟨z0, z1, z2, z3, z4, z5, z6, zf⟩ := cc
    have g0 := zf 0
    have g1 := zf 1
    have g2 := zf 2
    have g3 := zf 3
    have g4 := zf 4
    have g5 := zf 5
    have g6 := zf 6
    go_simp
    clear z0 z1 z2 z3 z4 z5 z6 zf g0 g1 g2 g3 g4 g5 g6
    obtain ⟨t3, ht3⟩ : ∃ y_, y_ = (((((((t2.setCell ⟨w.heap.size + 1 + 1 + 1, 0, none⟩ (.bool m.up)).setCell ⟨w.heap.size + 1 + 1 + 1, 1, none⟩ (.int .i64 m.li)).setCell ⟨w.heap.size + 1 + 1 + 1, 2, none⟩ (.int .i64 m.ep)).setCell ⟨w.heap.size + 1 + 1 + 1, 3, none⟩ (.slice a7 m.lg.length c7)).setCell ⟨w.heap.size + 1 + 1 + 1, 4, none⟩ (.int .i64 m.sd)).setCell ⟨w.heap.size + 1 + 1 + 1, 5, none⟩ (.int .i64 m.ac)).setCell ⟨w.heap.size + 1 + 1 + 1, 6, none⟩ (.int .i64 m.al)) := ⟨_, rfl⟩
    have Q3 : MiBox t3 (w.heap.size + 1 + 1 + 1) m (.slice a7 m.lg.length c7) := by rw [ht3]; exact Z3.put m _
    have kp : ∀ k, k ≠ w.heap.size + 1 + 1 + 1 → t3.heap[k]? = t2.heap[k]? := fun k hk => by rw [ht3]; exact heap_put7 _ _ _ m _ hk
    have hs9 := (⟨hs8.1.keep (kp _ (by omega)), hs8.2.keep (kp _ (by omega))⟩ : RgAt _ w.heap.size r ∧ MiAt _ (w.heap.size + 1) m (.slice ad m.lg.length cap))
    have Q2 := Q2.keep (kp _ (by omega))
    have O7 := O7.keep (fun g e => kp g (by have := lo g e; omega))
    have Bd : Below w.heap.size w t3 := by rw [ht3]; exact below_put7 m _ Bd (by omega)
    rw [← ht3]
    clear ht3 kp
    refine hKz _ _ ⟨hs9, ?_⟩
    clear hKz Kz hi
    refine takeW 6 8 (.bool false) rfl rfl (by kernel_rfl) (by kernel_rfl) (by kernel_rfl) (fun _ _ _ h => h) (by kernel_rfl) (by (intro w hSw; go_simp)) (by assumption) ?_
    simp only [List.set_cons_zero, List.set_cons_succ]
    refine wpAnyH_done (by kernel_rfl) ?_ _
    have OZ := O7.base (base' := w.heap.size) (by omega)
    obtain ⟨⟨q0, q1, q2⟩, qf⟩ := Q2
    obtain ⟨p0, p1, p2, p3, p4, p5, p6, pf⟩ := Q3
    clear qf pf hs9 O7
    go_wp2
    refine bodyPost_ret (v := .tuple #[.agg #[.int .i64 r.ep, .int .i64 r.ow, .int .i64 r.pa], .agg #[.bool m.up, .int .i64 m.li, .int .i64 m.ep, .slice a7 m.lg.length c7, .int .i64 m.sd, .int .i64 m.ac, .int .i64 m.al], .bool false]) (by simp [results, Try.results28, go_sem, *]) rfl ⟨a7, c7, by rw [hTR.out, hTM.out, hT.out], OZ, Bd⟩
  · have hre := (rgOk_is.1 h1).1
    obtain ⟨hre0, hre1⟩ := hre
    replace h1 : Hid _ := h1
    have cc := M
    obtain ⟨n0, n1, n2, n3, n4, n5, n6⟩ := cc
    go_wp2_with fail
    go_at_call 17
    clear n0 n1 n2 n3 n4 n5 n6
    refine (miOkI m ad cap u3 hv1 hl).mono ?_
    rintro e u4 ⟨rfl, k4⟩
    have A := A.below k4 A.lt
    have M := M.below k4 M.lt
    have Z2 := Z2.below k4 Z2.lt
    have Z3 := Z3.below k4 Z3.lt
    have G := G.below k4 G.lt
    have K := K.below k4 K.lt
    have O1 := O1.later k4
    have hv1 := hv1.below k4 (hv1.lt ikEnc_len (by omega))
    have B4 := B3.trans (k4.mono B3.size)
    have s4 := k4.size
    clear k4 B3
    cases h2 : miOk m
    · have hT : Hid (takeB r s m = false) := by unfold Hid; rw [takeB_is]; rw [h1.out, h2]; rfl
      have hTR : Hid (takeR r s m = r) := by unfold Hid takeR; rw [hT.out]; rfl
      have hTM : Hid (takeMm r s m = m) := by unfold Hid takeMm; rw [hT.out]; rfl
      clear h2
      have s9 : w.heap.size ≤ u4.heap.size := B4.size
      go_upto_region 7 with fail
      refine wp_region_held (S := fun Y => RgAt Y w.heap.size r ∧ MiAt Y (w.heap.size + 1) m (.slice ad m.lg.length cap)) (by kernel_rfl) ?_
      change wpAnyH _ _ _ _ _ _ _ _ (World.drew _)
      have kd : Below u4.heap.size u4 u4.drew := (Below.refl _ _).drew
      obtain ⟨u0, hu0⟩ : ∃ y_, y_ = u4.drew := ⟨_, rfl⟩
      rw [← hu0] at kd ⊢
      clear hu0
      have hs0 : RgAt u0 w.heap.size r ∧ MiAt u0 (w.heap.size + 1) m (.slice ad m.lg.length cap) := ⟨A.at_.below kd A.at_.lt, M.below kd M.lt⟩
      have Z2 := Z2.below kd Z2.lt
      have Z3 := Z3.below kd Z3.lt
      have Bd := B4.trans (kd.mono B4.size)
      have kds := kd.size
      refine takeW 0 44 (.agg #[.int .i64 r.ep, .int .i64 r.ow, .int .i64 r.pa]) rfl rfl (by kernel_rfl) (by kernel_rfl) (by kernel_rfl) (fun _ _ _ h => h) (by kernel_rfl) (by (intro Y hSw; obtain ⟨⟨X0, X1, X2⟩, _⟩ := hSw; go_simp)) (by assumption) ?_
      simp only [List.set_cons_zero, List.set_cons_succ]
      refine takeW 1 45 (.agg #[.bool m.up, .int .i64 m.li, .int .i64 m.ep, .slice ad m.lg.length cap, .int .i64 m.sd, .int .i64 m.ac, .int .i64 m.al]) rfl rfl (by kernel_rfl) (by kernel_rfl) (by kernel_rfl) (fun _ _ _ h => h) (by kernel_rfl) (by (intro Y hSw; obtain ⟨_, X0, X1, X2, X3, X4, X5, X6⟩ := hSw; go_simp)) (by assumption) ?_
      simp only [List.set_cons_zero, List.set_cons_succ]
      refine wpAnyH_all (rs := [2]) (by kernel_rfl) (by simp) ?_
      intro i hi; obtain rfl : i = 2 := by simpa using hi
      refine wpOp_step rfl (fun Kz hKz => ?_)
      rw [if_pos (by kernel_rfl)]
      go_simp
      go_at_call 37
      refine (mindOf m ad cap u0 (hv1.below kd (hv1.lt ikEnc_len (by omega))) hl).mono ?_
      rintro e u1 ⟨q7, a7, c7, rfl, M7, O7, lo7, lq7, k7⟩
      have hs1 : RgAt u1 w.heap.size r ∧ MiAt u1 (w.heap.size + 1) m (.slice ad m.lg.length cap) := ⟨hs0.1.below k7 hs0.1.lt, hs0.2.below k7 hs0.2.lt⟩
      have Z2 := Z2.below k7 Z2.lt
      have Z3 := Z3.below k7 Z3.lt
      have Bd := Bd.trans (k7.mono Bd.size)
      clear k7 lo7 lq7
      refine hKz _ _ ⟨hs1, ?_⟩
      clear hKz Kz hi
      refine wpAnyH_all (rs := [3]) (by kernel_rfl) (by simp) ?_
      intro i hi; obtain rfl : i = 3 := by simpa using hi
      refine wpOp_step rfl (fun Kz hKz => ?_)
      rw [if_pos (by kernel_rfl)]
      go_simp
      go_at_call 39
      refine (toldI12 m q7 a7 c7 u1 M7).mono ?_
      rintro e u2 ⟨rfl, k8⟩
      have hs2 : RgAt u2 w.heap.size r ∧ MiAt u2 (w.heap.size + 1) m (.slice ad m.lg.length cap) := ⟨hs1.1.below k8 hs1.1.lt, hs1.2.below k8 hs1.2.lt⟩
      have Z2 := Z2.below k8 Z2.lt
      have Z3 := Z3.below k8 Z3.lt
      have O7 := O7.later k8
      have Bd := Bd.trans (k8.mono Bd.size)
      have lo := O7.lt
      clear k8 M7
      refine hKz _ _ ⟨hs2, ?_⟩
      clear hKz Kz hi
      refine wpAnyH_all (rs := [4]) (by kernel_rfl) (by simp) ?_
      intro i hi; obtain rfl : i = 4 := by simpa using hi
      refine wpOp_step rfl (fun Kz hKz => ?_)
      rw [if_pos (by kernel_rfl)]
      have cc := Z2
      obtain ⟨⟨z0, z1, z2⟩, zf⟩ := cc
      have g0 := zf 0
      have g1 := zf 1
      have g2 := zf 2
      go_simp
      clear z0 z1 z2 zf g0 g1 g2
      obtain ⟨t2, ht2⟩ : ∃ y_, y_ = (((u2.setCell ⟨w.heap.size + 1 + 1, 0, none⟩ (.int .i64 r.ep)).setCell ⟨w.heap.size + 1 + 1, 1, none⟩ (.int .i64 r.ow)).setCell ⟨w.heap.size + 1 + 1, 2, none⟩ (.int .i64 r.pa)) := ⟨_, rfl⟩
      have Q2 : RgBox t2 (w.heap.size + 1 + 1) r := by rw [ht2]; exact Z2.put r
      have kp : ∀ k, k ≠ w.heap.size + 1 + 1 → t2.heap[k]? = u2.heap[k]? := fun k hk => by rw [ht2]; exact heap_put3 _ _ _ r hk
      have hs8 := (⟨hs2.1.keep (kp _ (by omega)), hs2.2.keep (kp _ (by omega))⟩ : RgAt _ w.heap.size r ∧ MiAt _ (w.heap.size + 1) m (.slice ad m.lg.length cap))
      have Z3 := Z3.keep (kp _ (by omega))
      have O7 := O7.keep (fun g e => kp g (by have := lo g e; omega))
      have Bd : Below w.heap.size w t2 := by rw [ht2]; exact below_put3 r Bd (by omega)
      rw [← ht2]
      clear ht2 kp
      refine hKz _ _ ⟨hs8, ?_⟩
      clear hKz Kz hi
      refine wpAnyH_all (rs := [5]) (by kernel_rfl) (by simp) ?_
      intro i hi; obtain rfl : i = 5 := by simpa using hi
      refine wpOp_step rfl (fun Kz hKz => ?_)
      rw [if_pos (by kernel_rfl)]
      have cc := Z3
      obtain ⟨z0, z1, z2, z3, z4, z5, z6, zf⟩ := cc
      have g0 := zf 0
      have g1 := zf 1
      have g2 := zf 2
      have g3 := zf 3
      have g4 := zf 4
      have g5 := zf 5
      have g6 := zf 6
      go_simp
      clear z0 z1 z2 z3 z4 z5 z6 zf g0 g1 g2 g3 g4 g5 g6
      obtain ⟨t3, ht3⟩ : ∃ y_, y_ = (((((((t2.setCell ⟨w.heap.size + 1 + 1 + 1, 0, none⟩ (.bool m.up)).setCell ⟨w.heap.size + 1 + 1 + 1, 1, none⟩ (.int .i64 m.li)).setCell ⟨w.heap.size + 1 + 1 + 1, 2, none⟩ (.int .i64 m.ep)).setCell ⟨w.heap.size + 1 + 1 + 1, 3, none⟩ (.slice a7 m.lg.length c7)).setCell ⟨w.heap.size + 1 + 1 + 1, 4, none⟩ (.int .i64 m.sd)).setCell ⟨w.heap.size + 1 + 1 + 1, 5, none⟩ (.int .i64 m.ac)).setCell ⟨w.heap.size + 1 + 1 + 1, 6, none⟩ (.int .i64 m.al)) := ⟨_, rfl⟩
      have Q3 : MiBox t3 (w.heap.size + 1 + 1 + 1) m (.slice a7 m.lg.length c7) := by rw [ht3]; exact Z3.put m _
      have kp : ∀ k, k ≠ w.heap.size + 1 + 1 + 1 → t3.heap[k]? = t2.heap[k]? := fun k hk => by rw [ht3]; exact heap_put7 _ _ _ m _ hk
      have hs9 := (⟨hs8.1.keep (kp _ (by omega)), hs8.2.keep (kp _ (by omega))⟩ : RgAt _ w.heap.size r ∧ MiAt _ (w.heap.size + 1) m (.slice ad m.lg.length cap))
      have Q2 := Q2.keep (kp _ (by omega))
      have O7 := O7.keep (fun g e => kp g (by have := lo g e; omega))
      have Bd : Below w.heap.size w t3 := by rw [ht3]; exact below_put7 m _ Bd (by omega)
      rw [← ht3]
      clear ht3 kp
      refine hKz _ _ ⟨hs9, ?_⟩
      clear hKz Kz hi
      refine takeW 6 8 (.bool false) rfl rfl (by kernel_rfl) (by kernel_rfl) (by kernel_rfl) (fun _ _ _ h => h) (by kernel_rfl) (by (intro w hSw; go_simp)) (by assumption) ?_
      simp only [List.set_cons_zero, List.set_cons_succ]
      refine wpAnyH_done (by kernel_rfl) ?_ _
      have OZ := O7.base (base' := w.heap.size) (by omega)
      obtain ⟨⟨q0, q1, q2⟩, qf⟩ := Q2
      obtain ⟨p0, p1, p2, p3, p4, p5, p6, pf⟩ := Q3
      clear qf pf hs9 O7
      go_wp2
      refine bodyPost_ret (v := .tuple #[.agg #[.int .i64 r.ep, .int .i64 r.ow, .int .i64 r.pa], .agg #[.bool m.up, .int .i64 m.li, .int .i64 m.ep, .slice a7 m.lg.length c7, .int .i64 m.sd, .int .i64 m.ac, .int .i64 m.al], .bool false]) (by simp [results, Try.results28, go_sem, *]) rfl ⟨a7, c7, by rw [hTR.out, hTM.out, hT.out], OZ, Bd⟩
    · replace h2 : Hid _ := h2
      cases h3 : m.up
      · have hT : Hid (takeB r s m = false) := by unfold Hid; rw [takeB_is]; rw [h1.out, h2.out, h3]; rfl
        have hTR : Hid (takeR r s m = r) := by unfold Hid takeR; rw [hT.out]; rfl
        have hTM : Hid (takeMm r s m = m) := by unfold Hid takeMm; rw [hT.out]; rfl
        have cc := M
        obtain ⟨n0, n1, n2, n3, n4, n5, n6⟩ := cc
        rw [h3] at n0
        replace h3 : Hid _ := h3
        have s9 : w.heap.size ≤ u4.heap.size := B4.size
        go_upto_region 7 with fail
        refine wp_region_held (S := fun Y => RgAt Y w.heap.size r ∧ MiAt Y (w.heap.size + 1) m (.slice ad m.lg.length cap)) (by kernel_rfl) ?_
        change wpAnyH _ _ _ _ _ _ _ _ (World.drew _)
        have kd : Below u4.heap.size u4 u4.drew := (Below.refl _ _).drew
        obtain ⟨u0, hu0⟩ : ∃ y_, y_ = u4.drew := ⟨_, rfl⟩
        rw [← hu0] at kd ⊢
        clear hu0
        have hs0 : RgAt u0 w.heap.size r ∧ MiAt u0 (w.heap.size + 1) m (.slice ad m.lg.length cap) := ⟨A.at_.below kd A.at_.lt, M.below kd M.lt⟩
        have Z2 := Z2.below kd Z2.lt
        have Z3 := Z3.below kd Z3.lt
        have Bd := B4.trans (kd.mono B4.size)
        have kds := kd.size
        refine takeW 0 44 (.agg #[.int .i64 r.ep, .int .i64 r.ow, .int .i64 r.pa]) rfl rfl (by kernel_rfl) (by kernel_rfl) (by kernel_rfl) (fun _ _ _ h => h) (by kernel_rfl) (by (intro Y hSw; obtain ⟨⟨X0, X1, X2⟩, _⟩ := hSw; go_simp)) (by assumption) ?_
        simp only [List.set_cons_zero, List.set_cons_succ]
        refine takeW 1 45 (.agg #[.bool m.up, .int .i64 m.li, .int .i64 m.ep, .slice ad m.lg.length cap, .int .i64 m.sd, .int .i64 m.ac, .int .i64 m.al]) rfl rfl (by kernel_rfl) (by kernel_rfl) (by kernel_rfl) (fun _ _ _ h => h) (by kernel_rfl) (by (intro Y hSw; obtain ⟨_, X0, X1, X2, X3, X4, X5, X6⟩ := hSw; go_simp)) (by assumption) ?_
        simp only [List.set_cons_zero, List.set_cons_succ]
        refine wpAnyH_all (rs := [2]) (by kernel_rfl) (by simp) ?_
        intro i hi; obtain rfl : i = 2 := by simpa using hi
        refine wpOp_step rfl (fun Kz hKz => ?_)
        rw [if_pos (by kernel_rfl)]
        go_simp
        go_at_call 37
        refine (mindOf m ad cap u0 (hv1.below kd (hv1.lt ikEnc_len (by omega))) hl).mono ?_
        rintro e u1 ⟨q7, a7, c7, rfl, M7, O7, lo7, lq7, k7⟩
        have hs1 : RgAt u1 w.heap.size r ∧ MiAt u1 (w.heap.size + 1) m (.slice ad m.lg.length cap) := ⟨hs0.1.below k7 hs0.1.lt, hs0.2.below k7 hs0.2.lt⟩
        have Z2 := Z2.below k7 Z2.lt
        have Z3 := Z3.below k7 Z3.lt
        have Bd := Bd.trans (k7.mono Bd.size)
        clear k7 lo7 lq7
        refine hKz _ _ ⟨hs1, ?_⟩
        clear hKz Kz hi
        refine wpAnyH_all (rs := [3]) (by kernel_rfl) (by simp) ?_
        intro i hi; obtain rfl : i = 3 := by simpa using hi
        refine wpOp_step rfl (fun Kz hKz => ?_)
        rw [if_pos (by kernel_rfl)]
        go_simp
        go_at_call 39
        refine (toldI12 m q7 a7 c7 u1 M7).mono ?_
        rintro e u2 ⟨rfl, k8⟩
        have hs2 : RgAt u2 w.heap.size r ∧ MiAt u2 (w.heap.size + 1) m (.slice ad m.lg.length cap) := ⟨hs1.1.below k8 hs1.1.lt, hs1.2.below k8 hs1.2.lt⟩
        have Z2 := Z2.below k8 Z2.lt
        have Z3 := Z3.below k8 Z3.lt
        have O7 := O7.later k8
        have Bd := Bd.trans (k8.mono Bd.size)
        have lo := O7.lt
        clear k8 M7
        refine hKz _ _ ⟨hs2, ?_⟩
        clear hKz Kz hi
        refine wpAnyH_all (rs := [4]) (by kernel_rfl) (by simp) ?_
        intro i hi; obtain rfl : i = 4 := by simpa using hi
        refine wpOp_step rfl (fun Kz hKz => ?_)
        rw [if_pos (by kernel_rfl)]
        have cc := Z2
        obtain ⟨⟨z0, z1, z2⟩, zf⟩ := cc
        have g0 := zf 0
        have g1 := zf 1
        have g2 := zf 2
        go_simp
        clear z0 z1 z2 zf g0 g1 g2
        obtain ⟨t2, ht2⟩ : ∃ y_, y_ = (((u2.setCell ⟨w.heap.size + 1 + 1, 0, none⟩ (.int .i64 r.ep)).setCell ⟨w.heap.size + 1 + 1, 1, none⟩ (.int .i64 r.ow)).setCell ⟨w.heap.size + 1 + 1, 2, none⟩ (.int .i64 r.pa)) := ⟨_, rfl⟩
        have Q2 : RgBox t2 (w.heap.size + 1 + 1) r := by rw [ht2]; exact Z2.put r
        have kp : ∀ k, k ≠ w.heap.size + 1 + 1 → t2.heap[k]? = u2.heap[k]? := fun k hk => by rw [ht2]; exact heap_put3 _ _ _ r hk
        have hs8 := (⟨hs2.1.keep (kp _ (by omega)), hs2.2.keep (kp _ (by omega))⟩ : RgAt _ w.heap.size r ∧ MiAt _ (w.heap.size + 1) m (.slice ad m.lg.length cap))
        have Z3 := Z3.keep (kp _ (by omega))
        have O7 := O7.keep (fun g e => kp g (by have := lo g e; omega))
        have Bd : Below w.heap.size w t2 := by rw [ht2]; exact below_put3 r Bd (by omega)
        rw [← ht2]
        clear ht2 kp
        refine hKz _ _ ⟨hs8, ?_⟩
        clear hKz Kz hi
        refine wpAnyH_all (rs := [5]) (by kernel_rfl) (by simp) ?_
        intro i hi; obtain rfl : i = 5 := by simpa using hi
        refine wpOp_step rfl (fun Kz hKz => ?_)
        rw [if_pos (by kernel_rfl)]
        have cc := Z3
        obtain ⟨z0, z1, z2, z3, z4, z5, z6, zf⟩ := cc
        have g0 := zf 0
        have g1 := zf 1
        have g2 := zf 2
        have g3 := zf 3
        have g4 := zf 4
        have g5 := zf 5
        have g6 := zf 6
        go_simp
        clear z0 z1 z2 z3 z4 z5 z6 zf g0 g1 g2 g3 g4 g5 g6
        obtain ⟨t3, ht3⟩ : ∃ y_, y_ = (((((((t2.setCell ⟨w.heap.size + 1 + 1 + 1, 0, none⟩ (.bool m.up)).setCell ⟨w.heap.size + 1 + 1 + 1, 1, none⟩ (.int .i64 m.li)).setCell ⟨w.heap.size + 1 + 1 + 1, 2, none⟩ (.int .i64 m.ep)).setCell ⟨w.heap.size + 1 + 1 + 1, 3, none⟩ (.slice a7 m.lg.length c7)).setCell ⟨w.heap.size + 1 + 1 + 1, 4, none⟩ (.int .i64 m.sd)).setCell ⟨w.heap.size + 1 + 1 + 1, 5, none⟩ (.int .i64 m.ac)).setCell ⟨w.heap.size + 1 + 1 + 1, 6, none⟩ (.int .i64 m.al)) := ⟨_, rfl⟩
        have Q3 : MiBox t3 (w.heap.size + 1 + 1 + 1) m (.slice a7 m.lg.length c7) := by rw [ht3]; exact Z3.put m _
        have kp : ∀ k, k ≠ w.heap.size + 1 + 1 + 1 → t3.heap[k]? = t2.heap[k]? := fun k hk => by rw [ht3]; exact heap_put7 _ _ _ m _ hk
        have hs9 := (⟨hs8.1.keep (kp _ (by omega)), hs8.2.keep (kp _ (by omega))⟩ : RgAt _ w.heap.size r ∧ MiAt _ (w.heap.size + 1) m (.slice ad m.lg.length cap))
        have Q2 := Q2.keep (kp _ (by omega))
        have O7 := O7.keep (fun g e => kp g (by have := lo g e; omega))
        have Bd : Below w.heap.size w t3 := by rw [ht3]; exact below_put7 m _ Bd (by omega)
        rw [← ht3]
        clear ht3 kp
        refine hKz _ _ ⟨hs9, ?_⟩
        clear hKz Kz hi
        refine takeW 6 8 (.bool false) rfl rfl (by kernel_rfl) (by kernel_rfl) (by kernel_rfl) (fun _ _ _ h => h) (by kernel_rfl) (by (intro w hSw; go_simp)) (by assumption) ?_
        simp only [List.set_cons_zero, List.set_cons_succ]
        refine wpAnyH_done (by kernel_rfl) ?_ _
        have OZ := O7.base (base' := w.heap.size) (by omega)
        obtain ⟨⟨q0, q1, q2⟩, qf⟩ := Q2
        obtain ⟨p0, p1, p2, p3, p4, p5, p6, pf⟩ := Q3
        clear qf pf hs9 O7
        go_wp2
        refine bodyPost_ret (v := .tuple #[.agg #[.int .i64 r.ep, .int .i64 r.ow, .int .i64 r.pa], .agg #[.bool m.up, .int .i64 m.li, .int .i64 m.ep, .slice a7 m.lg.length c7, .int .i64 m.sd, .int .i64 m.ac, .int .i64 m.al], .bool false]) (by simp [results, Try.results28, go_sem, *]) rfl ⟨a7, c7, by rw [hTR.out, hTM.out, hT.out], OZ, Bd⟩
      · have cc := M
        obtain ⟨n0, n1, n2, n3, n4, n5, n6⟩ := cc
        rw [h3] at n0
        replace h3 : Hid _ := h3
        go_wp2_with fail
        go_at_call 53
        clear n0 n1 n2 n3 n4 n5 n6
        refine (handToI r s m.li qg u4 G hre0 hre1).mono ?_
        rintro e u5 ⟨rfl, G5, t5⟩
        have k5 : Below y.heap.size u4 u5 := t5.below (by omega) (by omega) (fun g e => by cases e)
        have A := A.below k5 (by omega)
        have M := M.below k5 (by omega)
        have Z2 := Z2.below k5 (by omega)
        have Z3 := Z3.below k5 (by omega)
        have hv1 := hv1.below k5 HV
        have K := K.keep (t5.block _ K.lt (by omega) (fun e => by cases e))
        have O1 := O1.keep (fun g e => t5.block g (O1.lt g e).2 (by have := ob g e; omega) (fun e => by cases e))
        have B5 := B4.trans (k5.mono (by omega))
        have s5 := t5.size
        clear G k5 t5 B4
        cases h4 : handB r s m.li
        · have hT : Hid (takeB r s m = false) := by unfold Hid; rw [takeB_is]; rw [h1.out, h2.out, h3.out, h4]; rfl
          have hTR : Hid (takeR r s m = r) := by unfold Hid takeR; rw [hT.out]; rfl
          have hTM : Hid (takeMm r s m = m) := by unfold Hid takeMm; rw [hT.out]; rfl
          clear h4
          have s9 : w.heap.size ≤ u5.heap.size := B5.size
          go_upto_region 7 with fail
          refine wp_region_held (S := fun Y => RgAt Y w.heap.size r ∧ MiAt Y (w.heap.size + 1) m (.slice ad m.lg.length cap)) (by kernel_rfl) ?_
          change wpAnyH _ _ _ _ _ _ _ _ (World.drew _)
          have kd : Below u5.heap.size u5 u5.drew := (Below.refl _ _).drew
          obtain ⟨u0, hu0⟩ : ∃ y_, y_ = u5.drew := ⟨_, rfl⟩
          rw [← hu0] at kd ⊢
          clear hu0
          have hs0 : RgAt u0 w.heap.size r ∧ MiAt u0 (w.heap.size + 1) m (.slice ad m.lg.length cap) := ⟨A.at_.below kd A.at_.lt, M.below kd M.lt⟩
          have Z2 := Z2.below kd Z2.lt
          have Z3 := Z3.below kd Z3.lt
          have Bd := B5.trans (kd.mono B5.size)
          have kds := kd.size
          refine takeW 0 44 (.agg #[.int .i64 r.ep, .int .i64 r.ow, .int .i64 r.pa]) rfl rfl (by kernel_rfl) (by kernel_rfl) (by kernel_rfl) (fun _ _ _ h => h) (by kernel_rfl) (by (intro Y hSw; obtain ⟨⟨X0, X1, X2⟩, _⟩ := hSw; go_simp)) (by assumption) ?_
          simp only [List.set_cons_zero, List.set_cons_succ]
          refine takeW 1 45 (.agg #[.bool m.up, .int .i64 m.li, .int .i64 m.ep, .slice ad m.lg.length cap, .int .i64 m.sd, .int .i64 m.ac, .int .i64 m.al]) rfl rfl (by kernel_rfl) (by kernel_rfl) (by kernel_rfl) (fun _ _ _ h => h) (by kernel_rfl) (by (intro Y hSw; obtain ⟨_, X0, X1, X2, X3, X4, X5, X6⟩ := hSw; go_simp)) (by assumption) ?_
          simp only [List.set_cons_zero, List.set_cons_succ]
          refine wpAnyH_all (rs := [2]) (by kernel_rfl) (by simp) ?_
          intro i hi; obtain rfl : i = 2 := by simpa using hi
          refine wpOp_step rfl (fun Kz hKz => ?_)
          rw [if_pos (by kernel_rfl)]
          go_simp
          go_at_call 37
          refine (mindOf m ad cap u0 (hv1.below kd (hv1.lt ikEnc_len (by omega))) hl).mono ?_
          rintro e u1 ⟨q7, a7, c7, rfl, M7, O7, lo7, lq7, k7⟩
          have hs1 : RgAt u1 w.heap.size r ∧ MiAt u1 (w.heap.size + 1) m (.slice ad m.lg.length cap) := ⟨hs0.1.below k7 hs0.1.lt, hs0.2.below k7 hs0.2.lt⟩
          have Z2 := Z2.below k7 Z2.lt
          have Z3 := Z3.below k7 Z3.lt
          have Bd := Bd.trans (k7.mono Bd.size)
          clear k7 lo7 lq7
          refine hKz _ _ ⟨hs1, ?_⟩
          clear hKz Kz hi
          refine wpAnyH_all (rs := [3]) (by kernel_rfl) (by simp) ?_
          intro i hi; obtain rfl : i = 3 := by simpa using hi
          refine wpOp_step rfl (fun Kz hKz => ?_)
          rw [if_pos (by kernel_rfl)]
          go_simp
          go_at_call 39
          refine (toldI12 m q7 a7 c7 u1 M7).mono ?_
          rintro e u2 ⟨rfl, k8⟩
          have hs2 : RgAt u2 w.heap.size r ∧ MiAt u2 (w.heap.size + 1) m (.slice ad m.lg.length cap) := ⟨hs1.1.below k8 hs1.1.lt, hs1.2.below k8 hs1.2.lt⟩
          have Z2 := Z2.below k8 Z2.lt
          have Z3 := Z3.below k8 Z3.lt
          have O7 := O7.later k8
          have Bd := Bd.trans (k8.mono Bd.size)
          have lo := O7.lt
          clear k8 M7
          refine hKz _ _ ⟨hs2, ?_⟩
          clear hKz Kz hi
          refine wpAnyH_all (rs := [4]) (by kernel_rfl) (by simp) ?_
          intro i hi; obtain rfl : i = 4 := by simpa using hi
          refine wpOp_step rfl (fun Kz hKz => ?_)
          rw [if_pos (by kernel_rfl)]
          have cc := Z2
          obtain ⟨⟨z0, z1, z2⟩, zf⟩ := cc
          have g0 := zf 0
          have g1 := zf 1
          have g2 := zf 2
          go_simp
          clear z0 z1 z2 zf g0 g1 g2
          obtain ⟨t2, ht2⟩ : ∃ y_, y_ = (((u2.setCell ⟨w.heap.size + 1 + 1, 0, none⟩ (.int .i64 r.ep)).setCell ⟨w.heap.size + 1 + 1, 1, none⟩ (.int .i64 r.ow)).setCell ⟨w.heap.size + 1 + 1, 2, none⟩ (.int .i64 r.pa)) := ⟨_, rfl⟩
          have Q2 : RgBox t2 (w.heap.size + 1 + 1) r := by rw [ht2]; exact Z2.put r
          have kp : ∀ k, k ≠ w.heap.size + 1 + 1 → t2.heap[k]? = u2.heap[k]? := fun k hk => by rw [ht2]; exact heap_put3 _ _ _ r hk
          have hs8 := (⟨hs2.1.keep (kp _ (by omega)), hs2.2.keep (kp _ (by omega))⟩ : RgAt _ w.heap.size r ∧ MiAt _ (w.heap.size + 1) m (.slice ad m.lg.length cap))
          have Z3 := Z3.keep (kp _ (by omega))
          have O7 := O7.keep (fun g e => kp g (by have := lo g e; omega))
          have Bd : Below w.heap.size w t2 := by rw [ht2]; exact below_put3 r Bd (by omega)
          rw [← ht2]
          clear ht2 kp
          refine hKz _ _ ⟨hs8, ?_⟩
          clear hKz Kz hi
          refine wpAnyH_all (rs := [5]) (by kernel_rfl) (by simp) ?_
          intro i hi; obtain rfl : i = 5 := by simpa using hi
          refine wpOp_step rfl (fun Kz hKz => ?_)
          rw [if_pos (by kernel_rfl)]
          have cc := Z3
          obtain ⟨z0, z1, z2, z3, z4, z5, z6, zf⟩ := cc
          have g0 := zf 0
          have g1 := zf 1
          have g2 := zf 2
          have g3 := zf 3
          have g4 := zf 4
          have g5 := zf 5
          have g6 := zf 6
          go_simp
          clear z0 z1 z2 z3 z4 z5 z6 zf g0 g1 g2 g3 g4 g5 g6
          obtain ⟨t3, ht3⟩ : ∃ y_, y_ = (((((((t2.setCell ⟨w.heap.size + 1 + 1 + 1, 0, none⟩ (.bool m.up)).setCell ⟨w.heap.size + 1 + 1 + 1, 1, none⟩ (.int .i64 m.li)).setCell ⟨w.heap.size + 1 + 1 + 1, 2, none⟩ (.int .i64 m.ep)).setCell ⟨w.heap.size + 1 + 1 + 1, 3, none⟩ (.slice a7 m.lg.length c7)).setCell ⟨w.heap.size + 1 + 1 + 1, 4, none⟩ (.int .i64 m.sd)).setCell ⟨w.heap.size + 1 + 1 + 1, 5, none⟩ (.int .i64 m.ac)).setCell ⟨w.heap.size + 1 + 1 + 1, 6, none⟩ (.int .i64 m.al)) := ⟨_, rfl⟩
          have Q3 : MiBox t3 (w.heap.size + 1 + 1 + 1) m (.slice a7 m.lg.length c7) := by rw [ht3]; exact Z3.put m _
          have kp : ∀ k, k ≠ w.heap.size + 1 + 1 + 1 → t3.heap[k]? = t2.heap[k]? := fun k hk => by rw [ht3]; exact heap_put7 _ _ _ m _ hk
          have hs9 := (⟨hs8.1.keep (kp _ (by omega)), hs8.2.keep (kp _ (by omega))⟩ : RgAt _ w.heap.size r ∧ MiAt _ (w.heap.size + 1) m (.slice ad m.lg.length cap))
          have Q2 := Q2.keep (kp _ (by omega))
          have O7 := O7.keep (fun g e => kp g (by have := lo g e; omega))
          have Bd : Below w.heap.size w t3 := by rw [ht3]; exact below_put7 m _ Bd (by omega)
          rw [← ht3]
          clear ht3 kp
          refine hKz _ _ ⟨hs9, ?_⟩
          clear hKz Kz hi
          refine takeW 6 8 (.bool false) rfl rfl (by kernel_rfl) (by kernel_rfl) (by kernel_rfl) (fun _ _ _ h => h) (by kernel_rfl) (by (intro w hSw; go_simp)) (by assumption) ?_
          simp only [List.set_cons_zero, List.set_cons_succ]
          refine wpAnyH_done (by kernel_rfl) ?_ _
          have OZ := O7.base (base' := w.heap.size) (by omega)
          obtain ⟨⟨q0, q1, q2⟩, qf⟩ := Q2
          obtain ⟨p0, p1, p2, p3, p4, p5, p6, pf⟩ := Q3
          clear qf pf hs9 O7
          go_wp2
          refine bodyPost_ret (v := .tuple #[.agg #[.int .i64 r.ep, .int .i64 r.ow, .int .i64 r.pa], .agg #[.bool m.up, .int .i64 m.li, .int .i64 m.ep, .slice a7 m.lg.length c7, .int .i64 m.sd, .int .i64 m.ac, .int .i64 m.al], .bool false]) (by simp [results, Try.results28, go_sem, *]) rfl ⟨a7, c7, by rw [hTR.out, hTM.out, hT.out], OZ, Bd⟩
        · have hH : handR r s m.li = ⟨r.ep + 1, s, 0⟩ := by unfold handR; rw [h4]; rfl
          rw [hH] at G5
          clear hH
          replace h4 : Hid _ := h4
          go_wp2_with fail
          go_at_call 55
          refine (epochI (r.ep + 1) qg u5 G5.c0).mono ?_
          rintro e u6 ⟨rfl, rfl⟩
          go_wp2_with fail
          go_at_call 54
          refine (mindAsI m (r.ep + 1) qk (.slice a1 m.lg.length c1) u6 K).mono ?_
          rintro e u7 ⟨rfl, K7, t7⟩
          have k7 : Below y.heap.size u6 u7 := t7.below (by omega) (by omega) (fun g e => by cases e)
          have A := A.below k7 (by omega)
          have M := M.below k7 (by omega)
          have Z2 := Z2.below k7 (by omega)
          have Z3 := Z3.below k7 (by omega)
          have hv1 := hv1.below k7 HV
          have G7 := G5.keep (t7.block _ G5.lt (by omega) (fun e => by cases e))
          have O1 := O1.keep (fun g e => t7.block g (O1.lt g e).2 (by have := lo1 g e; omega) (fun e => by cases e))
          have B7 := B5.trans (k7.mono (by omega))
          have s7 := t7.size
          clear G5 K k7 t7 B5
          go_wp2_with fail
          go_at_call 56
          refine (gToldI ⟨r.ep + 1, s, 0⟩ qg u7 G7).mono ?_
          rintro e u8 ⟨rfl, G8, t8⟩
          have k8 : Below y.heap.size u7 u8 := t8.below (by omega) (by omega) (fun g e => by cases e)
          have A := A.below k8 (by omega)
          have M := M.below k8 (by omega)
          have Z2 := Z2.below k8 (by omega)
          have Z3 := Z3.below k8 (by omega)
          have hv1 := hv1.below k8 HV
          have K8 := K7.keep (t8.block _ K7.lt (by omega) (fun e => by cases e))
          have O1 := O1.keep (fun g e => t8.block g (O1.lt g e).2 (by have := ob g e; omega) (fun e => by cases e))
          have B8 := B7.trans (k8.mono (by omega))
          have s8 := t8.size
          clear G7 G8 K7 k8 t8 B7
          obtain ⟨u9, hu9⟩ : ∃ u9, u9 = u8.alloc (Obj.cells #[.int .i64 (r.ep + 1), .int .i64 s, .int .i64 0] 44) := ⟨_, rfl⟩
          have k9 : Below u8.heap.size u8 u9 := by rw [hu9]; exact below_new _
          have X : RgAt u9 u8.heap.size (takeN r s) := by rw [hu9]; exact RgAt.new u8 _ (takeN r s)
          have A := A.below k9 A.lt
          have M := M.below k9 M.lt
          have Z2 := Z2.below k9 Z2.lt
          have Z3 := Z3.below k9 Z3.lt
          have hv1 := hv1.below k9 (hv1.lt ikEnc_len (by omega))
          have K9 := K8.below k9 K8.lt
          have O1 := O1.later k9
          have B9 := B8.trans (k9.mono B8.size)
          have s9' := k9.size
          go_upto_region 5 with fail
          rw [← hu9]
          clear hu9 k9 B8 K8
          obtain ⟨qx, hqx⟩ : ∃ q, q = u8.heap.size := ⟨_, rfl⟩
          rw [← hqx] at X s9' ⊢
          have yx : y.heap.size < qx := by omega
          clear hqx
          have cc := X
          obtain ⟨x0, x1, x2⟩ := cc
          go_wp2_with fail
          go_at_call 21
          clear x0 x1 x2
          refine (regOkI (takeN r s) u9).mono ?_
          rintro e v1 ⟨rfl, k1⟩
          have A := A.below k1 A.lt
          have M := M.below k1 M.lt
          have Z2 := Z2.below k1 Z2.lt
          have Z3 := Z3.below k1 Z3.lt
          have hv1 := hv1.below k1 (hv1.lt ikEnc_len (by omega))
          have K1 := K9.below k1 K9.lt
          have X := X.below k1 X.lt
          have O1 := O1.later k1
          have B1 := B9.trans (k1.mono B9.size)
          have sv1 := k1.size
          clear k1 B9 K9
          cases h5 : rgOk (takeN r s)
          · have hT : Hid (takeB r s m = false) := by unfold Hid; rw [takeB_is]; rw [h1.out, h2.out, h3.out, h4.out, h5]; rfl
            have hTR : Hid (takeR r s m = r) := by unfold Hid takeR; rw [hT.out]; rfl
            have hTM : Hid (takeMm r s m = m) := by unfold Hid takeMm; rw [hT.out]; rfl
            clear h5
            have s9 : w.heap.size ≤ v1.heap.size := B1.size
            go_upto_region 7 with fail
            refine wp_region_held (S := fun Y => RgAt Y w.heap.size r ∧ MiAt Y (w.heap.size + 1) m (.slice ad m.lg.length cap)) (by kernel_rfl) ?_
            change wpAnyH _ _ _ _ _ _ _ _ (World.drew _)
            have kd : Below v1.heap.size v1 v1.drew := (Below.refl _ _).drew
            obtain ⟨u0, hu0⟩ : ∃ y_, y_ = v1.drew := ⟨_, rfl⟩
            rw [← hu0] at kd ⊢
            clear hu0
            have hs0 : RgAt u0 w.heap.size r ∧ MiAt u0 (w.heap.size + 1) m (.slice ad m.lg.length cap) := ⟨A.at_.below kd A.at_.lt, M.below kd M.lt⟩
            have Z2 := Z2.below kd Z2.lt
            have Z3 := Z3.below kd Z3.lt
            have Bd := B1.trans (kd.mono B1.size)
            have kds := kd.size
            refine takeW 0 44 (.agg #[.int .i64 r.ep, .int .i64 r.ow, .int .i64 r.pa]) rfl rfl (by kernel_rfl) (by kernel_rfl) (by kernel_rfl) (fun _ _ _ h => h) (by kernel_rfl) (by (intro Y hSw; obtain ⟨⟨X0, X1, X2⟩, _⟩ := hSw; go_simp)) (by assumption) ?_
            simp only [List.set_cons_zero, List.set_cons_succ]
            refine takeW 1 45 (.agg #[.bool m.up, .int .i64 m.li, .int .i64 m.ep, .slice ad m.lg.length cap, .int .i64 m.sd, .int .i64 m.ac, .int .i64 m.al]) rfl rfl (by kernel_rfl) (by kernel_rfl) (by kernel_rfl) (fun _ _ _ h => h) (by kernel_rfl) (by (intro Y hSw; obtain ⟨_, X0, X1, X2, X3, X4, X5, X6⟩ := hSw; go_simp)) (by assumption) ?_
            simp only [List.set_cons_zero, List.set_cons_succ]
            refine wpAnyH_all (rs := [2]) (by kernel_rfl) (by simp) ?_
            intro i hi; obtain rfl : i = 2 := by simpa using hi
            refine wpOp_step rfl (fun Kz hKz => ?_)
            rw [if_pos (by kernel_rfl)]
            go_simp
            go_at_call 37
            refine (mindOf m ad cap u0 (hv1.below kd (hv1.lt ikEnc_len (by omega))) hl).mono ?_
            rintro e u1 ⟨q7, a7, c7, rfl, M7, O7, lo7, lq7, k7⟩
            have hs1 : RgAt u1 w.heap.size r ∧ MiAt u1 (w.heap.size + 1) m (.slice ad m.lg.length cap) := ⟨hs0.1.below k7 hs0.1.lt, hs0.2.below k7 hs0.2.lt⟩
            have Z2 := Z2.below k7 Z2.lt
            have Z3 := Z3.below k7 Z3.lt
            have Bd := Bd.trans (k7.mono Bd.size)
            clear k7 lo7 lq7
            refine hKz _ _ ⟨hs1, ?_⟩
            clear hKz Kz hi
            refine wpAnyH_all (rs := [3]) (by kernel_rfl) (by simp) ?_
            intro i hi; obtain rfl : i = 3 := by simpa using hi
            refine wpOp_step rfl (fun Kz hKz => ?_)
            rw [if_pos (by kernel_rfl)]
            go_simp
            go_at_call 39
            refine (toldI12 m q7 a7 c7 u1 M7).mono ?_
            rintro e u2 ⟨rfl, k8⟩
            have hs2 : RgAt u2 w.heap.size r ∧ MiAt u2 (w.heap.size + 1) m (.slice ad m.lg.length cap) := ⟨hs1.1.below k8 hs1.1.lt, hs1.2.below k8 hs1.2.lt⟩
            have Z2 := Z2.below k8 Z2.lt
            have Z3 := Z3.below k8 Z3.lt
            have O7 := O7.later k8
            have Bd := Bd.trans (k8.mono Bd.size)
            have lo := O7.lt
            clear k8 M7
            refine hKz _ _ ⟨hs2, ?_⟩
            clear hKz Kz hi
            refine wpAnyH_all (rs := [4]) (by kernel_rfl) (by simp) ?_
            intro i hi; obtain rfl : i = 4 := by simpa using hi
            refine wpOp_step rfl (fun Kz hKz => ?_)
            rw [if_pos (by kernel_rfl)]
            have cc := Z2
            obtain ⟨⟨z0, z1, z2⟩, zf⟩ := cc
            have g0 := zf 0
            have g1 := zf 1
            have g2 := zf 2
            go_simp
            clear z0 z1 z2 zf g0 g1 g2
            obtain ⟨t2, ht2⟩ : ∃ y_, y_ = (((u2.setCell ⟨w.heap.size + 1 + 1, 0, none⟩ (.int .i64 r.ep)).setCell ⟨w.heap.size + 1 + 1, 1, none⟩ (.int .i64 r.ow)).setCell ⟨w.heap.size + 1 + 1, 2, none⟩ (.int .i64 r.pa)) := ⟨_, rfl⟩
            have Q2 : RgBox t2 (w.heap.size + 1 + 1) r := by rw [ht2]; exact Z2.put r
            have kp : ∀ k, k ≠ w.heap.size + 1 + 1 → t2.heap[k]? = u2.heap[k]? := fun k hk => by rw [ht2]; exact heap_put3 _ _ _ r hk
            have hs8 := (⟨hs2.1.keep (kp _ (by omega)), hs2.2.keep (kp _ (by omega))⟩ : RgAt _ w.heap.size r ∧ MiAt _ (w.heap.size + 1) m (.slice ad m.lg.length cap))
            have Z3 := Z3.keep (kp _ (by omega))
            have O7 := O7.keep (fun g e => kp g (by have := lo g e; omega))
            have Bd : Below w.heap.size w t2 := by rw [ht2]; exact below_put3 r Bd (by omega)
            rw [← ht2]
            clear ht2 kp
            refine hKz _ _ ⟨hs8, ?_⟩
            clear hKz Kz hi
            refine wpAnyH_all (rs := [5]) (by kernel_rfl) (by simp) ?_
            intro i hi; obtain rfl : i = 5 := by simpa using hi
            refine wpOp_step rfl (fun Kz hKz => ?_)
            rw [if_pos (by kernel_rfl)]
            have cc := Z3
            obtain ⟨z0, z1, z2, z3, z4, z5, z6, zf⟩ := cc
            have g0 := zf 0
            have g1 := zf 1
            have g2 := zf 2
            have g3 := zf 3
            have g4 := zf 4
            have g5 := zf 5
            have g6 := zf 6
            go_simp
            clear z0 z1 z2 z3 z4 z5 z6 zf g0 g1 g2 g3 g4 g5 g6
            obtain ⟨t3, ht3⟩ : ∃ y_, y_ = (((((((t2.setCell ⟨w.heap.size + 1 + 1 + 1, 0, none⟩ (.bool m.up)).setCell ⟨w.heap.size + 1 + 1 + 1, 1, none⟩ (.int .i64 m.li)).setCell ⟨w.heap.size + 1 + 1 + 1, 2, none⟩ (.int .i64 m.ep)).setCell ⟨w.heap.size + 1 + 1 + 1, 3, none⟩ (.slice a7 m.lg.length c7)).setCell ⟨w.heap.size + 1 + 1 + 1, 4, none⟩ (.int .i64 m.sd)).setCell ⟨w.heap.size + 1 + 1 + 1, 5, none⟩ (.int .i64 m.ac)).setCell ⟨w.heap.size + 1 + 1 + 1, 6, none⟩ (.int .i64 m.al)) := ⟨_, rfl⟩
            have Q3 : MiBox t3 (w.heap.size + 1 + 1 + 1) m (.slice a7 m.lg.length c7) := by rw [ht3]; exact Z3.put m _
            have kp : ∀ k, k ≠ w.heap.size + 1 + 1 + 1 → t3.heap[k]? = t2.heap[k]? := fun k hk => by rw [ht3]; exact heap_put7 _ _ _ m _ hk
            have hs9 := (⟨hs8.1.keep (kp _ (by omega)), hs8.2.keep (kp _ (by omega))⟩ : RgAt _ w.heap.size r ∧ MiAt _ (w.heap.size + 1) m (.slice ad m.lg.length cap))
            have Q2 := Q2.keep (kp _ (by omega))
            have O7 := O7.keep (fun g e => kp g (by have := lo g e; omega))
            have Bd : Below w.heap.size w t3 := by rw [ht3]; exact below_put7 m _ Bd (by omega)
            rw [← ht3]
            clear ht3 kp
            refine hKz _ _ ⟨hs9, ?_⟩
            clear hKz Kz hi
            refine takeW 6 8 (.bool false) rfl rfl (by kernel_rfl) (by kernel_rfl) (by kernel_rfl) (fun _ _ _ h => h) (by kernel_rfl) (by (intro w hSw; go_simp)) (by assumption) ?_
            simp only [List.set_cons_zero, List.set_cons_succ]
            refine wpAnyH_done (by kernel_rfl) ?_ _
            have OZ := O7.base (base' := w.heap.size) (by omega)
            obtain ⟨⟨q0, q1, q2⟩, qf⟩ := Q2
            obtain ⟨p0, p1, p2, p3, p4, p5, p6, pf⟩ := Q3
            clear qf pf hs9 O7
            go_wp2
            refine bodyPost_ret (v := .tuple #[.agg #[.int .i64 r.ep, .int .i64 r.ow, .int .i64 r.pa], .agg #[.bool m.up, .int .i64 m.li, .int .i64 m.ep, .slice a7 m.lg.length c7, .int .i64 m.sd, .int .i64 m.ac, .int .i64 m.al], .bool false]) (by simp [results, Try.results28, go_sem, *]) rfl ⟨a7, c7, by rw [hTR.out, hTM.out, hT.out], OZ, Bd⟩
          · have hT : Hid (takeB r s m = true) := by unfold Hid; rw [takeB_is, h1.out, h2.out, h3.out, h4.out, h5]; rfl
            have hTR : Hid (takeR r s m = takeN r s) := by unfold Hid takeR; rw [hT.out]; rfl
            have hTM : Hid (takeMm r s m = takeM r m) := by unfold Hid takeMm; rw [hT.out]; rfl
            clear h5
            go_upto_region 6 with fail
            refine wp_region_held (S := fun Y => RgAt Y qx (takeN r s)) (by kernel_rfl) ?_
            change wpAnyH _ _ _ _ _ _ _ _ (World.drew _)
            have kd : Below v1.heap.size v1 v1.drew := (Below.refl _ _).drew
            obtain ⟨u0, hu0⟩ : ∃ y_, y_ = v1.drew := ⟨_, rfl⟩
            rw [← hu0] at kd ⊢
            clear hu0
            have hs0 : RgAt u0 qx (takeN r s) := X.below kd X.lt
            have Z2 := Z2.below kd Z2.lt
            have Z3 := Z3.below kd Z3.lt
            have K2 := K1.below kd K1.lt
            have O1 := O1.later kd
            have Bd := B1.trans (kd.mono B1.size)
            have kds := kd.size
            refine takeW 0 41 (.agg #[.int .i64 (takeN r s).ep, .int .i64 (takeN r s).ow, .int .i64 (takeN r s).pa]) rfl rfl (by kernel_rfl) (by kernel_rfl) (by kernel_rfl) (fun _ _ _ h => h) (by kernel_rfl) (by (intro Y hSw; obtain ⟨X0, X1, X2⟩ := hSw; go_simp)) (by assumption) ?_
            simp only [List.set_cons_zero, List.set_cons_succ]
            refine takeW 1 42 (.pointer (some ⟨qk, 0, none⟩)) rfl rfl (by kernel_rfl) (by kernel_rfl) (by kernel_rfl) (fun _ _ _ h => h) (by kernel_rfl) (by (intro w hSw; go_simp)) (by assumption) ?_
            simp only [List.set_cons_zero, List.set_cons_succ]
            refine wpAnyH_all (rs := [2]) (by kernel_rfl) (by simp) ?_
            intro i hi; obtain rfl : i = 2 := by simpa using hi
            refine wpOp_step rfl (fun Kz hKz => ?_)
            rw [if_pos (by kernel_rfl)]
            go_simp
            go_at_call 39
            refine (toldI12 (takeM r m) qk a1 c1 u0 K2).mono ?_
            rintro e w1 ⟨rfl, k8⟩
            rw [show (takeM r m).lg.length = m.lg.length from rfl]
            have hs2 : RgAt w1 qx (takeN r s) := hs0.below k8 hs0.lt
            have Z2 := Z2.below k8 Z2.lt
            have Z3 := Z3.below k8 Z3.lt
            have O1 := O1.later k8
            have Bd := Bd.trans (k8.mono Bd.size)
            have lo := O1.lt
            clear k8 K2 K1
            refine hKz _ _ ⟨hs2, ?_⟩
            clear hKz Kz hi
            refine wpAnyH_all (rs := [3]) (by kernel_rfl) (by simp) ?_
            intro i hi; obtain rfl : i = 3 := by simpa using hi
            refine wpOp_step rfl (fun Kz hKz => ?_)
            rw [if_pos (by kernel_rfl)]
            have cc := Z2
            obtain ⟨⟨z0, z1, z2⟩, zf⟩ := cc
            have g0 := zf 0
            have g1 := zf 1
            have g2 := zf 2
            go_simp
            clear z0 z1 z2 zf g0 g1 g2
            obtain ⟨t2, ht2⟩ : ∃ y_, y_ = (((w1.setCell ⟨w.heap.size + 1 + 1, 0, none⟩ (.int .i64 (takeN r s).ep)).setCell ⟨w.heap.size + 1 + 1, 1, none⟩ (.int .i64 (takeN r s).ow)).setCell ⟨w.heap.size + 1 + 1, 2, none⟩ (.int .i64 (takeN r s).pa)) := ⟨_, rfl⟩
            have Q2 : RgBox t2 (w.heap.size + 1 + 1) (takeN r s) := by rw [ht2]; exact Z2.put (takeN r s)
            have kp : ∀ k, k ≠ w.heap.size + 1 + 1 → t2.heap[k]? = w1.heap[k]? := fun k hk => by rw [ht2]; exact heap_put3 _ _ _ (takeN r s) hk
            have hs8 := hs2.keep (kp _ (by omega))
            have Z3 := Z3.keep (kp _ (by omega))
            have O1 := O1.keep (fun g e => kp g (by have := lo g e; omega))
            have Bd : Below w.heap.size w t2 := by rw [ht2]; exact below_put3 (takeN r s) Bd (by omega)
            rw [← ht2]
            clear ht2 kp
            refine hKz _ _ ⟨hs8, ?_⟩
            clear hKz Kz hi
            refine wpAnyH_all (rs := [4]) (by kernel_rfl) (by simp) ?_
            intro i hi; obtain rfl : i = 4 := by simpa using hi
            refine wpOp_step rfl (fun Kz hKz => ?_)
            rw [if_pos (by kernel_rfl)]
            have cc := Z3
            obtain ⟨z0, z1, z2, z3, z4, z5, z6, zf⟩ := cc
            have g0 := zf 0
            have g1 := zf 1
            have g2 := zf 2
            have g3 := zf 3
            have g4 := zf 4
            have g5 := zf 5
            have g6 := zf 6
            go_simp
            clear z0 z1 z2 z3 z4 z5 z6 zf g0 g1 g2 g3 g4 g5 g6
            obtain ⟨t3, ht3⟩ : ∃ y_, y_ = (((((((t2.setCell ⟨w.heap.size + 1 + 1 + 1, 0, none⟩ (.bool (takeM r m).up)).setCell ⟨w.heap.size + 1 + 1 + 1, 1, none⟩ (.int .i64 (takeM r m).li)).setCell ⟨w.heap.size + 1 + 1 + 1, 2, none⟩ (.int .i64 (takeM r m).ep)).setCell ⟨w.heap.size + 1 + 1 + 1, 3, none⟩ (.slice a1 m.lg.length c1)).setCell ⟨w.heap.size + 1 + 1 + 1, 4, none⟩ (.int .i64 (takeM r m).sd)).setCell ⟨w.heap.size + 1 + 1 + 1, 5, none⟩ (.int .i64 (takeM r m).ac)).setCell ⟨w.heap.size + 1 + 1 + 1, 6, none⟩ (.int .i64 (takeM r m).al)) := ⟨_, rfl⟩
            have Q3 : MiBox t3 (w.heap.size + 1 + 1 + 1) (takeM r m) (.slice a1 m.lg.length c1) := by rw [ht3]; exact Z3.put (takeM r m) _
            have kp : ∀ k, k ≠ w.heap.size + 1 + 1 + 1 → t3.heap[k]? = t2.heap[k]? := fun k hk => by rw [ht3]; exact heap_put7 _ _ _ (takeM r m) _ hk
            have hs9 := hs8.keep (kp _ (by omega))
            have Q2 := Q2.keep (kp _ (by omega))
            have O1 := O1.keep (fun g e => kp g (by have := lo g e; omega))
            have Bd : Below w.heap.size w t3 := by rw [ht3]; exact below_put7 (takeM r m) _ Bd (by omega)
            rw [← ht3]
            clear ht3 kp
            refine hKz _ _ ⟨hs9, ?_⟩
            clear hKz Kz hi
            refine takeW 5 8 (.bool true) rfl rfl (by kernel_rfl) (by kernel_rfl) (by kernel_rfl) (fun _ _ _ h => h) (by kernel_rfl) (by (intro w hSw; go_simp)) (by assumption) ?_
            simp only [List.set_cons_zero, List.set_cons_succ]
            refine wpAnyH_done (by kernel_rfl) ?_ _
            have OZ := O1.base (base' := w.heap.size) (by omega)
            obtain ⟨⟨q0, q1, q2⟩, qf⟩ := Q2
            obtain ⟨p0, p1, p2, p3, p4, p5, p6, pf⟩ := Q3
            clear qf pf hs9 O1
            go_wp2
            refine bodyPost_ret (v := .tuple #[.agg #[.int .i64 (takeN r s).ep, .int .i64 (takeN r s).ow, .int .i64 (takeN r s).pa], .agg #[.bool (takeM r m).up, .int .i64 (takeM r m).li, .int .i64 (takeM r m).ep, .slice a1 m.lg.length c1, .int .i64 (takeM r m).sd, .int .i64 (takeM r m).ac, .int .i64 (takeM r m).al], .bool true]) (by simp [results, Try.results28, go_sem, *]) rfl ⟨a1, c1, by rw [hTR.out, hTM.out, hT.out], OZ, Bd⟩

end Go.Proofs.Ytplejmkbdonkpaa
