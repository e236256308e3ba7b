/- spec.Note, walked. -/
import Derived.Test.YtplejmkbdonkpaaRows
import Derived.WalkKit
import Derived.ProofKit
import Derived.OpenShut
import Derived.ShutString
import Derived.ChangeOld
import Derived.Below
import Derived.Deep.QuietTactic
import Derived.BigQuiet
import Derived.WalkSmall
import Derived.Laws.OwnMore
import Derived.WalkSpells
import Derived.WalkLawsBesides
import Derived.Deep.Cut
import Derived.Maps.AppendAt
import Derived.Test.YtplejmkbdonkpaaMg7
namespace Go.Proofs.Ytplejmkbdonkpaa
open Go.ChangeShapes Go.WideShapes Go.ChangeAt Go.RowKit
open Go.ChangeMaps (open_string shut_string)
set_option linter.unusedVariables false
set_option maxRecDepth 100000

theorem FView.oneK (w : World) (t : TypeId) (x : Ik) : FView ikEnc (w.alloc (Obj.cells #[.int .i64 x.k, .int .i64 x.q, .int .i64 x.r, .int .i64 x.c, .int .i64 x.b, .int .i64 x.p, .int .i64 x.h, .bool x.up] t)) (some ⟨w.heap.size, 0, none⟩) [x] := by
  intro _
  refine ⟨w.heap.size, 0, rfl, fun j v hv => ?_⟩
  simp only [fcells, ikEnc, List.append_nil] at hv
  have hj : j < 8 := (List.getElem?_eq_some_iff.1 hv).1
  rcases (by omega : j = 0 ∨ j = 1 ∨ j = 2 ∨ j = 3 ∨ j = 4 ∨ j = 5 ∨ j = 6 ∨ j = 7) with rfl | rfl | rfl | rfl | rfl | rfl | rfl | rfl <;> (cases hv; simp [go_sem])
theorem noteR_len {m : Mi} {x : Ik} (h : m.lg.length ≤ 1048576) : (noteR m x).lg.length ≤ 1048576 := by
  unfold noteR
  by_cases e : noteB m x = true
  · rw [if_pos e]
    have h2 : miOk (noteM m x) = true := by unfold noteB at e; rw [Bool.and_eq_true] at e; exact e.2
    unfold miOk insB at h2
    simp only [Bool.and_eq_true, decide_eq_true_eq] at h2
    omega
  · rw [if_neg e]; exact h
set_option maxHeartbeats 4000000 in
theorem noteS (m : Mi) (x : Ik) (ad : Option Addr) (cap : Nat) (w : World) (hv : FView ikEnc w ad m.lg) (hl : m.lg.length ≤ 1048576) (hn : ad = none → cap = 0) :
    Calls Try.prog 11 #[.agg #[.bool m.up, .int .i64 m.li, .int .i64 m.ep, .slice ad m.lg.length cap, .int .i64 m.sd, .int .i64 m.ac, .int .i64 m.al], .agg #[.int .i64 x.k, .int .i64 x.q, .int .i64 x.r, .int .i64 x.c, .int .i64 x.b, .int .i64 x.p, .int .i64 x.h, .bool x.up]] w fun e w' => ∃ a c, e = .returned (.tuple #[.agg #[.bool (noteR m x).up, .int .i64 (noteR m x).li, .int .i64 (noteR m x).ep, .slice a (noteR m x).lg.length c, .int .i64 (noteR m x).sd, .int .i64 (noteR m x).ac, .int .i64 (noteR m x).al], .bool (noteB m x)]) ∧ FOwn ikEnc 8 30 w.heap.size w' (.slice a (noteR m x).lg.length c) (noteR m x).lg ∧ Below w.heap.size w w' := by
  have hB := hv.lt ikEnc_len (by omega)
  obtain ⟨y, hy⟩ : ∃ y, y = ((w.alloc (Obj.cells #[.bool m.up, .int .i64 m.li, .int .i64 m.ep, .slice ad m.lg.length cap, .int .i64 m.sd, .int .i64 m.ac, .int .i64 m.al] 26)).alloc (Obj.cells #[.int .i64 x.k, .int .i64 x.q, .int .i64 x.r, .int .i64 x.c, .int .i64 x.b, .int .i64 x.p, .int .i64 x.h, .bool x.up] 30)).alloc (Obj.cells #[.bool false, .int .i64 0, .int .i64 0, .slice none 0 0, .int .i64 0, .int .i64 0, .int .i64 0] 26) := ⟨_, rfl⟩
  have B0 : Below w.heap.size w y := by rw [hy]; exact (((Below.refl _ _).alloc (Nat.le_refl _) _).alloc (by simp) _).alloc (by simp; omega) _
  have A0 : MiAt y w.heap.size m (.slice ad m.lg.length cap) := by rw [hy]; constructor <;> simp [go_sem]
  have X0 : InAt y (w.heap.size + 1) x := by rw [hy]; constructor <;> simp [go_sem]
  have A1 : MiBox y (w.heap.size + 1 + 1) ⟨false, 0, 0, [], 0, 0, 0⟩ (.slice none 0 0) := by rw [hy]; constructor <;> simp [go_sem]
  have S0 := A1.lt
  have hv1 := hv.below B0 hB
  clear hv hB
  obtain ⟨i1, hj, hy0, hy1, hy2⟩ := info_parts ikInfo
  have HV : ∀ a, ad = some a → 0 < m.lg.length → a.block < y.heap.size := hv1.lt ikEnc_len (by omega)
  go_enter Try.func11, Try.ntmps11
  have cc := A0
  obtain ⟨x0, x1, x2, x3, x4, x5, x6⟩ := cc
  go_wp2_with fail
  go_at_call 40
  rw [← hy]
  clear hy x0 x1 x2 x3 x4 x5 x6
  refine (miCop m ad cap y hv1 (by omega) hn).mono ?_
  rintro e u1 ⟨a1, c1, rfl, O1, k1⟩
  have B1 := B0.trans (k1.mono B0.size)
  have A0 := A0.below k1 A0.lt
  have X0 := X0.below k1 X0.lt
  have A1 := A1.below k1 A1.lt
  have hv1 := hv1.below k1 (hv1.lt ikEnc_len (by omega))
  have s1 := k1.size
  have lo1 := O1.lt
  clear k1 B0
  obtain ⟨u2, hu2⟩ : ∃ u2, u2 = u1.alloc (Obj.cells #[.bool m.up, .int .i64 m.li, .int .i64 m.ep, .slice a1 m.lg.length c1, .int .i64 m.sd, .int .i64 m.ac, .int .i64 m.al] 26) := ⟨_, rfl⟩
  have k2 : Below u1.heap.size u1 u2 := by rw [hu2]; exact below_new _
  have N : MiBox u2 u1.heap.size m (.slice a1 m.lg.length c1) := by rw [hu2]; exact MiBox.new u1 _ _ _
  have B2 := B1.trans (k2.mono B1.size)
  have A0 := A0.below k2 A0.lt
  have X0 := X0.below k2 X0.lt
  have A1 := A1.below k2 A1.lt
  have hv1 := hv1.below k2 (hv1.lt ikEnc_len (by omega))
  have O1 := O1.later k2
  have s2 := N.lt
  have s2' := k2.size
  obtain ⟨q, hq⟩ : ∃ q, q = u1.heap.size := ⟨_, rfl⟩
  go_upto_region 2 with fail
  rw [← hu2]
  clear hu2 k2 B1
  rw [← hq] at N s2 lo1 s1 s2' ⊢
  clear hq
  have V1 := FView.oneK u2 30 x
  have kx : Below u2.heap.size u2 (u2.alloc (Obj.cells #[.int .i64 x.k, .int .i64 x.q, .int .i64 x.r, .int .i64 x.c, .int .i64 x.b, .int .i64 x.p, .int .i64 x.h, .bool x.up] 30)) := below_new _
  have O4 := O1.later kx
  have N4 := N.below kx N.lt
  have X4 := X0.below kx X0.lt
  have cc := N4
  obtain ⟨n0, n1, n2, n3, n4, n5, n6, nf⟩ := cc
  have cc := X0
  obtain ⟨e0, e1, e2, e3, e4, e5, e6, e7⟩ := cc
  have cc := N
  obtain ⟨p0, p1, p2, p3, p4, p5, p6, pf⟩ := cc
  go_wp2_with (first | (at_builtin; refine fappL ikEnc_len ikEnc_ones rfl _ _ 24 rfl y.heap.size 30 i1 (.agg #[.int .i64 0, .int .i64 0, .int .i64 0, .int .i64 0, .int .i64 0, .int .i64 0, .int .i64 0, .bool false]) 64 Try.underlying24 hj hy0 hy1 hy2 rfl (by decide) (by decide) (.slice a1 m.lg.length c1) m.lg rfl O4 (some ⟨u2.heap.size, 0, none⟩) 1 [x] rfl (fun e => by cases e) V1 ?z0 ?z1 ?_) | go_in)
  case z0 => simp; omega
  case z1 => first | omega | (simp; omega)
  intro vZ w1 hownZ hgrowZ hob
  have hqo : ∀ g, vZ.ownBlock = some g → g ≠ q := fun g e => by
    rcases hob with h | h
    · rw [h] at e; have := lo1 g e; omega
    · rw [h] at e; have e2 := Option.some.inj e; have := kx.size; omega
  have bZ : Below y.heap.size u2 w1 := (kx.mono (by omega)).grown hgrowZ (by have := kx.size; omega) (fun j e => (O4.lt j e).1)
  have bq : ∀ k, k < u2.heap.size → (∀ g, (Value.slice a1 m.lg.length c1).ownBlock = some g → k ≠ g) → w1.heap[k]? = u2.heap[k]? := fun k hk he => (hgrowZ.block k (Nat.lt_of_lt_of_le hk kx.size) (fun e => he k e.symm rfl)).trans (kx.block k hk)
  replace hownZ : FOwn ikEnc 8 30 y.heap.size w1 vZ (noteM m x).lg := hownZ
  obtain ⟨a2, c2, rfl⟩ := hownZ.open_
  clear n0 n1 n2 n3 n4 n5 n6 nf e0 e1 e2 e3 e4 e5 e6 e7 p0 p1 p2 p3 p4 p5 p6 pf N4 X4 V1 O4 hgrowZ
  have N := N.keep (bq q N.lt (fun g e => by have := lo1 g e; omega))
  have A0 := A0.keep (bq _ A0.lt (fun g e => by have := lo1 g e; omega))
  have A1 := A1.keep (bq _ A1.lt (fun g e => by have := lo1 g e; omega))
  have hv1 := hv1.carry (fun a e p => bZ.block _ (HV a e p))
  have s3 := bZ.size
  have B3 := B2.trans (bZ.mono (by omega))
  have lo2 := hownZ.lt
  clear bq kx bZ B2 O1 hob
  have N2 := N.log (.slice a2 (noteM m x).lg.length c2)
  obtain ⟨w2, hw2⟩ : ∃ w2, w2 = w1.setCell ⟨q, 3, none⟩ (.slice a2 (noteM m x).lg.length c2) := ⟨_, rfl⟩
  have kw : ∀ k, k ≠ q → w2.heap[k]? = w1.heap[k]? := fun k hk => by rw [hw2]; exact Below.heap_setCell _ _ _ _ hk
  have A0 := A0.keep (kw _ (by omega))
  have A1 := A1.keep (kw _ (by omega))
  have hv1 := hv1.carry (fun a e p => kw _ (by have := HV a e p; omega))
  have O2 := hownZ.keep (fun g e => kw g (hqo g e))
  have B4 : Below w.heap.size w w2 := by rw [hw2]; exact B3.setCell (p := ⟨q, 3, none⟩) (by show _ ≤ q; omega) _
  have s4 : w1.heap.size ≤ w2.heap.size := by rw [hw2]; simp
  have n3 := N.c3
  have nf := N.fr 3
  go_upto_region 3 with fail
  rw [← hw2] at N2 ⊢
  clear hw2 kw n3 nf N hownZ B3
  have N3 : MiBox w2 q (noteM m x) (.slice a2 (noteM m x).lg.length c2) := N2.lg (m.lg ++ [x])
  clear N2
  cases hU : m.up
  · have hNB : Hid (noteB m x = false) := by unfold Hid noteB; rw [hU]; rfl
    have hNR : Hid (noteR m x = m) := note_not hNB.out
    have cc := A0
    obtain ⟨x0, x1, x2, x3, x4, x5, x6⟩ := cc
    rw [hU] at x0
    go_wp2_with fail
    go_at_call 40
    clear x0 x1 x2 x3 x4 x5 x6
    rw [← hU]
    replace hU : Hid _ := hU
    refine (miCop m ad cap w2 hv1 (by omega) hn).mono ?_
    rintro e w3 ⟨a3, c3, rfl, O3, k3⟩
    have B5 := B4.trans (k3.mono B4.size)
    have A1 := A1.below k3 A1.lt
    clear k3 B4
    have B9 := below_put7 (q := w.heap.size + 1 + 1) m (.slice a3 m.lg.length c3) B5 (by omega)
    have O9 := (O3.base (base' := w.heap.size) (by omega)).keep (fun g e => heap_put7 w3 (w.heap.size + 1 + 1) g m (.slice a3 m.lg.length c3) (by have := (O3.lt g e).1; omega))
    obtain ⟨z0, z1, z2, z3, z4, z5, z6, zf⟩ := A1
    have g0 := zf 0
    have g1 := zf 1
    have g2 := zf 2
    have g3 := zf 3
    have g4 := zf 4
    have g5 := zf 5
    have g6 := zf 6
    clear zf
    go_wp2
    refine bodyPost_ret (v := .tuple #[.agg #[.bool m.up, .int .i64 m.li, .int .i64 m.ep, .slice a3 m.lg.length c3, .int .i64 m.sd, .int .i64 m.ac, .int .i64 m.al], .bool false]) (by simp [results, Try.results11, go_sem, *]) rfl ⟨a3, c3, by rw [hNR.out, hNB.out], by rw [hNR.out]; exact O9, B9⟩
  · have hM : noteB m x = miOk (noteM m x) := by unfold noteB; rw [hU]; rfl
    replace hM : Hid _ := hM
    have cc := A0
    obtain ⟨x0, x1, x2, x3, x4, x5, x6⟩ := cc
    rw [hU] at x0
    have cc := N3
    obtain ⟨n0, n1, n2, n3, n4, n5, n6, nf⟩ := cc
    go_wp2_with fail
    go_at_call 18
    clear x0 x1 x2 x3 x4 x5 x6 n0 n1 n2 n3 n4 n5 n6 nf
    refine (miOkS (noteM m x) a2 c2 w2 O2.view.2 (by show (m.lg ++ [x]).length ≤ _; simp; omega)).mono ?_
    rintro e w3 ⟨rfl, k3⟩
    have B5 := B4.trans (k3.mono B4.size)
    have A0 := A0.below k3 A0.lt
    have A1 := A1.below k3 A1.lt
    have hv1 := hv1.below k3 (hv1.lt ikEnc_len (by omega))
    have O2 := O2.later k3
    have N3 := N3.below k3 N3.lt
    have s5 := k3.size
    clear k3 B4
    replace hU : Hid _ := hU
    cases hO : miOk (noteM m x)
    · have hNB : Hid (noteB m x = false) := by unfold Hid; rw [hM.out, hO]
      have hNR : Hid (noteR m x = m) := note_not hNB.out
      have cc := A0
      obtain ⟨x0, x1, x2, x3, x4, x5, x6⟩ := cc
      clear hO
      go_wp2_with fail
      go_at_call 40
      clear x0 x1 x2 x3 x4 x5 x6
      refine (miCop m ad cap w3 hv1 (by omega) hn).mono ?_
      rintro e w4 ⟨a3, c3, rfl, O3, k3⟩
      have B6 := B5.trans (k3.mono B5.size)
      have A1 := A1.below k3 A1.lt
      clear k3 B5
      have B9 := below_put7 (q := w.heap.size + 1 + 1) m (.slice a3 m.lg.length c3) B6 (by omega)
      have O9 := (O3.base (base' := w.heap.size) (by omega)).keep (fun g e => heap_put7 w4 (w.heap.size + 1 + 1) g m (.slice a3 m.lg.length c3) (by have := (O3.lt g e).1; omega))
      obtain ⟨z0, z1, z2, z3, z4, z5, z6, zf⟩ := A1
      have g0 := zf 0
      have g1 := zf 1
      have g2 := zf 2
      have g3 := zf 3
      have g4 := zf 4
      have g5 := zf 5
      have g6 := zf 6
      clear zf
      go_wp2
      refine bodyPost_ret (v := .tuple #[.agg #[.bool m.up, .int .i64 m.li, .int .i64 m.ep, .slice a3 m.lg.length c3, .int .i64 m.sd, .int .i64 m.ac, .int .i64 m.al], .bool false]) (by simp [results, Try.results11, go_sem, *]) rfl ⟨a3, c3, by rw [hNR.out, hNB.out], by rw [hNR.out]; exact O9, B9⟩
    · have hNB : Hid (noteB m x = true) := by unfold Hid; rw [hM.out, hO]
      have hNR : Hid (noteR m x = (noteM m x)) := by unfold Hid noteR; rw [if_pos hNB.out]
      clear hO
      obtain ⟨n0, n1, n2, n3, n4, n5, n6, nf⟩ := N3
      have B9 := below_put7 (q := w.heap.size + 1 + 1) (noteM m x) (.slice a2 (noteM m x).lg.length c2) B5 (by omega)
      have O9 := (O2.base (base' := w.heap.size) (by omega)).keep (fun g e => heap_put7 w3 (w.heap.size + 1 + 1) g (noteM m x) (.slice a2 (noteM m x).lg.length c2) (by have := (O2.lt g e).1; omega))
      obtain ⟨z0, z1, z2, z3, z4, z5, z6, zf⟩ := A1
      have g0 := zf 0
      have g1 := zf 1
      have g2 := zf 2
      have g3 := zf 3
      have g4 := zf 4
      have g5 := zf 5
      have g6 := zf 6
      clear zf
      go_wp2
      refine bodyPost_ret (v := .tuple #[.agg #[.bool (noteM m x).up, .int .i64 (noteM m x).li, .int .i64 (noteM m x).ep, .slice a2 (noteM m x).lg.length c2, .int .i64 (noteM m x).sd, .int .i64 (noteM m x).ac, .int .i64 (noteM m x).al], .bool true]) (by simp [results, Try.results11, go_sem, *]) rfl ⟨a2, c2, by rw [hNR.out, hNB.out], by rw [hNR.out]; exact O9, B9⟩

end Go.Proofs.Ytplejmkbdonkpaa
