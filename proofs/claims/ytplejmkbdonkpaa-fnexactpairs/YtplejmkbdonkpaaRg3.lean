/- spec.Pairs, walked. -/
import Derived.Test.YtplejmkbdonkpaaRows
import Derived.WalkKit
import Derived.ProofKit
import Derived.OpenShut
import Derived.ShutString
import Derived.ChangeOld
import Derived.Below
import Derived.Deep.QuietTactic
import Derived.BigQuiet
import Derived.WalkSmall
import Derived.Laws.OwnMore
import Derived.WalkSpells
import Derived.WalkLawsBesides
import Derived.Deep.Cut
import Derived.Test.YtplejmkbdonkpaaRg2
namespace Go.Proofs.Ytplejmkbdonkpaa
open Go.ChangeShapes Go.WideShapes Go.ChangeAt Go.RowKit
open Go.ChangeMaps (open_string shut_string)
set_option linter.unusedVariables false
set_option maxRecDepth 100000

theorem RgBox.put2 {w : World} {q : Nat} {r : Rg} (h : RgBox w q r) (p : Int) : RgBox (w.setCell ⟨q, 2, none⟩ (.int .i64 p)) q ⟨r.ep, r.ow, p⟩ :=
  ⟨⟨(pset_else (by decide)).trans h.at_.c0, (pset_else (by decide)).trans h.at_.c1, pset_same h.at_.c2⟩, fun i => by rw [World.frozen?_setCell]; exact h.fr i⟩
set_option maxHeartbeats 4000000 in
theorem pairsS (r : Rg) (s : Int) (m : Mi) (ad : Option Addr) (cap : Nat) (p : Int) (w : World) (hv : FView ikEnc w ad m.lg) (hl : m.lg.length ≤ 1048577) :
    Calls Try.prog 32 #[.agg #[.int .i64 r.ep, .int .i64 r.ow, .int .i64 r.pa], .int .i64 s, .agg #[.bool m.up, .int .i64 m.li, .int .i64 m.ep, .slice ad m.lg.length cap, .int .i64 m.sd, .int .i64 m.ac, .int .i64 m.al], .int .i64 p] w fun e w' => e = .returned (.tuple #[.agg #[.int .i64 (pairsR r s m p).ep, .int .i64 (pairsR r s m p).ow, .int .i64 (pairsR r s m p).pa], .bool (pairsB r s m p)]) ∧ Below w.heap.size w w' := by
  have hB := hv.lt ikEnc_len (by omega)
  obtain ⟨y, hy⟩ : ∃ y, y = ((w.alloc (Obj.cells #[.int .i64 r.ep, .int .i64 r.ow, .int .i64 r.pa] 44)).alloc (Obj.cells #[.bool m.up, .int .i64 m.li, .int .i64 m.ep, .slice ad m.lg.length cap, .int .i64 m.sd, .int .i64 m.ac, .int .i64 m.al] 26)).alloc (Obj.cells #[.int .i64 0, .int .i64 0, .int .i64 0] 44) := ⟨_, rfl⟩
  have B0 : Below w.heap.size w y := by rw [hy]; exact (((Below.refl _ _).alloc (Nat.le_refl _) _).alloc (by simp) _).alloc (by simp; omega) _
  have A : RgBox y w.heap.size r := by rw [hy]; refine ⟨?_, fun i => ?_⟩; constructor <;> simp [go_sem]; simp [go_sem]
  have M : MiAt y (w.heap.size + 1) m (.slice ad m.lg.length cap) := by rw [hy]; constructor <;> simp [go_sem]
  have Z : RgBox y (w.heap.size + 1 + 1) ⟨0, 0, 0⟩ := by rw [hy]; refine ⟨?_, fun i => ?_⟩; constructor <;> simp [go_sem]; simp [go_sem]
  have hv1 := hv.below B0 hB
  clear hv hB
  go_enter Try.func32, Try.ntmps32
  have cc := A
  obtain ⟨⟨x0, x1, x2⟩, xf⟩ := cc
  have cc := M
  obtain ⟨n0, n1, n2, n3, n4, n5, n6⟩ := cc
  go_wp2_with fail
  go_at_call 23
  rw [← hy]
  clear hy x0 x1 x2 xf n0 n1 n2 n3 n4 n5 n6
  refine (mindsS r s m ad cap y hv1 hl).mono ?_
  rintro e v1 ⟨rfl, k1⟩
  have A := A.below k1 A.lt
  have M := M.below k1 M.lt
  have Z := Z.below k1 Z.lt
  have B1 := B0.trans (k1.mono B0.size)
  clear k1 B0 hv1
  have Bn := below_put3 (q := w.heap.size + 1 + 1) r B1 (by omega)
  have hA2 := A.put2 p
  have Bq : Below w.heap.size w (v1.setCell ⟨w.heap.size, 2, none⟩ (.int .i64 p)) := B1.setCell (p := ⟨w.heap.size, 2, none⟩) (Nat.le_refl _) _
  have By := below_put3 (q := w.heap.size + 1 + 1) ⟨r.ep, r.ow, p⟩ Bq (by omega)
  obtain ⟨⟨x0, x1, x2⟩, xf⟩ := A
  obtain ⟨n0, n1, n2, n3, n4, n5, n6⟩ := M
  obtain ⟨⟨z0, z1, z2⟩, zf⟩ := Z
  have g0 := zf 0
  have g1 := zf 1
  have g2 := zf 2
  have f2 := xf 2
  clear zf xf
  obtain ⟨⟨q0, q1, q2⟩, qf⟩ := hA2
  clear qf
  dsimp only at q0 q1 q2 By
  cases h1 : mindsB r s m
  · have hP : Hid (pairsB r s m p = false) := by unfold Hid pairsB; rw [h1]; rfl
    have hQ : Hid (pairsR r s m p = r) := pairs_not hP.out
    clear h1
    go_wp2
    refine bodyPost_ret (v := .tuple #[.agg #[.int .i64 r.ep, .int .i64 r.ow, .int .i64 r.pa], .bool false]) (by simp [results, Try.results32, go_sem, *]) rfl ⟨by rw [hP.out, hQ.out], Bn⟩
  · replace h1 : Hid _ := h1
    by_cases h2 : p = 0
    · have dh2 : (p == 0) = true := by simpa using h2
      have eh2 : (p != 0) = false := by simpa using h2
      have hP : Hid (pairsB r s m p = true) := by unfold Hid pairsB; rw [h1.out, decide_eq_true h2]; rfl
      have hQ : Hid (pairsR r s m p = ⟨r.ep, r.ow, p⟩) := by unfold Hid pairsR; rw [if_pos hP.out]
      replace h2 : Hid _ := h2
      go_wp2
      refine bodyPost_ret (v := .tuple #[.agg #[.int .i64 r.ep, .int .i64 r.ow, .int .i64 p], .bool true]) (by simp [results, Try.results32, go_sem, *]) rfl ⟨by rw [hP.out, hQ.out], By⟩
    · have dh2 : (p == 0) = false := by rw [beq_eq_false_iff_ne]; exact h2
      have eh2 : (p != 0) = true := by simpa using h2
      replace h2 : Hid (¬ p = 0) := h2
      by_cases h3 : p = m.al
      · have dh3 : (p == m.al) = true := by simpa using h3
        have eh3 : (p != m.al) = false := by simpa using h3
        replace h3 : Hid _ := h3
        by_cases h4 : m.ac = (m.lg.length : Int)
        · have dh4 : (m.ac == (m.lg.length : Int)) = true := by simpa using h4
          have eh4 : (m.ac != (m.lg.length : Int)) = false := by simpa using h4
          have hP : Hid (pairsB r s m p = true) := by unfold Hid pairsB; rw [h1.out, decide_eq_true h3.out, decide_eq_true h4, Bool.and_true, Bool.or_true]; rfl
          have hQ : Hid (pairsR r s m p = ⟨r.ep, r.ow, p⟩) := by unfold Hid pairsR; rw [if_pos hP.out]
          replace h4 : Hid _ := h4
          go_wp2
          refine bodyPost_ret (v := .tuple #[.agg #[.int .i64 r.ep, .int .i64 r.ow, .int .i64 p], .bool true]) (by simp [results, Try.results32, go_sem, *]) rfl ⟨by rw [hP.out, hQ.out], By⟩
        · have dh4 : (m.ac == (m.lg.length : Int)) = false := by rw [beq_eq_false_iff_ne]; exact h4
          have eh4 : (m.ac != (m.lg.length : Int)) = true := by simpa using h4
          have hP : Hid (pairsB r s m p = false) := by unfold Hid pairsB; rw [h1.out, decide_eq_false h2.out, decide_eq_false h4, Bool.and_false]; rfl
          have hQ : Hid (pairsR r s m p = r) := pairs_not hP.out
          clear h4
          go_wp2
          refine bodyPost_ret (v := .tuple #[.agg #[.int .i64 r.ep, .int .i64 r.ow, .int .i64 r.pa], .bool false]) (by simp [results, Try.results32, go_sem, *]) rfl ⟨by rw [hP.out, hQ.out], Bn⟩
      · have dh3 : (p == m.al) = false := by rw [beq_eq_false_iff_ne]; exact h3
        have eh3 : (p != m.al) = true := by simpa using h3
        have hP : Hid (pairsB r s m p = false) := by unfold Hid pairsB; rw [h1.out, decide_eq_false h2.out, decide_eq_false h3]; rfl
        have hQ : Hid (pairsR r s m p = r) := pairs_not hP.out
        clear h3
        go_wp2
        refine bodyPost_ret (v := .tuple #[.agg #[.int .i64 r.ep, .int .i64 r.ow, .int .i64 r.pa], .bool false]) (by simp [results, Try.results32, go_sem, *]) rfl ⟨by rw [hP.out, hQ.out], Bn⟩

end Go.Proofs.Ytplejmkbdonkpaa
