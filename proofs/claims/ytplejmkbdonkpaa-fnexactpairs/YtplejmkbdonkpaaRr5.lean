/- impl.Pairs, walked. -/
import Derived.Test.YtplejmkbdonkpaaRows
import Derived.WalkKit
import Derived.ProofKit
import Derived.OpenShut
import Derived.ShutString
import Derived.ChangeOld
import Derived.Below
import Derived.Deep.QuietTactic
import Derived.BigQuiet
import Derived.WalkSmall
import Derived.Laws.OwnMore
import Derived.WalkSpells
import Derived.WalkLawsBesides
import Derived.Deep.Cut
import Derived.Conc.MuLone
import Derived.Test.YtplejmkbdonkpaaRr4
import Derived.Test.YtplejmkbdonkpaaRg3
namespace Go.Proofs.Ytplejmkbdonkpaa
open Go.ChangeShapes Go.WideShapes Go.ChangeAt Go.RowKit
open Go.ChangeMaps (open_string shut_string)
set_option linter.unusedVariables false
set_option maxRecDepth 100000

set_option maxHeartbeats 4000000 in
theorem pairsI (r : Rg) (s : Int) (m : Mi) (ad : Option Addr) (cap : Nat) (p : Int) (w : World) (hv : FView ikEnc w ad m.lg) (hl : m.lg.length ≤ 1048577) :
    Calls Try.prog 33 #[.agg #[.int .i64 r.ep, .int .i64 r.ow, .int .i64 r.pa], .int .i64 s, .agg #[.bool m.up, .int .i64 m.li, .int .i64 m.ep, .slice ad m.lg.length cap, .int .i64 m.sd, .int .i64 m.ac, .int .i64 m.al], .int .i64 p] w fun e w' => e = .returned (.tuple #[.agg #[.int .i64 (pairsR r s m p).ep, .int .i64 (pairsR r s m p).ow, .int .i64 (pairsR r s m p).pa], .bool (pairsB r s m p)]) ∧ Below w.heap.size w w' := by
  have hB := hv.lt ikEnc_len (by omega)
  obtain ⟨y, hy⟩ : ∃ y, y = ((w.alloc (Obj.cells #[.int .i64 r.ep, .int .i64 r.ow, .int .i64 r.pa] 44)).alloc (Obj.cells #[.bool m.up, .int .i64 m.li, .int .i64 m.ep, .slice ad m.lg.length cap, .int .i64 m.sd, .int .i64 m.ac, .int .i64 m.al] 26)).alloc (Obj.cells #[.int .i64 0, .int .i64 0, .int .i64 0] 44) := ⟨_, rfl⟩
  have B0 : Below w.heap.size w y := by rw [hy]; exact (((Below.refl _ _).alloc (Nat.le_refl _) _).alloc (by simp) _).alloc (by simp; omega) _
  have A : RgBox y w.heap.size r := by rw [hy]; refine ⟨?_, fun i => ?_⟩; constructor <;> simp [go_sem]; simp [go_sem]
  have M : MiAt y (w.heap.size + 1) m (.slice ad m.lg.length cap) := by rw [hy]; constructor <;> simp [go_sem]
  have Z : RgBox y (w.heap.size + 1 + 1) ⟨0, 0, 0⟩ := by rw [hy]; refine ⟨?_, fun i => ?_⟩; constructor <;> simp [go_sem]; simp [go_sem]
  have hv1 := hv.below B0 hB
  clear hv hB
  go_enter Try.func33, Try.ntmps33
  have cc := A
  obtain ⟨⟨x0, x1, x2⟩, xf⟩ := cc
  have cc := M
  obtain ⟨n0, n1, n2, n3, n4, n5, n6⟩ := cc
  go_wp2_with fail
  go_at_call 25
  rw [← hy]
  clear hy x0 x1 x2 xf n0 n1 n2 n3 n4 n5 n6
  refine (mindsI r s m ad cap y hv1 hl).mono ?_
  rintro e v1 ⟨rfl, k1⟩
  have A := A.below k1 A.lt
  have M := M.below k1 M.lt
  have Z := Z.below k1 Z.lt
  have B1 := B0.trans (k1.mono B0.size)
  have s1 := k1.size
  clear k1 B0 hv1
  cases h1 : mindsB r s m
  · have hP : Hid (pairsB r s m p = false) := by unfold Hid; rw [pairsB_is]; rw [h1]; rfl
    have hQ : Hid (pairsR r s m p = r) := pairs_not hP.out
    have Bn := below_put3 (q := w.heap.size + 1 + 1) r B1 (by omega)
    obtain ⟨⟨x0, x1, x2⟩, xf⟩ := A
    obtain ⟨⟨z0, z1, z2⟩, zf⟩ := Z
    have g0 := zf 0
    have g1 := zf 1
    have g2 := zf 2
    clear xf zf
    go_wp2
    refine bodyPost_ret (v := .tuple #[.agg #[.int .i64 r.ep, .int .i64 r.ow, .int .i64 r.pa], .bool false]) (by simp [results, Try.results33, go_sem, *]) rfl ⟨by rw [hP.out, hQ.out], Bn⟩
  · replace h1 : Hid _ := h1
    have cc := M
    obtain ⟨n0, n1, n2, n3, n4, n5, n6⟩ := cc
    go_wp2_with fail
    go_at_call 59
    clear n0 n1 n2 n3 n4 n5 n6
    refine (mayPairI m p ad cap v1).mono ?_
    rintro e v2 ⟨rfl, k2⟩
    have A := A.below k2 A.lt
    have M := M.below k2 M.lt
    have Z := Z.below k2 Z.lt
    have B2 := B1.trans (k2.mono B1.size)
    have s2 := k2.size
    clear k2 B1
    cases h2 : mayB m p
    · have hP : Hid (pairsB r s m p = false) := by unfold Hid; rw [pairsB_is]; rw [h1.out, h2]; rfl
      have hQ : Hid (pairsR r s m p = r) := pairs_not hP.out
      have Bn := below_put3 (q := w.heap.size + 1 + 1) r B2 (by omega)
      obtain ⟨⟨x0, x1, x2⟩, xf⟩ := A
      obtain ⟨⟨z0, z1, z2⟩, zf⟩ := Z
      have g0 := zf 0
      have g1 := zf 1
      have g2 := zf 2
      clear xf zf
      go_wp2
      refine bodyPost_ret (v := .tuple #[.agg #[.int .i64 r.ep, .int .i64 r.ow, .int .i64 r.pa], .bool false]) (by simp [results, Try.results33, go_sem, *]) rfl ⟨by rw [hP.out, hQ.out], Bn⟩
    · have B2s : w.heap.size ≤ v2.heap.size := B2.size
      have hP : Hid (pairsB r s m p = true) := by unfold Hid; rw [pairsB_is, h1.out, h2]; rfl
      have hQ : Hid (pairsR r s m p = ⟨r.ep, r.ow, p⟩) := by unfold Hid pairsR; rw [if_pos hP.out]
      clear h2
      have zl := Z.lt
      have cc := A
      obtain ⟨⟨x0, x1, x2⟩, xf⟩ := cc
      go_wp2_with fail
      go_at_call 50
      clear x0 x1 x2 xf
      refine (regOfI r v2).mono ?_
      rintro e v3 ⟨qg, rfl, G, lg, k3⟩
      have Z := Z.below k3 Z.lt
      have B3 := B2.trans (k3.mono B2.size)
      have s3 := k3.size
      clear k3 B2
      go_wp2_with fail
      go_at_call 60
      refine (pairWI r p qg v3 G).mono ?_
      rintro e v4 ⟨rfl, G4, t4⟩
      have k4 : Below v2.heap.size v3 v4 := t4.below s3 (by omega) (fun g e => by cases e)
      have Z := Z.below k4 (by omega)
      have B4 := B3.trans (k4.mono B2s)
      have s4 := k4.size
      clear k4 t4 B3
      go_wp2_with fail
      go_at_call 56
      refine (gToldI ⟨r.ep, r.ow, p⟩ qg v4 G4).mono ?_
      rintro e v5 ⟨rfl, G5, t5⟩
      have k5 : Below v2.heap.size v4 v5 := t5.below (by omega) (by omega) (fun g e => by cases e)
      have Z := Z.below k5 (by omega)
      have B5 := B4.trans (k5.mono B2s)
      clear k5 t5 B4 G5
      have Bn := below_put3 (q := w.heap.size + 1 + 1) ⟨r.ep, r.ow, p⟩ B5 (by omega)
      obtain ⟨⟨z0, z1, z2⟩, zf⟩ := Z
      have g0 := zf 0
      have g1 := zf 1
      have g2 := zf 2
      clear zf
      dsimp only at Bn
      go_wp2
      refine bodyPost_ret (v := .tuple #[.agg #[.int .i64 r.ep, .int .i64 r.ow, .int .i64 p], .bool true]) (by simp [results, Try.results33, go_sem, *]) rfl ⟨by rw [hP.out, hQ.out], Bn⟩

end Go.Proofs.Ytplejmkbdonkpaa
