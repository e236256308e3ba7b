/- impl.bpduRead, walked. -/
import Derived.Test.YtlgcjhebbmejaaaRows
import Derived.WalkKit
import Derived.ProofKit
import Derived.OpenShut
import Derived.ShutString
import Derived.ChangeOld
import Derived.Below
import Derived.Deep.QuietTactic
import Derived.BigQuiet
import Derived.WalkSmall
import Derived.Laws.OwnMore
import Derived.WalkSpells
import Derived.WalkLawsBesides
import Derived.Deep.Cut
import Derived.Test.YtlgcjhebbmejaaaBp6
namespace Go.Proofs.Ytlgcjhebbmejaaa
open Go.ChangeShapes Go.WideShapes Go.ChangeAt Go.RowKit
open Go.ChangeMaps (open_string shut_string)
set_option linter.unusedVariables false
set_option maxRecDepth 100000

theorem BpW.new (w : World) (t : TypeId) (x : Bp) : BpW (w.alloc (Obj.cells #[.bool x.ch, .bool x.ak, .bool x.ag, .bool x.le, .bool x.op, .int .i64 x.ro, .int .i64 x.r, .int .i64 x.c, .int .i64 x.b, .int .i64 x.p, .int .i64 x.h] t)) w.heap.size x := ⟨BpAt.new w t x, fun i => by simp [go_sem]⟩
theorem pw_bd {L : List Int} (hb : ∀ x ∈ L, 0 ≤ x ∧ x ≤ 255) (hl : L.length = 36) : (0 ≤ nb L 4 1 ∧ nb L 4 1 < 256) ∧ (0 ≤ nb L 27 1 ∧ nb L 27 1 < 256) ∧ (0 ≤ nb L 6 7 ∧ nb L 6 7 < 72057594037927936) ∧ (0 ≤ nb L 13 4 ∧ nb L 13 4 < 4294967296) ∧ (0 ≤ nb L 18 7 ∧ nb L 18 7 < 72057594037927936) ∧ (0 ≤ nb L 26 1 ∧ nb L 26 1 < 256) := by
  have h : ∀ p q : Nat, p + q ≤ 36 → 0 ≤ nb L p q ∧ nb L p q < pw q := fun p q h => by
    have k := nb_bd hb p q
    rw [show ((L.drop p).take q).length = q by simp; omega] at k
    exact k
  exact ⟨h 4 1 (by omega), h 27 1 (by omega), h 6 7 (by omega), h 13 4 (by omega), h 18 7 (by omega), h 26 1 (by omega)⟩
theorem nb_one {L : List Int} (hl : L.length = 36) : nb L 4 1 = L.getD 4 0 := by
  have h := numZ_succ (L := L.drop 4) (k := 0) (by simp; omega)
  unfold nb
  rw [h]
  simp [numZ, List.getD]
theorem and3 (n : Int) : bits .and .i64 n 3 = n % 4 := by
  have h3 : (BitVec.ofInt 64 3).toNat = 2 ^ 2 - 1 := by decide
  have key : (BitVec.ofInt 64 n &&& BitVec.ofInt 64 3).toNat = (n % ((2 ^ 64 : Nat) : Int)).toNat % 2 ^ 2 := by
    rw [BitVec.toNat_and, BitVec.toNat_ofInt, h3, Nat.and_two_pow_sub_one_eq_mod]
  show IntKind.i64.wrap ((BitVec.ofInt 64 n &&& BitVec.ofInt 64 3).toNat : Nat) = n % 4
  rw [key, IntKind.wrap_i64]
  omega
set_option maxHeartbeats 8000000 in
theorem bpReadI (b off cap : Nat) (L : List Int) (w : World) (hv : View w (some ⟨b, off, none⟩) L.length (fun i => L.getD i 0)) (hl : L.length = 36) (hcap : 36 ≤ cap) (hb : ∀ x ∈ L, 0 ≤ x ∧ x ≤ 255) (hlt : b < w.heap.size) :
    Calls Try.prog 40 #[.slice (some ⟨b, off, none⟩) 36 cap] w fun e w' => e = .returned (.agg #[.bool (rdI L).ch, .bool (rdI L).ak, .bool (rdI L).ag, .bool (rdI L).le, .bool (rdI L).op, .int .i64 (rdI L).ro, .int .i64 (rdI L).r, .int .i64 (rdI L).c, .int .i64 (rdI L).b, .int .i64 (rdI L).p, .int .i64 (rdI L).h]) ∧ Below w.heap.size w w' := by
  obtain ⟨⟨f0, f1⟩, ⟨h0, h1⟩, ⟨r0, r1⟩, ⟨c0, c1⟩, ⟨b0, b1⟩, ⟨p0, p1⟩⟩ := pw_bd hb hl
  obtain ⟨y, hy⟩ : ∃ y, y = (w.alloc (Obj.cells #[.slice (some ⟨b, off, none⟩) 36 cap] 22)).alloc (Obj.cells #[.bool false, .bool false, .bool false, .bool false, .bool false, .int .i64 0, .int .i64 0, .int .i64 0, .int .i64 0, .int .i64 0, .int .i64 0] 27) := ⟨_, rfl⟩
  have B0 : Below w.heap.size w y := by rw [hy]; exact (below_new _).alloc (by simp) _
  have Q0 : y.cell? ⟨w.heap.size, 0, none⟩ = some (.slice (some ⟨b, off, none⟩) 36 cap) := by rw [hy]; simp [go_sem]
  have R0 : BpW y (w.heap.size + 1) bpNil := by rw [hy]; refine ⟨?_, fun i => by simp [go_sem]⟩; constructor <;> simp [go_sem, bpNil]
  have S0 := R0.lt
  have V0 : View y (some ⟨b, off, none⟩) L.length (fun i => L.getD i 0) := hv.carry (fun x h _ => by cases h; exact B0.block _ hlt)
  have m0 : nb L 13 4 / 20000 = nb L 13 4 / 20000 := rfl
  go_enter Try.func40, Try.ntmps40
  go_wp2_with fail
  go_at_call 61
  rw [← hy]
  clear hy
  refine (rd4 w.heap.size b off cap L y Q0 V0 hl hcap hb).mono ?_
  rintro e y1 ⟨rfl, rfl⟩
  rw [nb_one hl] at f0 f1 ⊢
  obtain ⟨f, hf⟩ : ∃ f, f = L.getD 4 0 := ⟨_, rfl⟩
  rw [← hf] at f0 f1 ⊢
  replace hf : Hid _ := hf
  have hand := and3
  obtain ⟨y2, hy2⟩ : ∃ y, y = y1.alloc (Obj.cells #[.int .i64 f] 3) := ⟨_, rfl⟩
  have k2 : Below y1.heap.size y1 y2 := by rw [hy2]; exact below_new _
  have N2 : NuB y2 y1.heap.size f := by rw [hy2]; exact ⟨by simp [go_sem], by simp [go_sem]⟩
  have q2 := N2.lt
  go_wp2_with fail
  go_at_call 63
  rw [← hy2]
  clear hy2
  clear hand
  refine (roleOf (f / 4 % 4) y2 (by omega)).mono ?_
  rintro e y3 ⟨rfl, k3⟩
  have B2 := B0.trans (k2.mono B0.size)
  have B3 := B2.trans (k3.mono B2.size)
  have Q3 := (k3.cell (p := ⟨w.heap.size, 0, none⟩) (by show w.heap.size < _; omega)).trans ((k2.cell (p := ⟨w.heap.size, 0, none⟩) (by show w.heap.size < _; omega)).trans Q0)
  have R3 := (R0.below k2 S0).below k3 (by omega)
  have N3 := N2.keep (k3.block y1.heap.size (by omega))
  have V3 : View y3 (some ⟨b, off, none⟩) L.length (fun i => L.getD i 0) := hv.carry (fun x h _ => by cases h; exact B3.block _ hlt)
  have sy3 := k3.size
  clear Q0 R0 N2 V0 k2 k3 B0 B2
  go_wp2_with fail
  go_at_call 61
  refine (rd27 w.heap.size b off cap L y3 Q3 V3 hl hcap hb).mono ?_
  rintro e y4 ⟨rfl, hw_⟩
  have hw_ := hw_.symm
  subst hw_
  obtain ⟨y5, hy5⟩ : ∃ y, y = y3.alloc (Obj.cells #[.bool (Bp.mk false false false false false (roB (f / 4 % 4)) 0 0 0 0 (nb L 27 1)).ch, .bool (Bp.mk false false false false false (roB (f / 4 % 4)) 0 0 0 0 (nb L 27 1)).ak, .bool (Bp.mk false false false false false (roB (f / 4 % 4)) 0 0 0 0 (nb L 27 1)).ag, .bool (Bp.mk false false false false false (roB (f / 4 % 4)) 0 0 0 0 (nb L 27 1)).le, .bool (Bp.mk false false false false false (roB (f / 4 % 4)) 0 0 0 0 (nb L 27 1)).op, .int .i64 (Bp.mk false false false false false (roB (f / 4 % 4)) 0 0 0 0 (nb L 27 1)).ro, .int .i64 (Bp.mk false false false false false (roB (f / 4 % 4)) 0 0 0 0 (nb L 27 1)).r, .int .i64 (Bp.mk false false false false false (roB (f / 4 % 4)) 0 0 0 0 (nb L 27 1)).c, .int .i64 (Bp.mk false false false false false (roB (f / 4 % 4)) 0 0 0 0 (nb L 27 1)).b, .int .i64 (Bp.mk false false false false false (roB (f / 4 % 4)) 0 0 0 0 (nb L 27 1)).p, .int .i64 (Bp.mk false false false false false (roB (f / 4 % 4)) 0 0 0 0 (nb L 27 1)).h] 27) := ⟨_, rfl⟩
  have k5 : Below y3.heap.size y3 y5 := by rw [hy5]; exact below_new _
  have X5 : BpW y5 y3.heap.size ⟨false, false, false, false, false, roB (f / 4 % 4), 0, 0, 0, 0, nb L 27 1⟩ := by rw [hy5]; exact BpW.new y3 27 ⟨false, false, false, false, false, roB (f / 4 % 4), 0, 0, 0, 0, nb L 27 1⟩
  have B5 := B3.trans (k5.mono B3.size)
  have Q5 := (k5.cell (p := ⟨w.heap.size, 0, none⟩) (by show w.heap.size < _; omega)).trans Q3
  have R5 := R3.below k5 (by omega)
  have N5 := N3.keep (k5.block y1.heap.size (by omega))
  have V5 : View y5 (some ⟨b, off, none⟩) L.length (fun i => L.getD i 0) := hv.carry (fun x h _ => by cases h; exact B5.block _ hlt)
  have x5 := X5.lt
  dsimp only at hy5
  go_wp2_with fail
  go_at_call 61
  rw [← hy5]
  clear hy5 Q3 R3 N3 V3 B3 k5
  refine (rd6 w.heap.size b off cap L y5 Q5 V5 hl hcap hb).mono ?_
  rintro e y6 ⟨rfl, hw_⟩
  have hw_ := hw_.symm
  subst hw_
  go_wp2_with fail
  go_at_call 61
  refine (rd13 w.heap.size b off cap L y5 Q5 V5 hl hcap hb).mono ?_
  rintro e y6 ⟨rfl, hw_⟩
  have hw_ := hw_.symm
  subst hw_
  go_wp2_with fail
  go_at_call 61
  refine (rd18 w.heap.size b off cap L y5 Q5 V5 hl hcap hb).mono ?_
  rintro e y6 ⟨rfl, hw_⟩
  have hw_ := hw_.symm
  subst hw_
  go_wp2_with fail
  go_at_call 61
  refine (rd26 w.heap.size b off cap L y5 Q5 V5 hl hcap hb).mono ?_
  rintro e y6 ⟨rfl, hw_⟩
  have hw_ := hw_.symm
  subst hw_
  obtain ⟨y7, hy7⟩ : ∃ y, y = (((y5.setCell ⟨y3.heap.size, 6, none⟩ (.int .i64 (nb L 6 7))).setCell ⟨y3.heap.size, 7, none⟩ (.int .i64 (nb L 13 4 / 20000))).setCell ⟨y3.heap.size, 8, none⟩ (.int .i64 (nb L 18 7))).setCell ⟨y3.heap.size, 9, none⟩ (.int .i64 (nb L 26 1 - 1)) := ⟨_, rfl⟩
  have X7 : BpW y7 y3.heap.size ⟨false, false, false, false, false, roB (f / 4 % 4), nb L 6 7, nb L 13 4 / 20000, nb L 18 7, nb L 26 1 - 1, nb L 27 1⟩ := by rw [hy7]; exact (((X5.set6 (nb L 6 7)).set7 (nb L 13 4 / 20000)).set8 (nb L 18 7)).set9 (nb L 26 1 - 1)
  have G7 : y5.grownBy y7 (some y3.heap.size) := by rw [hy7]; exact gr_trans (gr_trans (gr_trans (gr_setI _ _ _ _) (gr_setI _ _ _ _)) (gr_setI _ _ _ _)) (gr_setI _ _ _ _)
  have N7 := N5.keep (G7.block y1.heap.size (by omega) (by simp; omega))
  have a6 := X5.at_.c6
  have a7 := X5.at_.c7
  have a8 := X5.at_.c8
  have a9 := X5.at_.c9
  have f6 := X5.fr 6
  have f7 := X5.fr 7
  have f8 := X5.fr 8
  have f9 := X5.fr 9
  go_wp2_with fail
  go_at_call 49
  rw [← hy7]
  clear hy7 a6 a7 a8 a9 f6 f7 f8 f9
  refine (eachR y3.heap.size y1.heap.size _ f y7 X7 N7 (by omega)).mono ?_
  rintro e y8 ⟨rfl, X8, G8⟩
  have G9 := gr_trans G7 G8
  have R9 := R5.keep (G9.block (w.heap.size + 1) (by omega) (by simp; omega))
  have B9 : Below w.heap.size w y8 := B5.grown G9 B5.size (fun g e => by cases e; omega)
  dsimp only at X8
  have e9 : Hid (rdI L = ⟨btB f 1, btB f 2, btB f 64, btB f 16, btB f 32, roB (f / 4 % 4), nb L 6 7, nb L 13 4 / 20000, nb L 18 7, nb L 26 1 - 1, nb L 27 1⟩) := by show _ = _; unfold rdI; rw [← hf.out]
  clear G7 G8 G9 X7 N7 X5 Q5 V5 N5 R5 B5 hf
  obtain ⟨⟨x0, x1, x2, x3, x4, x5, x6, x7, x8, x9, x10⟩, _⟩ := X8
  obtain ⟨⟨r0, r1, r2, r3, r4, r5, r6, r7, r8, r9, r10⟩, hfr⟩ := R9
  obtain ⟨g0, g1, g2, g3, g4, g5, g6, g7, g8, g9, g10⟩ : y8.frozen? ⟨w.heap.size + 1, 0, none⟩ = false ∧ y8.frozen? ⟨w.heap.size + 1, 1, none⟩ = false ∧ y8.frozen? ⟨w.heap.size + 1, 2, none⟩ = false ∧ y8.frozen? ⟨w.heap.size + 1, 3, none⟩ = false ∧ y8.frozen? ⟨w.heap.size + 1, 4, none⟩ = false ∧ y8.frozen? ⟨w.heap.size + 1, 5, none⟩ = false ∧ y8.frozen? ⟨w.heap.size + 1, 6, none⟩ = false ∧ y8.frozen? ⟨w.heap.size + 1, 7, none⟩ = false ∧ y8.frozen? ⟨w.heap.size + 1, 8, none⟩ = false ∧ y8.frozen? ⟨w.heap.size + 1, 9, none⟩ = false ∧ y8.frozen? ⟨w.heap.size + 1, 10, none⟩ = false := ⟨hfr 0, hfr 1, hfr 2, hfr 3, hfr 4, hfr 5, hfr 6, hfr 7, hfr 8, hfr 9, hfr 10⟩
  clear hfr
  dsimp only at x0 x1 x2 x3 x4 x5 x6 x7 x8 x9 x10
  go_wp2
  refine bodyPost_ret (v := .agg #[.bool (Bp.mk (btB f 1) (btB f 2) (btB f 64) (btB f 16) (btB f 32) (roB (f / 4 % 4)) (nb L 6 7) (nb L 13 4 / 20000) (nb L 18 7) (nb L 26 1 - 1) (nb L 27 1)).ch, .bool (Bp.mk (btB f 1) (btB f 2) (btB f 64) (btB f 16) (btB f 32) (roB (f / 4 % 4)) (nb L 6 7) (nb L 13 4 / 20000) (nb L 18 7) (nb L 26 1 - 1) (nb L 27 1)).ak, .bool (Bp.mk (btB f 1) (btB f 2) (btB f 64) (btB f 16) (btB f 32) (roB (f / 4 % 4)) (nb L 6 7) (nb L 13 4 / 20000) (nb L 18 7) (nb L 26 1 - 1) (nb L 27 1)).ag, .bool (Bp.mk (btB f 1) (btB f 2) (btB f 64) (btB f 16) (btB f 32) (roB (f / 4 % 4)) (nb L 6 7) (nb L 13 4 / 20000) (nb L 18 7) (nb L 26 1 - 1) (nb L 27 1)).le, .bool (Bp.mk (btB f 1) (btB f 2) (btB f 64) (btB f 16) (btB f 32) (roB (f / 4 % 4)) (nb L 6 7) (nb L 13 4 / 20000) (nb L 18 7) (nb L 26 1 - 1) (nb L 27 1)).op, .int .i64 (Bp.mk (btB f 1) (btB f 2) (btB f 64) (btB f 16) (btB f 32) (roB (f / 4 % 4)) (nb L 6 7) (nb L 13 4 / 20000) (nb L 18 7) (nb L 26 1 - 1) (nb L 27 1)).ro, .int .i64 (Bp.mk (btB f 1) (btB f 2) (btB f 64) (btB f 16) (btB f 32) (roB (f / 4 % 4)) (nb L 6 7) (nb L 13 4 / 20000) (nb L 18 7) (nb L 26 1 - 1) (nb L 27 1)).r, .int .i64 (Bp.mk (btB f 1) (btB f 2) (btB f 64) (btB f 16) (btB f 32) (roB (f / 4 % 4)) (nb L 6 7) (nb L 13 4 / 20000) (nb L 18 7) (nb L 26 1 - 1) (nb L 27 1)).c, .int .i64 (Bp.mk (btB f 1) (btB f 2) (btB f 64) (btB f 16) (btB f 32) (roB (f / 4 % 4)) (nb L 6 7) (nb L 13 4 / 20000) (nb L 18 7) (nb L 26 1 - 1) (nb L 27 1)).b, .int .i64 (Bp.mk (btB f 1) (btB f 2) (btB f 64) (btB f 16) (btB f 32) (roB (f / 4 % 4)) (nb L 6 7) (nb L 13 4 / 20000) (nb L 18 7) (nb L 26 1 - 1) (nb L 27 1)).p, .int .i64 (Bp.mk (btB f 1) (btB f 2) (btB f 64) (btB f 16) (btB f 32) (roB (f / 4 % 4)) (nb L 6 7) (nb L 13 4 / 20000) (nb L 18 7) (nb L 26 1 - 1) (nb L 27 1)).h]) (by simp [results, Try.results40, go_sem, *]) rfl ⟨by rw [e9.out], ?_⟩
  repeat' (first | with_reducible exact B9 | refine Below.setCell ?_ (by show _ ≤ w.heap.size + 1; omega) _)

end Go.Proofs.Ytlgcjhebbmejaaa
