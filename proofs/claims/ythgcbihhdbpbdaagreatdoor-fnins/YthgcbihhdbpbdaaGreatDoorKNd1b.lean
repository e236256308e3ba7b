/- What comes in, drawn and bent. -/
import Derived.Test.YthgcbihhdbpbdaaGreatDoorRows
import Derived.WalkKit
import Derived.ProofKit
import Derived.OpenShut
import Derived.ShutString
import Derived.ChangeOld
import Derived.Below
import Derived.Deep.QuietTactic
import Derived.BigQuiet
import Derived.WalkSmall
import Derived.Laws.OwnMore
import Derived.WalkSpells
import Derived.WalkLawsBesides
import Derived.Deep.Cut
import Derived.Test.YthgcbihhdbpbdaaGreatDoorM8
import Derived.Test.YthgcbihhdbpbdaaGreatDoorM4
namespace Go.Proofs.YthgcbihhdbpbdaaGreatDoor
open Go.ChangeShapes Go.WideShapes Go.ChangeAt Go.RowKit
open Go.ChangeMaps (open_string shut_string)
set_option linter.unusedVariables false
set_option maxRecDepth 100000

set_option maxHeartbeats 8000000 in
theorem drawBt {cb : Nat} {ad : Option Addr} {len cap : Nat} {f : Nat → Int} (w : World) (hs : Src w cb ad len cap f) (hcb : cb < w.heap.size) : Calls Tryz.prog 38 #[.pointer (some ⟨cb, 0, none⟩)] w fun e w' => DrewJ w cb ad len cap f e w' := by
  obtain ⟨R, hRe⟩ : ∃ R, R = w.heap.size := ⟨_, rfl⟩
  have hR : w.heap.size ≤ R := by omega
  have hRc : R ≠ cb := by omega
  obtain ⟨x0, hx0⟩ : ∃ x, x = w.alloc (Obj.cells #[.int .i64 0, .int .i64 0, .int .i64 0, .int .i64 0, .int .i64 0, .int .i64 0, .int .i64 0, .bool false] 27) := ⟨_, rfl⟩
  have D0 : DV w cb ad len cap x0 := by rw [hx0]; exact (DV.start hs).alloc _
  have Z0 : IBox x0 R ⟨0, 0, 0, 0, 0, 0, 0, false⟩ := by rw [hx0, hRe]; exact ⟨InAt.new w _ ⟨0, 0, 0, 0, 0, 0, 0, false⟩, fun i => by simp [go_sem]⟩
  go_enter Tryz.func38, Tryz.ntmps38
  go_wp2_with fail
  go_at_call 45
  rw [← hx0, ← hRe]
  clear hx0 hRe
  refine (drawJ8 x0 (D0.src hs) D0.cur.lt).mono ?_
  rintro e y1 ⟨⟨k, q, r, c, b, p, h, up⟩, rfl, s1, g1, b8⟩
  have D1 := D0.step s1 g1
  have Z1 := Z0.grown g1 hRc
  unfold B8 at b8
  dsimp only at b8 ⊢
  obtain ⟨b1, b2, b3, b4, b5, b6⟩ := b8
  obtain ⟨Q, hQ⟩ : ∃ Q, Q = y1.heap.size := ⟨_, rfl⟩
  obtain ⟨y2, hy2⟩ : ∃ y_, y_ = y1.alloc (Obj.cells #[.int .i64 k, .int .i64 q, .int .i64 r, .int .i64 c, .int .i64 b, .int .i64 p, .int .i64 h, .bool up] 27) := ⟨_, rfl⟩
  have Q2 : IBox y2 Q ⟨k, q, r, c, b, p, h, up⟩ := by rw [hy2, hQ]; exact ⟨InAt.new y1 _ ⟨k, q, r, c, b, p, h, up⟩, fun i => by simp [go_sem]⟩
  have k2 : Below y1.heap.size y1 y2 := by rw [hy2]; exact below_new _
  have D2 := D1.later8 k2
  have Z2 : IBox y2 R ⟨0, 0, 0, 0, 0, 0, 0, false⟩ := Z1.keep (k2.block _ Z1.at_.lt)
  have lQ : w.heap.size ≤ Q := by rw [hQ]; exact D1.gr.size
  have lQR : Q ≠ R := by have := Z1.at_.lt; omega
  have lQc : Q ≠ cb := by omega
  go_wp2_with fail
  go_at_call 56
  rw [← hy2, ← hQ]
  clear hy2 hQ k2 D0 Z0 Z1 D1 s1 g1
  refine (drawBelow (D2.src hs) 12 (by decide) (by decide)).mono ?_
  rintro e y3 ⟨t, rfl, t0_, t1_, s3, g3⟩
  have D3 := D2.step s3 g3
  have Q3 := Q2.grown g3 lQc
  have Z3 := Z2.grown g3 hRc
  clear D2 Q2 Z2 s3 g3
  by_cases e0 : t = 0
  · subst e0
    go_wp2_with fail
    go_at_call 56
    refine (drawBelow (D3.src hs) 6 (by decide) (by decide)).mono ?_
    rintro e y4 ⟨n, rfl, n0, n1, s4, g4⟩
    have D4 := D3.step s4 g4
    have Q4 := Q3.grown g4 lQc
    have Z4 := Z3.grown g4 hRc
    clear D3 Q3 Z3 s4 g4
    obtain ⟨y5, hst⟩ : ∃ y_, y_ = y4.setCell ⟨Q, 0, none⟩ (.int .i64 (n - 1)) := ⟨_, rfl⟩
    have D5 : DV w cb ad len cap y5 := by rw [hst]; exact D4.set (N := Q) (i := 0) (by omega) hcb _
    have QN : IBox y5 Q ⟨(n - 1), q, r, c, b, p, h, up⟩ := by rw [hst]; exact ⟨⟨pset_same Q4.at_.c0, (pset_else (by decide)).trans Q4.at_.c1, (pset_else (by decide)).trans Q4.at_.c2, (pset_else (by decide)).trans Q4.at_.c3, (pset_else (by decide)).trans Q4.at_.c4, (pset_else (by decide)).trans Q4.at_.c5, (pset_else (by decide)).trans Q4.at_.c6, (pset_else (by decide)).trans Q4.at_.c7⟩, fun j => by rw [World.frozen?_setCell]; exact Q4.fr j⟩
    have ZZ : IBox y5 R ⟨0, 0, 0, 0, 0, 0, 0, false⟩ := by rw [hst]; exact Z4.keep (Below.heap_setCell _ _ _ _ (by show R ≠ Q; omega))
    have cq := Q4
    obtain ⟨⟨e0, e1, e2, e3, e4, e5, e6, e7⟩, ef⟩ := cq
    have fi := ef 0
    go_upto_region 11 with fail
    rw [← hst]
    clear hst e0 e1 e2 e3 e4 e5 e6 e7 ef fi
    have DZ := ((((((((D5.set (N := R) (i := 0) (by omega) hcb (.int .i64 (n - 1))).set (N := R) (i := 1) (by omega) hcb (.int .i64 q)).set (N := R) (i := 2) (by omega) hcb (.int .i64 r)).set (N := R) (i := 3) (by omega) hcb (.int .i64 c)).set (N := R) (i := 4) (by omega) hcb (.int .i64 b)).set (N := R) (i := 5) (by omega) hcb (.int .i64 p)).set (N := R) (i := 6) (by omega) hcb (.int .i64 h)).set (N := R) (i := 7) (by omega) hcb (.bool up))
    obtain ⟨⟨q0, q1, q2, q3, q4, q5, q6, q7⟩, qf⟩ := QN
    obtain ⟨⟨z0, z1, z2, z3, z4, z5, z6, z7⟩, zf⟩ := ZZ
    have f0 := zf 0
    have f1 := zf 1
    have f2 := zf 2
    have f3 := zf 3
    have f4 := zf 4
    have f5 := zf 5
    have f6 := zf 6
    have f7 := zf 7
    go_wp2
    refine bodyPost_ret (v := .agg #[.int .i64 (n - 1), .int .i64 q, .int .i64 r, .int .i64 c, .int .i64 b, .int .i64 p, .int .i64 h, .bool up]) (by simp [results, Tryz.results38, go_sem, *]) rfl ⟨⟨(n - 1), q, r, c, b, p, h, up⟩, rfl, DZ.src hs, DZ.gr, by (unfold B8; simp only; omega)⟩
  have d0 : (t == 0) = false := by simpa using e0
  by_cases e1 : t = 1
  · subst e1
    obtain ⟨y4z, hy4z⟩ : ∃ y_, y_ = y3.alloc (Obj.cells #[.int .i64 (-1), .int .i64 3, .int .i64 4] 3) := ⟨_, rfl⟩
    have kz : Below y3.heap.size y3 y4z := by rw [hy4z]; exact below_new _
    have hpk : ∀ i, i < 3 → ∃ y, y4z.cell? ⟨y3.heap.size, i, none⟩ = some (.int .i64 y) ∧ (fun y : Int => -1 ≤ y ∧ y ≤ 9) y := fun i hi => by
      rw [hy4z]
      rcases (by omega : i = 0 ∨ i = 1 ∨ i = 2) with rfl | rfl | rfl
      · exact ⟨(-1 : Int), by simp [go_sem], by constructor <;> decide⟩
      · exact ⟨(3 : Int), by simp [go_sem], by constructor <;> decide⟩
      · exact ⟨(4 : Int), by simp [go_sem], by constructor <;> decide⟩
    have D3z := D3.later8 kz
    have hcz : y3.heap.size ≠ cb := by have := D3.cur.lt; omega
    have Q3z : IBox y4z Q _ := Q3.keep (kz.block _ Q3.at_.lt)
    have Z3z : IBox y4z R _ := Z3.keep (kz.block _ Z3.at_.lt)
    go_wp2_with fail
    go_at_call 47
    rw [← hy4z]
    clear hy4z kz
    refine (pickIntP (D3z.src hs) (fun y : Int => -1 ≤ y ∧ y ≤ 9) y3.heap.size 3 3 hcz (by decide) (by decide) hpk).mono ?_
    rintro e y4 ⟨n, rfl, hn, s_, g_⟩
    have D3p := D3z.step s_ g_
    have Q4 := Q3z.grown g_ lQc
    have Z4 := Z3z.grown g_ hRc
    obtain ⟨n0, n1⟩ := hn
    clear D3 D3z Q3 Q3z Z3 Z3z s_ g_ hpk hcz
    obtain ⟨y5, hst⟩ : ∃ y_, y_ = y4.setCell ⟨Q, 1, none⟩ (.int .i64 n) := ⟨_, rfl⟩
    have D5 : DV w cb ad len cap y5 := by rw [hst]; exact D3p.set (N := Q) (i := 1) (by omega) hcb _
    have QN : IBox y5 Q ⟨k, n, r, c, b, p, h, up⟩ := by rw [hst]; exact ⟨⟨(pset_else (by decide)).trans Q4.at_.c0, pset_same Q4.at_.c1, (pset_else (by decide)).trans Q4.at_.c2, (pset_else (by decide)).trans Q4.at_.c3, (pset_else (by decide)).trans Q4.at_.c4, (pset_else (by decide)).trans Q4.at_.c5, (pset_else (by decide)).trans Q4.at_.c6, (pset_else (by decide)).trans Q4.at_.c7⟩, fun j => by rw [World.frozen?_setCell]; exact Q4.fr j⟩
    have ZZ : IBox y5 R ⟨0, 0, 0, 0, 0, 0, 0, false⟩ := by rw [hst]; exact Z4.keep (Below.heap_setCell _ _ _ _ (by show R ≠ Q; omega))
    have cq := Q4
    obtain ⟨⟨e0, e1, e2, e3, e4, e5, e6, e7⟩, ef⟩ := cq
    have fi := ef 1
    go_upto_region 11 with fail
    rw [← hst]
    clear hst e0 e1 e2 e3 e4 e5 e6 e7 ef fi
    have DZ := ((((((((D5.set (N := R) (i := 0) (by omega) hcb (.int .i64 k)).set (N := R) (i := 1) (by omega) hcb (.int .i64 n)).set (N := R) (i := 2) (by omega) hcb (.int .i64 r)).set (N := R) (i := 3) (by omega) hcb (.int .i64 c)).set (N := R) (i := 4) (by omega) hcb (.int .i64 b)).set (N := R) (i := 5) (by omega) hcb (.int .i64 p)).set (N := R) (i := 6) (by omega) hcb (.int .i64 h)).set (N := R) (i := 7) (by omega) hcb (.bool up))
    obtain ⟨⟨q0, q1, q2, q3, q4, q5, q6, q7⟩, qf⟩ := QN
    obtain ⟨⟨z0, z1, z2, z3, z4, z5, z6, z7⟩, zf⟩ := ZZ
    have f0 := zf 0
    have f1 := zf 1
    have f2 := zf 2
    have f3 := zf 3
    have f4 := zf 4
    have f5 := zf 5
    have f6 := zf 6
    have f7 := zf 7
    go_wp2
    refine bodyPost_ret (v := .agg #[.int .i64 k, .int .i64 n, .int .i64 r, .int .i64 c, .int .i64 b, .int .i64 p, .int .i64 h, .bool up]) (by simp [results, Tryz.results38, go_sem, *]) rfl ⟨⟨k, n, r, c, b, p, h, up⟩, rfl, DZ.src hs, DZ.gr, by (unfold B8; simp only; omega)⟩
  have d1 : (t == 1) = false := by simpa using e1
  by_cases e2 : t = 2
  · subst e2
    go_wp2_with fail
    go_at_call 78
    refine (drawL6 y3 (D3.src hs) D3.cur.lt).mono ?_
    rintro e y4 ⟨r2, c2, b2', p2, rfl, hV4, s4, g4⟩
    have D4 := D3.step s4 g4
    have Q4 := Q3.grown g4 lQc
    have Z4 := Z3.grown g4 hRc
    clear D3 Q3 Z3 s4 g4
    obtain ⟨y5, hst⟩ : ∃ y_, y_ = ((((y4.setCell ⟨Q, 2, none⟩ (.int .i64 r2)).setCell ⟨Q, 3, none⟩ (.int .i64 c2)).setCell ⟨Q, 4, none⟩ (.int .i64 b2')).setCell ⟨Q, 5, none⟩ (.int .i64 p2)) := ⟨_, rfl⟩
    have D5 : DV w cb ad len cap y5 := by rw [hst]; exact ((((D4.set (N := Q) (i := 2) (by omega) hcb (.int .i64 r2)).set (N := Q) (i := 3) (by omega) hcb (.int .i64 c2)).set (N := Q) (i := 4) (by omega) hcb (.int .i64 b2')).set (N := Q) (i := 5) (by omega) hcb (.int .i64 p2))
    have QN : IBox y5 Q ⟨k, q, r2, c2, b2', p2, h, up⟩ := by rw [hst]; obtain ⟨⟨e0, e1, e2, e3, e4, e5, e6, e7⟩, ef⟩ := Q4; refine ⟨⟨?_, ?_, ?_, ?_, ?_, ?_, ?_, ?_⟩, fun j => ?_⟩ <;> simp [go_sem, *]
    have ZZ : IBox y5 R ⟨0, 0, 0, 0, 0, 0, 0, false⟩ := by rw [hst]; exact Z4.keep (by rw [Below.heap_setCell _ _ _ _ (by show R ≠ Q; omega), Below.heap_setCell _ _ _ _ (by show R ≠ Q; omega), Below.heap_setCell _ _ _ _ (by show R ≠ Q; omega), Below.heap_setCell _ _ _ _ (by show R ≠ Q; omega)])
    have cq := Q4
    obtain ⟨⟨e0, e1, e2, e3, e4, e5, e6, e7⟩, ef⟩ := cq
    have fi2 := ef 2
    have fi3 := ef 3
    have fi4 := ef 4
    have fi5 := ef 5
    go_upto_region 11 with fail
    rw [← hst]
    clear hst e0 e1 e2 e3 e4 e5 e6 e7 ef fi2 fi3 fi4 fi5
    have DZ := ((((((((D5.set (N := R) (i := 0) (by omega) hcb (.int .i64 k)).set (N := R) (i := 1) (by omega) hcb (.int .i64 q)).set (N := R) (i := 2) (by omega) hcb (.int .i64 r2)).set (N := R) (i := 3) (by omega) hcb (.int .i64 c2)).set (N := R) (i := 4) (by omega) hcb (.int .i64 b2')).set (N := R) (i := 5) (by omega) hcb (.int .i64 p2)).set (N := R) (i := 6) (by omega) hcb (.int .i64 h)).set (N := R) (i := 7) (by omega) hcb (.bool up))
    obtain ⟨⟨q0, q1, q2, q3, q4, q5, q6, q7⟩, qf⟩ := QN
    obtain ⟨⟨z0, z1, z2, z3, z4, z5, z6, z7⟩, zf⟩ := ZZ
    have f0 := zf 0
    have f1 := zf 1
    have f2 := zf 2
    have f3 := zf 3
    have f4 := zf 4
    have f5 := zf 5
    have f6 := zf 6
    have f7 := zf 7
    go_wp2
    refine bodyPost_ret (v := .agg #[.int .i64 k, .int .i64 q, .int .i64 r2, .int .i64 c2, .int .i64 b2', .int .i64 p2, .int .i64 h, .bool up]) (by simp [results, Tryz.results38, go_sem, *]) rfl ⟨⟨k, q, r2, c2, b2', p2, h, up⟩, rfl, DZ.src hs, DZ.gr, by (unfold V4 at hV4; unfold B8; simp only; omega)⟩
  have d2 : (t == 2) = false := by simpa using e2
  by_cases e3 : t = 3
  · subst e3
    obtain ⟨y4z, hy4z⟩ : ∃ y_, y_ = y3.alloc (Obj.cells #[.int .i64 (-1), .int .i64 8, .int .i64 9] 3) := ⟨_, rfl⟩
    have kz : Below y3.heap.size y3 y4z := by rw [hy4z]; exact below_new _
    have hpk : ∀ i, i < 3 → ∃ y, y4z.cell? ⟨y3.heap.size, i, none⟩ = some (.int .i64 y) ∧ (fun y : Int => -1 ≤ y ∧ y ≤ 9) y := fun i hi => by
      rw [hy4z]
      rcases (by omega : i = 0 ∨ i = 1 ∨ i = 2) with rfl | rfl | rfl
      · exact ⟨(-1 : Int), by simp [go_sem], by constructor <;> decide⟩
      · exact ⟨(8 : Int), by simp [go_sem], by constructor <;> decide⟩
      · exact ⟨(9 : Int), by simp [go_sem], by constructor <;> decide⟩
    have D3z := D3.later8 kz
    have hcz : y3.heap.size ≠ cb := by have := D3.cur.lt; omega
    have Q3z : IBox y4z Q _ := Q3.keep (kz.block _ Q3.at_.lt)
    have Z3z : IBox y4z R _ := Z3.keep (kz.block _ Z3.at_.lt)
    go_wp2_with fail
    go_at_call 47
    rw [← hy4z]
    clear hy4z kz
    refine (pickIntP (D3z.src hs) (fun y : Int => -1 ≤ y ∧ y ≤ 9) y3.heap.size 3 3 hcz (by decide) (by decide) hpk).mono ?_
    rintro e y4 ⟨n, rfl, hn, s_, g_⟩
    have D3p := D3z.step s_ g_
    have Q4 := Q3z.grown g_ lQc
    have Z4 := Z3z.grown g_ hRc
    obtain ⟨n0, n1⟩ := hn
    clear D3 D3z Q3 Q3z Z3 Z3z s_ g_ hpk hcz
    obtain ⟨y5, hst⟩ : ∃ y_, y_ = y4.setCell ⟨Q, 6, none⟩ (.int .i64 n) := ⟨_, rfl⟩
    have D5 : DV w cb ad len cap y5 := by rw [hst]; exact D3p.set (N := Q) (i := 6) (by omega) hcb _
    have QN : IBox y5 Q ⟨k, q, r, c, b, p, n, up⟩ := by rw [hst]; exact ⟨⟨(pset_else (by decide)).trans Q4.at_.c0, (pset_else (by decide)).trans Q4.at_.c1, (pset_else (by decide)).trans Q4.at_.c2, (pset_else (by decide)).trans Q4.at_.c3, (pset_else (by decide)).trans Q4.at_.c4, (pset_else (by decide)).trans Q4.at_.c5, pset_same Q4.at_.c6, (pset_else (by decide)).trans Q4.at_.c7⟩, fun j => by rw [World.frozen?_setCell]; exact Q4.fr j⟩
    have ZZ : IBox y5 R ⟨0, 0, 0, 0, 0, 0, 0, false⟩ := by rw [hst]; exact Z4.keep (Below.heap_setCell _ _ _ _ (by show R ≠ Q; omega))
    have cq := Q4
    obtain ⟨⟨e0, e1, e2, e3, e4, e5, e6, e7⟩, ef⟩ := cq
    have fi := ef 6
    go_upto_region 11 with fail
    rw [← hst]
    clear hst e0 e1 e2 e3 e4 e5 e6 e7 ef fi
    have DZ := ((((((((D5.set (N := R) (i := 0) (by omega) hcb (.int .i64 k)).set (N := R) (i := 1) (by omega) hcb (.int .i64 q)).set (N := R) (i := 2) (by omega) hcb (.int .i64 r)).set (N := R) (i := 3) (by omega) hcb (.int .i64 c)).set (N := R) (i := 4) (by omega) hcb (.int .i64 b)).set (N := R) (i := 5) (by omega) hcb (.int .i64 p)).set (N := R) (i := 6) (by omega) hcb (.int .i64 n)).set (N := R) (i := 7) (by omega) hcb (.bool up))
    obtain ⟨⟨q0, q1, q2, q3, q4, q5, q6, q7⟩, qf⟩ := QN
    obtain ⟨⟨z0, z1, z2, z3, z4, z5, z6, z7⟩, zf⟩ := ZZ
    have f0 := zf 0
    have f1 := zf 1
    have f2 := zf 2
    have f3 := zf 3
    have f4 := zf 4
    have f5 := zf 5
    have f6 := zf 6
    have f7 := zf 7
    go_wp2
    refine bodyPost_ret (v := .agg #[.int .i64 k, .int .i64 q, .int .i64 r, .int .i64 c, .int .i64 b, .int .i64 p, .int .i64 n, .bool up]) (by simp [results, Tryz.results38, go_sem, *]) rfl ⟨⟨k, q, r, c, b, p, n, up⟩, rfl, DZ.src hs, DZ.gr, by (unfold B8; simp only; omega)⟩
  have d3 : (t == 3) = false := by simpa using e3
  have ZZ := Z3
  have DZ := ((((((((D3.set (N := R) (i := 0) (by omega) hcb (.int .i64 k)).set (N := R) (i := 1) (by omega) hcb (.int .i64 q)).set (N := R) (i := 2) (by omega) hcb (.int .i64 r)).set (N := R) (i := 3) (by omega) hcb (.int .i64 c)).set (N := R) (i := 4) (by omega) hcb (.int .i64 b)).set (N := R) (i := 5) (by omega) hcb (.int .i64 p)).set (N := R) (i := 6) (by omega) hcb (.int .i64 h)).set (N := R) (i := 7) (by omega) hcb (.bool up))
  obtain ⟨⟨q0, q1, q2, q3, q4, q5, q6, q7⟩, qf⟩ := Q3
  obtain ⟨⟨z0, z1, z2, z3, z4, z5, z6, z7⟩, zf⟩ := ZZ
  have f0 := zf 0
  have f1 := zf 1
  have f2 := zf 2
  have f3 := zf 3
  have f4 := zf 4
  have f5 := zf 5
  have f6 := zf 6
  have f7 := zf 7
  go_wp2
  refine bodyPost_ret (v := .agg #[.int .i64 k, .int .i64 q, .int .i64 r, .int .i64 c, .int .i64 b, .int .i64 p, .int .i64 h, .bool up]) (by simp [results, Tryz.results38, go_sem, *]) rfl ⟨⟨k, q, r, c, b, p, h, up⟩, rfl, DZ.src hs, DZ.gr, by (unfold B8; simp only; omega)⟩

end Go.Proofs.YthgcbihhdbpbdaaGreatDoor
