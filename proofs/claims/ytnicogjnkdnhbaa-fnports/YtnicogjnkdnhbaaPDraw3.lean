/- Ports drawn of a code. -/
import Derived.Test.YtnicogjnkdnhbaaRows
import Derived.WalkKit
import Derived.ProofKit
import Derived.OpenShut
import Derived.ShutString
import Derived.ChangeOld
import Derived.Below
import Derived.Deep.QuietTactic
import Derived.BigQuiet
import Derived.WalkSmall
import Derived.Laws.OwnMore
import Derived.WalkSpells
import Derived.WalkLawsBesides
import Derived.Test.YtnicogjnkdnhbaaPDraw2
namespace Go.Proofs.Ytnicogjnkdnhbaa
open Go.ChangeShapes Go.WideShapes Go.ChangeAt Go.RowKit
open Go.ChangeMaps (open_string shut_string)
set_option linter.unusedVariables false

set_option maxHeartbeats 4000000 in
theorem drawFa (ad : Option Addr) (len cap : Nat) (f : Nat → Int) (w : World) (h : Code0 w ad len f) :
    Calls Try.prog 11 #[.slice ad len cap] w fun e w' => (∃ x : Pt, e = .returned (.agg #[.bool x.up, .bool x.has, .int .i64 x.r, .int .i64 x.c, .int .i64 x.b, .int .i64 x.p, .int .i64 x.h, .int .i64 x.l, .int .i64 x.ro, .int .i64 x.wa, .bool x.op])) ∧ Below w.heap.size w w' := by
  obtain ⟨R, hRe⟩ : ∃ R, R = w.heap.size := ⟨_, rfl⟩
  have hR : w.heap.size ≤ R := by omega
  obtain ⟨x0, hx0⟩ : ∃ y_, y_ = w.alloc (Obj.cells #[.bool false, .bool false, .int .i64 0, .int .i64 0, .int .i64 0, .int .i64 0, .int .i64 0, .int .i64 0, .int .i64 0, .int .i64 0, .bool false] 27) := ⟨_, rfl⟩
  have B0 : Below w.heap.size w x0 := by rw [hx0]; exact (Below.refl _ _).alloc (Nat.le_refl _) _
  have Q0 : PBox x0 R ⟨false, false, 0, 0, 0, 0, 0, 0, 0, 0, false⟩ := by rw [hx0, hRe]; exact PBox.new w _ ⟨false, false, 0, 0, 0, 0, 0, 0, 0, 0, false⟩
  have h0 := h.later B0 (Nat.le_refl _)
  go_enter Try.func11, Try.ntmps11
  go_wp2_with fail
  go_at_call 24
  rw [← hx0, ← hRe]
  clear hx0 hRe
  refine (drawNew ad len cap f x0 h0.view h0.lt h0.small h0.bytes).mono ?_
  rintro e y1 ⟨rfl, s1, b1, z1⟩
  have Q1 := Q0.below b1 Q0.lt
  have B1 := B0.trans (b1.mono B0.size)
  have hc1 : x0.heap.size < y1.heap.size := s1.cur.lt
  have hRl := Q0.lt
  generalize hcb : x0.heap.size = cb at *
  have hbR : w.heap.size ≤ cb := by rw [← hcb]; exact B0.size
  clear Q0 z1 hcb
  go_wp2_with fail
  go_at_call 25
  refine (drawL7 y1 s1 hc1).mono ?_
  rintro e y2 ⟨x, rfl, s2, g2⟩
  have Q2 := Q1.grown g2 (by omega)
  have B2 := below_cb B1 g2 hbR B1.size
  have hc2 : cb < y2.heap.size := s2.cur.lt
  clear Q1 s1 g2 hc1 b1 B1
  have Q' := Q2
  obtain ⟨⟨q0, q1, q2, q3, q4, q5, q6, q7, q8, q9, q10⟩, qf⟩ := Q2
  go_wp2
  obtain ⟨yz, hz⟩ : ∃ y, y = (((((((((((y2.setCell ⟨R, 0, none⟩ (.bool x.up)).setCell ⟨R, 1, none⟩ (.bool x.has)).setCell ⟨R, 2, none⟩ (.int .i64 x.r)).setCell ⟨R, 3, none⟩ (.int .i64 x.c)).setCell ⟨R, 4, none⟩ (.int .i64 x.b)).setCell ⟨R, 5, none⟩ (.int .i64 x.p)).setCell ⟨R, 6, none⟩ (.int .i64 x.h)).setCell ⟨R, 7, none⟩ (.int .i64 x.l)).setCell ⟨R, 8, none⟩ (.int .i64 x.ro)).setCell ⟨R, 9, none⟩ (.int .i64 x.wa)).setCell ⟨R, 10, none⟩ (.bool x.op)) := ⟨_, rfl⟩
  have BZ : Below w.heap.size w yz := by rw [hz]; exact below_put x B2 hR
  have Z_ : PBox yz R x := by rw [hz]; exact Q'.put x
  rw [← hz]
  clear hz Q'
  obtain ⟨e0, e1, e2, e3, e4, e5, e6, e7, e8, e9, e10⟩ := Z_.at_
  exact bodyPost_ret (v := .agg #[.bool x.up, .bool x.has, .int .i64 x.r, .int .i64 x.c, .int .i64 x.b, .int .i64 x.p, .int .i64 x.h, .int .i64 x.l, .int .i64 x.ro, .int .i64 x.wa, .bool x.op]) (by simp only [results, Try.results11]; simp [go_sem, e0, e1, e2, e3, e4, e5, e6, e7, e8, e9, e10]) rfl ⟨⟨x, rfl⟩, BZ⟩
set_option maxHeartbeats 4000000 in
theorem drawPo (ad : Option Addr) (len cap : Nat) (f : Nat → Int) (w : World) (h : Code0 w ad len f) :
    Calls Try.prog 15 #[.slice ad len cap] w fun e w' => (∃ x : Pt, e = .returned (.agg #[.bool x.up, .bool x.has, .int .i64 x.r, .int .i64 x.c, .int .i64 x.b, .int .i64 x.p, .int .i64 x.h, .int .i64 x.l, .int .i64 x.ro, .int .i64 x.wa, .bool x.op])) ∧ Below w.heap.size w w' := by
  obtain ⟨R, hRe⟩ : ∃ R, R = w.heap.size := ⟨_, rfl⟩
  have hR : w.heap.size ≤ R := by omega
  obtain ⟨x0, hx0⟩ : ∃ y_, y_ = w.alloc (Obj.cells #[.bool false, .bool false, .int .i64 0, .int .i64 0, .int .i64 0, .int .i64 0, .int .i64 0, .int .i64 0, .int .i64 0, .int .i64 0, .bool false] 27) := ⟨_, rfl⟩
  have B0 : Below w.heap.size w x0 := by rw [hx0]; exact (Below.refl _ _).alloc (Nat.le_refl _) _
  have Q0 : PBox x0 R ⟨false, false, 0, 0, 0, 0, 0, 0, 0, 0, false⟩ := by rw [hx0, hRe]; exact PBox.new w _ ⟨false, false, 0, 0, 0, 0, 0, 0, 0, 0, false⟩
  have h0 := h.later B0 (Nat.le_refl _)
  go_enter Try.func15, Try.ntmps15
  go_wp2_with fail
  go_at_call 24
  rw [← hx0, ← hRe]
  clear hx0 hRe
  refine (drawNew ad len cap f x0 h0.view h0.lt h0.small h0.bytes).mono ?_
  rintro e y1 ⟨rfl, s1, b1, z1⟩
  have Q1 := Q0.below b1 Q0.lt
  have B1 := B0.trans (b1.mono B0.size)
  have hc1 : x0.heap.size < y1.heap.size := s1.cur.lt
  have hRl := Q0.lt
  generalize hcb : x0.heap.size = cb at *
  have hbR : w.heap.size ≤ cb := by rw [← hcb]; exact B0.size
  clear Q0 z1 hcb
  go_wp2_with fail
  go_at_call 25
  refine (drawL7 y1 s1 hc1).mono ?_
  rintro e y2 ⟨x, rfl, s2, g2⟩
  have Q2 := Q1.grown g2 (by omega)
  have B2 := below_cb B1 g2 hbR B1.size
  have hc2 : cb < y2.heap.size := s2.cur.lt
  clear Q1 s1 g2 hc1 b1 B1
  have Q' := Q2
  obtain ⟨⟨q0, q1, q2, q3, q4, q5, q6, q7, q8, q9, q10⟩, qf⟩ := Q2
  go_wp2
  obtain ⟨yz, hz⟩ : ∃ y, y = (((((((((((y2.setCell ⟨R, 0, none⟩ (.bool x.up)).setCell ⟨R, 1, none⟩ (.bool x.has)).setCell ⟨R, 2, none⟩ (.int .i64 x.r)).setCell ⟨R, 3, none⟩ (.int .i64 x.c)).setCell ⟨R, 4, none⟩ (.int .i64 x.b)).setCell ⟨R, 5, none⟩ (.int .i64 x.p)).setCell ⟨R, 6, none⟩ (.int .i64 x.h)).setCell ⟨R, 7, none⟩ (.int .i64 x.l)).setCell ⟨R, 8, none⟩ (.int .i64 x.ro)).setCell ⟨R, 9, none⟩ (.int .i64 x.wa)).setCell ⟨R, 10, none⟩ (.bool x.op)) := ⟨_, rfl⟩
  have BZ : Below w.heap.size w yz := by rw [hz]; exact below_put x B2 hR
  have Z_ : PBox yz R x := by rw [hz]; exact Q'.put x
  rw [← hz]
  clear hz Q'
  obtain ⟨e0, e1, e2, e3, e4, e5, e6, e7, e8, e9, e10⟩ := Z_.at_
  exact bodyPost_ret (v := .agg #[.bool x.up, .bool x.has, .int .i64 x.r, .int .i64 x.c, .int .i64 x.b, .int .i64 x.p, .int .i64 x.h, .int .i64 x.l, .int .i64 x.ro, .int .i64 x.wa, .bool x.op]) (by simp only [results, Try.results15]; simp [go_sem, e0, e1, e2, e3, e4, e5, e6, e7, e8, e9, e10]) rfl ⟨⟨x, rfl⟩, BZ⟩
set_option maxHeartbeats 4000000 in
theorem drawTu (ad : Option Addr) (len cap : Nat) (f : Nat → Int) (w : World) (h : Code0 w ad len f) :
    Calls Try.prog 13 #[.slice ad len cap] w fun e w' => (∃ (x : Pt) (u : Int), e = .returned (.tuple #[.agg #[.bool x.up, .bool x.has, .int .i64 x.r, .int .i64 x.c, .int .i64 x.b, .int .i64 x.p, .int .i64 x.h, .int .i64 x.l, .int .i64 x.ro, .int .i64 x.wa, .bool x.op], .int .i64 u])) ∧ Below w.heap.size w w' := by
  obtain ⟨R, hRe⟩ : ∃ R, R = w.heap.size := ⟨_, rfl⟩
  have hR : w.heap.size ≤ R := by omega
  obtain ⟨x0, hx0⟩ : ∃ y_, y_ = w.alloc (Obj.cells #[.bool false, .bool false, .int .i64 0, .int .i64 0, .int .i64 0, .int .i64 0, .int .i64 0, .int .i64 0, .int .i64 0, .int .i64 0, .bool false] 27) := ⟨_, rfl⟩
  have B0 : Below w.heap.size w x0 := by rw [hx0]; exact (Below.refl _ _).alloc (Nat.le_refl _) _
  have Q0 : PBox x0 R ⟨false, false, 0, 0, 0, 0, 0, 0, 0, 0, false⟩ := by rw [hx0, hRe]; exact PBox.new w _ ⟨false, false, 0, 0, 0, 0, 0, 0, 0, 0, false⟩
  have h0 := h.later B0 (Nat.le_refl _)
  go_enter Try.func13, Try.ntmps13
  go_wp2_with fail
  go_at_call 24
  rw [← hx0, ← hRe]
  clear hx0 hRe
  refine (drawNew ad len cap f x0 h0.view h0.lt h0.small h0.bytes).mono ?_
  rintro e y1 ⟨rfl, s1, b1, z1⟩
  have Q1 := Q0.below b1 Q0.lt
  have B1 := B0.trans (b1.mono B0.size)
  have hc1 : x0.heap.size < y1.heap.size := s1.cur.lt
  have hRl := Q0.lt
  generalize hcb : x0.heap.size = cb at *
  have hbR : w.heap.size ≤ cb := by rw [← hcb]; exact B0.size
  clear Q0 z1 hcb
  go_wp2_with fail
  go_at_call 25
  refine (drawL7 y1 s1 hc1).mono ?_
  rintro e y2 ⟨x, rfl, s2, g2⟩
  have Q2 := Q1.grown g2 (by omega)
  have B2 := below_cb B1 g2 hbR B1.size
  have hc2 : cb < y2.heap.size := s2.cur.lt
  clear Q1 s1 g2 hc1 b1 B1
  obtain ⟨N, hq⟩ : ∃ N, N = y2.heap.size := ⟨_, rfl⟩
  obtain ⟨y3, hx⟩ : ∃ y, y = y2.alloc (Obj.cells #[.bool x.up, .bool x.has, .int .i64 x.r, .int .i64 x.c, .int .i64 x.b, .int .i64 x.p, .int .i64 x.h, .int .i64 x.l, .int .i64 x.ro, .int .i64 x.wa, .bool x.op] 27) := ⟨_, rfl⟩
  have N3 : PBox y3 N x := by rw [hx, hq]; exact PBox.new y2 _ x
  have k3 : Below y2.heap.size y2 y3 := by rw [hx]; exact (Below.refl _ _).alloc (Nat.le_refl _) _
  have Q3 := Q2.below k3 Q2.lt
  have hRN : R ≠ N := by have := Q2.lt; omega
  have hNc : N ≠ cb := by omega
  have B3 := B2.trans (k3.mono B2.size)
  have s3 := s2.later k3
  go_wp2
  rw [← hx, ← hq]
  clear hx hq Q2 B2 s2 k3
  refine wp_region_held (S := fun Y => PBox Y N x ∧ (∃ z, PBox Y R z) ∧ Below w.heap.size w Y) (by kernel_rfl) ?_
  change wpAnyH _ _ _ _ _ _ _ _ (World.drew _)
  have hb0 : PBox y3.drew N x ∧ PBox y3.drew R ⟨false, false, 0, 0, 0, 0, 0, 0, 0, 0, false⟩ ∧ Below w.heap.size w y3.drew := ⟨N3.keep rfl, Q3.keep rfl, B3.drew⟩
  have s4 : Src y3.drew cb ad len cap f := s3.later (Below.refl _ _).drew
  obtain ⟨y4, hy4⟩ : ∃ y, y = y3.drew := ⟨_, rfl⟩
  rw [← hy4] at hb0 s4 ⊢
  clear hy4 N3 Q3 B3 s3
  obtain ⟨n4, q4, b4⟩ := hb0
  have hS4 : PBox y4 N x ∧ (∃ z, PBox y4 R z) ∧ Below w.heap.size w y4 := ⟨n4, ⟨_, q4⟩, b4⟩
  refine takeW 0 10 (.agg #[.bool x.up, .bool x.has, .int .i64 x.r, .int .i64 x.c, .int .i64 x.b, .int .i64 x.p, .int .i64 x.h, .int .i64 x.l, .int .i64 x.ro, .int .i64 x.wa, .bool x.op]) rfl rfl (by kernel_rfl) (by kernel_rfl) (by kernel_rfl) (fun _ _ _ h => h) (by kernel_rfl) (by (intro Y hSw; obtain ⟨C0, C1, C2, C3, C4, C5, C6, C7, C8, C9, C10⟩ := hSw.1.at_; go_simp)) (by assumption) ?_
  simp only [List.set_cons_zero, List.set_cons_succ]
  refine takeW 1 11 (.pointer (some ⟨cb, 0, none⟩)) rfl rfl (by kernel_rfl) (by kernel_rfl) (by kernel_rfl) (fun _ _ _ h => h) (by kernel_rfl) (by (intro w hSw; go_simp)) (by assumption) ?_
  simp only [List.set_cons_zero, List.set_cons_succ]
  refine wpAnyH_all (rs := [2]) (by kernel_rfl) (by simp) ?_
  intro i hi; obtain rfl : i = 2 := by simpa using hi
  refine wpOp_step rfl (fun K hK => ?_)
  rw [if_pos (by kernel_rfl)]
  go_simp
  go_at_call 33
  refine (drawBelow s4 6 (by omega) (by omega)).mono ?_
  rintro e y5 ⟨u, rfl, u0, u1, s5, g5⟩
  have n5 := n4.grown g5 hNc
  have q5 := q4.grown g5 (by omega)
  have b5 := below_cb b4 g5 hbR b4.size
  have hS5 : PBox y5 N x ∧ (∃ z, PBox y5 R z) ∧ Below w.heap.size w y5 := ⟨n5, ⟨_, q5⟩, b5⟩
  have hw : IntKind.i64.wrap (u - 1) = u - 1 := by rw [IntKind.wrap_i64]; omega
  clear n4 q4 b4 hS4 s4 g5
  refine hK _ _ ⟨hS5, ?_⟩
  clear hK K hi
  refine takeW 3 13 (.int .i64 (u - 1)) rfl rfl (by kernel_rfl) (by kernel_rfl) (by kernel_rfl) (fun _ _ _ h => h) (by kernel_rfl) (by (intro w hSw; go_simp)) (by assumption) ?_
  simp only [List.set_cons_zero, List.set_cons_succ]
  refine wpAnyH_all (rs := [4]) (by kernel_rfl) (by simp) ?_
  intro i hi; obtain rfl : i = 4 := by simpa using hi
  refine wpOp_step rfl (fun K hK => ?_)
  rw [if_pos (by kernel_rfl)]
  have q5' := q5
  obtain ⟨⟨q0, q1, q2, q3, q4, q5, q6, q7, q8, q9, q10⟩, qf⟩ := q5
  go_simp
  clear qf q0 q1 q2 q3 q4 q5 q6 q7 q8 q9 q10
  obtain ⟨y6, hz⟩ : ∃ y, y = (((((((((((y5.setCell ⟨R, 0, none⟩ (.bool x.up)).setCell ⟨R, 1, none⟩ (.bool x.has)).setCell ⟨R, 2, none⟩ (.int .i64 x.r)).setCell ⟨R, 3, none⟩ (.int .i64 x.c)).setCell ⟨R, 4, none⟩ (.int .i64 x.b)).setCell ⟨R, 5, none⟩ (.int .i64 x.p)).setCell ⟨R, 6, none⟩ (.int .i64 x.h)).setCell ⟨R, 7, none⟩ (.int .i64 x.l)).setCell ⟨R, 8, none⟩ (.int .i64 x.ro)).setCell ⟨R, 9, none⟩ (.int .i64 x.wa)).setCell ⟨R, 10, none⟩ (.bool x.op)) := ⟨_, rfl⟩
  have n6 : PBox y6 N x := by rw [hz]; exact n5.putOther x (Ne.symm hRN)
  have q6 : PBox y6 R x := by rw [hz]; exact q5'.put x
  have b6 : Below w.heap.size w y6 := by rw [hz]; exact below_put x b5 hR
  rw [← hz]
  clear hz q5' n5 b5 hS5
  have hS6 : PBox y6 N x ∧ (∃ z, PBox y6 R z) ∧ Below w.heap.size w y6 := ⟨n6, ⟨_, q6⟩, b6⟩
  refine hK _ _ ⟨hS6, ?_⟩
  clear hK K hi
  refine takeW 5 3 (.int .i64 (u - 1)) rfl rfl (by kernel_rfl) (by kernel_rfl) (by kernel_rfl) (fun _ _ _ h => h) (by kernel_rfl) (by (intro w hSw; go_simp)) (by assumption) ?_
  simp only [List.set_cons_zero, List.set_cons_succ]
  refine wpAnyH_done (by kernel_rfl) ?_ _
  go_wp2
  obtain ⟨e0, e1, e2, e3, e4, e5, e6, e7, e8, e9, e10⟩ := q6.at_
  exact bodyPost_ret (v := .tuple #[.agg #[.bool x.up, .bool x.has, .int .i64 x.r, .int .i64 x.c, .int .i64 x.b, .int .i64 x.p, .int .i64 x.h, .int .i64 x.l, .int .i64 x.ro, .int .i64 x.wa, .bool x.op], .int .i64 (u - 1)]) (by simp only [results, Try.results13]; simp [go_sem, e0, e1, e2, e3, e4, e5, e6, e7, e8, e9, e10]) rfl ⟨⟨x, u - 1, rfl⟩, b6⟩
set_option maxHeartbeats 4000000 in
theorem drawCl (ad : Option Addr) (len cap : Nat) (f : Nat → Int) (w : World) (h : Code0 w ad len f) :
    Calls Try.prog 9 #[.slice ad len cap] w fun e w' => (∃ (x : Pt) (r c b p u : Int), e = .returned (.tuple #[.agg #[.bool x.up, .bool x.has, .int .i64 x.r, .int .i64 x.c, .int .i64 x.b, .int .i64 x.p, .int .i64 x.h, .int .i64 x.l, .int .i64 x.ro, .int .i64 x.wa, .bool x.op], .agg #[.int .i64 r, .int .i64 c, .int .i64 b, .int .i64 p], .int .i64 u])) ∧ Below w.heap.size w w' := by
  obtain ⟨R, hRe⟩ : ∃ R, R = w.heap.size := ⟨_, rfl⟩
  have hR : w.heap.size ≤ R := by omega
  obtain ⟨x0, hx0⟩ : ∃ y_, y_ = (w.alloc (Obj.cells #[.bool false, .bool false, .int .i64 0, .int .i64 0, .int .i64 0, .int .i64 0, .int .i64 0, .int .i64 0, .int .i64 0, .int .i64 0, .bool false] 27)).alloc (Obj.cells #[.int .i64 0, .int .i64 0, .int .i64 0, .int .i64 0] 25) := ⟨_, rfl⟩
  have B0 : Below w.heap.size w x0 := by rw [hx0]; exact ((Below.refl _ _).alloc (Nat.le_refl _) _).alloc (by simp) _
  have Q0 : PBox x0 R ⟨false, false, 0, 0, 0, 0, 0, 0, 0, 0, false⟩ := by rw [hx0, hRe]; exact (PBox.new w _ ⟨false, false, 0, 0, 0, 0, 0, 0, 0, 0, false⟩).alloc _
  have U0 : VBox x0 (R + 1) 0 0 0 0 := by rw [hx0, hRe]; refine ⟨?_, fun i => by simp [go_sem]⟩; refine ⟨?_, ?_, ?_, ?_⟩ <;> simp [go_sem]
  have h0 := h.later B0 (Nat.le_refl _)
  go_enter Try.func9, Try.ntmps9
  go_wp2_with fail
  go_at_call 24
  rw [← hx0, ← hRe]
  clear hx0 hRe
  refine (drawNew ad len cap f x0 h0.view h0.lt h0.small h0.bytes).mono ?_
  rintro e y1 ⟨rfl, s1, b1, z1⟩
  have Q1 := Q0.below b1 Q0.lt
  have U1 := U0.below b1 U0.lt
  have B1 := B0.trans (b1.mono B0.size)
  have hc1 : x0.heap.size < y1.heap.size := s1.cur.lt
  have hRl := Q0.lt
  have hUl := U0.lt
  generalize hcb : x0.heap.size = cb at *
  have hbR : w.heap.size ≤ cb := by rw [← hcb]; exact B0.size
  clear Q0 z1 hcb U0
  go_wp2_with fail
  go_at_call 25
  refine (drawL7 y1 s1 hc1).mono ?_
  rintro e y2 ⟨x, rfl, s2, g2⟩
  have Q2 := Q1.grown g2 (by omega)
  have U2 := U1.grown g2 (by omega)
  have B2 := below_cb B1 g2 hbR B1.size
  have hc2 : cb < y2.heap.size := s2.cur.lt
  clear Q1 s1 g2 hc1 b1 B1 U1
  obtain ⟨N, hq⟩ : ∃ N, N = y2.heap.size := ⟨_, rfl⟩
  obtain ⟨y3, hx⟩ : ∃ y, y = y2.alloc (Obj.cells #[.bool x.up, .bool x.has, .int .i64 x.r, .int .i64 x.c, .int .i64 x.b, .int .i64 x.p, .int .i64 x.h, .int .i64 x.l, .int .i64 x.ro, .int .i64 x.wa, .bool x.op] 27) := ⟨_, rfl⟩
  have N3 : PBox y3 N x := by rw [hx, hq]; exact PBox.new y2 _ x
  have k3 : Below y2.heap.size y2 y3 := by rw [hx]; exact (Below.refl _ _).alloc (Nat.le_refl _) _
  have Q3 := Q2.below k3 Q2.lt
  have U3 := U2.below k3 U2.lt
  have hRN : R + 1 < N := by have := U2.lt; omega
  have hNc : N ≠ cb := by omega
  have B3 := B2.trans (k3.mono B2.size)
  have s3 := s2.later k3
  have hc3 : cb < y3.heap.size := s3.cur.lt
  go_wp2_with fail
  go_at_call 26
  rw [← hx, ← hq]
  clear hx hq Q2 U2 B2 s2 k3
  refine (drawL6 y3 s3 hc3).mono ?_
  rintro e y4 ⟨r, c, b, p, rfl, _, s4, g4⟩
  have N4 := N3.grown g4 hNc
  have Q4 := Q3.grown g4 (by omega)
  have U4 := U3.grown g4 (by omega)
  have B4 := below_cb B3 g4 hbR B3.size
  clear N3 Q3 U3 B3 s3 g4 hc3
  obtain ⟨M, hq⟩ : ∃ M, M = y4.heap.size := ⟨_, rfl⟩
  obtain ⟨y5, hx⟩ : ∃ y, y = y4.alloc (Obj.cells #[.int .i64 r, .int .i64 c, .int .i64 b, .int .i64 p] 25) := ⟨_, rfl⟩
  have V5 : VBox y5 M r c b p := by rw [hx, hq]; exact VBox.new y4 _ r c b p
  have k5 : Below y4.heap.size y4 y5 := by rw [hx]; exact (Below.refl _ _).alloc (Nat.le_refl _) _
  have N5 := N4.below k5 N4.lt
  have Q5 := Q4.below k5 Q4.lt
  have U5 := U4.below k5 U4.lt
  have hNM : N < M := by have := N4.lt; omega
  have hMc : M ≠ cb := by have := s4.cur.lt; omega
  have B5 := B4.trans (k5.mono B4.size)
  have s5 := s4.later k5
  go_wp2_with fail
  go_at_call 27
  rw [← hx, ← hq]
  clear hx hq N4 Q4 U4 B4 s4 k5
  refine (drawOnce s5 3 (by omega) (by omega)).mono ?_
  rintro e y6 ⟨o, rfl, s6, g6⟩
  have N6 := N5.grown g6 hNc
  have V6 := V5.grown g6 hMc
  have Q6 := Q5.grown g6 (by omega)
  have U6 := U5.grown g6 (by omega)
  have B6 := below_cb B5 g6 hbR B5.size
  clear N5 V5 Q5 U5 B5 s5 g6
  cases o
  · go_upto_region 7 with fail
    refine wp_region_held (S := fun Y => PBox Y N x ∧ VBox Y M r c b p ∧ (∃ z, PBox Y R z) ∧ (∃ a b c d, VBox Y (R + 1) a b c d) ∧ Below w.heap.size w Y) (by kernel_rfl) ?_
    change wpAnyH _ _ _ _ _ _ _ _ (World.drew _)
    have na : PBox y6.drew N x := N6.keep rfl
    have va : VBox y6.drew M r c b p := V6.keep rfl
    have qa : PBox y6.drew R ⟨false, false, 0, 0, 0, 0, 0, 0, 0, 0, false⟩ := Q6.keep rfl
    have ua : VBox y6.drew (R + 1) 0 0 0 0 := U6.keep rfl
    have ba : Below w.heap.size w y6.drew := B6.drew
    have sa : Src y6.drew cb ad len cap f := s6.later (Below.refl _ _).drew
    obtain ⟨ya, hya⟩ : ∃ y, y = y6.drew := ⟨_, rfl⟩
    rw [← hya] at na va qa ua ba sa ⊢
    clear hya N6 V6 Q6 U6 B6 s6
    have hSa : PBox ya N x ∧ VBox ya M r c b p ∧ (∃ z, PBox ya R z) ∧ (∃ a b c d, VBox ya (R + 1) a b c d) ∧ Below w.heap.size w ya := ⟨na, va, ⟨_, qa⟩, ⟨_, _, _, _, ua⟩, ba⟩
    refine takeW 0 28 (.agg #[.bool x.up, .bool x.has, .int .i64 x.r, .int .i64 x.c, .int .i64 x.b, .int .i64 x.p, .int .i64 x.h, .int .i64 x.l, .int .i64 x.ro, .int .i64 x.wa, .bool x.op]) rfl rfl (by kernel_rfl) (by kernel_rfl) (by kernel_rfl) (fun _ _ _ h => h) (by kernel_rfl) (by (intro Y hSw; obtain ⟨C0, C1, C2, C3, C4, C5, C6, C7, C8, C9, C10⟩ := hSw.1.at_; go_simp)) (by assumption) ?_
    simp only [List.set_cons_zero, List.set_cons_succ]
    refine takeW 1 29 (.agg #[.int .i64 r, .int .i64 c, .int .i64 b, .int .i64 p]) rfl rfl (by kernel_rfl) (by kernel_rfl) (by kernel_rfl) (fun _ _ _ h => h) (by kernel_rfl) (by (intro Y hSw; obtain ⟨⟨C0, C1, C2, C3⟩, _⟩ := hSw.2.1; go_simp)) (by assumption) ?_
    simp only [List.set_cons_zero, List.set_cons_succ]
    refine takeW 2 30 (.pointer (some ⟨cb, 0, none⟩)) rfl rfl (by kernel_rfl) (by kernel_rfl) (by kernel_rfl) (fun _ _ _ h => h) (by kernel_rfl) (by (intro w hSw; go_simp)) (by assumption) ?_
    simp only [List.set_cons_zero, List.set_cons_succ]
    refine wpAnyH_all (rs := [3]) (by kernel_rfl) (by simp) ?_
    intro i hi; obtain rfl : i = 3 := by simpa using hi
    refine wpOp_step rfl (fun K hK => ?_)
    rw [if_pos (by kernel_rfl)]
    go_simp
    obtain ⟨B, hBe⟩ : ∃ B, B = ya.heap.size := ⟨_, rfl⟩
    have hBc : B ≠ cb := by have := sa.cur.lt; omega
    obtain ⟨yb, hx⟩ : ∃ y_, y_ = ya.alloc (Obj.cells #[.int .i64 0, .int .i64 1, .int .i64 8, .int .i64 9, .int .i64 (-1)] 3) := ⟨_, rfl⟩
    have hg : ∀ i, i < 5 → ∃ y, yb.cell? ⟨B, i, none⟩ = some (.int .i64 y) ∧ (-1 ≤ y ∧ y ≤ 100) := by
      intro i hi
      rw [hx, hBe]
      obtain rfl | rfl | rfl | rfl | rfl : i = 0 ∨ i = 1 ∨ i = 2 ∨ i = 3 ∨ i = 4 := by omega
      · exact ⟨_, lit_at ya _ _ 0 rfl, by omega⟩
      · exact ⟨_, lit_at ya _ _ 1 rfl, by omega⟩
      · exact ⟨_, lit_at ya _ _ 2 rfl, by omega⟩
      · exact ⟨_, lit_at ya _ _ 3 rfl, by omega⟩
      · exact ⟨_, lit_at ya _ _ 4 rfl, by omega⟩
    have kq : Below ya.heap.size ya yb := by rw [hx]; exact (Below.refl _ _).alloc (Nat.le_refl _) _
    have nb := na.below kq na.lt
    have vb := va.below kq va.lt
    have qb := qa.below kq qa.lt
    have ub := ua.below kq ua.lt
    have bb_ := ba.trans (kq.mono ba.size)
    have sb := sa.later kq
    rw [← hx, ← hBe]
    clear hx hBe na va qa ua ba sa hSa kq
    have hSb : PBox yb N x ∧ VBox yb M r c b p ∧ (∃ z, PBox yb R z) ∧ (∃ a b c d, VBox yb (R + 1) a b c d) ∧ Below w.heap.size w yb := ⟨nb, vb, ⟨_, qb⟩, ⟨_, _, _, _, ub⟩, bb_⟩
    refine hK _ _ ⟨hSb, ?_⟩
    clear hK K hi
    refine wpAnyH_all (rs := [4]) (by kernel_rfl) (by simp) ?_
    intro i hi; obtain rfl : i = 4 := by simpa using hi
    refine wpOp_step rfl (fun K hK => ?_)
    rw [if_pos (by kernel_rfl)]
    go_simp
    go_at_call 28
    refine (pickIntP sb (fun y => -1 ≤ y ∧ y ≤ 100) B 5 5 hBc (by omega) (by omega) hg).mono ?_
    rintro e yc ⟨u, rfl, ur, sc, gc⟩
    have nc := nb.grown gc hNc
    have vc := vb.grown gc hMc
    have qc := qb.grown gc (by omega)
    have uc := ub.grown gc (by omega)
    have bc := below_cb bb_ gc hbR bb_.size
    have hSc : PBox yc N x ∧ VBox yc M r c b p ∧ (∃ z, PBox yc R z) ∧ (∃ a b c d, VBox yc (R + 1) a b c d) ∧ Below w.heap.size w yc := ⟨nc, vc, ⟨_, qc⟩, ⟨_, _, _, _, uc⟩, bc⟩
    clear nb vb qb ub bb_ sb hSb sc gc hg hBc ur
    refine hK _ _ ⟨hSc, ?_⟩
    clear hK K hi
    refine wpAnyH_all (rs := [5]) (by kernel_rfl) (by simp) ?_
    intro i hi; obtain rfl : i = 5 := by simpa using hi
    refine wpOp_step rfl (fun K hK => ?_)
    rw [if_pos (by kernel_rfl)]
    have qc' := qc
    obtain ⟨⟨q0, q1, q2, q3, q4, q5, q6, q7, q8, q9, q10⟩, qf⟩ := qc
    go_simp
    clear qf q0 q1 q2 q3 q4 q5 q6 q7 q8 q9 q10
    obtain ⟨yd, hz⟩ : ∃ y, y = (((((((((((yc.setCell ⟨R, 0, none⟩ (.bool x.up)).setCell ⟨R, 1, none⟩ (.bool x.has)).setCell ⟨R, 2, none⟩ (.int .i64 x.r)).setCell ⟨R, 3, none⟩ (.int .i64 x.c)).setCell ⟨R, 4, none⟩ (.int .i64 x.b)).setCell ⟨R, 5, none⟩ (.int .i64 x.p)).setCell ⟨R, 6, none⟩ (.int .i64 x.h)).setCell ⟨R, 7, none⟩ (.int .i64 x.l)).setCell ⟨R, 8, none⟩ (.int .i64 x.ro)).setCell ⟨R, 9, none⟩ (.int .i64 x.wa)).setCell ⟨R, 10, none⟩ (.bool x.op)) := ⟨_, rfl⟩
    have nd : PBox yd N x := by rw [hz]; exact nc.putOther x (by omega)
    have vd : VBox yd M r c b p := by rw [hz]; exact (((((((((((vc.other (by omega)).other (by omega)).other (by omega)).other (by omega)).other (by omega)).other (by omega)).other (by omega)).other (by omega)).other (by omega)).other (by omega)).other (by omega))
    have qd : PBox yd R x := by rw [hz]; exact qc'.put x
    have ud : VBox yd (R + 1) 0 0 0 0 := by rw [hz]; exact (((((((((((uc.other (by omega)).other (by omega)).other (by omega)).other (by omega)).other (by omega)).other (by omega)).other (by omega)).other (by omega)).other (by omega)).other (by omega)).other (by omega))
    have bd : Below w.heap.size w yd := by rw [hz]; exact below_put x bc hR
    rw [← hz]
    clear hz qc' nc vc uc bc hSc
    have hSd : PBox yd N x ∧ VBox yd M r c b p ∧ (∃ z, PBox yd R z) ∧ (∃ a b c d, VBox yd (R + 1) a b c d) ∧ Below w.heap.size w yd := ⟨nd, vd, ⟨_, qd⟩, ⟨_, _, _, _, ud⟩, bd⟩
    refine hK _ _ ⟨hSd, ?_⟩
    clear hK K hi
    refine wpAnyH_all (rs := [6]) (by kernel_rfl) (by simp) ?_
    intro i hi; obtain rfl : i = 6 := by simpa using hi
    refine wpOp_step rfl (fun K hK => ?_)
    rw [if_pos (by kernel_rfl)]
    have ud' := ud
    obtain ⟨⟨t0, t1, t2, t3⟩, tf⟩ := ud
    have f0 := tf 0
    have f1 := tf 1
    have f2 := tf 2
    have f3 := tf 3
    go_simp
    clear tf f0 f1 f2 f3 t0 t1 t2 t3
    obtain ⟨ye, hz⟩ : ∃ y, y = (((yd.setCell ⟨R + 1, 0, none⟩ (.int .i64 r)).setCell ⟨R + 1, 1, none⟩ (.int .i64 c)).setCell ⟨R + 1, 2, none⟩ (.int .i64 b)).setCell ⟨R + 1, 3, none⟩ (.int .i64 p) := ⟨_, rfl⟩
    have ne : PBox ye N x := by rw [hz]; exact (((nd.other (by omega)).other (by omega)).other (by omega)).other (by omega)
    have ve : VBox ye M r c b p := by rw [hz]; exact (((vd.other (by omega)).other (by omega)).other (by omega)).other (by omega)
    have qe : PBox ye R x := by rw [hz]; exact (((qd.other (by omega)).other (by omega)).other (by omega)).other (by omega)
    have ue : VBox ye (R + 1) r c b p := by rw [hz]; exact ud'.put r c b p
    have be : Below w.heap.size w ye := by rw [hz]; exact (((bd.setCell (by show _ ≤ R + 1; omega) _).setCell (by show _ ≤ R + 1; omega) _).setCell (by show _ ≤ R + 1; omega) _).setCell (by show _ ≤ R + 1; omega) _
    rw [← hz]
    clear hz ud' nd vd qd bd hSd
    have hSe : PBox ye N x ∧ VBox ye M r c b p ∧ (∃ z, PBox ye R z) ∧ (∃ a b c d, VBox ye (R + 1) a b c d) ∧ Below w.heap.size w ye := ⟨ne, ve, ⟨_, qe⟩, ⟨_, _, _, _, ue⟩, be⟩
    refine hK _ _ ⟨hSe, ?_⟩
    clear hK K hi
    refine takeW 7 4 (.int .i64 u) rfl rfl (by kernel_rfl) (by kernel_rfl) (by kernel_rfl) (fun _ _ _ h => h) (by kernel_rfl) (by (intro w hSw; go_simp)) (by assumption) ?_
    simp only [List.set_cons_zero, List.set_cons_succ]
    refine wpAnyH_done (by kernel_rfl) ?_ _
    go_wp2
    obtain ⟨e0, e1, e2, e3, e4, e5, e6, e7, e8, e9, e10⟩ := qe.at_
    obtain ⟨⟨g0, g1, g2, g3⟩, _⟩ := ue
    exact bodyPost_ret (v := .tuple #[.agg #[.bool x.up, .bool x.has, .int .i64 x.r, .int .i64 x.c, .int .i64 x.b, .int .i64 x.p, .int .i64 x.h, .int .i64 x.l, .int .i64 x.ro, .int .i64 x.wa, .bool x.op], .agg #[.int .i64 r, .int .i64 c, .int .i64 b, .int .i64 p], .int .i64 u]) (by simp only [results, Try.results9]; simp [go_sem, e0, e1, e2, e3, e4, e5, e6, e7, e8, e9, e10, g0, g1, g2, g3]) rfl ⟨⟨x, r, c, b, p, u, rfl⟩, be⟩
  cases hh : x.has
  · obtain ⟨n0, n1, n2, n3, n4, n5, n6, n7, n8, n9, n10⟩ := N6.at_
    go_upto_region 7 with fail
    clear hh n0 n1 n2 n3 n4 n5 n6 n7 n8 n9 n10
    refine wp_region_held (S := fun Y => PBox Y N x ∧ VBox Y M r c b p ∧ (∃ z, PBox Y R z) ∧ (∃ a b c d, VBox Y (R + 1) a b c d) ∧ Below w.heap.size w Y) (by kernel_rfl) ?_
    change wpAnyH _ _ _ _ _ _ _ _ (World.drew _)
    have na : PBox y6.drew N x := N6.keep rfl
    have va : VBox y6.drew M r c b p := V6.keep rfl
    have qa : PBox y6.drew R ⟨false, false, 0, 0, 0, 0, 0, 0, 0, 0, false⟩ := Q6.keep rfl
    have ua : VBox y6.drew (R + 1) 0 0 0 0 := U6.keep rfl
    have ba : Below w.heap.size w y6.drew := B6.drew
    have sa : Src y6.drew cb ad len cap f := s6.later (Below.refl _ _).drew
    obtain ⟨ya, hya⟩ : ∃ y, y = y6.drew := ⟨_, rfl⟩
    rw [← hya] at na va qa ua ba sa ⊢
    clear hya N6 V6 Q6 U6 B6 s6
    have hSa : PBox ya N x ∧ VBox ya M r c b p ∧ (∃ z, PBox ya R z) ∧ (∃ a b c d, VBox ya (R + 1) a b c d) ∧ Below w.heap.size w ya := ⟨na, va, ⟨_, qa⟩, ⟨_, _, _, _, ua⟩, ba⟩
    refine takeW 0 28 (.agg #[.bool x.up, .bool x.has, .int .i64 x.r, .int .i64 x.c, .int .i64 x.b, .int .i64 x.p, .int .i64 x.h, .int .i64 x.l, .int .i64 x.ro, .int .i64 x.wa, .bool x.op]) rfl rfl (by kernel_rfl) (by kernel_rfl) (by kernel_rfl) (fun _ _ _ h => h) (by kernel_rfl) (by (intro Y hSw; obtain ⟨C0, C1, C2, C3, C4, C5, C6, C7, C8, C9, C10⟩ := hSw.1.at_; go_simp)) (by assumption) ?_
    simp only [List.set_cons_zero, List.set_cons_succ]
    refine takeW 1 29 (.agg #[.int .i64 r, .int .i64 c, .int .i64 b, .int .i64 p]) rfl rfl (by kernel_rfl) (by kernel_rfl) (by kernel_rfl) (fun _ _ _ h => h) (by kernel_rfl) (by (intro Y hSw; obtain ⟨⟨C0, C1, C2, C3⟩, _⟩ := hSw.2.1; go_simp)) (by assumption) ?_
    simp only [List.set_cons_zero, List.set_cons_succ]
    refine takeW 2 30 (.pointer (some ⟨cb, 0, none⟩)) rfl rfl (by kernel_rfl) (by kernel_rfl) (by kernel_rfl) (fun _ _ _ h => h) (by kernel_rfl) (by (intro w hSw; go_simp)) (by assumption) ?_
    simp only [List.set_cons_zero, List.set_cons_succ]
    refine wpAnyH_all (rs := [3]) (by kernel_rfl) (by simp) ?_
    intro i hi; obtain rfl : i = 3 := by simpa using hi
    refine wpOp_step rfl (fun K hK => ?_)
    rw [if_pos (by kernel_rfl)]
    go_simp
    obtain ⟨B, hBe⟩ : ∃ B, B = ya.heap.size := ⟨_, rfl⟩
    have hBc : B ≠ cb := by have := sa.cur.lt; omega
    obtain ⟨yb, hx⟩ : ∃ y_, y_ = ya.alloc (Obj.cells #[.int .i64 0, .int .i64 1, .int .i64 8, .int .i64 9, .int .i64 (-1)] 3) := ⟨_, rfl⟩
    have hg : ∀ i, i < 5 → ∃ y, yb.cell? ⟨B, i, none⟩ = some (.int .i64 y) ∧ (-1 ≤ y ∧ y ≤ 100) := by
      intro i hi
      rw [hx, hBe]
      obtain rfl | rfl | rfl | rfl | rfl : i = 0 ∨ i = 1 ∨ i = 2 ∨ i = 3 ∨ i = 4 := by omega
      · exact ⟨_, lit_at ya _ _ 0 rfl, by omega⟩
      · exact ⟨_, lit_at ya _ _ 1 rfl, by omega⟩
      · exact ⟨_, lit_at ya _ _ 2 rfl, by omega⟩
      · exact ⟨_, lit_at ya _ _ 3 rfl, by omega⟩
      · exact ⟨_, lit_at ya _ _ 4 rfl, by omega⟩
    have kq : Below ya.heap.size ya yb := by rw [hx]; exact (Below.refl _ _).alloc (Nat.le_refl _) _
    have nb := na.below kq na.lt
    have vb := va.below kq va.lt
    have qb := qa.below kq qa.lt
    have ub := ua.below kq ua.lt
    have bb_ := ba.trans (kq.mono ba.size)
    have sb := sa.later kq
    rw [← hx, ← hBe]
    clear hx hBe na va qa ua ba sa hSa kq
    have hSb : PBox yb N x ∧ VBox yb M r c b p ∧ (∃ z, PBox yb R z) ∧ (∃ a b c d, VBox yb (R + 1) a b c d) ∧ Below w.heap.size w yb := ⟨nb, vb, ⟨_, qb⟩, ⟨_, _, _, _, ub⟩, bb_⟩
    refine hK _ _ ⟨hSb, ?_⟩
    clear hK K hi
    refine wpAnyH_all (rs := [4]) (by kernel_rfl) (by simp) ?_
    intro i hi; obtain rfl : i = 4 := by simpa using hi
    refine wpOp_step rfl (fun K hK => ?_)
    rw [if_pos (by kernel_rfl)]
    go_simp
    go_at_call 28
    refine (pickIntP sb (fun y => -1 ≤ y ∧ y ≤ 100) B 5 5 hBc (by omega) (by omega) hg).mono ?_
    rintro e yc ⟨u, rfl, ur, sc, gc⟩
    have nc := nb.grown gc hNc
    have vc := vb.grown gc hMc
    have qc := qb.grown gc (by omega)
    have uc := ub.grown gc (by omega)
    have bc := below_cb bb_ gc hbR bb_.size
    have hSc : PBox yc N x ∧ VBox yc M r c b p ∧ (∃ z, PBox yc R z) ∧ (∃ a b c d, VBox yc (R + 1) a b c d) ∧ Below w.heap.size w yc := ⟨nc, vc, ⟨_, qc⟩, ⟨_, _, _, _, uc⟩, bc⟩
    clear nb vb qb ub bb_ sb hSb sc gc hg hBc ur
    refine hK _ _ ⟨hSc, ?_⟩
    clear hK K hi
    refine wpAnyH_all (rs := [5]) (by kernel_rfl) (by simp) ?_
    intro i hi; obtain rfl : i = 5 := by simpa using hi
    refine wpOp_step rfl (fun K hK => ?_)
    rw [if_pos (by kernel_rfl)]
    have qc' := qc
    obtain ⟨⟨q0, q1, q2, q3, q4, q5, q6, q7, q8, q9, q10⟩, qf⟩ := qc
    go_simp
    clear qf q0 q1 q2 q3 q4 q5 q6 q7 q8 q9 q10
    obtain ⟨yd, hz⟩ : ∃ y, y = (((((((((((yc.setCell ⟨R, 0, none⟩ (.bool x.up)).setCell ⟨R, 1, none⟩ (.bool x.has)).setCell ⟨R, 2, none⟩ (.int .i64 x.r)).setCell ⟨R, 3, none⟩ (.int .i64 x.c)).setCell ⟨R, 4, none⟩ (.int .i64 x.b)).setCell ⟨R, 5, none⟩ (.int .i64 x.p)).setCell ⟨R, 6, none⟩ (.int .i64 x.h)).setCell ⟨R, 7, none⟩ (.int .i64 x.l)).setCell ⟨R, 8, none⟩ (.int .i64 x.ro)).setCell ⟨R, 9, none⟩ (.int .i64 x.wa)).setCell ⟨R, 10, none⟩ (.bool x.op)) := ⟨_, rfl⟩
    have nd : PBox yd N x := by rw [hz]; exact nc.putOther x (by omega)
    have vd : VBox yd M r c b p := by rw [hz]; exact (((((((((((vc.other (by omega)).other (by omega)).other (by omega)).other (by omega)).other (by omega)).other (by omega)).other (by omega)).other (by omega)).other (by omega)).other (by omega)).other (by omega))
    have qd : PBox yd R x := by rw [hz]; exact qc'.put x
    have ud : VBox yd (R + 1) 0 0 0 0 := by rw [hz]; exact (((((((((((uc.other (by omega)).other (by omega)).other (by omega)).other (by omega)).other (by omega)).other (by omega)).other (by omega)).other (by omega)).other (by omega)).other (by omega)).other (by omega))
    have bd : Below w.heap.size w yd := by rw [hz]; exact below_put x bc hR
    rw [← hz]
    clear hz qc' nc vc uc bc hSc
    have hSd : PBox yd N x ∧ VBox yd M r c b p ∧ (∃ z, PBox yd R z) ∧ (∃ a b c d, VBox yd (R + 1) a b c d) ∧ Below w.heap.size w yd := ⟨nd, vd, ⟨_, qd⟩, ⟨_, _, _, _, ud⟩, bd⟩
    refine hK _ _ ⟨hSd, ?_⟩
    clear hK K hi
    refine wpAnyH_all (rs := [6]) (by kernel_rfl) (by simp) ?_
    intro i hi; obtain rfl : i = 6 := by simpa using hi
    refine wpOp_step rfl (fun K hK => ?_)
    rw [if_pos (by kernel_rfl)]
    have ud' := ud
    obtain ⟨⟨t0, t1, t2, t3⟩, tf⟩ := ud
    have f0 := tf 0
    have f1 := tf 1
    have f2 := tf 2
    have f3 := tf 3
    go_simp
    clear tf f0 f1 f2 f3 t0 t1 t2 t3
    obtain ⟨ye, hz⟩ : ∃ y, y = (((yd.setCell ⟨R + 1, 0, none⟩ (.int .i64 r)).setCell ⟨R + 1, 1, none⟩ (.int .i64 c)).setCell ⟨R + 1, 2, none⟩ (.int .i64 b)).setCell ⟨R + 1, 3, none⟩ (.int .i64 p) := ⟨_, rfl⟩
    have ne : PBox ye N x := by rw [hz]; exact (((nd.other (by omega)).other (by omega)).other (by omega)).other (by omega)
    have ve : VBox ye M r c b p := by rw [hz]; exact (((vd.other (by omega)).other (by omega)).other (by omega)).other (by omega)
    have qe : PBox ye R x := by rw [hz]; exact (((qd.other (by omega)).other (by omega)).other (by omega)).other (by omega)
    have ue : VBox ye (R + 1) r c b p := by rw [hz]; exact ud'.put r c b p
    have be : Below w.heap.size w ye := by rw [hz]; exact (((bd.setCell (by show _ ≤ R + 1; omega) _).setCell (by show _ ≤ R + 1; omega) _).setCell (by show _ ≤ R + 1; omega) _).setCell (by show _ ≤ R + 1; omega) _
    rw [← hz]
    clear hz ud' nd vd qd bd hSd
    have hSe : PBox ye N x ∧ VBox ye M r c b p ∧ (∃ z, PBox ye R z) ∧ (∃ a b c d, VBox ye (R + 1) a b c d) ∧ Below w.heap.size w ye := ⟨ne, ve, ⟨_, qe⟩, ⟨_, _, _, _, ue⟩, be⟩
    refine hK _ _ ⟨hSe, ?_⟩
    clear hK K hi
    refine takeW 7 4 (.int .i64 u) rfl rfl (by kernel_rfl) (by kernel_rfl) (by kernel_rfl) (fun _ _ _ h => h) (by kernel_rfl) (by (intro w hSw; go_simp)) (by assumption) ?_
    simp only [List.set_cons_zero, List.set_cons_succ]
    refine wpAnyH_done (by kernel_rfl) ?_ _
    go_wp2
    obtain ⟨e0, e1, e2, e3, e4, e5, e6, e7, e8, e9, e10⟩ := qe.at_
    obtain ⟨⟨g0, g1, g2, g3⟩, _⟩ := ue
    exact bodyPost_ret (v := .tuple #[.agg #[.bool x.up, .bool x.has, .int .i64 x.r, .int .i64 x.c, .int .i64 x.b, .int .i64 x.p, .int .i64 x.h, .int .i64 x.l, .int .i64 x.ro, .int .i64 x.wa, .bool x.op], .agg #[.int .i64 r, .int .i64 c, .int .i64 b, .int .i64 p], .int .i64 u]) (by simp only [results, Try.results9]; simp [go_sem, e0, e1, e2, e3, e4, e5, e6, e7, e8, e9, e10, g0, g1, g2, g3]) rfl ⟨⟨x, r, c, b, p, u, rfl⟩, be⟩
  obtain ⟨n0, n1, n2, n3, n4, n5, n6, n7, n8, n9, n10⟩ := N6.at_
  obtain ⟨⟨v0, v1, v2, v3⟩, vf⟩ := V6
  have V6 : VBox y6 M r c b p := ⟨⟨v0, v1, v2, v3⟩, vf⟩
  have vf2 := vf 2
  have vf3 := vf 3
  go_upto_region 7 with fail
  clear hh n0 n1 n2 n3 n4 n5 n6 n7 n8 n9 n10 v0 v1 v2 v3 vf vf2 vf3
  obtain ⟨y7, hz⟩ : ∃ y, y = (y6.setCell ⟨M, 2, none⟩ (.int .i64 x.b)).setCell ⟨M, 3, none⟩ (.int .i64 x.p) := ⟨_, rfl⟩
  have N7 : PBox y7 N x := by rw [hz]; exact (N6.other (by omega)).other (by omega)
  have V7 : VBox y7 M r c x.b x.p := by rw [hz]; exact (V6.set2 x.b).set3 x.p
  have Q7 : PBox y7 R ⟨false, false, 0, 0, 0, 0, 0, 0, 0, 0, false⟩ := by rw [hz]; exact (Q6.other (by omega)).other (by omega)
  have U7 : VBox y7 (R + 1) 0 0 0 0 := by rw [hz]; exact (U6.other (by omega)).other (by omega)
  have B7 : Below w.heap.size w y7 := by rw [hz]; exact (B6.setCell (by show _ ≤ M; omega) _).setCell (by show _ ≤ M; omega) _
  have s7 : Src y7 cb ad len cap f := ⟨by rw [hz]; exact s6.cur.carry ((Below.heap_setCell _ _ _ _ (Ne.symm hMc)).trans (Below.heap_setCell _ _ _ _ (Ne.symm hMc))), s6.view.carry (fun a e hp => by have := h.lt a e hp; rw [hz]; exact (Below.heap_setCell _ _ _ _ (by show a.block ≠ M; omega)).trans (Below.heap_setCell _ _ _ _ (by show a.block ≠ M; omega))), s6.ne, s6.small, s6.bytes⟩
  rw [← hz]
  clear hz N6 V6 Q6 U6 B6 s6
  refine wp_region_held (S := fun Y => PBox Y N x ∧ VBox Y M r c x.b x.p ∧ (∃ z, PBox Y R z) ∧ (∃ a b c d, VBox Y (R + 1) a b c d) ∧ Below w.heap.size w Y) (by kernel_rfl) ?_
  change wpAnyH _ _ _ _ _ _ _ _ (World.drew _)
  have na : PBox y7.drew N x := N7.keep rfl
  have va : VBox y7.drew M r c x.b x.p := V7.keep rfl
  have qa : PBox y7.drew R ⟨false, false, 0, 0, 0, 0, 0, 0, 0, 0, false⟩ := Q7.keep rfl
  have ua : VBox y7.drew (R + 1) 0 0 0 0 := U7.keep rfl
  have ba : Below w.heap.size w y7.drew := B7.drew
  have sa : Src y7.drew cb ad len cap f := s7.later (Below.refl _ _).drew
  obtain ⟨ya, hya⟩ : ∃ y, y = y7.drew := ⟨_, rfl⟩
  rw [← hya] at na va qa ua ba sa ⊢
  clear hya N7 V7 Q7 U7 B7 s7
  have hSa : PBox ya N x ∧ VBox ya M r c x.b x.p ∧ (∃ z, PBox ya R z) ∧ (∃ a b c d, VBox ya (R + 1) a b c d) ∧ Below w.heap.size w ya := ⟨na, va, ⟨_, qa⟩, ⟨_, _, _, _, ua⟩, ba⟩
  refine takeW 0 28 (.agg #[.bool x.up, .bool x.has, .int .i64 x.r, .int .i64 x.c, .int .i64 x.b, .int .i64 x.p, .int .i64 x.h, .int .i64 x.l, .int .i64 x.ro, .int .i64 x.wa, .bool x.op]) rfl rfl (by kernel_rfl) (by kernel_rfl) (by kernel_rfl) (fun _ _ _ h => h) (by kernel_rfl) (by (intro Y hSw; obtain ⟨C0, C1, C2, C3, C4, C5, C6, C7, C8, C9, C10⟩ := hSw.1.at_; go_simp)) (by assumption) ?_
  simp only [List.set_cons_zero, List.set_cons_succ]
  refine takeW 1 29 (.agg #[.int .i64 r, .int .i64 c, .int .i64 x.b, .int .i64 x.p]) rfl rfl (by kernel_rfl) (by kernel_rfl) (by kernel_rfl) (fun _ _ _ h => h) (by kernel_rfl) (by (intro Y hSw; obtain ⟨⟨C0, C1, C2, C3⟩, _⟩ := hSw.2.1; go_simp)) (by assumption) ?_
  simp only [List.set_cons_zero, List.set_cons_succ]
  refine takeW 2 30 (.pointer (some ⟨cb, 0, none⟩)) rfl rfl (by kernel_rfl) (by kernel_rfl) (by kernel_rfl) (fun _ _ _ h => h) (by kernel_rfl) (by (intro w hSw; go_simp)) (by assumption) ?_
  simp only [List.set_cons_zero, List.set_cons_succ]
  refine wpAnyH_all (rs := [3]) (by kernel_rfl) (by simp) ?_
  intro i hi; obtain rfl : i = 3 := by simpa using hi
  refine wpOp_step rfl (fun K hK => ?_)
  rw [if_pos (by kernel_rfl)]
  go_simp
  obtain ⟨B, hBe⟩ : ∃ B, B = ya.heap.size := ⟨_, rfl⟩
  have hBc : B ≠ cb := by have := sa.cur.lt; omega
  obtain ⟨yb, hx⟩ : ∃ y_, y_ = ya.alloc (Obj.cells #[.int .i64 0, .int .i64 1, .int .i64 8, .int .i64 9, .int .i64 (-1)] 3) := ⟨_, rfl⟩
  have hg : ∀ i, i < 5 → ∃ y, yb.cell? ⟨B, i, none⟩ = some (.int .i64 y) ∧ (-1 ≤ y ∧ y ≤ 100) := by
    intro i hi
    rw [hx, hBe]
    obtain rfl | rfl | rfl | rfl | rfl : i = 0 ∨ i = 1 ∨ i = 2 ∨ i = 3 ∨ i = 4 := by omega
    · exact ⟨_, lit_at ya _ _ 0 rfl, by omega⟩
    · exact ⟨_, lit_at ya _ _ 1 rfl, by omega⟩
    · exact ⟨_, lit_at ya _ _ 2 rfl, by omega⟩
    · exact ⟨_, lit_at ya _ _ 3 rfl, by omega⟩
    · exact ⟨_, lit_at ya _ _ 4 rfl, by omega⟩
  have kq : Below ya.heap.size ya yb := by rw [hx]; exact (Below.refl _ _).alloc (Nat.le_refl _) _
  have nb := na.below kq na.lt
  have vb := va.below kq va.lt
  have qb := qa.below kq qa.lt
  have ub := ua.below kq ua.lt
  have bb_ := ba.trans (kq.mono ba.size)
  have sb := sa.later kq
  rw [← hx, ← hBe]
  clear hx hBe na va qa ua ba sa hSa kq
  have hSb : PBox yb N x ∧ VBox yb M r c x.b x.p ∧ (∃ z, PBox yb R z) ∧ (∃ a b c d, VBox yb (R + 1) a b c d) ∧ Below w.heap.size w yb := ⟨nb, vb, ⟨_, qb⟩, ⟨_, _, _, _, ub⟩, bb_⟩
  refine hK _ _ ⟨hSb, ?_⟩
  clear hK K hi
  refine wpAnyH_all (rs := [4]) (by kernel_rfl) (by simp) ?_
  intro i hi; obtain rfl : i = 4 := by simpa using hi
  refine wpOp_step rfl (fun K hK => ?_)
  rw [if_pos (by kernel_rfl)]
  go_simp
  go_at_call 28
  refine (pickIntP sb (fun y => -1 ≤ y ∧ y ≤ 100) B 5 5 hBc (by omega) (by omega) hg).mono ?_
  rintro e yc ⟨u, rfl, ur, sc, gc⟩
  have nc := nb.grown gc hNc
  have vc := vb.grown gc hMc
  have qc := qb.grown gc (by omega)
  have uc := ub.grown gc (by omega)
  have bc := below_cb bb_ gc hbR bb_.size
  have hSc : PBox yc N x ∧ VBox yc M r c x.b x.p ∧ (∃ z, PBox yc R z) ∧ (∃ a b c d, VBox yc (R + 1) a b c d) ∧ Below w.heap.size w yc := ⟨nc, vc, ⟨_, qc⟩, ⟨_, _, _, _, uc⟩, bc⟩
  clear nb vb qb ub bb_ sb hSb sc gc hg hBc ur
  refine hK _ _ ⟨hSc, ?_⟩
  clear hK K hi
  refine wpAnyH_all (rs := [5]) (by kernel_rfl) (by simp) ?_
  intro i hi; obtain rfl : i = 5 := by simpa using hi
  refine wpOp_step rfl (fun K hK => ?_)
  rw [if_pos (by kernel_rfl)]
  have qc' := qc
  obtain ⟨⟨q0, q1, q2, q3, q4, q5, q6, q7, q8, q9, q10⟩, qf⟩ := qc
  go_simp
  clear qf q0 q1 q2 q3 q4 q5 q6 q7 q8 q9 q10
  obtain ⟨yd, hz⟩ : ∃ y, y = (((((((((((yc.setCell ⟨R, 0, none⟩ (.bool x.up)).setCell ⟨R, 1, none⟩ (.bool x.has)).setCell ⟨R, 2, none⟩ (.int .i64 x.r)).setCell ⟨R, 3, none⟩ (.int .i64 x.c)).setCell ⟨R, 4, none⟩ (.int .i64 x.b)).setCell ⟨R, 5, none⟩ (.int .i64 x.p)).setCell ⟨R, 6, none⟩ (.int .i64 x.h)).setCell ⟨R, 7, none⟩ (.int .i64 x.l)).setCell ⟨R, 8, none⟩ (.int .i64 x.ro)).setCell ⟨R, 9, none⟩ (.int .i64 x.wa)).setCell ⟨R, 10, none⟩ (.bool x.op)) := ⟨_, rfl⟩
  have nd : PBox yd N x := by rw [hz]; exact nc.putOther x (by omega)
  have vd : VBox yd M r c x.b x.p := by rw [hz]; exact (((((((((((vc.other (by omega)).other (by omega)).other (by omega)).other (by omega)).other (by omega)).other (by omega)).other (by omega)).other (by omega)).other (by omega)).other (by omega)).other (by omega))
  have qd : PBox yd R x := by rw [hz]; exact qc'.put x
  have ud : VBox yd (R + 1) 0 0 0 0 := by rw [hz]; exact (((((((((((uc.other (by omega)).other (by omega)).other (by omega)).other (by omega)).other (by omega)).other (by omega)).other (by omega)).other (by omega)).other (by omega)).other (by omega)).other (by omega))
  have bd : Below w.heap.size w yd := by rw [hz]; exact below_put x bc hR
  rw [← hz]
  clear hz qc' nc vc uc bc hSc
  have hSd : PBox yd N x ∧ VBox yd M r c x.b x.p ∧ (∃ z, PBox yd R z) ∧ (∃ a b c d, VBox yd (R + 1) a b c d) ∧ Below w.heap.size w yd := ⟨nd, vd, ⟨_, qd⟩, ⟨_, _, _, _, ud⟩, bd⟩
  refine hK _ _ ⟨hSd, ?_⟩
  clear hK K hi
  refine wpAnyH_all (rs := [6]) (by kernel_rfl) (by simp) ?_
  intro i hi; obtain rfl : i = 6 := by simpa using hi
  refine wpOp_step rfl (fun K hK => ?_)
  rw [if_pos (by kernel_rfl)]
  have ud' := ud
  obtain ⟨⟨t0, t1, t2, t3⟩, tf⟩ := ud
  have f0 := tf 0
  have f1 := tf 1
  have f2 := tf 2
  have f3 := tf 3
  go_simp
  clear tf f0 f1 f2 f3 t0 t1 t2 t3
  obtain ⟨ye, hz⟩ : ∃ y, y = (((yd.setCell ⟨R + 1, 0, none⟩ (.int .i64 r)).setCell ⟨R + 1, 1, none⟩ (.int .i64 c)).setCell ⟨R + 1, 2, none⟩ (.int .i64 x.b)).setCell ⟨R + 1, 3, none⟩ (.int .i64 x.p) := ⟨_, rfl⟩
  have ne : PBox ye N x := by rw [hz]; exact (((nd.other (by omega)).other (by omega)).other (by omega)).other (by omega)
  have ve : VBox ye M r c x.b x.p := by rw [hz]; exact (((vd.other (by omega)).other (by omega)).other (by omega)).other (by omega)
  have qe : PBox ye R x := by rw [hz]; exact (((qd.other (by omega)).other (by omega)).other (by omega)).other (by omega)
  have ue : VBox ye (R + 1) r c x.b x.p := by rw [hz]; exact ud'.put r c x.b x.p
  have be : Below w.heap.size w ye := by rw [hz]; exact (((bd.setCell (by show _ ≤ R + 1; omega) _).setCell (by show _ ≤ R + 1; omega) _).setCell (by show _ ≤ R + 1; omega) _).setCell (by show _ ≤ R + 1; omega) _
  rw [← hz]
  clear hz ud' nd vd qd bd hSd
  have hSe : PBox ye N x ∧ VBox ye M r c x.b x.p ∧ (∃ z, PBox ye R z) ∧ (∃ a b c d, VBox ye (R + 1) a b c d) ∧ Below w.heap.size w ye := ⟨ne, ve, ⟨_, qe⟩, ⟨_, _, _, _, ue⟩, be⟩
  refine hK _ _ ⟨hSe, ?_⟩
  clear hK K hi
  refine takeW 7 4 (.int .i64 u) rfl rfl (by kernel_rfl) (by kernel_rfl) (by kernel_rfl) (fun _ _ _ h => h) (by kernel_rfl) (by (intro w hSw; go_simp)) (by assumption) ?_
  simp only [List.set_cons_zero, List.set_cons_succ]
  refine wpAnyH_done (by kernel_rfl) ?_ _
  go_wp2
  obtain ⟨e0, e1, e2, e3, e4, e5, e6, e7, e8, e9, e10⟩ := qe.at_
  obtain ⟨⟨g0, g1, g2, g3⟩, _⟩ := ue
  exact bodyPost_ret (v := .tuple #[.agg #[.bool x.up, .bool x.has, .int .i64 x.r, .int .i64 x.c, .int .i64 x.b, .int .i64 x.p, .int .i64 x.h, .int .i64 x.l, .int .i64 x.ro, .int .i64 x.wa, .bool x.op], .agg #[.int .i64 r, .int .i64 c, .int .i64 x.b, .int .i64 x.p], .int .i64 u]) (by simp only [results, Try.results9]; simp [go_sem, e0, e1, e2, e3, e4, e5, e6, e7, e8, e9, e10, g0, g1, g2, g3]) rfl ⟨⟨x, r, c, x.b, x.p, u, rfl⟩, be⟩

end Go.Proofs.Ytnicogjnkdnhbaa
