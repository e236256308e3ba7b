/- Claims drawn of a code. -/
import Derived.Test.YtamnjaadmagdnaaDoorRows
import Derived.WalkKit
import Derived.ProofKit
import Derived.OpenShut
import Derived.ShutString
import Derived.ChangeOld
import Derived.Below
import Derived.Deep.QuietTactic
import Derived.BigQuiet
import Derived.WalkSmall
import Derived.Laws.OwnMore
import Derived.WalkSpells
import Derived.WalkLawsBesides
import Derived.Test.YtamnjaadmagdnaaDoorVecDraw
namespace Go.Proofs.YtamnjaadmagdnaaDoor
open Go.ChangeShapes Go.WideShapes Go.ChangeAt Go.RowKit
open Go.ChangeMaps (open_string shut_string)
set_option linter.unusedVariables false


set_option maxHeartbeats 2000000 in
theorem drawVO (ad : Option Addr) (len cap : Nat) (f : Nat → Int) (w : World) (h : Code0 w ad len f) :
    Calls Tryd.prog 7 #[.slice ad len cap] w fun e w' => ∃ r c b p, e = .returned (.agg #[.int .i64 r, .int .i64 c, .int .i64 b, .int .i64 p]) ∧ V4 r c b p ∧ Below w.heap.size w w' := by
  obtain ⟨R, hRe⟩ : ∃ R, R = w.heap.size := ⟨_, rfl⟩
  obtain ⟨x0, hx0⟩ : ∃ x, x = w.alloc (Obj.cells #[.int .i64 0, .int .i64 0, .int .i64 0, .int .i64 0] 25) := ⟨_, rfl⟩
  have B0 : Below w.heap.size w x0 := by rw [hx0]; exact below_box w _
  have Q0 : VBox x0 R 0 0 0 0 := by rw [hx0, hRe]; exact VBox.new w _ _ _ _ _
  have h0 := h.later B0 (Nat.le_refl _)
  have hR : w.heap.size ≤ R := by omega
  go_enter Tryd.func7, Tryd.ntmps7
  go_wp2_with fail
  go_at_call 16
  rw [← hx0, ← hRe]
  clear hx0 hRe
  refine (drawNew ad len cap f x0 h0.view h0.lt h0.small h0.bytes).mono ?_
  rintro e y1 ⟨rfl, s1, b1, z1⟩
  have Q1 := Q0.below b1 Q0.lt
  have B1 := B0.trans (b1.mono B0.size)
  have hc1 : x0.heap.size < y1.heap.size := s1.cur.lt
  have hRl := Q0.lt
  clear Q0 z1
  go_wp2_with fail
  go_at_call 17
  refine (drawL6 y1 s1 hc1).mono ?_
  rintro e y2 ⟨r, c, b, p, rfl, ⟨hr, hc, hb, hp⟩, s2, g2⟩
  have Q2 := Q1.grown g2 (by omega)
  have B2 := below_cb B1 g2 B0.size B1.size
  clear Q1 s1 s2 g2 hc1 b1
  have Q2' := Q2
  obtain ⟨⟨d1, d2, d3, d4⟩, gg⟩ := Q2
  have g0 := gg 0
  have g1 := gg 1
  have g2 := gg 2
  have g3 := gg 3
  go_wp2
  obtain ⟨z, hz⟩ : ∃ z, z = (((y2.setCell ⟨R, 0, none⟩ (.int .i64 r)).setCell ⟨R, 1, none⟩ (.int .i64 c)).setCell ⟨R, 2, none⟩ (.int .i64 b)).setCell ⟨R, 3, none⟩ (.int .i64 p) := ⟨_, rfl⟩
  have Z := Q2'.put r c b p
  rw [← hz] at Z ⊢
  have BZ : Below w.heap.size w z := by rw [hz]; exact (((B2.setCell hR _).setCell hR _).setCell hR _).setCell hR _
  clear hz
  obtain ⟨⟨e1, e2, e3, e4⟩, _⟩ := Z
  exact bodyPost_ret (v := .agg #[.int .i64 r, .int .i64 c, .int .i64 b, .int .i64 p]) (by simp only [results, Tryd.results7]; simp [go_sem, e1, e2, e3, e4]) rfl ⟨_, _, _, _, rfl, ⟨hr, hc, hb, hp⟩, BZ⟩

set_option maxHeartbeats 2000000 in
theorem drawVT (ad : Option Addr) (len cap : Nat) (f : Nat → Int) (w : World) (h : Code0 w ad len f) :
    Calls Tryd.prog 8 #[.slice ad len cap] w fun e w' => ∃ r c b p, e = .returned (.agg #[.int .i64 r, .int .i64 c, .int .i64 b, .int .i64 p]) ∧ V4 r c b p ∧ Below w.heap.size w w' := by
  obtain ⟨R, hRe⟩ : ∃ R, R = w.heap.size := ⟨_, rfl⟩
  obtain ⟨x0, hx0⟩ : ∃ x, x = w.alloc (Obj.cells #[.int .i64 0, .int .i64 0, .int .i64 0, .int .i64 0] 25) := ⟨_, rfl⟩
  have B0 : Below w.heap.size w x0 := by rw [hx0]; exact below_box w _
  have Q0 : VBox x0 R 0 0 0 0 := by rw [hx0, hRe]; exact VBox.new w _ _ _ _ _
  have h0 := h.later B0 (Nat.le_refl _)
  have hR : w.heap.size ≤ R := by omega
  go_enter Tryd.func8, Tryd.ntmps8
  go_wp2_with fail
  go_at_call 16
  rw [← hx0, ← hRe]
  clear hx0 hRe
  refine (drawNew ad len cap f x0 h0.view h0.lt h0.small h0.bytes).mono ?_
  rintro e y1 ⟨rfl, s1, b1, z1⟩
  have Q1 := Q0.below b1 Q0.lt
  have B1 := B0.trans (b1.mono B0.size)
  have hc1 : x0.heap.size < y1.heap.size := s1.cur.lt
  have hRl := Q0.lt
  clear Q0 z1
  go_wp2_with fail
  go_at_call 17
  refine (drawL6 y1 s1 hc1).mono ?_
  rintro e y2 ⟨r, c, b, p, rfl, ⟨hr, hc, hb, hp⟩, s2, g2⟩
  have Q2 := Q1.grown g2 (by omega)
  have B2 := below_cb B1 g2 B0.size B1.size
  clear Q1 s1 s2 g2 hc1 b1
  have Q2' := Q2
  obtain ⟨⟨d1, d2, d3, d4⟩, gg⟩ := Q2
  have g0 := gg 0
  have g1 := gg 1
  have g2 := gg 2
  have g3 := gg 3
  go_wp2
  obtain ⟨z, hz⟩ : ∃ z, z = (((y2.setCell ⟨R, 0, none⟩ (.int .i64 r)).setCell ⟨R, 1, none⟩ (.int .i64 c)).setCell ⟨R, 2, none⟩ (.int .i64 b)).setCell ⟨R, 3, none⟩ (.int .i64 p) := ⟨_, rfl⟩
  have Z := Q2'.put r c b p
  rw [← hz] at Z ⊢
  have BZ : Below w.heap.size w z := by rw [hz]; exact (((B2.setCell hR _).setCell hR _).setCell hR _).setCell hR _
  clear hz
  obtain ⟨⟨e1, e2, e3, e4⟩, _⟩ := Z
  exact bodyPost_ret (v := .agg #[.int .i64 r, .int .i64 c, .int .i64 b, .int .i64 p]) (by simp only [results, Tryd.results8]; simp [go_sem, e1, e2, e3, e4]) rfl ⟨_, _, _, _, rfl, ⟨hr, hc, hb, hp⟩, BZ⟩

set_option maxHeartbeats 4000000 in
theorem drawBE (ad : Option Addr) (len cap : Nat) (f : Nat → Int) (w : World) (h : Code0 w ad len f) :
    Calls Tryd.prog 6 #[.slice ad len cap] w fun e w' => ∃ r c b p r2 c2 b2 p2, e = .returned (.tuple #[.agg #[.int .i64 r, .int .i64 c, .int .i64 b, .int .i64 p], .agg #[.int .i64 r2, .int .i64 c2, .int .i64 b2, .int .i64 p2]]) ∧ V4 r c b p ∧ V4 r2 c2 b2 p2 ∧ Below w.heap.size w w' := by
  obtain ⟨R, hRe⟩ : ∃ R, R = w.heap.size := ⟨_, rfl⟩
  obtain ⟨x0, hx0⟩ : ∃ x, x = (w.alloc (Obj.cells #[.int .i64 0, .int .i64 0, .int .i64 0, .int .i64 0] 25)).alloc (Obj.cells #[.int .i64 0, .int .i64 0, .int .i64 0, .int .i64 0] 25) := ⟨_, rfl⟩
  have B0 : Below w.heap.size w x0 := by rw [hx0]; exact ((Below.refl _ _).alloc (Nat.le_refl _) _).alloc (by simp) _
  have Q0 : VBox x0 R 0 0 0 0 := by rw [hx0, hRe]; exact (VBox.new w _ _ _ _ _).alloc _
  have U0 : VBox x0 (R + 1) 0 0 0 0 := by
    have := VBox.new (w.alloc (Obj.cells #[.int .i64 0, .int .i64 0, .int .i64 0, .int .i64 0] 25)) 25 0 0 0 0
    rw [World.size_alloc, ← hRe, ← hx0] at this
    exact this
  have h0 := h.later B0 (Nat.le_refl _)
  have hR : w.heap.size ≤ R := by omega
  have hR1 : w.heap.size ≤ R + 1 := by omega
  have hR2 : R + 1 < x0.heap.size := U0.lt
  go_enter Tryd.func6, Tryd.ntmps6
  go_wp2_with fail
  go_at_call 16
  rw [← hx0, ← hRe]
  clear hx0 hRe
  refine (drawNew ad len cap f x0 h0.view h0.lt h0.small h0.bytes).mono ?_
  rintro e y1 ⟨rfl, s1, b1, z1⟩
  obtain ⟨CB, hCBe⟩ : ∃ CB, CB = x0.heap.size := ⟨_, rfl⟩
  rw [← hCBe] at s1 ⊢
  have hCB : w.heap.size ≤ CB := by have := B0.size; omega
  have hCR : R + 1 < CB := by omega
  have Q1 := Q0.below b1 Q0.lt
  have U1 := U0.below b1 U0.lt
  have B1 := B0.trans (b1.mono B0.size)
  have hc1 : CB < y1.heap.size := s1.cur.lt
  clear Q0 U0 z1 b1 B0 hCBe h0
  go_wp2_with fail
  go_at_call 17
  refine (drawL6 y1 s1 hc1).mono ?_
  rintro e y2 ⟨r, c, b, p, rfl, ⟨hr, hc, hb, hp⟩, s2, g2⟩
  have Q2 := Q1.grown g2 (by omega)
  have U2 := U1.grown g2 (by omega)
  have B2 := below_cb B1 g2 hCB B1.size
  have hc2 : CB < y2.heap.size := s2.cur.lt
  clear Q1 U1 B1 s1 g2 hc1
  obtain ⟨N, hNe⟩ : ∃ N, N = y2.heap.size := ⟨_, rfl⟩
  obtain ⟨x3, hx3⟩ : ∃ x, x = y2.alloc (Obj.cells #[.int .i64 r, .int .i64 c, .int .i64 b, .int .i64 p] 25) := ⟨_, rfl⟩
  have Q3 : VBox x3 R 0 0 0 0 := by rw [hx3]; exact Q2.alloc _
  have U3 : VBox x3 (R + 1) 0 0 0 0 := by rw [hx3]; exact U2.alloc _
  have V3 : VBox x3 N r c b p := by rw [hx3, hNe]; exact VBox.new y2 _ _ _ _ _
  have B3 : Below w.heap.size w x3 := by rw [hx3]; exact B2.trans ((below_box y2 _).mono B2.size)
  have s3 : Src x3 CB ad len cap f := by rw [hx3]; exact s2.later (below_box y2 _)
  have hNC : N ≠ CB := by omega
  have hNR : R + 1 < N := by omega
  go_wp2_with fail
  go_at_call 18
  rw [← hx3, ← hNe]
  clear hx3 hNe Q2 U2 B2 s2 hc2
  refine (drawOnce s3 4 (by omega) (by omega)).mono ?_
  rintro e y4 ⟨o, rfl, s4, g4⟩
  have Q4 := Q3.grown g4 (by omega)
  have U4 := U3.grown g4 (by omega)
  have V4' := V3.grown g4 hNC
  have B4 := below_cb B3 g4 hCB B3.size
  clear Q3 U3 V3 B3 s3 g4
  cases o
  · go_wp2
    refine wp_region_held (S := fun Y => VBox Y N r c b p) (by kernel_rfl) ?_
    change wpAnyH _ _ _ _ _ _ _ _ (World.drew _)
    have hb0 : VBox y4.drew N r c b p := V4'
    have q1 : VBox y4.drew R 0 0 0 0 := Q4
    have q2 : VBox y4.drew (R + 1) 0 0 0 0 := U4
    have bb : Below w.heap.size w y4.drew := B4.drew
    have sb : Src y4.drew CB ad len cap f := ⟨s4.cur, s4.view, s4.ne, s4.small, s4.bytes⟩
    have cl : CB < y4.drew.heap.size := s4.cur.lt
    obtain ⟨y5, hy5⟩ : ∃ y, y = y4.drew := ⟨_, rfl⟩
    rw [← hy5] at hb0 q1 q2 bb sb cl ⊢
    clear hy5 V4' Q4 U4 B4 s4
    refine takeW 0 14 (.agg #[.int .i64 r, .int .i64 c, .int .i64 b, .int .i64 p]) rfl rfl (by kernel_rfl) (by kernel_rfl) (by kernel_rfl) (fun _ _ _ h => h) (by kernel_rfl) (by (intro Y hSw; obtain ⟨⟨C1, C2, C3, C4⟩, _⟩ := hSw; go_simp)) (by assumption) ?_
    simp only [List.set_cons_zero, List.set_cons_succ]
    refine takeW 1 15 (.pointer (some ⟨CB, 0, none⟩)) rfl rfl (by kernel_rfl) (by kernel_rfl) (by kernel_rfl) (fun _ _ _ h => h) (by kernel_rfl) (by (intro w hSw; go_simp)) (by assumption) ?_
    simp only [List.set_cons_zero, List.set_cons_succ]
    refine wpAnyH_all (rs := [2]) (by kernel_rfl) (by simp) ?_
    intro i hi; obtain rfl : i = 2 := by simpa using hi
    refine wpOp_step rfl (fun K hK => ?_)
    rw [if_pos (by kernel_rfl)]
    go_simp
    go_at_call 17
    refine (drawL6 y5 sb cl).mono ?_
    rintro e y6 ⟨r2, c2, b2, p2, rfl, ⟨hr2, hc2, hb2, hp2⟩, s6, g6⟩
    have hb0 := hb0.grown g6 hNC
    have q1 := q1.grown g6 (by omega)
    have q2 := q2.grown g6 (by omega)
    have bb := below_cb bb g6 hCB bb.size
    clear s6 g6 sb cl
    refine hK _ _ ⟨hb0, ?_⟩
    clear hK K hi
    refine wpAnyH_all (rs := [3]) (by kernel_rfl) (by simp) ?_
    intro i hi; obtain rfl : i = 3 := by simpa using hi
    refine wpOp_step rfl (fun K hK => ?_)
    rw [if_pos (by kernel_rfl)]
    have oo := q1
    obtain ⟨⟨d1, d2, d3, d4⟩, gg⟩ := oo
    have g0 := gg 0
    have g1 := gg 1
    have g2 := gg 2
    have g3 := gg 3
    go_simp
    obtain ⟨z1, hz⟩ : ∃ z, z = ((((y6.setCell ⟨R, 0, none⟩ (.int .i64 r)).setCell ⟨R, 1, none⟩ (.int .i64 c)).setCell ⟨R, 2, none⟩ (.int .i64 b)).setCell ⟨R, 3, none⟩ (.int .i64 p)) := ⟨_, rfl⟩
    rw [← hz]
    have m1 : VBox z1 R r c b p := by rw [hz]; exact q1.put r c b p
    have m2 : VBox z1 (R + 1) 0 0 0 0 := by rw [hz]; exact (((q2.other (by omega)).other (by omega)).other (by omega)).other (by omega)
    have m3 : VBox z1 N r c b p := by rw [hz]; exact (((hb0.other (by omega)).other (by omega)).other (by omega)).other (by omega)
    have bb1 : Below w.heap.size w z1 := by rw [hz]; exact (((bb.setCell hR _).setCell hR _).setCell hR _).setCell hR _
    clear hz d1 d2 d3 d4 gg g0 g1 g2 g3
    refine hK _ _ ⟨m3, ?_⟩
    clear hK K hi
    refine wpAnyH_all (rs := [4]) (by kernel_rfl) (by simp) ?_
    intro i hi; obtain rfl : i = 4 := by simpa using hi
    refine wpOp_step rfl (fun K hK => ?_)
    rw [if_pos (by kernel_rfl)]
    have oo := m2
    obtain ⟨⟨d1, d2, d3, d4⟩, gg⟩ := oo
    have g0 := gg 0
    have g1 := gg 1
    have g2 := gg 2
    have g3 := gg 3
    go_simp
    obtain ⟨z2, hz⟩ : ∃ z, z = ((((z1.setCell ⟨R + 1, 0, none⟩ (.int .i64 r2)).setCell ⟨R + 1, 1, none⟩ (.int .i64 c2)).setCell ⟨R + 1, 2, none⟩ (.int .i64 b2)).setCell ⟨R + 1, 3, none⟩ (.int .i64 p2)) := ⟨_, rfl⟩
    rw [← hz]
    have n1 : VBox z2 R r c b p := by rw [hz]; exact (((m1.other (by omega)).other (by omega)).other (by omega)).other (by omega)
    have n2 : VBox z2 (R + 1) r2 c2 b2 p2 := by rw [hz]; exact m2.put r2 c2 b2 p2
    have n3 : VBox z2 N r c b p := by rw [hz]; exact (((m3.other (by omega)).other (by omega)).other (by omega)).other (by omega)
    have bb2 : Below w.heap.size w z2 := by rw [hz]; exact (((bb1.setCell hR1 _).setCell hR1 _).setCell hR1 _).setCell hR1 _
    clear hz d1 d2 d3 d4 gg g0 g1 g2 g3
    refine hK _ _ ⟨n3, ?_⟩
    clear hK K hi
    refine wpAnyH_done (by kernel_rfl) ?_ _
    go_wp2
    obtain ⟨⟨e1, e2, e3, e4⟩, _⟩ := n1
    obtain ⟨⟨e5, e6, e7, e8⟩, _⟩ := n2
    exact bodyPost_ret (v := .tuple #[.agg #[.int .i64 r, .int .i64 c, .int .i64 b, .int .i64 p], .agg #[.int .i64 r2, .int .i64 c2, .int .i64 b2, .int .i64 p2]]) (by simp only [results, Tryd.results6]; simp [go_sem, e1, e2, e3, e4, e5, e6, e7, e8]) rfl ⟨_, _, _, _, _, _, _, _, rfl, ⟨hr, hc, hb, hp⟩, ⟨hr2, hc2, hb2, hp2⟩, bb2⟩
  · go_wp2
    refine wp_region_held (S := fun Y => VBox Y N r c b p) (by kernel_rfl) ?_
    change wpAnyH _ _ _ _ _ _ _ _ (World.drew _)
    have hb0 : VBox y4.drew N r c b p := V4'
    have q1 : VBox y4.drew R 0 0 0 0 := Q4
    have q2 : VBox y4.drew (R + 1) 0 0 0 0 := U4
    have bb : Below w.heap.size w y4.drew := B4.drew
    obtain ⟨y5, hy5⟩ : ∃ y, y = y4.drew := ⟨_, rfl⟩
    rw [← hy5] at hb0 q1 q2 bb ⊢
    clear hy5 V4' Q4 U4 B4
    refine takeW 0 12 (.agg #[.int .i64 r, .int .i64 c, .int .i64 b, .int .i64 p]) rfl rfl (by kernel_rfl) (by kernel_rfl) (by kernel_rfl) (fun _ _ _ h => h) (by kernel_rfl) (by (intro Y hSw; obtain ⟨⟨C1, C2, C3, C4⟩, _⟩ := hSw; go_simp)) (by assumption) ?_
    simp only [List.set_cons_zero, List.set_cons_succ]
    refine takeW 1 13 (.agg #[.int .i64 r, .int .i64 c, .int .i64 b, .int .i64 p]) rfl rfl (by kernel_rfl) (by kernel_rfl) (by kernel_rfl) (fun _ _ _ h => h) (by kernel_rfl) (by (intro Y hSw; obtain ⟨⟨C1, C2, C3, C4⟩, _⟩ := hSw; go_simp)) (by assumption) ?_
    simp only [List.set_cons_zero, List.set_cons_succ]
    refine wpAnyH_all (rs := [2]) (by kernel_rfl) (by simp) ?_
    intro i hi; obtain rfl : i = 2 := by simpa using hi
    refine wpOp_step rfl (fun K hK => ?_)
    rw [if_pos (by kernel_rfl)]
    have oo := q1
    obtain ⟨⟨d1, d2, d3, d4⟩, gg⟩ := oo
    have g0 := gg 0
    have g1 := gg 1
    have g2 := gg 2
    have g3 := gg 3
    go_simp
    obtain ⟨z1, hz⟩ : ∃ z, z = ((((y5.setCell ⟨R, 0, none⟩ (.int .i64 r)).setCell ⟨R, 1, none⟩ (.int .i64 c)).setCell ⟨R, 2, none⟩ (.int .i64 b)).setCell ⟨R, 3, none⟩ (.int .i64 p)) := ⟨_, rfl⟩
    rw [← hz]
    have m1 : VBox z1 R r c b p := by rw [hz]; exact q1.put r c b p
    have m2 : VBox z1 (R + 1) 0 0 0 0 := by rw [hz]; exact (((q2.other (by omega)).other (by omega)).other (by omega)).other (by omega)
    have m3 : VBox z1 N r c b p := by rw [hz]; exact (((hb0.other (by omega)).other (by omega)).other (by omega)).other (by omega)
    have bb1 : Below w.heap.size w z1 := by rw [hz]; exact (((bb.setCell hR _).setCell hR _).setCell hR _).setCell hR _
    clear hz d1 d2 d3 d4 gg g0 g1 g2 g3
    refine hK _ _ ⟨m3, ?_⟩
    clear hK K hi
    refine wpAnyH_all (rs := [3]) (by kernel_rfl) (by simp) ?_
    intro i hi; obtain rfl : i = 3 := by simpa using hi
    refine wpOp_step rfl (fun K hK => ?_)
    rw [if_pos (by kernel_rfl)]
    have oo := m2
    obtain ⟨⟨d1, d2, d3, d4⟩, gg⟩ := oo
    have g0 := gg 0
    have g1 := gg 1
    have g2 := gg 2
    have g3 := gg 3
    go_simp
    obtain ⟨z2, hz⟩ : ∃ z, z = ((((z1.setCell ⟨R + 1, 0, none⟩ (.int .i64 r)).setCell ⟨R + 1, 1, none⟩ (.int .i64 c)).setCell ⟨R + 1, 2, none⟩ (.int .i64 b)).setCell ⟨R + 1, 3, none⟩ (.int .i64 p)) := ⟨_, rfl⟩
    rw [← hz]
    have n1 : VBox z2 R r c b p := by rw [hz]; exact (((m1.other (by omega)).other (by omega)).other (by omega)).other (by omega)
    have n2 : VBox z2 (R + 1) r c b p := by rw [hz]; exact m2.put r c b p
    have n3 : VBox z2 N r c b p := by rw [hz]; exact (((m3.other (by omega)).other (by omega)).other (by omega)).other (by omega)
    have bb2 : Below w.heap.size w z2 := by rw [hz]; exact (((bb1.setCell hR1 _).setCell hR1 _).setCell hR1 _).setCell hR1 _
    clear hz d1 d2 d3 d4 gg g0 g1 g2 g3
    refine hK _ _ ⟨n3, ?_⟩
    clear hK K hi
    refine wpAnyH_done (by kernel_rfl) ?_ _
    go_wp2
    obtain ⟨⟨e1, e2, e3, e4⟩, _⟩ := n1
    obtain ⟨⟨e5, e6, e7, e8⟩, _⟩ := n2
    exact bodyPost_ret (v := .tuple #[.agg #[.int .i64 r, .int .i64 c, .int .i64 b, .int .i64 p], .agg #[.int .i64 r, .int .i64 c, .int .i64 b, .int .i64 p]]) (by simp only [results, Tryd.results6]; simp [go_sem, e1, e2, e3, e4, e5, e6, e7, e8]) rfl ⟨_, _, _, _, _, _, _, _, rfl, ⟨hr, hc, hb, hp⟩, ⟨hr, hc, hb, hp⟩, bb2⟩

end Go.Proofs.YtamnjaadmagdnaaDoor
