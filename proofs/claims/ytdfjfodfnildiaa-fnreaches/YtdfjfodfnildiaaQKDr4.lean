/- Chapter 11's nets drawn. -/
import Derived.Test.YtdfjfodfnildiaaRows
import Derived.WalkKit
import Derived.ProofKit
import Derived.OpenShut
import Derived.ShutString
import Derived.ChangeOld
import Derived.Below
import Derived.Deep.QuietTactic
import Derived.BigQuiet
import Derived.WalkSmall
import Derived.Laws.OwnMore
import Derived.WalkSpells
import Derived.WalkLawsBesides
import Derived.Deep.Cut
import Derived.Laws.StructEq
import Derived.Deep.RegionHeld
import Derived.Test.YtdfjfodfnildiaaQKDr3
namespace Go.Proofs.Ytdfjfodfnildiaa
open Go.ChangeShapes Go.WideShapes Go.ChangeAt Go.RowKit
open Go.ChangeMaps (open_string shut_string)
set_option linter.unusedVariables false
set_option maxRecDepth 100000

theorem netBox {lo lo' R : Nat} {y : World} {vB vK : Value} {Cs : List Bd} {K : List Lk} (o : NetLo lo y vB Cs vK K) (v0 v1 : Value) (Rl : R < lo) (h : lo' ≤ lo) : NetLo lo' ((y.setCell ⟨R, 0, none⟩ v0).setCell ⟨R, 1, none⟩ v1) vB Cs vK K := by
  have bl : ∀ j, j ≠ R → ((y.setCell ⟨R, 0, none⟩ v0).setCell ⟨R, 1, none⟩ v1).heap[j]? = y.heap[j]? := fun j hj => by rw [Below.heap_setCell _ _ _ _ hj, Below.heap_setCell _ _ _ _ hj]
  have ss : ((y.setCell ⟨R, 0, none⟩ v0).setCell ⟨R, 1, none⟩ v1).heap.size = y.heap.size := by simp
  have := o.keep (w' := (y.setCell ⟨R, 0, none⟩ v0).setCell ⟨R, 1, none⟩ v1) (fun b h1 _ => bl b (by omega)) (by rw [ss]; exact Nat.le_refl _)
  exact ⟨this.own.wide h (Nat.le_refl _), this.own2.base h⟩
set_option maxHeartbeats 4000000 in
theorem drawRi (ad : Option Addr) (len cap : Nat) (f : Nat → Int) (w : World) (h : Code0 w ad len f) :
    Calls Try.prog 11 #[.slice ad len cap] w fun e w' => ∃ adB cB Cs adL cL K, e = .returned (.agg #[.slice adB (List.length Cs) cB, .slice adL (List.length K) cL]) ∧ (1 ≤ List.length Cs ∧ List.length Cs ≤ 5 ∧ List.length K ≤ 8 ∧ (∀ i, i < Cs.length → (Cs.getD i Bd.nil).L.length ≤ 6)) ∧ NetLo w.heap.size w' (.slice adB (List.length Cs) cB) Cs (.slice adL (List.length K) cL) K ∧ Below w.heap.size w w' := by
  obtain ⟨R, hRe⟩ : ∃ R, R = w.heap.size := ⟨_, rfl⟩
  have hR : w.heap.size ≤ R := by omega
  obtain ⟨x0, hx0⟩ : ∃ y_, y_ = w.alloc (Obj.cells #[.slice none 0 0, .slice none 0 0] 27) := ⟨_, rfl⟩
  have B0 : Below w.heap.size w x0 := by rw [hx0]; exact below_new _
  have R0 : NeBox x0 R (.slice none 0 0) (.slice none 0 0) := by rw [hx0, hRe]; exact NeBox.new w _
  have h0 := h.later B0 (Nat.le_refl _)
  go_enter Try.func11, Try.ntmps11
  go_wp2_with fail
  go_at_call 36
  rw [← hx0, ← hRe]
  clear hx0 hRe
  refine (drawNew ad len cap f x0 h0.view h0.lt h0.small h0.bytes).mono ?_
  rintro e y1 ⟨rfl, s1, b1, z1⟩
  have R1 := R0.later b1
  have B1 := B0.trans (b1.mono B0.size)
  have hc1 : x0.heap.size < y1.heap.size := s1.cur.lt
  have hRl := R0.lt
  generalize hcb : x0.heap.size = cb at *
  have hbR : w.heap.size ≤ cb := by rw [← hcb]; exact B0.size
  have hRc : cb ≠ R := by omega
  clear R0 z1 hcb
  go_wp2_with fail
  go_at_call 37
  refine (drawN s1 hc1).mono ?_
  rintro e y2 ⟨adB, cB, Cs, adL, cL, K, rfl, sm, O2, s2, g2⟩
  have R2 := R1.grew g2 hRc
  have B2 : Below w.heap.size w y2 := B1.grown g2 B1.size (fun k e => by simp at e; omega)
  have hc2 : cb < y2.heap.size := s2.cur.lt
  have z2 := g2.size
  have R1l := R1.lt
  have y1z := B1.size
  clear R1 s1 g2 b1 B1
  have OZ := netBox O2 (.slice adB Cs.length cB) (.slice adL K.length cL) (R := R) (by omega) y1z
  have BZ := (B2.setCell (p := ⟨R, 0, none⟩) (by show _ ≤ R; omega) (.slice adB Cs.length cB)).setCell (p := ⟨R, 1, none⟩) (by show _ ≤ R; omega) (.slice adL K.length cL)
  obtain ⟨⟨r0, r1⟩, rf⟩ := R2
  go_wp2
  refine bodyPost_ret (v := .agg #[.slice adB Cs.length cB, .slice adL K.length cL]) (by simp [results, Try.results11, go_sem, *]) rfl ⟨_, _, Cs, _, _, K, rfl, sm, OZ, BZ⟩
set_option maxHeartbeats 4000000 in
theorem drawSp (ad : Option Addr) (len cap : Nat) (f : Nat → Int) (w : World) (h : Code0 w ad len f) :
    Calls Try.prog 12 #[.slice ad len cap] w fun e w' => ∃ adB cB Cs adL cL K, e = .returned (.agg #[.slice adB (List.length Cs) cB, .slice adL (List.length K) cL]) ∧ (1 ≤ List.length Cs ∧ List.length Cs ≤ 5 ∧ List.length K ≤ 8 ∧ (∀ i, i < Cs.length → (Cs.getD i Bd.nil).L.length ≤ 6)) ∧ NetLo w.heap.size w' (.slice adB (List.length Cs) cB) Cs (.slice adL (List.length K) cL) K ∧ Below w.heap.size w w' := by
  obtain ⟨R, hRe⟩ : ∃ R, R = w.heap.size := ⟨_, rfl⟩
  have hR : w.heap.size ≤ R := by omega
  obtain ⟨x0, hx0⟩ : ∃ y_, y_ = w.alloc (Obj.cells #[.slice none 0 0, .slice none 0 0] 27) := ⟨_, rfl⟩
  have B0 : Below w.heap.size w x0 := by rw [hx0]; exact below_new _
  have R0 : NeBox x0 R (.slice none 0 0) (.slice none 0 0) := by rw [hx0, hRe]; exact NeBox.new w _
  have h0 := h.later B0 (Nat.le_refl _)
  go_enter Try.func12, Try.ntmps12
  go_wp2_with fail
  go_at_call 36
  rw [← hx0, ← hRe]
  clear hx0 hRe
  refine (drawNew ad len cap f x0 h0.view h0.lt h0.small h0.bytes).mono ?_
  rintro e y1 ⟨rfl, s1, b1, z1⟩
  have R1 := R0.later b1
  have B1 := B0.trans (b1.mono B0.size)
  have hc1 : x0.heap.size < y1.heap.size := s1.cur.lt
  have hRl := R0.lt
  generalize hcb : x0.heap.size = cb at *
  have hbR : w.heap.size ≤ cb := by rw [← hcb]; exact B0.size
  have hRc : cb ≠ R := by omega
  clear R0 z1 hcb
  go_wp2_with fail
  go_at_call 37
  refine (drawN s1 hc1).mono ?_
  rintro e y2 ⟨adB, cB, Cs, adL, cL, K, rfl, sm, O2, s2, g2⟩
  have R2 := R1.grew g2 hRc
  have B2 : Below w.heap.size w y2 := B1.grown g2 B1.size (fun k e => by simp at e; omega)
  have hc2 : cb < y2.heap.size := s2.cur.lt
  have z2 := g2.size
  have R1l := R1.lt
  have y1z := B1.size
  clear R1 s1 g2 b1 B1
  have OZ := netBox O2 (.slice adB Cs.length cB) (.slice adL K.length cL) (R := R) (by omega) y1z
  have BZ := (B2.setCell (p := ⟨R, 0, none⟩) (by show _ ≤ R; omega) (.slice adB Cs.length cB)).setCell (p := ⟨R, 1, none⟩) (by show _ ≤ R; omega) (.slice adL K.length cL)
  obtain ⟨⟨r0, r1⟩, rf⟩ := R2
  go_wp2
  refine bodyPost_ret (v := .agg #[.slice adB Cs.length cB, .slice adL K.length cL]) (by simp [results, Try.results12, go_sem, *]) rfl ⟨_, _, Cs, _, _, K, rfl, sm, OZ, BZ⟩
set_option maxHeartbeats 4000000 in
theorem drawRo (ad : Option Addr) (len cap : Nat) (f : Nat → Int) (w : World) (h : Code0 w ad len f) :
    Calls Try.prog 13 #[.slice ad len cap] w fun e w' => ∃ adB cB Cs adL cL K, e = .returned (.agg #[.slice adB (List.length Cs) cB, .slice adL (List.length K) cL]) ∧ (1 ≤ List.length Cs ∧ List.length Cs ≤ 5 ∧ List.length K ≤ 8 ∧ (∀ i, i < Cs.length → (Cs.getD i Bd.nil).L.length ≤ 6)) ∧ NetLo w.heap.size w' (.slice adB (List.length Cs) cB) Cs (.slice adL (List.length K) cL) K ∧ Below w.heap.size w w' := by
  obtain ⟨R, hRe⟩ : ∃ R, R = w.heap.size := ⟨_, rfl⟩
  have hR : w.heap.size ≤ R := by omega
  obtain ⟨x0, hx0⟩ : ∃ y_, y_ = w.alloc (Obj.cells #[.slice none 0 0, .slice none 0 0] 27) := ⟨_, rfl⟩
  have B0 : Below w.heap.size w x0 := by rw [hx0]; exact below_new _
  have R0 : NeBox x0 R (.slice none 0 0) (.slice none 0 0) := by rw [hx0, hRe]; exact NeBox.new w _
  have h0 := h.later B0 (Nat.le_refl _)
  go_enter Try.func13, Try.ntmps13
  go_wp2_with fail
  go_at_call 36
  rw [← hx0, ← hRe]
  clear hx0 hRe
  refine (drawNew ad len cap f x0 h0.view h0.lt h0.small h0.bytes).mono ?_
  rintro e y1 ⟨rfl, s1, b1, z1⟩
  have R1 := R0.later b1
  have B1 := B0.trans (b1.mono B0.size)
  have hc1 : x0.heap.size < y1.heap.size := s1.cur.lt
  have hRl := R0.lt
  generalize hcb : x0.heap.size = cb at *
  have hbR : w.heap.size ≤ cb := by rw [← hcb]; exact B0.size
  have hRc : cb ≠ R := by omega
  clear R0 z1 hcb
  go_wp2_with fail
  go_at_call 37
  refine (drawN s1 hc1).mono ?_
  rintro e y2 ⟨adB, cB, Cs, adL, cL, K, rfl, sm, O2, s2, g2⟩
  have R2 := R1.grew g2 hRc
  have B2 : Below w.heap.size w y2 := B1.grown g2 B1.size (fun k e => by simp at e; omega)
  have hc2 : cb < y2.heap.size := s2.cur.lt
  have z2 := g2.size
  have R1l := R1.lt
  have y1z := B1.size
  clear R1 s1 g2 b1 B1
  have OZ := netBox O2 (.slice adB Cs.length cB) (.slice adL K.length cL) (R := R) (by omega) y1z
  have BZ := (B2.setCell (p := ⟨R, 0, none⟩) (by show _ ≤ R; omega) (.slice adB Cs.length cB)).setCell (p := ⟨R, 1, none⟩) (by show _ ≤ R; omega) (.slice adL K.length cL)
  obtain ⟨⟨r0, r1⟩, rf⟩ := R2
  go_wp2
  refine bodyPost_ret (v := .agg #[.slice adB Cs.length cB, .slice adL K.length cL]) (by simp [results, Try.results13, go_sem, *]) rfl ⟨_, _, Cs, _, _, K, rfl, sm, OZ, BZ⟩
set_option maxHeartbeats 4000000 in
theorem drawTr (ad : Option Addr) (len cap : Nat) (f : Nat → Int) (w : World) (h : Code0 w ad len f) :
    Calls Try.prog 14 #[.slice ad len cap] w fun e w' => ∃ adB cB Cs adL cL K, e = .returned (.agg #[.slice adB (List.length Cs) cB, .slice adL (List.length K) cL]) ∧ (1 ≤ List.length Cs ∧ List.length Cs ≤ 5 ∧ List.length K ≤ 8 ∧ (∀ i, i < Cs.length → (Cs.getD i Bd.nil).L.length ≤ 6)) ∧ NetLo w.heap.size w' (.slice adB (List.length Cs) cB) Cs (.slice adL (List.length K) cL) K ∧ Below w.heap.size w w' := by
  obtain ⟨R, hRe⟩ : ∃ R, R = w.heap.size := ⟨_, rfl⟩
  have hR : w.heap.size ≤ R := by omega
  obtain ⟨x0, hx0⟩ : ∃ y_, y_ = w.alloc (Obj.cells #[.slice none 0 0, .slice none 0 0] 27) := ⟨_, rfl⟩
  have B0 : Below w.heap.size w x0 := by rw [hx0]; exact below_new _
  have R0 : NeBox x0 R (.slice none 0 0) (.slice none 0 0) := by rw [hx0, hRe]; exact NeBox.new w _
  have h0 := h.later B0 (Nat.le_refl _)
  go_enter Try.func14, Try.ntmps14
  go_wp2_with fail
  go_at_call 36
  rw [← hx0, ← hRe]
  clear hx0 hRe
  refine (drawNew ad len cap f x0 h0.view h0.lt h0.small h0.bytes).mono ?_
  rintro e y1 ⟨rfl, s1, b1, z1⟩
  have R1 := R0.later b1
  have B1 := B0.trans (b1.mono B0.size)
  have hc1 : x0.heap.size < y1.heap.size := s1.cur.lt
  have hRl := R0.lt
  generalize hcb : x0.heap.size = cb at *
  have hbR : w.heap.size ≤ cb := by rw [← hcb]; exact B0.size
  have hRc : cb ≠ R := by omega
  clear R0 z1 hcb
  go_wp2_with fail
  go_at_call 37
  refine (drawN s1 hc1).mono ?_
  rintro e y2 ⟨adB, cB, Cs, adL, cL, K, rfl, sm, O2, s2, g2⟩
  have R2 := R1.grew g2 hRc
  have B2 : Below w.heap.size w y2 := B1.grown g2 B1.size (fun k e => by simp at e; omega)
  have hc2 : cb < y2.heap.size := s2.cur.lt
  have z2 := g2.size
  have R1l := R1.lt
  have y1z := B1.size
  clear R1 s1 g2 b1 B1
  have OZ := netBox O2 (.slice adB Cs.length cB) (.slice adL K.length cL) (R := R) (by omega) y1z
  have BZ := (B2.setCell (p := ⟨R, 0, none⟩) (by show _ ≤ R; omega) (.slice adB Cs.length cB)).setCell (p := ⟨R, 1, none⟩) (by show _ ≤ R; omega) (.slice adL K.length cL)
  obtain ⟨⟨r0, r1⟩, rf⟩ := R2
  go_wp2
  refine bodyPost_ret (v := .agg #[.slice adB Cs.length cB, .slice adL K.length cL]) (by simp [results, Try.results14, go_sem, *]) rfl ⟨_, _, Cs, _, _, K, rfl, sm, OZ, BZ⟩
set_option maxHeartbeats 4000000 in
theorem drawRe (ad : Option Addr) (len cap : Nat) (f : Nat → Int) (w : World) (h : Code0 w ad len f) :
    Calls Try.prog 8 #[.slice ad len cap] w fun e w' => ∃ adB cB Cs adL cL K, (∃ (m : Int) (al : Bool), e = .returned (.tuple #[.agg #[.slice adB (List.length Cs) cB, .slice adL (List.length K) cL], .int .i64 m, .bool al])) ∧ (1 ≤ List.length Cs ∧ List.length Cs ≤ 5 ∧ List.length K ≤ 8 ∧ (∀ i, i < Cs.length → (Cs.getD i Bd.nil).L.length ≤ 6)) ∧ NetLo w.heap.size w' (.slice adB (List.length Cs) cB) Cs (.slice adL (List.length K) cL) K ∧ Below w.heap.size w w' := by
  obtain ⟨R, hRe⟩ : ∃ R, R = w.heap.size := ⟨_, rfl⟩
  have hR : w.heap.size ≤ R := by omega
  obtain ⟨x0, hx0⟩ : ∃ y_, y_ = w.alloc (Obj.cells #[.slice none 0 0, .slice none 0 0] 27) := ⟨_, rfl⟩
  have B0 : Below w.heap.size w x0 := by rw [hx0]; exact below_new _
  have R0 : NeBox x0 R (.slice none 0 0) (.slice none 0 0) := by rw [hx0, hRe]; exact NeBox.new w _
  have h0 := h.later B0 (Nat.le_refl _)
  go_enter Try.func8, Try.ntmps8
  go_wp2_with fail
  go_at_call 36
  rw [← hx0, ← hRe]
  clear hx0 hRe
  refine (drawNew ad len cap f x0 h0.view h0.lt h0.small h0.bytes).mono ?_
  rintro e y1 ⟨rfl, s1, b1, z1⟩
  have R1 := R0.later b1
  have B1 := B0.trans (b1.mono B0.size)
  have hc1 : x0.heap.size < y1.heap.size := s1.cur.lt
  have hRl := R0.lt
  generalize hcb : x0.heap.size = cb at *
  have hbR : w.heap.size ≤ cb := by rw [← hcb]; exact B0.size
  have hRc : cb ≠ R := by omega
  clear R0 z1 hcb
  go_wp2_with fail
  go_at_call 37
  refine (drawN s1 hc1).mono ?_
  rintro e y2 ⟨adB, cB, Cs, adL, cL, K, rfl, sm, O2, s2, g2⟩
  have R2 := R1.grew g2 hRc
  have B2 : Below w.heap.size w y2 := B1.grown g2 B1.size (fun k e => by simp at e; omega)
  have hc2 : cb < y2.heap.size := s2.cur.lt
  have z2 := g2.size
  have R1l := R1.lt
  have y1z := B1.size
  clear R1 s1 g2 b1 B1
  obtain ⟨y3, hy3⟩ : ∃ y_, y_ = y2.alloc (Obj.cells #[.slice adB Cs.length cB, .slice adL K.length cL] 27) := ⟨_, rfl⟩
  have k3 : Below y2.heap.size y2 y3 := by rw [hy3]; exact below_new _
  obtain ⟨N, hNe⟩ : ∃ N, N = y2.heap.size := ⟨_, rfl⟩
  have nb : NeBox y3 N (.slice adB Cs.length cB) (.slice adL K.length cL) := by rw [hy3, hNe]; exact NeBox.new y2 _
  have hRN : R < N := by have := R2.lt; omega
  have hcN : cb < N := by omega
  have R3 := R2.later k3
  have B3 := B2.trans (k3.mono B2.size)
  have s3 := s2.later k3
  have O3 := O2.later k3
  go_upto_region 3 with fail
  rw [← hy3, ← hNe]
  clear hy3 hNe k3 R2 B2 s2 O2
  have cc := nb.at_
  obtain ⟨n0, n1⟩ := cc
  have hlC := sm.2.1
  go_wp2_with fail
  go_at_call 38
  clear n0 n1
  refine (drawBelow s3 ((Cs.length : Int) + 2) (by omega) (by omega)).mono ?_
  rintro e y4 ⟨m, rfl, m0, m1, s4, g4⟩
  have R3 := R3.grew g4 hRc
  have nb := nb.grew g4 (by omega)
  have B3 : Below w.heap.size w y4 := B3.grown g4 B3.size (fun k e => by simp at e; omega)
  have O3 := O3.grew g4 (by omega)
  have s3 := s4
  clear g4 s4
  have wm : IntKind.i64.wrap (m - 1) = m - 1 := by rw [IntKind.wrap_i64]; omega
  go_upto_region 4 with fail
  refine wp_region_held (S := fun Y => NeAt Y N (.slice adB Cs.length cB) (.slice adL K.length cL)) (by kernel_rfl) ?_
  change wpAnyH _ _ _ _ _ _ _ _ (World.drew _)
  have kd : Below y4.heap.size y4 y4.drew := (Below.refl _ _).drew
  have nb := nb.later kd
  have R3 := R3.later kd
  have B3 := B3.trans (kd.mono B3.size)
  have s3 := s3.later kd
  have O3 := O3.later kd
  obtain ⟨u0, hy0⟩ : ∃ y_, y_ = y4.drew := ⟨_, rfl⟩
  rw [← hy0] at nb R3 B3 s3 O3 ⊢
  clear hy0 kd
  have hb0 := nb.at_
  refine takeW 0 19 (.agg #[.slice adB Cs.length cB, .slice adL K.length cL]) rfl rfl (by kernel_rfl) (by kernel_rfl) (by kernel_rfl) (fun _ _ _ h => h) (by kernel_rfl) (by (intro Y hSw; obtain ⟨X0, X1⟩ := hSw; go_simp)) (by assumption) ?_
  simp only [List.set_cons_zero, List.set_cons_succ]
  refine takeW 1 20 (.int .i64 (m - 1)) rfl rfl (by kernel_rfl) (by kernel_rfl) (by kernel_rfl) (fun _ _ _ h => h) (by kernel_rfl) (by (intro w hSw; go_simp)) (by assumption) ?_
  simp only [List.set_cons_zero, List.set_cons_succ]
  refine takeW 2 21 (.pointer (some ⟨cb, 0, none⟩)) rfl rfl (by kernel_rfl) (by kernel_rfl) (by kernel_rfl) (fun _ _ _ h => h) (by kernel_rfl) (by (intro w hSw; go_simp)) (by assumption) ?_
  simp only [List.set_cons_zero, List.set_cons_succ]
  refine wpAnyH_all (rs := [3]) (by kernel_rfl) (by simp) ?_
  intro i hi; obtain rfl : i = 3 := by simpa using hi
  refine wpOp_step rfl (fun Kz hKz => ?_)
  rw [if_pos (by kernel_rfl)]
  go_simp
  go_at_call 39
  refine (drawOnce s3 2 (by decide) (by decide)).mono ?_
  rintro e y5 ⟨al, rfl, s5, g5⟩
  have R5 := R3.grew g5 hRc
  have nb5 := nb.grew g5 (by omega)
  have B5 : Below w.heap.size w y5 := B3.grown g5 B3.size (fun k e => by simp at e; omega)
  have O5 := O3.grew g5 (by omega)
  have hb5 := nb5.at_
  clear R3 nb B3 O3 g5 s5 s3
  refine hKz _ _ ⟨hb5, ?_⟩
  clear hKz Kz hi
  refine wpAnyH_all (rs := [4]) (by kernel_rfl) (by simp) ?_
  intro i hi; obtain rfl : i = 4 := by simpa using hi
  refine wpOp_step rfl (fun Kz hKz => ?_)
  rw [if_pos (by kernel_rfl)]
  obtain ⟨X0, X1⟩ := R5.at_
  have f0 := R5.fr 0
  have f1 := R5.fr 1
  have hNb : NeAt ((y5.setCell ⟨R, 0, none⟩ (.slice adB Cs.length cB)).setCell ⟨R, 1, none⟩ (.slice adL K.length cL)) N (.slice adB Cs.length cB) (.slice adL K.length cL) := nb5.at_.keep (by rw [Below.heap_setCell _ _ _ _ (by show N ≠ R; omega), Below.heap_setCell _ _ _ _ (by show N ≠ R; omega)])
  go_simp
  refine hKz _ _ ⟨hNb, ?_⟩
  clear hKz Kz hi X0 X1 f0 f1
  refine takeW 5 3 (.int .i64 (m - 1)) rfl rfl (by kernel_rfl) (by kernel_rfl) (by kernel_rfl) (fun _ _ _ h => h) (by kernel_rfl) (by (intro w hSw; go_simp)) (by assumption) ?_
  simp only [List.set_cons_zero, List.set_cons_succ]
  refine takeW 6 4 (.bool al) rfl rfl (by kernel_rfl) (by kernel_rfl) (by kernel_rfl) (fun _ _ _ h => h) (by kernel_rfl) (by (intro w hSw; go_simp)) (by assumption) ?_
  simp only [List.set_cons_zero, List.set_cons_succ]
  refine wpAnyH_done (by kernel_rfl) ?_ _
  have OZ := netBox O5 (.slice adB Cs.length cB) (.slice adL K.length cL) (R := R) (by omega) y1z
  have BZ := (B5.setCell (p := ⟨R, 0, none⟩) (by show _ ≤ R; omega) (.slice adB Cs.length cB)).setCell (p := ⟨R, 1, none⟩) (by show _ ≤ R; omega) (.slice adL K.length cL)
  clear hNb hb0 hb5
  obtain ⟨⟨r0, r1⟩, rf⟩ := R5
  go_wp2
  refine bodyPost_ret (v := .tuple #[.agg #[.slice adB Cs.length cB, .slice adL K.length cL], .int .i64 (m - 1), .bool al]) (by simp [results, Try.results8, go_sem, *]) rfl ⟨_, _, Cs, _, _, K, ⟨m - 1, al, rfl⟩, sm, OZ, BZ⟩
set_option maxHeartbeats 4000000 in
theorem drawPa (ad : Option Addr) (len cap : Nat) (f : Nat → Int) (w : World) (h : Code0 w ad len f) :
    Calls Try.prog 10 #[.slice ad len cap] w fun e w' => ∃ adB cB Cs adL cL K, (∃ (m : Int), e = .returned (.tuple #[.agg #[.slice adB (List.length Cs) cB, .slice adL (List.length K) cL], .int .i64 m])) ∧ (1 ≤ List.length Cs ∧ List.length Cs ≤ 5 ∧ List.length K ≤ 8 ∧ (∀ i, i < Cs.length → (Cs.getD i Bd.nil).L.length ≤ 6)) ∧ NetLo w.heap.size w' (.slice adB (List.length Cs) cB) Cs (.slice adL (List.length K) cL) K ∧ Below w.heap.size w w' := by
  obtain ⟨R, hRe⟩ : ∃ R, R = w.heap.size := ⟨_, rfl⟩
  have hR : w.heap.size ≤ R := by omega
  obtain ⟨x0, hx0⟩ : ∃ y_, y_ = w.alloc (Obj.cells #[.slice none 0 0, .slice none 0 0] 27) := ⟨_, rfl⟩
  have B0 : Below w.heap.size w x0 := by rw [hx0]; exact below_new _
  have R0 : NeBox x0 R (.slice none 0 0) (.slice none 0 0) := by rw [hx0, hRe]; exact NeBox.new w _
  have h0 := h.later B0 (Nat.le_refl _)
  go_enter Try.func10, Try.ntmps10
  go_wp2_with fail
  go_at_call 36
  rw [← hx0, ← hRe]
  clear hx0 hRe
  refine (drawNew ad len cap f x0 h0.view h0.lt h0.small h0.bytes).mono ?_
  rintro e y1 ⟨rfl, s1, b1, z1⟩
  have R1 := R0.later b1
  have B1 := B0.trans (b1.mono B0.size)
  have hc1 : x0.heap.size < y1.heap.size := s1.cur.lt
  have hRl := R0.lt
  generalize hcb : x0.heap.size = cb at *
  have hbR : w.heap.size ≤ cb := by rw [← hcb]; exact B0.size
  have hRc : cb ≠ R := by omega
  clear R0 z1 hcb
  go_wp2_with fail
  go_at_call 37
  refine (drawN s1 hc1).mono ?_
  rintro e y2 ⟨adB, cB, Cs, adL, cL, K, rfl, sm, O2, s2, g2⟩
  have R2 := R1.grew g2 hRc
  have B2 : Below w.heap.size w y2 := B1.grown g2 B1.size (fun k e => by simp at e; omega)
  have hc2 : cb < y2.heap.size := s2.cur.lt
  have z2 := g2.size
  have R1l := R1.lt
  have y1z := B1.size
  clear R1 s1 g2 b1 B1
  obtain ⟨y3, hy3⟩ : ∃ y_, y_ = y2.alloc (Obj.cells #[.slice adB Cs.length cB, .slice adL K.length cL] 27) := ⟨_, rfl⟩
  have k3 : Below y2.heap.size y2 y3 := by rw [hy3]; exact below_new _
  obtain ⟨N, hNe⟩ : ∃ N, N = y2.heap.size := ⟨_, rfl⟩
  have nb : NeBox y3 N (.slice adB Cs.length cB) (.slice adL K.length cL) := by rw [hy3, hNe]; exact NeBox.new y2 _
  have hRN : R < N := by have := R2.lt; omega
  have hcN : cb < N := by omega
  have R3 := R2.later k3
  have B3 := B2.trans (k3.mono B2.size)
  have s3 := s2.later k3
  have O3 := O2.later k3
  go_upto_region 3 with fail
  rw [← hy3, ← hNe]
  clear hy3 hNe k3 R2 B2 s2 O2
  have hlK := sm.2.2.1
  have wk : IntKind.i64.wrap ((K.length : Int) + 2) = (K.length : Int) + 2 := by rw [IntKind.wrap_i64]; omega
  refine wp_region_held (S := fun Y => NeAt Y N (.slice adB Cs.length cB) (.slice adL K.length cL)) (by kernel_rfl) ?_
  change wpAnyH _ _ _ _ _ _ _ _ (World.drew _)
  have kd : Below y3.heap.size y3 y3.drew := (Below.refl _ _).drew
  have nb := nb.later kd
  have R3 := R3.later kd
  have B3 := B3.trans (kd.mono B3.size)
  have s3 := s3.later kd
  have O3 := O3.later kd
  obtain ⟨u0, hy0⟩ : ∃ y_, y_ = y3.drew := ⟨_, rfl⟩
  rw [← hy0] at nb R3 B3 s3 O3 ⊢
  clear hy0 kd
  have hb0 := nb.at_
  refine takeW 0 10 (.agg #[.slice adB Cs.length cB, .slice adL K.length cL]) rfl rfl (by kernel_rfl) (by kernel_rfl) (by kernel_rfl) (fun _ _ _ h => h) (by kernel_rfl) (by (intro Y hSw; obtain ⟨X0, X1⟩ := hSw; go_simp)) (by assumption) ?_
  simp only [List.set_cons_zero, List.set_cons_succ]
  refine takeW 1 11 (.pointer (some ⟨cb, 0, none⟩)) rfl rfl (by kernel_rfl) (by kernel_rfl) (by kernel_rfl) (fun _ _ _ h => h) (by kernel_rfl) (by (intro w hSw; go_simp)) (by assumption) ?_
  simp only [List.set_cons_zero, List.set_cons_succ]
  refine takeW 2 12 (.pointer (some ⟨N, 1, none⟩)) rfl rfl (by kernel_rfl) (by kernel_rfl) (by kernel_rfl) (fun _ _ _ h => h) (by kernel_rfl) (by (intro w hSw; go_simp)) (by assumption) ?_
  simp only [List.set_cons_zero, List.set_cons_succ]
  refine takeW 3 13 (.slice adL K.length cL) rfl rfl (by kernel_rfl) (by kernel_rfl) (by kernel_rfl) (fun _ _ _ h => h) (by kernel_rfl) (by (intro Y hSw; obtain ⟨X0, X1⟩ := hSw; go_simp)) (by assumption) ?_
  simp only [List.set_cons_zero, List.set_cons_succ]
  refine takeW 4 14 (.int .i64 (K.length : Int)) rfl rfl (by kernel_rfl) (by kernel_rfl) (by kernel_rfl) (fun _ _ _ h => h) (by kernel_rfl) (by (intro w hSw; go_simp)) (by assumption) ?_
  simp only [List.set_cons_zero, List.set_cons_succ]
  refine takeW 5 15 (.int .i64 ((K.length : Int) + 2)) rfl rfl (by kernel_rfl) (by kernel_rfl) (by kernel_rfl) (fun _ _ _ h => h) (by kernel_rfl) (by (intro w hSw; go_simp)) (by assumption) ?_
  simp only [List.set_cons_zero, List.set_cons_succ]
  refine wpAnyH_all (rs := [6]) (by kernel_rfl) (by simp) ?_
  intro i hi; obtain rfl : i = 6 := by simpa using hi
  refine wpOp_step rfl (fun Kz hKz => ?_)
  rw [if_pos (by kernel_rfl)]
  go_simp
  go_at_call 38
  refine (drawBelow s3 ((K.length : Int) + 2) (by omega) (by omega)).mono ?_
  rintro e y5 ⟨m, rfl, m0, m1, s5, g5⟩
  have R5 := R3.grew g5 hRc
  have nb5 := nb.grew g5 (by omega)
  have B5 : Below w.heap.size w y5 := B3.grown g5 B3.size (fun k e => by simp at e; omega)
  have O5 := O3.grew g5 (by omega)
  have hb5 := nb5.at_
  clear R3 nb B3 O3 g5 s5 s3
  refine hKz _ _ ⟨hb5, ?_⟩
  clear hKz Kz hi
  have wm : IntKind.i64.wrap (m - 1) = m - 1 := by rw [IntKind.wrap_i64]; omega
  refine takeW 7 17 (.int .i64 (m - 1)) rfl rfl (by kernel_rfl) (by kernel_rfl) (by kernel_rfl) (fun _ _ _ h => h) (by kernel_rfl) (by (intro w hSw; go_simp)) (by assumption) ?_
  simp only [List.set_cons_zero, List.set_cons_succ]
  refine wpAnyH_all (rs := [8]) (by kernel_rfl) (by simp) ?_
  intro i hi; obtain rfl : i = 8 := by simpa using hi
  refine wpOp_step rfl (fun Kz hKz => ?_)
  rw [if_pos (by kernel_rfl)]
  obtain ⟨X0, X1⟩ := R5.at_
  have f0 := R5.fr 0
  have f1 := R5.fr 1
  have hNb : NeAt ((y5.setCell ⟨R, 0, none⟩ (.slice adB Cs.length cB)).setCell ⟨R, 1, none⟩ (.slice adL K.length cL)) N (.slice adB Cs.length cB) (.slice adL K.length cL) := nb5.at_.keep (by rw [Below.heap_setCell _ _ _ _ (by show N ≠ R; omega), Below.heap_setCell _ _ _ _ (by show N ≠ R; omega)])
  go_simp
  refine hKz _ _ ⟨hNb, ?_⟩
  clear hKz Kz hi X0 X1 f0 f1
  refine takeW 9 3 (.int .i64 (m - 1)) rfl rfl (by kernel_rfl) (by kernel_rfl) (by kernel_rfl) (fun _ _ _ h => h) (by kernel_rfl) (by (intro w hSw; go_simp)) (by assumption) ?_
  simp only [List.set_cons_zero, List.set_cons_succ]
  refine wpAnyH_done (by kernel_rfl) ?_ _
  have OZ := netBox O5 (.slice adB Cs.length cB) (.slice adL K.length cL) (R := R) (by omega) y1z
  have BZ := (B5.setCell (p := ⟨R, 0, none⟩) (by show _ ≤ R; omega) (.slice adB Cs.length cB)).setCell (p := ⟨R, 1, none⟩) (by show _ ≤ R; omega) (.slice adL K.length cL)
  clear hNb hb0 hb5
  obtain ⟨⟨r0, r1⟩, rf⟩ := R5
  go_wp2
  refine bodyPost_ret (v := .tuple #[.agg #[.slice adB Cs.length cB, .slice adL K.length cL], .int .i64 (m - 1)]) (by simp [results, Try.results10, go_sem, *]) rfl ⟨_, _, Cs, _, _, K, ⟨m - 1, rfl⟩, sm, OZ, BZ⟩

end Go.Proofs.Ytdfjfodfnildiaa
