/- Two frames drawn of a code. -/
import Derived.Test.YtpdlliehdmeboaaDoorRows
import Derived.WalkKit
import Derived.ProofKit
import Derived.OpenShut
import Derived.ShutString
import Derived.ChangeOld
import Derived.Below
import Derived.Deep.QuietTactic
import Derived.BigQuiet
import Derived.WalkSmall
import Derived.Laws.OwnMore
import Derived.WalkSpells
import Derived.WalkLawsBesides
import Derived.Test.YtpdlliehdmeboaaDoorDraw5
namespace Go.Proofs.YtpdlliehdmeboaaDoor
open Go.ChangeShapes Go.WideShapes Go.ChangeAt Go.RowKit
open Go.ChangeMaps (open_string shut_string)
set_option linter.unusedVariables false

theorem View.take {w : World} {ad : Option Addr} {n m : Nat} {f : Nat → Int} (h : View w ad n f) (hm : m ≤ n) : View w ad m f := fun hp => by
  obtain ⟨b, off, e, hc⟩ := h (by omega)
  exact ⟨b, off, e, fun i hi => hc i (by omega)⟩
theorem frameOf_bd {P : List Int} (hP : ∀ x ∈ P, 0 ≤ x ∧ x ≤ 255) : ∀ x ∈ (frameOf P).M, 0 ≤ x ∧ x ≤ 255 := by
  rcases of_ways P with ⟨_, e⟩ | ⟨_, _, _, _, _, _, _, e⟩ | ⟨p, q, _, _, _, e⟩
  · rw [e]; intro x hx; simp [FR.no] at hx
  · rw [e]; intro x hx; simp [FR.no] at hx
  · rw [e]
    split
    · intro x hx
      exact hP x (List.mem_of_mem_drop (List.mem_of_mem_take hx))
    · intro x hx; simp [FR.no] at hx
theorem bigYes (ad : Option Addr) (len cap : Nat) (w : World) (h : (1048576 : Int) < (len : Int)) : Calls Tryd.prog 5 #[.slice ad len cap] w fun e w' => e = .returned (.bool true) ∧ w' = w := by
  go_enter Tryd.func5, Tryd.ntmps5
  go_wp2
  go_ret
  exact ⟨rfl, rfl⟩
theorem bigNo (ad : Option Addr) (len cap : Nat) (w : World) (h : len ≤ 1048576) : Calls Tryd.prog 5 #[.slice ad len cap] w fun e w' => e = .returned (.bool false) ∧ w' = w := by
  have h' : decide ((1048576 : Int) < (len : Int)) = false := decide_eq_false (by omega)
  go_enter Tryd.func5, Tryd.ntmps5
  go_wp2
  go_ret
  exact ⟨rfl, rfl⟩

theorem FrameAt.of_block {w w' : World} {p : Nat} {a b c : Int} {ad : Option Addr} {len cap : Nat} (h : FrameAt w p a b c ad len cap) (e : w'.heap[p]? = w.heap[p]?) : FrameAt w' p a b c ad len cap :=
  ⟨(World.cell?_of_block (a := ⟨p, 0, none⟩) e).trans h.1, (World.cell?_of_block (a := ⟨p, 1, none⟩) e).trans h.2.1, (World.cell?_of_block (a := ⟨p, 2, none⟩) e).trans h.2.2.1, (World.cell?_of_block (a := ⟨p, 3, none⟩) e).trans h.2.2.2⟩
theorem frame_put {w : World} {p : Nat} {a b c : Int} {ad : Option Addr} {len cap : Nat} {u0 u1 u2 u3 : Value} (h0 : w.cell? ⟨p, 0, none⟩ = some u0) (h1 : w.cell? ⟨p, 1, none⟩ = some u1) (h2 : w.cell? ⟨p, 2, none⟩ = some u2) (h3 : w.cell? ⟨p, 3, none⟩ = some u3) :
    FrameAt ((((w.setCell ⟨p, 0, none⟩ (.int .i64 a)).setCell ⟨p, 1, none⟩ (.int .i64 b)).setCell ⟨p, 2, none⟩ (.int .i64 c)).setCell ⟨p, 3, none⟩ (.slice ad len cap)) p a b c ad len cap := by
  refine ⟨?_, ?_, ?_, ?_⟩
  · rw [cell_set_ne (by omega), cell_set_ne (by omega), cell_set_ne (by omega)]
    exact cell_set_same ⟨_, h0⟩
  · rw [cell_set_ne (by omega), cell_set_ne (by omega)]
    exact cell_set_same (cell?_setCell_some h1)
  · rw [cell_set_ne (by omega)]
    exact cell_set_same (cell?_setCell_some (cell?_setCell_some h2).choose_spec)
  · exact cell_set_same (cell?_setCell_some (cell?_setCell_some (cell?_setCell_some h3).choose_spec).choose_spec)
/-- Two frames that were drawn, in the world w'. -/
def Pair (w w' : World) (a b c : Int) (L : List Int) (ad : Option Addr) (cap : Nat) : Prop :=
  View w' ad L.length (fun i => L.getD i 0) ∧ (∀ x ∈ L, 0 ≤ x ∧ x ≤ 255) ∧ L.length ≤ 31
set_option maxHeartbeats 8000000 in
theorem drawFS (ad : Option Addr) (len cap : Nat) (f : Nat → Int) (w : World) (h : Code0 w ad len f) :
    Calls Tryd.prog 11 #[.slice ad len cap] w fun e w' => ∃ (a b c : Int) (L : List Int) (ad1 : Option Addr) (cap1 : Nat) (a' b' c' : Int) (L' : List Int) (ad2 : Option Addr) (cap2 : Nat),
      e = .returned (.tuple #[.agg #[.int .i64 a, .int .i64 b, .int .i64 c, .slice ad1 L.length cap1], .agg #[.int .i64 a', .int .i64 b', .int .i64 c', .slice ad2 L'.length cap2]]) ∧ Pair w w' a b c L ad1 cap1 ∧ Pair w w' a' b' c' L' ad2 cap2 ∧ Below w.heap.size w w' := by
  obtain ⟨x, hx⟩ : ∃ x, x = (w.alloc (Obj.cells #[.int .i64 0, .int .i64 0, .int .i64 0, .slice none 0 0] 25)).alloc (Obj.cells #[.int .i64 0, .int .i64 0, .int .i64 0, .slice none 0 0] 25) := ⟨_, rfl⟩
  have R0 : FrameAt x w.heap.size 0 0 0 none 0 0 := by rw [hx]; refine ⟨?_, ?_, ?_, ?_⟩ <;> simp [go_sem]
  have R1 : FrameAt x (w.heap.size + 1) 0 0 0 none 0 0 := by rw [hx]; refine ⟨?_, ?_, ?_, ?_⟩ <;> simp [go_sem]
  have Z0 : ∀ i, x.frozen? ⟨w.heap.size, i, none⟩ = false := by intro i; rw [hx]; simp [go_sem]
  have Z1 : ∀ i, x.frozen? ⟨w.heap.size + 1, i, none⟩ = false := by intro i; rw [hx]; simp [go_sem]
  have B0 : Below w.heap.size w x := by rw [hx]; exact ((Below.refl _ _).alloc (Nat.le_refl _) _).alloc (by simp) _
  have T0 : w.heap.size + 1 < x.heap.size := by rw [hx]; simp
  have hx0 := h.later B0 (Nat.le_refl _)
  go_enter Tryd.func11, Tryd.ntmps11
  go_wp2_with fail
  go_at_call 24
  rw [← hx]
  clear hx
  refine (drawNew ad len cap f x hx0.view hx0.lt hx0.small hx0.bytes).mono ?_
  rintro e x1 ⟨rfl, hs, hb, hz0⟩
  have t1 : x.heap.size < x1.heap.size := by omega
  clear hz0
  go_wp2_with fail
  go_at_call 23
  refine (drawF x1 hs t1 (fun q e hp => by have := hx0.lt q e hp; omega)).mono ?_
  rintro e x2 ⟨a, b, c, L, ⟨adL, capL, rfl, oL, hLb, hs2, g⟩, hL⟩
  have sg := g.size
  have mL := (own_view2 oL).2.2
  have nL := own_nil oL
  have k2 : Below x.heap.size x x2 := hb.trans (grown_below g (Nat.le_refl _) (by omega))
  obtain ⟨x3, hx3⟩ : ∃ z, z = x2.alloc (Obj.cells #[.int .i64 a, .int .i64 b, .int .i64 c, .slice adL L.length capL] 25) := ⟨_, rfl⟩
  have F3 : FrameAt x3 x2.heap.size a b c adL L.length capL := by rw [hx3]; exact frameAt_box x2 _ _ _ _ _ _ _
  have k3 : Below x2.heap.size x2 x3 := by rw [hx3]; exact below_box x2 _
  have t3 : x2.heap.size < x3.heap.size := by rw [hx3]; exact size_box x2 _
  have o3 := own_carry oL k3
  have hs3 := hs2.later k3
  have hlx : ∀ q, ad = some q → 0 < len → q.block < x.heap.size := hx0.lt
  clear oL hs hs2 hx0
  go_wp2_with fail
  go_at_call 30
  rw [← hx3]
  clear hx3
  refine (drawOnce hs3 2 (by omega) (by omega)).mono ?_
  rintro e x4 ⟨bo, rfl, hs4, g4⟩
  have s4 := g4.size
  have k34 : Below x.heap.size x x4 := (k2.trans (k3.mono (by omega))).trans (grown_below g4 (Nat.le_refl _) (by omega))
  have F4 := F3.grown g4 (by omega)
  have o4 := own_grown o3 g4 (by omega)
  have R04 := R0.below k34 (by omega)
  have R14 := R1.below k34 (by omega)
  have Y0 : ∀ i, x4.frozen? ⟨w.heap.size, i, none⟩ = false := fun i => (World.frozen?_of_block (a := ⟨w.heap.size, i, none⟩) (k34.block _ (by show w.heap.size < _; omega))).trans (Z0 i)
  have Y1 : ∀ i, x4.frozen? ⟨w.heap.size + 1, i, none⟩ = false := fun i => (World.frozen?_of_block (a := ⟨w.heap.size + 1, i, none⟩) (k34.block _ (by show w.heap.size + 1 < _; omega))).trans (Z1 i)
  have B4 := B0.trans (k34.mono (by omega))
  clear F3 o3 R0 R1 Z0 Z1 hs3 g4 g k2 k3
  cases bo with
  | true =>
    go_wp2_with fail
    refine wp_region_held (S := fun Y => FrameAt Y x2.heap.size a b c adL L.length capL) (by kernel_rfl) ?_
    change wpAnyH _ _ _ _ _ _ _ _ (World.drew _)
    obtain ⟨y0, hy⟩ : ∃ z, z = World.drew x4 := ⟨_, rfl⟩
    have ky : Below x4.heap.size x4 y0 := by rw [hy]; exact (Below.refl _ _).drew
    have sy := ky.size
    rw [← hy]
    clear hy
    have S0 : FrameAt y0 x2.heap.size a b c adL L.length capL := F4.below ky (by omega)
    have R0y := R04.below ky (by omega)
    have R1y := R14.below ky (by omega)
    have Z0y : ∀ i, y0.frozen? ⟨w.heap.size, i, none⟩ = false := fun i => (World.frozen?_of_block (a := ⟨w.heap.size, i, none⟩) (ky.block _ (by show w.heap.size < _; omega))).trans (Y0 i)
    have Z1y : ∀ i, y0.frozen? ⟨w.heap.size + 1, i, none⟩ = false := fun i => (World.frozen?_of_block (a := ⟨w.heap.size + 1, i, none⟩) (ky.block _ (by show w.heap.size + 1 < _; omega))).trans (Y1 i)
    have oy := own_carry o4 ky
    have Hsy := hs4.later ky
    have By : Below w.heap.size w y0 := B4.trans (ky.mono (by omega))
    clear R04 R14 Y0 Y1 o4 hs4 F4
    refine takeW 0 12 (.agg #[.int .i64 a, .int .i64 b, .int .i64 c, .slice adL L.length capL]) rfl rfl (by kernel_rfl) (by kernel_rfl) (by kernel_rfl) (fun _ _ _ h => h) (by kernel_rfl) (by (intro Y hSw; obtain ⟨C1, C2, C3, C4⟩ := hSw; go_simp)) (by assumption) ?_
    simp only [List.set_cons_zero, List.set_cons_succ]
    refine takeW 1 13 (.agg #[.int .i64 a, .int .i64 b, .int .i64 c, .slice adL L.length capL]) rfl rfl (by kernel_rfl) (by kernel_rfl) (by kernel_rfl) (fun _ _ _ h => h) (by kernel_rfl) (by (intro Y hSw; obtain ⟨C1, C2, C3, C4⟩ := hSw; go_simp)) (by assumption) ?_
    simp only [List.set_cons_zero, List.set_cons_succ]
    refine wpAnyH_all (rs := [2]) (by kernel_rfl) (by simp) ?_
    intro i hi; obtain rfl : i = 2 := by simpa using hi
    refine wpOp_step rfl (fun K hK => ?_)
    rw [if_pos (by kernel_rfl)]
    go_simp
    go_at_call 31
    refine (copyF a b c adL capL L y0 (own_view2 oy).1 (fun _ h => nL.1 h) (by omega)).mono ?_
    rintro e y1 ⟨ad2, cap2, rfl, o2, k1⟩
    have s1 := k1.size
    have e0 : y1.heap[w.heap.size]? = y0.heap[w.heap.size]? := k1.block _ (by show w.heap.size < _; omega)
    have e1 : y1.heap[w.heap.size + 1]? = y0.heap[w.heap.size + 1]? := k1.block _ (by show w.heap.size + 1 < _; omega)
    have S1 := S0.below k1 (by omega)
    have oz := own_carry oy k1
    have By1 : Below w.heap.size w y1 := By.trans (k1.mono (by omega))
    obtain ⟨p0, p1, p2, p3⟩ := R0y.of_block e0
    obtain ⟨q0, q1, q2, q3⟩ := R1y.of_block e1
    have f0 : ∀ i, y1.frozen? ⟨w.heap.size, i, none⟩ = false := fun i => (World.frozen?_of_block (a := ⟨w.heap.size, i, none⟩) e0).trans (Z0y i)
    have f1 : ∀ i, y1.frozen? ⟨w.heap.size + 1, i, none⟩ = false := fun i => (World.frozen?_of_block (a := ⟨w.heap.size + 1, i, none⟩) e1).trans (Z1y i)
    have m2 := (own_view2 o2).2.2
    have v2 := (own_view2 o2).1
    have mz := (own_view2 oz).2.2
    have vz := (own_view2 oz).1
    clear R0y R1y Z0y Z1y oy e0 e1 o2 oz
    refine hK _ _ ⟨S1, ?_⟩
    clear hK K hi
    refine wpAnyH_all (rs := [3]) (by kernel_rfl) (by simp) ?_
    intro i hi; obtain rfl : i = 3 := by simpa using hi
    refine wpOp_step rfl (fun K hK => ?_)
    rw [if_pos (by kernel_rfl)]
    have w0 := f0 0
    have w1 := f0 1
    have w2 := f0 2
    have w3 := f0 3
    go_simp
    clear w0 w1 w2 w3
    obtain ⟨y2, hy⟩ : ∃ z, z = (((y1.setCell ⟨w.heap.size, 0, none⟩ (.int .i64 a)).setCell ⟨w.heap.size, 1, none⟩ (.int .i64 b)).setCell ⟨w.heap.size, 2, none⟩ (.int .i64 c)).setCell ⟨w.heap.size, 3, none⟩ (.slice adL L.length capL) := ⟨_, rfl⟩
    have kky2 : ∀ g, g ≠ w.heap.size → y2.heap[g]? = y1.heap[g]? := fun g hg => by rw [hy, Below.heap_setCell _ _ _ _ hg, Below.heap_setCell _ _ _ _ hg, Below.heap_setCell _ _ _ _ hg, Below.heap_setCell _ _ _ _ hg]
    have FFy2 : FrameAt y2 (w.heap.size) a b c adL L.length capL := by rw [hy]; exact frame_put p0 p1 p2 p3
    have By2 : Below w.heap.size w y2 := by rw [hy]; exact (((By1.setCell (by simp) _).setCell (by simp) _).setCell (by simp) _).setCell (by simp) _
    have zzy2 : y2.heap.size = y1.heap.size := by rw [hy]; simp
    rw [← hy]
    clear hy
    have S2 : FrameAt y2 x2.heap.size a b c adL L.length capL := S1.of_block (kky2 _ (by omega))
    obtain ⟨t0, t1', t2, t3'⟩ : FrameAt y2 (w.heap.size + 1) 0 0 0 none 0 0 := FrameAt.of_block (⟨q0, q1, q2, q3⟩ : FrameAt y1 (w.heap.size + 1) 0 0 0 none 0 0) (kky2 _ (by omega))
    have f2 : ∀ i, y2.frozen? ⟨w.heap.size + 1, i, none⟩ = false := fun i => (World.frozen?_of_block (a := ⟨w.heap.size + 1, i, none⟩) (kky2 _ (by show w.heap.size + 1 ≠ _; omega))).trans (f1 i)
    clear p0 p1 p2 p3 q0 q1 q2 q3 f0 f1
    refine hK _ _ ⟨S2, ?_⟩
    clear hK K hi
    refine wpAnyH_all (rs := [4]) (by kernel_rfl) (by simp) ?_
    intro i hi; obtain rfl : i = 4 := by simpa using hi
    refine wpOp_step rfl (fun K hK => ?_)
    rw [if_pos (by kernel_rfl)]
    have w0 := f2 0
    have w1 := f2 1
    have w2 := f2 2
    have w3 := f2 3
    go_simp
    clear w0 w1 w2 w3
    obtain ⟨y3, hy⟩ : ∃ z, z = (((y2.setCell ⟨w.heap.size + 1, 0, none⟩ (.int .i64 a)).setCell ⟨w.heap.size + 1, 1, none⟩ (.int .i64 b)).setCell ⟨w.heap.size + 1, 2, none⟩ (.int .i64 c)).setCell ⟨w.heap.size + 1, 3, none⟩ (.slice ad2 L.length cap2) := ⟨_, rfl⟩
    have kky3 : ∀ g, g ≠ w.heap.size + 1 → y3.heap[g]? = y2.heap[g]? := fun g hg => by rw [hy, Below.heap_setCell _ _ _ _ hg, Below.heap_setCell _ _ _ _ hg, Below.heap_setCell _ _ _ _ hg, Below.heap_setCell _ _ _ _ hg]
    have FFy3 : FrameAt y3 (w.heap.size + 1) a b c ad2 L.length cap2 := by rw [hy]; exact frame_put t0 t1' t2 t3'
    have By3 : Below w.heap.size w y3 := by rw [hy]; exact (((By2.setCell (by simp) _).setCell (by simp) _).setCell (by simp) _).setCell (by simp) _
    have zzy3 : y3.heap.size = y2.heap.size := by rw [hy]; simp
    rw [← hy]
    clear hy
    have S3 : FrameAt y3 x2.heap.size a b c adL L.length capL := S2.of_block (kky3 _ (by omega))
    have G2 := FFy2.of_block (kky3 _ (by omega))
    clear FFy2 t0 t1' t2 t3' f2
    refine hK _ _ ⟨S3, ?_⟩
    clear hK K hi
    refine wpAnyH_done (by kernel_rfl) ?_ _
    obtain ⟨g0, g1', g2, g3⟩ := G2
    obtain ⟨j0, j1, j2, j3⟩ := FFy3
    go_wp2
    refine bodyPost_ret (v := .tuple #[.agg #[.int .i64 a, .int .i64 b, .int .i64 c, .slice adL L.length capL], .agg #[.int .i64 a, .int .i64 b, .int .i64 c, .slice ad2 L.length cap2]]) (by simp [results, Tryd.results11, go_sem, g0, g1', g2, g3, j0, j1, j2, j3]) rfl ⟨a, b, c, L, adL, capL, a, b, c, L, ad2, cap2, rfl, ⟨?_, hLb, hL⟩, ⟨?_, hLb, hL⟩, By3⟩
    · exact vz.carry (fun q e _ => by have := mz q e; rw [kky3 _ (by omega), kky2 _ (by omega)])
    · exact v2.carry (fun q e _ => by have := m2 q e; rw [kky3 _ (by omega), kky2 _ (by omega)])
  | false =>
    go_wp2_with fail
    refine wp_region_held (S := fun Y => FrameAt Y x2.heap.size a b c adL L.length capL) (by kernel_rfl) ?_
    change wpAnyH _ _ _ _ _ _ _ _ (World.drew _)
    obtain ⟨y0, hy⟩ : ∃ z, z = World.drew x4 := ⟨_, rfl⟩
    have ky : Below x4.heap.size x4 y0 := by rw [hy]; exact (Below.refl _ _).drew
    have sy := ky.size
    rw [← hy]
    clear hy
    have S0 : FrameAt y0 x2.heap.size a b c adL L.length capL := F4.below ky (by omega)
    have R0y := R04.below ky (by omega)
    have R1y := R14.below ky (by omega)
    have Z0y : ∀ i, y0.frozen? ⟨w.heap.size, i, none⟩ = false := fun i => (World.frozen?_of_block (a := ⟨w.heap.size, i, none⟩) (ky.block _ (by show w.heap.size < _; omega))).trans (Y0 i)
    have Z1y : ∀ i, y0.frozen? ⟨w.heap.size + 1, i, none⟩ = false := fun i => (World.frozen?_of_block (a := ⟨w.heap.size + 1, i, none⟩) (ky.block _ (by show w.heap.size + 1 < _; omega))).trans (Y1 i)
    have oy := own_carry o4 ky
    have Hsy := hs4.later ky
    have By : Below w.heap.size w y0 := B4.trans (ky.mono (by omega))
    clear R04 R14 Y0 Y1 o4 hs4 F4
    refine takeW 0 15 (.agg #[.int .i64 a, .int .i64 b, .int .i64 c, .slice adL L.length capL]) rfl rfl (by kernel_rfl) (by kernel_rfl) (by kernel_rfl) (fun _ _ _ h => h) (by kernel_rfl) (by (intro Y hSw; obtain ⟨C1, C2, C3, C4⟩ := hSw; go_simp)) (by assumption) ?_
    simp only [List.set_cons_zero, List.set_cons_succ]
    refine takeW 1 16 (.pointer (some ⟨x.heap.size, 0, none⟩)) rfl rfl (by kernel_rfl) (by kernel_rfl) (by kernel_rfl) (fun _ _ _ h => h) (by kernel_rfl) (by (intro w hSw; go_simp)) (by assumption) ?_
    simp only [List.set_cons_zero, List.set_cons_succ]
    refine wpAnyH_all (rs := [2]) (by kernel_rfl) (by simp) ?_
    intro i hi; obtain rfl : i = 2 := by simpa using hi
    refine wpOp_step rfl (fun K hK => ?_)
    rw [if_pos (by kernel_rfl)]
    go_simp
    go_at_call 23
    refine (drawF y0 Hsy (by omega) (fun q e hp => by have := hlx q e hp; omega)).mono ?_
    rintro e y1 ⟨a', b', c', L', ⟨ad2, cap2, rfl, o2, hLb', _, g1⟩, hL'⟩
    have s1 := g1.size
    have e0 : y1.heap[w.heap.size]? = y0.heap[w.heap.size]? := g1.block (w.heap.size) (by omega) (by simp; omega)
    have e1 : y1.heap[w.heap.size + 1]? = y0.heap[w.heap.size + 1]? := g1.block (w.heap.size + 1) (by omega) (by simp; omega)
    have S1 := S0.grown g1 (by omega)
    have oz := own_grown oy g1 (by omega)
    have By1 : Below w.heap.size w y1 := By.trans (grown_below g1 (by omega) (by omega))
    obtain ⟨p0, p1, p2, p3⟩ := R0y.of_block e0
    obtain ⟨q0, q1, q2, q3⟩ := R1y.of_block e1
    have f0 : ∀ i, y1.frozen? ⟨w.heap.size, i, none⟩ = false := fun i => (World.frozen?_of_block (a := ⟨w.heap.size, i, none⟩) e0).trans (Z0y i)
    have f1 : ∀ i, y1.frozen? ⟨w.heap.size + 1, i, none⟩ = false := fun i => (World.frozen?_of_block (a := ⟨w.heap.size + 1, i, none⟩) e1).trans (Z1y i)
    have m2 := (own_view2 o2).2.2
    have v2 := (own_view2 o2).1
    have mz := (own_view2 oz).2.2
    have vz := (own_view2 oz).1
    clear R0y R1y Z0y Z1y oy e0 e1 o2 oz
    refine hK _ _ ⟨S1, ?_⟩
    clear hK K hi
    refine wpAnyH_all (rs := [3]) (by kernel_rfl) (by simp) ?_
    intro i hi; obtain rfl : i = 3 := by simpa using hi
    refine wpOp_step rfl (fun K hK => ?_)
    rw [if_pos (by kernel_rfl)]
    have w0 := f0 0
    have w1 := f0 1
    have w2 := f0 2
    have w3 := f0 3
    go_simp
    clear w0 w1 w2 w3
    obtain ⟨y2, hy⟩ : ∃ z, z = (((y1.setCell ⟨w.heap.size, 0, none⟩ (.int .i64 a)).setCell ⟨w.heap.size, 1, none⟩ (.int .i64 b)).setCell ⟨w.heap.size, 2, none⟩ (.int .i64 c)).setCell ⟨w.heap.size, 3, none⟩ (.slice adL L.length capL) := ⟨_, rfl⟩
    have kky2 : ∀ g, g ≠ w.heap.size → y2.heap[g]? = y1.heap[g]? := fun g hg => by rw [hy, Below.heap_setCell _ _ _ _ hg, Below.heap_setCell _ _ _ _ hg, Below.heap_setCell _ _ _ _ hg, Below.heap_setCell _ _ _ _ hg]
    have FFy2 : FrameAt y2 (w.heap.size) a b c adL L.length capL := by rw [hy]; exact frame_put p0 p1 p2 p3
    have By2 : Below w.heap.size w y2 := by rw [hy]; exact (((By1.setCell (by simp) _).setCell (by simp) _).setCell (by simp) _).setCell (by simp) _
    have zzy2 : y2.heap.size = y1.heap.size := by rw [hy]; simp
    rw [← hy]
    clear hy
    have S2 : FrameAt y2 x2.heap.size a b c adL L.length capL := S1.of_block (kky2 _ (by omega))
    obtain ⟨t0, t1', t2, t3'⟩ : FrameAt y2 (w.heap.size + 1) 0 0 0 none 0 0 := FrameAt.of_block (⟨q0, q1, q2, q3⟩ : FrameAt y1 (w.heap.size + 1) 0 0 0 none 0 0) (kky2 _ (by omega))
    have f2 : ∀ i, y2.frozen? ⟨w.heap.size + 1, i, none⟩ = false := fun i => (World.frozen?_of_block (a := ⟨w.heap.size + 1, i, none⟩) (kky2 _ (by show w.heap.size + 1 ≠ _; omega))).trans (f1 i)
    clear p0 p1 p2 p3 q0 q1 q2 q3 f0 f1
    refine hK _ _ ⟨S2, ?_⟩
    clear hK K hi
    refine wpAnyH_all (rs := [4]) (by kernel_rfl) (by simp) ?_
    intro i hi; obtain rfl : i = 4 := by simpa using hi
    refine wpOp_step rfl (fun K hK => ?_)
    rw [if_pos (by kernel_rfl)]
    have w0 := f2 0
    have w1 := f2 1
    have w2 := f2 2
    have w3 := f2 3
    go_simp
    clear w0 w1 w2 w3
    obtain ⟨y3, hy⟩ : ∃ z, z = (((y2.setCell ⟨w.heap.size + 1, 0, none⟩ (.int .i64 a')).setCell ⟨w.heap.size + 1, 1, none⟩ (.int .i64 b')).setCell ⟨w.heap.size + 1, 2, none⟩ (.int .i64 c')).setCell ⟨w.heap.size + 1, 3, none⟩ (.slice ad2 L'.length cap2) := ⟨_, rfl⟩
    have kky3 : ∀ g, g ≠ w.heap.size + 1 → y3.heap[g]? = y2.heap[g]? := fun g hg => by rw [hy, Below.heap_setCell _ _ _ _ hg, Below.heap_setCell _ _ _ _ hg, Below.heap_setCell _ _ _ _ hg, Below.heap_setCell _ _ _ _ hg]
    have FFy3 : FrameAt y3 (w.heap.size + 1) a' b' c' ad2 L'.length cap2 := by rw [hy]; exact frame_put t0 t1' t2 t3'
    have By3 : Below w.heap.size w y3 := by rw [hy]; exact (((By2.setCell (by simp) _).setCell (by simp) _).setCell (by simp) _).setCell (by simp) _
    have zzy3 : y3.heap.size = y2.heap.size := by rw [hy]; simp
    rw [← hy]
    clear hy
    have S3 : FrameAt y3 x2.heap.size a b c adL L.length capL := S2.of_block (kky3 _ (by omega))
    have G2 := FFy2.of_block (kky3 _ (by omega))
    clear FFy2 t0 t1' t2 t3' f2
    refine hK _ _ ⟨S3, ?_⟩
    clear hK K hi
    refine wpAnyH_done (by kernel_rfl) ?_ _
    obtain ⟨g0, g1', g2, g3⟩ := G2
    obtain ⟨j0, j1, j2, j3⟩ := FFy3
    go_wp2
    refine bodyPost_ret (v := .tuple #[.agg #[.int .i64 a, .int .i64 b, .int .i64 c, .slice adL L.length capL], .agg #[.int .i64 a', .int .i64 b', .int .i64 c', .slice ad2 L'.length cap2]]) (by simp [results, Tryd.results11, go_sem, g0, g1', g2, g3, j0, j1, j2, j3]) rfl ⟨a, b, c, L, adL, capL, a', b', c', L', ad2, cap2, rfl, ⟨?_, hLb, hL⟩, ⟨?_, hLb', hL'⟩, By3⟩
    · exact vz.carry (fun q e _ => by have := mz q e; rw [kky3 _ (by omega), kky2 _ (by omega)])
    · exact v2.carry (fun q e _ => by have := m2 q e; rw [kky3 _ (by omega), kky2 _ (by omega)])

end Go.Proofs.YtpdlliehdmeboaaDoor
