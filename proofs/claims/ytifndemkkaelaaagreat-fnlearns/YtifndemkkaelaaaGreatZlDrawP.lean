/- spec.DrawPass and spec.DrawCardOk, walked. -/
import Derived.Test.YtifndemkkaelaaaGreatRows
import Derived.WalkKit
import Derived.ProofKit
import Derived.OpenShut
import Derived.ShutString
import Derived.ChangeOld
import Derived.Below
import Derived.Deep.QuietTactic
import Derived.BigQuiet
import Derived.WalkSmall
import Derived.Laws.OwnMore
import Derived.WalkSpells
import Derived.WalkLawsBesides
import Derived.Laws.AppendOwnNone
import Derived.Laws.CopyOwn
import Derived.Test.YtifndemkkaelaaaGreatZl36
import Derived.Test.YtifndemkkaelaaaGreatZlDraw2
import Derived.Test.YtifndemkkaelaaaGreatZl1
namespace Go.Proofs.YtifndemkkaelaaaGreat
open Go.ChangeShapes Go.WideShapes Go.ChangeAt Go.RowKit
open Go.ChangeMaps (open_string shut_string)
set_option linter.unusedVariables false
set_option maxRecDepth 100000

theorem wf_in {p : Int} (h0 : -9223372036854775808 ≤ p) (h1 : p ≤ 9223372036854775807) : (Lit.int .i64 p).wf = true := by
  simp [Lit.wf, IntKind.min, IntKind.max, IntKind.signed, IntKind.bits]
  omega
def DrawnP (w : World) (e : Ending) (w' : World) : Prop :=
  ∃ (aO : Option Addr) (O : List Bool) (kO : Nat) (aM : Option Addr) (D : DL) (kM : Nat) (aT : Option Addr) (T : List Hd) (kT : Nat) (p a b c : Int) (aL : Option Addr) (kL : Nat) (L : List Int), e = .returned (.tuple #[.agg #[.slice aO O.length kO, .slice aM (List.length D) kM, .slice aT T.length kT], .int .i64 p, .agg #[.int .i64 a, .int .i64 b, .int .i64 c, .slice aL L.length kL]]) ∧ CdV w' w.heap.size w'.heap.size aO O aM D aT T ∧ Below w.heap.size w w' ∧ O.length ≤ 5 ∧ totD D ≤ 24 ∧ T.length ≤ 20 ∧ (Lit.int .i64 p).wf = true ∧ (aO = none → kO = 0) ∧ (aT = none → kT = 0) ∧ View w' aL L.length (fun i => L.getD i 0) ∧ (∀ x ∈ L, 0 ≤ x ∧ x ≤ 255) ∧ L.length ≤ 31 ∧ (aL = none → kL = 0)
set_option maxRecDepth 100000 in
set_option maxHeartbeats 16000000 in
theorem drawP (ad : Option Addr) (len cap : Nat) (f : Nat → Int) (w : World) (h : Code0 w ad len f) :
    Calls Tryz.prog 7 #[.slice ad len cap] w fun e w' => DrawnP w e w' := by
  obtain ⟨x0, hx⟩ : ∃ x, x = (w.alloc (Obj.cells #[.slice none 0 0, .slice none 0 0, .slice none 0 0] 28)).alloc (Obj.cells #[.int .i64 0, .int .i64 0, .int .i64 0, .slice none 0 0] 30) := ⟨_, rfl⟩
  obtain ⟨R, hR⟩ : ∃ R, R = w.heap.size := ⟨_, rfl⟩
  have B0 : Below w.heap.size w x0 := by rw [hx]; exact ((Below.refl _ _).alloc (Nat.le_refl _) _).alloc (by simp) _
  have C0 : CdAt x0 R none 0 0 none 0 0 none 0 0 := by rw [hx, hR]; refine ⟨?_, ?_, ?_⟩ <;> simp [go_sem]
  have F0 : ∀ i, x0.frozen? ⟨R, i, none⟩ = false := by intro i; rw [hx, hR]; simp [go_sem]
  have E0 : FrameAt x0 (R + 1) 0 0 0 none 0 0 := by rw [hx, hR]; refine ⟨?_, ?_, ?_, ?_⟩ <;> simp [go_sem]
  have G0 : ∀ i, x0.frozen? ⟨R + 1, i, none⟩ = false := by intro i; rw [hx, hR]; simp [go_sem]
  have hR0 : R + 1 < x0.heap.size := E0.lt
  have hRw : w.heap.size ≤ R := by omega
  have b0 := B0.size
  have hx0 := h.later B0 (Nat.le_refl _)
  go_enter Tryz.func7, Tryz.ntmps7
  go_wp2_with fail
  go_at_call 33
  rw [← hx, ← hR]
  clear hx hR
  refine (drawNew ad len cap f x0 hx0.view hx0.lt hx0.small hx0.bytes).mono ?_
  rintro e x1 ⟨rfl, hs1, k1, hz1⟩
  obtain ⟨cb, hcb⟩ : ∃ c, c = x0.heap.size := ⟨_, rfl⟩
  rw [← hcb] at hs1 ⊢
  have hcb1 : x0.heap.size ≤ cb := by omega
  have hcb2 : cb < x1.heap.size := by omega
  have z1 : x0.heap.size ≤ x1.heap.size := by omega
  have C1 := C0.below k1 (by omega)
  have F1 := fz_below F0 k1 (by omega)
  have E1 := E0.below k1 (by omega)
  have G1 := fz_below G0 k1 (by omega)
  have B1 := B0.trans (k1.mono b0)
  have had : ∀ x, ad = some x → 0 < len → x.block < x1.heap.size := fun x e p => by have := hx0.lt x e p; omega
  clear hz1 hcb hx0 C0 F0 k1 E0 G0
  go_wp2_with fail
  go_at_call 34
  refine (drawC x1 hs1 hcb2 had).mono ?_
  rintro e y1 ⟨aO, O, kO, aM, D, kM, aT, T, kT, rfl, V1, hs2, g1, hO, hD, hT, zO, zT⟩
  have z2 := g1.size
  have e1 : ∀ j, j < x1.heap.size → j ≠ cb → y1.heap[j]? = x1.heap[j]? := fun j hj hn => g1.block j hj (fun q => hn (by simpa using q))
  have C2 := C1.same (e1 R (by omega) (by omega))
  have F2 : ∀ i, y1.frozen? ⟨R, i, none⟩ = false := fun i => (World.frozen?_of_block (a := ⟨R, i, none⟩) (e1 R (by omega) (by omega))).trans (F1 i)
  have E2 := E1.same (e1 (R + 1) (by omega) (by omega))
  have G2 : ∀ i, y1.frozen? ⟨R + 1, i, none⟩ = false := fun i => (World.frozen?_of_block (a := ⟨R + 1, i, none⟩) (e1 (R + 1) (by omega) (by omega))).trans (G1 i)
  have B2 : Below w.heap.size w y1 := B1.trans (grown_below g1 (by omega) (by omega))
  obtain ⟨y2, hy⟩ : ∃ y, y = y1.alloc (Obj.cells #[.slice aO O.length kO, .slice aM D.length kM, .slice aT T.length kT] 28) := ⟨_, rfl⟩
  obtain ⟨N, hN⟩ : ∃ N, N = y1.heap.size := ⟨_, rfl⟩
  have k2 : Below y1.heap.size y1 y2 := by rw [hy]; exact below_box _ _
  have N2 : CdAt y2 N aO O.length kO aM D.length kM aT T.length kT := by rw [hy, hN]; exact CdAt.box _ _ _ _ _ _ _ _ _ _ _
  have hNy : y1.heap.size ≤ N := by omega
  have tN : N < y2.heap.size := N2.lt
  have z3 := k2.size
  have C2 := C2.below k2 (by omega)
  have F2 := fz_below F2 k2 (by omega)
  have E2 := E2.below k2 (by omega)
  have G2 := fz_below G2 k2 (by omega)
  have V2 := V1.below k2 (Nat.le_refl _)
  have hs2 := hs2.later k2
  have B2 := B2.trans (k2.mono B2.size)
  have N2' := N2
  obtain ⟨n1, n2, n3⟩ := N2'
  have wO : IntKind.i64.wrap ((O.length : Int) + 1) = (O.length : Int) + 1 := wrap_i64' (by omega) (by omega)
  rw [hy] at n1 n2 n3
  go_wp2_with fail
  go_at_call 35
  rw [← hy, ← hN]
  clear hy hN k2 n1 n2 n3
  refine (drawBelow hs2 ((O.length : Int) + 1) (by omega) (by omega)).mono ?_
  rintro e y3 ⟨x, rfl, hx0, hx8, hs3, hg3⟩
  have z4 := hg3.size
  have e3 : ∀ j, j < y2.heap.size → j ≠ cb → y3.heap[j]? = y2.heap[j]? := fun j hj hn => hg3.block j hj (fun q => hn (by simpa using q))
  have C3 := C2.same (e3 R (by omega) (by omega))
  have F3 : ∀ i, y3.frozen? ⟨R, i, none⟩ = false := fun i => (World.frozen?_of_block (a := ⟨R, i, none⟩) (e3 R (by omega) (by omega))).trans (F2 i)
  have E3 := E2.same (e3 (R + 1) (by omega) (by omega))
  have G3 : ∀ i, y3.frozen? ⟨R + 1, i, none⟩ = false := fun i => (World.frozen?_of_block (a := ⟨R + 1, i, none⟩) (e3 (R + 1) (by omega) (by omega))).trans (G2 i)
  have N3 := N2.same (e3 N (by omega) (by omega))
  have V3 := V2.keep (fun j h1 h2 => e3 j (by omega) (by omega))
  have B3 : Below w.heap.size w y3 := B2.trans (grown_below hg3 (by omega) (by have := B2.size; omega))
  clear C2 F2 N2 V2 V1 B2 e3 hg3 hs2 C1 F1 B1 wO E1 E2 G1 G2
  go_wp2_with fail
  go_at_call 36
  refine (drawOnce hs3 12 (by omega) (by omega)).mono ?_
  rintro e y4 ⟨on, rfl, hs4, hg4⟩
  have z5 := hg4.size
  have e4 : ∀ j, j < y3.heap.size → j ≠ cb → y4.heap[j]? = y3.heap[j]? := fun j hj hn => hg4.block j hj (fun q => hn (by simpa using q))
  have C4 := C3.same (e4 R (by omega) (by omega))
  have F4 : ∀ i, y4.frozen? ⟨R, i, none⟩ = false := fun i => (World.frozen?_of_block (a := ⟨R, i, none⟩) (e4 R (by omega) (by omega))).trans (F3 i)
  have E4 := E3.same (e4 (R + 1) (by omega) (by omega))
  have G4 : ∀ i, y4.frozen? ⟨R + 1, i, none⟩ = false := fun i => (World.frozen?_of_block (a := ⟨R + 1, i, none⟩) (e4 (R + 1) (by omega) (by omega))).trans (G3 i)
  have N4 := N3.same (e4 N (by omega) (by omega))
  have V4 := V3.keep (fun j h1 h2 => e4 j (by omega) (by omega))
  have B4 : Below w.heap.size w y4 := B3.trans (grown_below hg4 (by omega) (by have := B3.size; omega))
  clear C3 F3 E3 G3 N3 V3 B3 hs3 hg4 e4
  cases on with
  | false =>
    have hpw : (Lit.int .i64 x).wf = true := wf_in (by omega) (by omega)
    go_wp2_with fail
    have S0 : CdAt y4.drew N aO O.length kO aM D.length kM aT T.length kT := N4
    refine wp_region_held (S := fun Y => CdAt Y N aO O.length kO aM D.length kM aT T.length kT) (by kernel_rfl) ?_
    change wpAnyH _ _ _ _ _ _ _ _ (World.drew _)
    refine takeW 0 23 (.agg #[.slice aO O.length kO, .slice aM (List.length D) kM, .slice aT T.length kT]) rfl rfl (by kernel_rfl) (by kernel_rfl) (by kernel_rfl) (fun _ _ _ h => h) (by kernel_rfl) (by (intro Y hSw; obtain ⟨X1, X2, X3⟩ := hSw; go_simp)) (by assumption) ?_
    simp only [List.set_cons_zero, List.set_cons_succ]
    refine takeW 1 24 (.int .i64 x) rfl rfl (by kernel_rfl) (by kernel_rfl) (by kernel_rfl) (fun _ _ _ h => h) (by kernel_rfl) (by (intro w hSw; go_simp)) (by assumption) ?_
    simp only [List.set_cons_zero, List.set_cons_succ]
    refine takeW 2 25 (.pointer (some ⟨cb, 0, none⟩)) rfl rfl (by kernel_rfl) (by kernel_rfl) (by kernel_rfl) (fun _ _ _ h => h) (by kernel_rfl) (by (intro w hSw; go_simp)) (by assumption) ?_
    simp only [List.set_cons_zero, List.set_cons_succ]
    refine wpAnyH_all (rs := [3]) (by kernel_rfl) (by simp) ?_
    intro i hi; obtain rfl : i = 3 := by simpa using hi
    refine wpOp_step rfl (fun K hK => ?_)
    rw [if_pos (by kernel_rfl)]
    go_simp
    go_at_call 38
    refine (drawF y4.drew (hs4.later (Below.refl _ _).drew) (by show cb < y4.heap.size; omega) (fun x e p => by have := had x e p; show x.block < y4.heap.size; omega)).mono ?_
    rintro e u1 ⟨a, b, c, L, ⟨aL, kL, rfl, oL, hLb, hs5, hg5⟩, hL31⟩
    have z8 : y4.heap.size ≤ u1.heap.size := hg5.size
    have e5 : ∀ j, j < y4.heap.size → j ≠ cb → u1.heap[j]? = y4.heap[j]? := fun j hj hn => hg5.block j hj (fun q => hn (by simpa using q))
    have S5 := N4.same (e5 N (by omega) (by omega))
    have C5 := C4.same (e5 R (by omega) (by omega))
    have F5 : ∀ i, u1.frozen? ⟨R, i, none⟩ = false := fun i => (World.frozen?_of_block (a := ⟨R, i, none⟩) (e5 R (by omega) (by omega))).trans (F4 i)
    have E5 := E4.same (e5 (R + 1) (by omega) (by omega))
    have G5 : ∀ i, u1.frozen? ⟨R + 1, i, none⟩ = false := fun i => (World.frozen?_of_block (a := ⟨R + 1, i, none⟩) (e5 (R + 1) (by omega) (by omega))).trans (G4 i)
    have V5 := V4.keep (fun j h1 h2 => e5 j (by omega) (by omega))
    have B5 : Below w.heap.size w u1 := B4.drew.trans (grown_below hg5 (by omega) (by have := B4.size; show w.heap.size ≤ y4.heap.size; omega))
    obtain ⟨vL, rL, iL⟩ := own_view2 oL
    have zL := own_nil oL
    have iL : ∀ x, aL = some x → y4.heap.size ≤ x.block ∧ x.block < u1.heap.size := iL
    refine hK _ _ ⟨S5, ?_⟩
    clear hK K hi
    refine wpAnyH_all (rs := [4]) (by kernel_rfl) (by simp) ?_
    intro i hi; obtain rfl : i = 4 := by simpa using hi
    refine wpOp_step rfl (fun K hK => ?_)
    rw [if_pos (by kernel_rfl)]
    obtain ⟨r1, r2, r3⟩ := C5
    have f0 := F5 0
    have f1 := F5 1
    have f2 := F5 2
    go_simp
    obtain ⟨u2, hu2⟩ : ∃ y, y = ((u1.setCell ⟨R, 0, none⟩ (.slice aO O.length kO)).setCell ⟨R, 1, none⟩ (.slice aM D.length kM)).setCell ⟨R, 2, none⟩ (.slice aT T.length kT) := ⟨_, rfl⟩
    have h5 : ∀ j, j ≠ R → u2.heap[j]? = u1.heap[j]? := fun j hj => by rw [hu2]; exact heap_set3 hj
    have s5 : u1.heap.size ≤ u2.heap.size := by rw [hu2]; simp
    have q1 : u2.cell? ⟨R, 0, none⟩ = some (.slice aO O.length kO) := by rw [hu2, cell_set_ne (by omega), cell_set_ne (by omega)]; exact cell_set_same ⟨_, r1⟩
    have q2 : u2.cell? ⟨R, 1, none⟩ = some (.slice aM D.length kM) := by rw [hu2, cell_set_ne (by omega)]; exact cell_set_same ⟨_, (cell_set_ne (by omega)).trans r2⟩
    have q3 : u2.cell? ⟨R, 2, none⟩ = some (.slice aT T.length kT) := by rw [hu2]; exact cell_set_same ⟨_, (cell_set_ne (by omega)).trans ((cell_set_ne (by omega)).trans r3)⟩
    have B6 : Below w.heap.size w u2 := by rw [hu2]; exact ((B5.setCell (by show w.heap.size ≤ R; omega) _).setCell (by show w.heap.size ≤ R; omega) _).setCell (by show w.heap.size ≤ R; omega) _
    rw [← hu2]
    clear hu2 r1 r2 r3 f0 f1 f2
    have S6 := S5.same (h5 N (by omega))
    have E6 := E5.same (h5 (R + 1) (by omega))
    have G6 : ∀ i, u2.frozen? ⟨R + 1, i, none⟩ = false := fun i => (World.frozen?_of_block (a := ⟨R + 1, i, none⟩) (h5 (R + 1) (by omega))).trans (G5 i)
    have V6 := V5.keep (fun j h1 h2 => h5 j (by omega))
    have vL6 := vL.carry (w' := u2) (fun x e p => h5 _ (by have := iL x e; omega))
    refine hK _ _ ⟨S6, ?_⟩
    clear hK K hi
    refine takeW 5 3 (.int .i64 x) rfl rfl (by kernel_rfl) (by kernel_rfl) (by kernel_rfl) (fun _ _ _ h => h) (by kernel_rfl) (by (intro w hSw; go_simp)) (by assumption) ?_
    simp only [List.set_cons_zero, List.set_cons_succ]
    refine wpAnyH_all (rs := [6]) (by kernel_rfl) (by simp) ?_
    intro i hi; obtain rfl : i = 6 := by simpa using hi
    refine wpOp_step rfl (fun K hK => ?_)
    rw [if_pos (by kernel_rfl)]
    have E6' := E6
    obtain ⟨t1, t2, t3, t4⟩ := E6'
    have f0 := G6 0
    have f1 := G6 1
    have f2 := G6 2
    have f3 := G6 3
    go_simp
    obtain ⟨u3, hu3⟩ : ∃ y, y = (((u2.setCell ⟨R + 1, 0, none⟩ (.int .i64 a)).setCell ⟨R + 1, 1, none⟩ (.int .i64 b)).setCell ⟨R + 1, 2, none⟩ (.int .i64 c)).setCell ⟨R + 1, 3, none⟩ (.slice aL L.length kL) := ⟨_, rfl⟩
    have h6 : ∀ j, j ≠ R + 1 → u3.heap[j]? = u2.heap[j]? := fun j hj => by rw [hu3, Below.heap_setCell _ _ _ _ hj, Below.heap_setCell _ _ _ _ hj, Below.heap_setCell _ _ _ _ hj, Below.heap_setCell _ _ _ _ hj]
    have E7 : FrameAt u3 (R + 1) a b c aL L.length kL := by rw [hu3]; exact frame_put E6 rfl
    have s6 : u2.heap.size ≤ u3.heap.size := by rw [hu3]; simp
    have B7 : Below w.heap.size w u3 := by rw [hu3]; exact (((B6.setCell (by show w.heap.size ≤ R + 1; omega) _).setCell (by show w.heap.size ≤ R + 1; omega) _).setCell (by show w.heap.size ≤ R + 1; omega) _).setCell (by show w.heap.size ≤ R + 1; omega) _
    rw [← hu3]
    clear hu3 f0 f1 f2 f3 t1 t2 t3 t4
    refine hK _ _ ⟨S6.same (h6 N (by omega)), ?_⟩
    clear hK K hi
    refine wpAnyH_done (by kernel_rfl) ?_ _
    have V7 := V6.keep (w' := u3) (fun j h1 h2 => h6 j (by omega))
    have vL7 := vL6.carry (w' := u3) (fun x e p => h6 _ (by have := iL x e; omega))
    have w1 := (World.cell?_of_block (a := ⟨R, 0, none⟩) (h6 R (by omega))).trans q1
    have w2 := (World.cell?_of_block (a := ⟨R, 1, none⟩) (h6 R (by omega))).trans q2
    have w3 := (World.cell?_of_block (a := ⟨R, 2, none⟩) (h6 R (by omega))).trans q3
    obtain ⟨t1, t2, t3, t4⟩ := E7
    clear S0 S5 S6 V4 V5 V6 q1 q2 q3 N4 C4 F4 F5
    go_wp2
    refine bodyPost_ret (v := .tuple #[.agg #[.slice aO O.length kO, .slice aM D.length kM, .slice aT T.length kT], .int .i64 x, .agg #[.int .i64 a, .int .i64 b, .int .i64 c, .slice aL L.length kL]]) (by simp only [results, Tryz.results7]; simp [go_sem, w1, w2, w3, t1, t2, t3, t4]) rfl ?_
    exact ⟨aO, O, kO, aM, D, kM, aT, T, kT, x, a, b, c, aL, kL, L, rfl, V7.wide (by omega) (by omega), B7, hO, hD, hT, hpw, zO, zT, vL7, hLb, hL31, zL.1⟩
  | true =>
    obtain ⟨y6, hy6⟩ : ∃ y, y = y4.alloc (Obj.cells #[.int .i64 (-1), .int .i64 9223372036854775807] 3) := ⟨_, rfl⟩
    obtain ⟨BS, hBS⟩ : ∃ N, N = y4.heap.size := ⟨_, rfl⟩
    have k6 : Below y4.heap.size y4 y6 := by rw [hy6]; exact below_box _ _
    have hgp : ∀ i, i < 2 → ∃ y, y6.cell? ⟨BS, i, none⟩ = some (.int .i64 y) ∧ (-1 ≤ y ∧ y ≤ 9223372036854775807) := by
      intro i hi
      rw [hy6, hBS]
      obtain rfl | rfl : i = 0 ∨ i = 1 := by omega
      · exact ⟨_, lit_at y4 _ _ 0 rfl, by omega⟩
      · exact ⟨_, lit_at y4 _ _ 1 rfl, by omega⟩
    have z6 := k6.size
    have C4 := C4.below k6 (by omega)
    have F4 := fz_below F4 k6 (by omega)
    have E4 := E4.below k6 (by omega)
    have G4 := fz_below G4 k6 (by omega)
    have N4 := N4.below k6 (by omega)
    have V4 := V4.below k6 (by omega)
    have B4 := B4.trans (k6.mono B4.size)
    have hs4 := hs4.later k6
    have hBc : BS ≠ cb := by omega
    go_wp2_with fail
    go_at_call 37
    rw [← hy6, ← hBS]
    clear hy6 hBS k6
    refine (pickIntP hs4 (fun y => -1 ≤ y ∧ y ≤ 9223372036854775807) BS 2 2 hBc (by omega) (by omega) hgp).mono ?_
    rintro e y7 ⟨v, rfl, hv, hs7, hg7⟩
    have z7 := hg7.size
    have e7 : ∀ j, j < y6.heap.size → j ≠ cb → y7.heap[j]? = y6.heap[j]? := fun j hj hn => hg7.block j hj (fun q => hn (by simpa using q))
    have C4 := C4.same (e7 R (by omega) (by omega))
    have F4 : ∀ i, y7.frozen? ⟨R, i, none⟩ = false := fun i => (World.frozen?_of_block (a := ⟨R, i, none⟩) (e7 R (by omega) (by omega))).trans (F4 i)
    have E4 := E4.same (e7 (R + 1) (by omega) (by omega))
    have G4 : ∀ i, y7.frozen? ⟨R + 1, i, none⟩ = false := fun i => (World.frozen?_of_block (a := ⟨R + 1, i, none⟩) (e7 (R + 1) (by omega) (by omega))).trans (G4 i)
    have N4 := N4.same (e7 N (by omega) (by omega))
    have V4 := V4.keep (fun j h1 h2 => e7 j (by omega) (by omega))
    have B4 : Below w.heap.size w y7 := B4.trans (grown_below hg7 (by omega) (by have := B4.size; omega))
    have hpw : (Lit.int .i64 v).wf = true := wf_in (by omega) (by omega)
    clear hgp hg7 e7
    go_wp2_with fail
    have S0 : CdAt y7.drew N aO O.length kO aM D.length kM aT T.length kT := N4
    refine wp_region_held (S := fun Y => CdAt Y N aO O.length kO aM D.length kM aT T.length kT) (by kernel_rfl) ?_
    change wpAnyH _ _ _ _ _ _ _ _ (World.drew _)
    refine takeW 0 23 (.agg #[.slice aO O.length kO, .slice aM (List.length D) kM, .slice aT T.length kT]) rfl rfl (by kernel_rfl) (by kernel_rfl) (by kernel_rfl) (fun _ _ _ h => h) (by kernel_rfl) (by (intro Y hSw; obtain ⟨X1, X2, X3⟩ := hSw; go_simp)) (by assumption) ?_
    simp only [List.set_cons_zero, List.set_cons_succ]
    refine takeW 1 24 (.int .i64 v) rfl rfl (by kernel_rfl) (by kernel_rfl) (by kernel_rfl) (fun _ _ _ h => h) (by kernel_rfl) (by (intro w hSw; go_simp)) (by assumption) ?_
    simp only [List.set_cons_zero, List.set_cons_succ]
    refine takeW 2 25 (.pointer (some ⟨cb, 0, none⟩)) rfl rfl (by kernel_rfl) (by kernel_rfl) (by kernel_rfl) (fun _ _ _ h => h) (by kernel_rfl) (by (intro w hSw; go_simp)) (by assumption) ?_
    simp only [List.set_cons_zero, List.set_cons_succ]
    refine wpAnyH_all (rs := [3]) (by kernel_rfl) (by simp) ?_
    intro i hi; obtain rfl : i = 3 := by simpa using hi
    refine wpOp_step rfl (fun K hK => ?_)
    rw [if_pos (by kernel_rfl)]
    go_simp
    go_at_call 38
    refine (drawF y7.drew (hs7.later (Below.refl _ _).drew) (by show cb < y7.heap.size; omega) (fun x e p => by have := had x e p; show x.block < y7.heap.size; omega)).mono ?_
    rintro e u1 ⟨a, b, c, L, ⟨aL, kL, rfl, oL, hLb, hs5, hg5⟩, hL31⟩
    have z8 : y7.heap.size ≤ u1.heap.size := hg5.size
    have e5 : ∀ j, j < y7.heap.size → j ≠ cb → u1.heap[j]? = y7.heap[j]? := fun j hj hn => hg5.block j hj (fun q => hn (by simpa using q))
    have S5 := N4.same (e5 N (by omega) (by omega))
    have C5 := C4.same (e5 R (by omega) (by omega))
    have F5 : ∀ i, u1.frozen? ⟨R, i, none⟩ = false := fun i => (World.frozen?_of_block (a := ⟨R, i, none⟩) (e5 R (by omega) (by omega))).trans (F4 i)
    have E5 := E4.same (e5 (R + 1) (by omega) (by omega))
    have G5 : ∀ i, u1.frozen? ⟨R + 1, i, none⟩ = false := fun i => (World.frozen?_of_block (a := ⟨R + 1, i, none⟩) (e5 (R + 1) (by omega) (by omega))).trans (G4 i)
    have V5 := V4.keep (fun j h1 h2 => e5 j (by omega) (by omega))
    have B5 : Below w.heap.size w u1 := B4.drew.trans (grown_below hg5 (by omega) (by have := B4.size; show w.heap.size ≤ y7.heap.size; omega))
    obtain ⟨vL, rL, iL⟩ := own_view2 oL
    have zL := own_nil oL
    have iL : ∀ x, aL = some x → y7.heap.size ≤ x.block ∧ x.block < u1.heap.size := iL
    refine hK _ _ ⟨S5, ?_⟩
    clear hK K hi
    refine wpAnyH_all (rs := [4]) (by kernel_rfl) (by simp) ?_
    intro i hi; obtain rfl : i = 4 := by simpa using hi
    refine wpOp_step rfl (fun K hK => ?_)
    rw [if_pos (by kernel_rfl)]
    obtain ⟨r1, r2, r3⟩ := C5
    have f0 := F5 0
    have f1 := F5 1
    have f2 := F5 2
    go_simp
    obtain ⟨u2, hu2⟩ : ∃ y, y = ((u1.setCell ⟨R, 0, none⟩ (.slice aO O.length kO)).setCell ⟨R, 1, none⟩ (.slice aM D.length kM)).setCell ⟨R, 2, none⟩ (.slice aT T.length kT) := ⟨_, rfl⟩
    have h5 : ∀ j, j ≠ R → u2.heap[j]? = u1.heap[j]? := fun j hj => by rw [hu2]; exact heap_set3 hj
    have s5 : u1.heap.size ≤ u2.heap.size := by rw [hu2]; simp
    have q1 : u2.cell? ⟨R, 0, none⟩ = some (.slice aO O.length kO) := by rw [hu2, cell_set_ne (by omega), cell_set_ne (by omega)]; exact cell_set_same ⟨_, r1⟩
    have q2 : u2.cell? ⟨R, 1, none⟩ = some (.slice aM D.length kM) := by rw [hu2, cell_set_ne (by omega)]; exact cell_set_same ⟨_, (cell_set_ne (by omega)).trans r2⟩
    have q3 : u2.cell? ⟨R, 2, none⟩ = some (.slice aT T.length kT) := by rw [hu2]; exact cell_set_same ⟨_, (cell_set_ne (by omega)).trans ((cell_set_ne (by omega)).trans r3)⟩
    have B6 : Below w.heap.size w u2 := by rw [hu2]; exact ((B5.setCell (by show w.heap.size ≤ R; omega) _).setCell (by show w.heap.size ≤ R; omega) _).setCell (by show w.heap.size ≤ R; omega) _
    rw [← hu2]
    clear hu2 r1 r2 r3 f0 f1 f2
    have S6 := S5.same (h5 N (by omega))
    have E6 := E5.same (h5 (R + 1) (by omega))
    have G6 : ∀ i, u2.frozen? ⟨R + 1, i, none⟩ = false := fun i => (World.frozen?_of_block (a := ⟨R + 1, i, none⟩) (h5 (R + 1) (by omega))).trans (G5 i)
    have V6 := V5.keep (fun j h1 h2 => h5 j (by omega))
    have vL6 := vL.carry (w' := u2) (fun x e p => h5 _ (by have := iL x e; omega))
    refine hK _ _ ⟨S6, ?_⟩
    clear hK K hi
    refine takeW 5 3 (.int .i64 v) rfl rfl (by kernel_rfl) (by kernel_rfl) (by kernel_rfl) (fun _ _ _ h => h) (by kernel_rfl) (by (intro w hSw; go_simp)) (by assumption) ?_
    simp only [List.set_cons_zero, List.set_cons_succ]
    refine wpAnyH_all (rs := [6]) (by kernel_rfl) (by simp) ?_
    intro i hi; obtain rfl : i = 6 := by simpa using hi
    refine wpOp_step rfl (fun K hK => ?_)
    rw [if_pos (by kernel_rfl)]
    have E6' := E6
    obtain ⟨t1, t2, t3, t4⟩ := E6'
    have f0 := G6 0
    have f1 := G6 1
    have f2 := G6 2
    have f3 := G6 3
    go_simp
    obtain ⟨u3, hu3⟩ : ∃ y, y = (((u2.setCell ⟨R + 1, 0, none⟩ (.int .i64 a)).setCell ⟨R + 1, 1, none⟩ (.int .i64 b)).setCell ⟨R + 1, 2, none⟩ (.int .i64 c)).setCell ⟨R + 1, 3, none⟩ (.slice aL L.length kL) := ⟨_, rfl⟩
    have h6 : ∀ j, j ≠ R + 1 → u3.heap[j]? = u2.heap[j]? := fun j hj => by rw [hu3, Below.heap_setCell _ _ _ _ hj, Below.heap_setCell _ _ _ _ hj, Below.heap_setCell _ _ _ _ hj, Below.heap_setCell _ _ _ _ hj]
    have E7 : FrameAt u3 (R + 1) a b c aL L.length kL := by rw [hu3]; exact frame_put E6 rfl
    have s6 : u2.heap.size ≤ u3.heap.size := by rw [hu3]; simp
    have B7 : Below w.heap.size w u3 := by rw [hu3]; exact (((B6.setCell (by show w.heap.size ≤ R + 1; omega) _).setCell (by show w.heap.size ≤ R + 1; omega) _).setCell (by show w.heap.size ≤ R + 1; omega) _).setCell (by show w.heap.size ≤ R + 1; omega) _
    rw [← hu3]
    clear hu3 f0 f1 f2 f3 t1 t2 t3 t4
    refine hK _ _ ⟨S6.same (h6 N (by omega)), ?_⟩
    clear hK K hi
    refine wpAnyH_done (by kernel_rfl) ?_ _
    have V7 := V6.keep (w' := u3) (fun j h1 h2 => h6 j (by omega))
    have vL7 := vL6.carry (w' := u3) (fun x e p => h6 _ (by have := iL x e; omega))
    have w1 := (World.cell?_of_block (a := ⟨R, 0, none⟩) (h6 R (by omega))).trans q1
    have w2 := (World.cell?_of_block (a := ⟨R, 1, none⟩) (h6 R (by omega))).trans q2
    have w3 := (World.cell?_of_block (a := ⟨R, 2, none⟩) (h6 R (by omega))).trans q3
    obtain ⟨t1, t2, t3, t4⟩ := E7
    clear S0 S5 S6 V4 V5 V6 q1 q2 q3 N4 C4 F4 F5
    go_wp2
    refine bodyPost_ret (v := .tuple #[.agg #[.slice aO O.length kO, .slice aM D.length kM, .slice aT T.length kT], .int .i64 v, .agg #[.int .i64 a, .int .i64 b, .int .i64 c, .slice aL L.length kL]]) (by simp only [results, Tryz.results7]; simp [go_sem, w1, w2, w3, t1, t2, t3, t4]) rfl ?_
    exact ⟨aO, O, kO, aM, D, kM, aT, T, kT, v, a, b, c, aL, kL, L, rfl, V7.wide (by omega) (by omega), B7, hO, hD, hT, hpw, zO, zT, vL7, hLb, hL31, zL.1⟩

end Go.Proofs.YtifndemkkaelaaaGreat
