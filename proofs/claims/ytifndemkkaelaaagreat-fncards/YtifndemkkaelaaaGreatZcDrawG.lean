/- spec.DrawGate, walked. -/
import Derived.Test.YtifndemkkaelaaaGreatRows
import Derived.WalkKit
import Derived.ProofKit
import Derived.OpenShut
import Derived.ShutString
import Derived.ChangeOld
import Derived.Below
import Derived.Deep.QuietTactic
import Derived.BigQuiet
import Derived.WalkSmall
import Derived.Laws.OwnMore
import Derived.WalkSpells
import Derived.WalkLawsBesides
import Derived.Laws.AppendOwnNone
import Derived.Laws.CopyOwn
import Derived.Test.YtifndemkkaelaaaGreatZcDrawD
import Derived.Test.YtifndemkkaelaaaGreatZc1
namespace Go.Proofs.YtifndemkkaelaaaGreat
open Go.ChangeShapes Go.WideShapes Go.ChangeAt Go.RowKit
open Go.ChangeMaps (open_string shut_string)
set_option linter.unusedVariables false
set_option maxRecDepth 100000

def DrawnG (w : World) (e : Ending) (w' : World) : Prop :=
  ∃ (aO : Option Addr) (O : List Bool) (kO : Nat) (aM : Option Addr) (D : DL) (kM : Nat) (aT : Option Addr) (T : List Hd) (kT : Nat) (p : Int) (on : Bool), e = .returned (.tuple #[.agg #[.slice aO O.length kO, .slice aM (List.length D) kM, .slice aT T.length kT], .int .i64 p, .bool on]) ∧ CdV w' w.heap.size w'.heap.size aO O aM D aT T ∧ Below w.heap.size w w' ∧ O.length ≤ 5 ∧ totD D ≤ 24 ∧ T.length ≤ 20 ∧ -1 ≤ p ∧ p ≤ 6 ∧ (aO = none → kO = 0) ∧ (aT = none → kT = 0)
set_option maxRecDepth 100000 in
set_option maxHeartbeats 4000000 in
theorem drawG (ad : Option Addr) (len cap : Nat) (f : Nat → Int) (w : World) (h : Code0 w ad len f) :
    Calls Tryz.prog 10 #[.slice ad len cap] w fun e w' => DrawnG w e w' := by
  obtain ⟨x0, hx⟩ : ∃ x, x = w.alloc (Obj.cells #[.slice none 0 0, .slice none 0 0, .slice none 0 0] 28) := ⟨_, rfl⟩
  obtain ⟨R, hR⟩ : ∃ R, R = w.heap.size := ⟨_, rfl⟩
  have B0 : Below w.heap.size w x0 := by rw [hx]; exact below_box w _
  have C0 : CdAt x0 R none 0 0 none 0 0 none 0 0 := by rw [hx, hR]; exact CdAt.box _ _ _ _ _ _ _ _ _ _ _
  have F0 : ∀ i, x0.frozen? ⟨R, i, none⟩ = false := by intro i; rw [hx, hR]; simp [go_sem]
  have hR0 : R < x0.heap.size := C0.lt
  have hRw : w.heap.size ≤ R := by omega
  have b0 := B0.size
  have hx0 := h.later B0 (Nat.le_refl _)
  go_enter Tryz.func10, Tryz.ntmps10
  go_wp2_with fail
  go_at_call 33
  rw [← hx, ← hR]
  clear hx hR
  refine (drawNew ad len cap f x0 hx0.view hx0.lt hx0.small hx0.bytes).mono ?_
  rintro e x1 ⟨rfl, hs1, k1, hz1⟩
  obtain ⟨cb, hcb⟩ : ∃ c, c = x0.heap.size := ⟨_, rfl⟩
  rw [← hcb] at hs1 ⊢
  have hcb1 : x0.heap.size ≤ cb := by omega
  have hcb2 : cb < x1.heap.size := by omega
  have z1 : x0.heap.size ≤ x1.heap.size := by omega
  have C1 := C0.below k1 (by omega)
  have F1 := fz_below F0 k1 (by omega)
  have B1 := B0.trans (k1.mono b0)
  have had : ∀ x, ad = some x → 0 < len → x.block < x1.heap.size := fun x e p => by have := hx0.lt x e p; omega
  clear hz1 hcb hx0 C0 F0 k1
  go_wp2_with fail
  go_at_call 34
  refine (drawC x1 hs1 hcb2 had).mono ?_
  rintro e y1 ⟨aO, O, kO, aM, D, kM, aT, T, kT, rfl, V1, hs2, g1, hO, hD, hT, zO, zT⟩
  have z2 := g1.size
  have e1 : ∀ j, j < x1.heap.size → j ≠ cb → y1.heap[j]? = x1.heap[j]? := fun j hj hn => g1.block j hj (fun q => hn (by simpa using q))
  have C2 := C1.same (e1 R (by omega) (by omega))
  have F2 : ∀ i, y1.frozen? ⟨R, i, none⟩ = false := fun i => (World.frozen?_of_block (a := ⟨R, i, none⟩) (e1 R (by omega) (by omega))).trans (F1 i)
  have B2 : Below w.heap.size w y1 := B1.trans (grown_below g1 (by omega) (by omega))
  obtain ⟨y2, hy⟩ : ∃ y, y = y1.alloc (Obj.cells #[.slice aO O.length kO, .slice aM D.length kM, .slice aT T.length kT] 28) := ⟨_, rfl⟩
  obtain ⟨N, hN⟩ : ∃ N, N = y1.heap.size := ⟨_, rfl⟩
  have k2 : Below y1.heap.size y1 y2 := by rw [hy]; exact below_box _ _
  have N2 : CdAt y2 N aO O.length kO aM D.length kM aT T.length kT := by rw [hy, hN]; exact CdAt.box _ _ _ _ _ _ _ _ _ _ _
  have hNy : y1.heap.size ≤ N := by omega
  have tN : N < y2.heap.size := N2.lt
  have z3 := k2.size
  have C2 := C2.below k2 (by omega)
  have F2 := fz_below F2 k2 (by omega)
  have V2 := V1.below k2 (Nat.le_refl _)
  have hs2 := hs2.later k2
  have B2 := B2.trans (k2.mono B2.size)
  have N2' := N2
  obtain ⟨n1, n2, n3⟩ := N2'
  have wO : IntKind.i64.wrap ((O.length : Int) + 2) = (O.length : Int) + 2 := wrap_i64' (by omega) (by omega)
  rw [hy] at n1 n2 n3
  go_wp2_with fail
  go_at_call 35
  rw [← hy, ← hN]
  clear hy hN k2 n1 n2 n3
  refine (drawBelow hs2 ((O.length : Int) + 2) (by omega) (by omega)).mono ?_
  rintro e y3 ⟨x, rfl, hx0, hx8, hs3, hg3⟩
  have z4 := hg3.size
  have e3 : ∀ j, j < y2.heap.size → j ≠ cb → y3.heap[j]? = y2.heap[j]? := fun j hj hn => hg3.block j hj (fun q => hn (by simpa using q))
  have C3 := C2.same (e3 R (by omega) (by omega))
  have F3 : ∀ i, y3.frozen? ⟨R, i, none⟩ = false := fun i => (World.frozen?_of_block (a := ⟨R, i, none⟩) (e3 R (by omega) (by omega))).trans (F2 i)
  have N3 := N2.same (e3 N (by omega) (by omega))
  have V3 := V2.keep (fun j h1 h2 => e3 j (by omega) (by omega))
  have B3 : Below w.heap.size w y3 := B2.trans (grown_below hg3 (by omega) (by have := B2.size; omega))
  have wx : IntKind.i64.wrap (x - 1) = x - 1 := wrap_i64' (by omega) (by omega)
  clear C2 F2 N2 V2 V1 B2 e3 hg3 hs2 C1 F1 B1 wO
  go_wp2_with fail
  refine wp_region_held (S := fun Y => CdAt Y N aO O.length kO aM D.length kM aT T.length kT) (by kernel_rfl) ?_
  change wpAnyH _ _ _ _ _ _ _ _ (World.drew _)
  have S0 : CdAt y3.drew N aO O.length kO aM D.length kM aT T.length kT := N3
  refine takeW 0 19 (.agg #[.slice aO O.length kO, .slice aM (List.length D) kM, .slice aT T.length kT]) rfl rfl (by kernel_rfl) (by kernel_rfl) (by kernel_rfl) (fun _ _ _ h => h) (by kernel_rfl) (by (intro Y hSw; obtain ⟨X1, X2, X3⟩ := hSw; go_simp)) (by assumption) ?_
  simp only [List.set_cons_zero, List.set_cons_succ]
  refine takeW 1 20 (.int .i64 (x - 1)) rfl rfl (by kernel_rfl) (by kernel_rfl) (by kernel_rfl) (fun _ _ _ h => h) (by kernel_rfl) (by (intro w hSw; go_simp)) (by assumption) ?_
  simp only [List.set_cons_zero, List.set_cons_succ]
  refine takeW 2 21 (.pointer (some ⟨cb, 0, none⟩)) rfl rfl (by kernel_rfl) (by kernel_rfl) (by kernel_rfl) (fun _ _ _ h => h) (by kernel_rfl) (by (intro w hSw; go_simp)) (by assumption) ?_
  simp only [List.set_cons_zero, List.set_cons_succ]
  refine wpAnyH_all (rs := [3]) (by kernel_rfl) (by simp) ?_
  intro i hi; obtain rfl : i = 3 := by simpa using hi
  refine wpOp_step rfl (fun K hK => ?_)
  rw [if_pos (by kernel_rfl)]
  go_simp
  go_at_call 36
  refine (drawOnce (hs3.later (Below.refl _ _).drew) 2 (by omega) (by omega)).mono ?_
  rintro e y4 ⟨on, rfl, hs4, hg4⟩
  have z4 : y3.heap.size ≤ y4.heap.size := hg4.size
  have e4 : ∀ j, j < y3.heap.size → j ≠ cb → y4.heap[j]? = y3.heap[j]? := fun j hj hn => hg4.block j hj (fun q => hn (by simpa using q))
  have S4 := N3.same (e4 N (by omega) (by omega))
  obtain ⟨r1, r2, r3⟩ := C3.same (e4 R (by omega) (by omega))
  have F4 : ∀ i, y4.frozen? ⟨R, i, none⟩ = false := fun i => (World.frozen?_of_block (a := ⟨R, i, none⟩) (e4 R (by omega) (by omega))).trans (F3 i)
  have f0 := F4 0
  have f1 := F4 1
  have f2 := F4 2
  refine hK _ _ ⟨S4, ?_⟩
  clear hK K hi
  refine wpAnyH_all (rs := [4]) (by kernel_rfl) (by simp) ?_
  intro i hi; obtain rfl : i = 4 := by simpa using hi
  refine wpOp_step rfl (fun K hK => ?_)
  rw [if_pos (by kernel_rfl)]
  go_simp
  obtain ⟨y5, hy5⟩ : ∃ y, y = ((y4.setCell ⟨R, 0, none⟩ (.slice aO O.length kO)).setCell ⟨R, 1, none⟩ (.slice aM D.length kM)).setCell ⟨R, 2, none⟩ (.slice aT T.length kT) := ⟨_, rfl⟩
  have h5 : ∀ j, j ≠ R → y5.heap[j]? = y4.heap[j]? := fun j hj => by rw [hy5]; exact heap_set3 hj
  have s5 : y5.heap.size = y4.heap.size := by rw [hy5]; simp
  have S5 := S4.same (h5 N (by omega))
  have q1 : y5.cell? ⟨R, 0, none⟩ = some (.slice aO O.length kO) := by rw [hy5, cell_set_ne (by omega), cell_set_ne (by omega)]; exact cell_set_same ⟨_, r1⟩
  have q2 : y5.cell? ⟨R, 1, none⟩ = some (.slice aM D.length kM) := by rw [hy5, cell_set_ne (by omega)]; exact cell_set_same ⟨_, (cell_set_ne (by omega)).trans r2⟩
  have q3 : y5.cell? ⟨R, 2, none⟩ = some (.slice aT T.length kT) := by rw [hy5]; exact cell_set_same ⟨_, (cell_set_ne (by omega)).trans ((cell_set_ne (by omega)).trans r3)⟩
  have B5 : Below w.heap.size w y5 := by rw [hy5]; exact (((B3.drew.trans (grown_below hg4 (by omega) (by have := B3.size; show w.heap.size ≤ y3.heap.size; omega))).setCell (by show w.heap.size ≤ R; omega) _).setCell (by show w.heap.size ≤ R; omega) _).setCell (by show w.heap.size ≤ R; omega) _
  rw [← hy5]
  clear hy5 r1 r2 r3 f0 f1 f2
  refine hK _ _ ⟨S5, ?_⟩
  clear hK K hi
  refine takeW 5 3 (.int .i64 (x - 1)) rfl rfl (by kernel_rfl) (by kernel_rfl) (by kernel_rfl) (fun _ _ _ h => h) (by kernel_rfl) (by (intro w hSw; go_simp)) (by assumption) ?_
  simp only [List.set_cons_zero, List.set_cons_succ]
  refine takeW 6 4 (.bool on) rfl rfl (by kernel_rfl) (by kernel_rfl) (by kernel_rfl) (fun _ _ _ h => h) (by kernel_rfl) (by (intro w hSw; go_simp)) (by assumption) ?_
  simp only [List.set_cons_zero, List.set_cons_succ]
  refine wpAnyH_done (by kernel_rfl) ?_ _
  have V5 := V3.keep (w' := y5) (fun j h1 h2 => by rw [h5 j (by omega), e4 j (by omega) (by omega)])
  clear S0 S4 S5 V3
  go_wp2
  refine bodyPost_ret (v := .tuple #[.agg #[.slice aO O.length kO, .slice aM D.length kM, .slice aT T.length kT], .int .i64 (x - 1), .bool on]) (by simp only [results, Tryz.results10]; simp [go_sem, q1, q2, q3]) rfl ?_
  exact ⟨aO, O, kO, aM, D, kM, aT, T, kT, x - 1, on, rfl, V5.wide (by omega) (by omega), B5, hO, hD, hT, by omega, by omega, zO, zT⟩

end Go.Proofs.YtifndemkkaelaaaGreat
