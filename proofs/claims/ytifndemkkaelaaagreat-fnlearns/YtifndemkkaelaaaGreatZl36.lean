/- spec.l5Draw, walked. spec.DrawGate, walked. -/
import Derived.Test.YtifndemkkaelaaaGreatRows
import Derived.WalkKit
import Derived.ProofKit
import Derived.OpenShut
import Derived.ShutString
import Derived.ChangeOld
import Derived.Below
import Derived.Deep.QuietTactic
import Derived.BigQuiet
import Derived.WalkSmall
import Derived.Laws.OwnMore
import Derived.WalkSpells
import Derived.WalkLawsBesides
import Derived.Laws.AppendOwnNone
import Derived.Laws.CopyOwn
import Derived.Maps.AppendAt
import Derived.Test.YtifndemkkaelaaaGreatZlDrawD0
import Derived.Test.YtifndemkkaelaaaGreatZl1
namespace Go.Proofs.YtifndemkkaelaaaGreat
open Go.ChangeShapes Go.WideShapes Go.ChangeAt Go.RowKit
open Go.ChangeMaps (open_string shut_string)
set_option linter.unusedVariables false
set_option maxRecDepth 100000

set_option maxRecDepth 100000 in
set_option maxHeartbeats 8000000 in
theorem drawC {cb : Nat} {ad : Option Addr} {len cap : Nat} {f : Nat → Int} (w : World) (hs : Src w cb ad len cap f) (hcb : cb < w.heap.size) (had : ∀ x, ad = some x → 0 < len → x.block < w.heap.size) :
    Calls Tryz.prog 34 #[.pointer (some ⟨cb, 0, none⟩)] w fun e w' => DrawnV w cb ad len cap f e w' := by
  obtain ⟨i1, hj, hy0, hy1, hy2⟩ := info_parts Tryz.infoB'
  obtain ⟨x0, hx⟩ : ∃ x, x = w.alloc (Obj.cells #[.slice none 0 0, .slice none 0 0, .slice none 0 0] 28) := ⟨_, rfl⟩
  obtain ⟨R, hR⟩ : ∃ R, R = w.heap.size := ⟨_, rfl⟩
  have B0 : Below w.heap.size w x0 := by rw [hx]; exact below_box w _
  have C0 : CdAt x0 R none 0 0 none 0 0 none 0 0 := by rw [hx, hR]; exact CdAt.box _ _ _ _ _ _ _ _ _ _ _
  have F0 : ∀ i, x0.frozen? ⟨R, i, none⟩ = false := by intro i; rw [hx, hR]; simp [go_sem]
  have hs0 := hs.later B0
  have hR0 : R < x0.heap.size := C0.lt
  have hRw : w.heap.size ≤ R := by omega
  have b0 := B0.size
  go_enter Tryz.func34, Tryz.ntmps34
  go_wp2_with fail
  go_at_call 83
  rw [← hx, ← hR]
  clear hx hR
  refine (drawRightC x0 hs0 (by omega) (fun x e p => by have := had x e p; omega)).mono ?_
  rintro e y1 ⟨aO, O, kO, aM, Ns, kM, aT, T, kT, rfl, W1, hs1, g1, hO, hN1, hN4, hNL, hT⟩
  have z1 := g1.size
  have bO := own_lt W1.ob
  have bM := own_lt W1.mc.own
  have bn := W1.mc.inn
  have bT := own_lt W1.ht
  have e1 : ∀ j, j < x0.heap.size → j ≠ cb → y1.heap[j]? = x0.heap[j]? := fun j hj hn => g1.block j hj (fun q => hn (by simpa using q))
  have C1 := C0.same (e1 R hR0 (by omega))
  have F1 : ∀ i, y1.frozen? ⟨R, i, none⟩ = false := fun i => (World.frozen?_of_block (a := ⟨R, i, none⟩) (e1 R hR0 (by omega))).trans (F0 i)
  obtain ⟨y2, hy⟩ : ∃ y, y = y1.alloc (Obj.cells #[.slice aO O.length kO, .slice aM Ns.length kM, .slice aT T.length kT] 28) := ⟨_, rfl⟩
  obtain ⟨N, hN⟩ : ∃ N, N = y1.heap.size := ⟨_, rfl⟩
  have k2 : Below y1.heap.size y1 y2 := by rw [hy]; exact below_box _ _
  have N2 : CdAt y2 N aO O.length kO aM Ns.length kM aT T.length kT := by rw [hy, hN]; exact CdAt.box _ _ _ _ _ _ _ _ _ _ _
  have G2 : ∀ i, y2.frozen? ⟨N, i, none⟩ = false := by intro i; rw [hy, hN]; simp [go_sem]
  have hNy : y1.heap.size ≤ N := by omega
  have tN : N < y2.heap.size := N2.lt
  have z2 := k2.size
  have C2 := C1.below k2 (by omega)
  have F2 := fz_below F1 k2 (by omega)
  have W2 := W1.keep (fun j _ h2 => k2.block j h2) k2.size
  have hs2 := hs1.later k2
  have g2 := grown_ext g1 k2.os k2.tape k2.output k2.size (fun j hj _ => k2.block j (by omega))
  clear C0 C1 F0 F1 W1 hs1 g1 e1
  go_wp2_with fail
  go_at_call 35
  rw [← hy, ← hN]
  clear hy hN k2
  refine (drawBelow hs2 8 (by omega) (by omega)).mono ?_
  rintro e y3 ⟨x, rfl, hx0, hx8, hs3, hg3⟩
  have z3 := hg3.size
  have e3 : ∀ j, j < y2.heap.size → j ≠ cb → y3.heap[j]? = y2.heap[j]? := fun j hj hn => hg3.block j hj (fun q => hn (by simpa using q))
  have C3 := C2.same (e3 R (by omega) (by omega))
  have F3 : ∀ i, y3.frozen? ⟨R, i, none⟩ = false := fun i => (World.frozen?_of_block (a := ⟨R, i, none⟩) (e3 R (by omega) (by omega))).trans (F2 i)
  have N3 := N2.same (e3 N (by omega) (by omega))
  have G3 : ∀ i, y3.frozen? ⟨N, i, none⟩ = false := fun i => (World.frozen?_of_block (a := ⟨N, i, none⟩) (e3 N (by omega) (by omega))).trans (G2 i)
  have W3 := W2.keep (fun j h1 h2 => e3 j h2 (by omega)) hg3.size
  have g3 := grown_ext g2 hg3.os hg3.tape hg3.output hg3.size (fun j hj hn => e3 j (by omega) hn)
  clear C2 F2 N2 G2 W2 g2 e3 hg3 hs2 hs0 hs
  have hNt : totD (Ns.map Mb.d) ≤ 24 := Nat.le_trans (tot_le Ns hNL) (by omega)
  have hNl : (Ns.map Mb.d).length = Ns.length := List.length_map ..
  have h0 := F3 0
  have h1 := F3 1
  have h2 := F3 2
  have C3' := C3
  obtain ⟨r1, r2, r3⟩ := C3'
  have eF : ∀ (y : World), (∀ j, j < y3.heap.size → (j < x0.heap.size ∨ j = N) → y.heap[j]? = y3.heap[j]?) → (CdAt y R none 0 0 none 0 0 none 0 0 ∧ (∀ i, y.frozen? ⟨R, i, none⟩ = false)) ∧ CdAt y N aO O.length kO aM Ns.length kM aT T.length kT ∧ (∀ i, y.frozen? ⟨N, i, none⟩ = false) ∧ Src y cb ad len cap f := fun y k => by
    have kR := k R (by omega) (.inl (by omega))
    have kN := k N (by omega) (.inr rfl)
    exact ⟨⟨C3.same kR, fun i => (World.frozen?_of_block (a := ⟨R, i, none⟩) kR).trans (F3 i)⟩, N3.same kN, fun i => (World.frozen?_of_block (a := ⟨N, i, none⟩) kN).trans (G3 i), hs3.move (k cb (by omega) (.inl (by omega))) (fun x e p => k _ (by have := had x e p; omega) (.inl (by have := had x e p; omega)))⟩
  rcases (by omega : x = 0 ∨ x = 1 ∨ x = 2 ∨ 3 ≤ x) with rfl | rfl | rfl | h3
  · have hown : (y3.alloc (Obj.cells #[.bool true] 4)).ownsRow x0.heap.size 4 1 (.slice aO O.length kO) O.length (O.map Value.bool) := own_below2 W3.ob (below_box _ _) (Nat.le_refl _)
    have W3' := W3.keep (z := y3.alloc (Obj.cells #[.bool true] 4)) (fun j _ h2 => (below_box y3 _).block j h2) (below_box y3 _).size
    have N3' := N3
    obtain ⟨n1, n2, n3⟩ := N3'
    have z34 : y3.heap.size < (y3.alloc (Obj.cells #[.bool true] 4)).heap.size := size_box _ _
    go_wp2_with (first | (at_builtin; refine wpList_append_own_at _ rfl _ _ 24 rfl x0.heap.size 4 i1 (.bool false) 1 1 Tryz.underlying24 hj hy0 hy1 hy2 rfl (by decide) _ _ _ rfl hown ⟨y3.heap.size, 0, none⟩ 1 1 [.bool true] rfl ?a0 ?a1 ?a2 ?a3 ?a4 ?a5 ?_) | go_in)
    case a0 => rfl
    case a1 => exact cell1 y3 _ _
    case a2 => intro u hu; simp at hu; rw [hu]; rfl
    case a3 => unfold maxLen; omega
    case a4 => omega
    case a5 => simp; omega
    intro v4 y4 o4 g4 _ e4
    have z4 := g4.size
    obtain ⟨O2, hO2⟩ : ∃ q, Hid (O ++ [true] = q) := ⟨_, rfl⟩
    have l2 : O2.length = O.length + 1 := by rw [← hO2.out]; simp
    obtain ⟨a2, k2, rfl, W4⟩ := W3'.flag (O2 := O2) (by rw [← hO2.out]; simpa using o4) g4 (by rw [show (y3.alloc (Obj.cells #[.bool true] 4)).heap.size = y3.heap.size + 1 by simp]; exact e4)
    have h5 : O2.length ≤ 5 := by omega
    clear l2
    have e4' : ∀ j, j < y3.heap.size → (j < x0.heap.size ∨ j = N) → y4.heap[j]? = y3.heap[j]? := fun j hj hq => by
      rw [g4.block j (by omega) (fun q => by have := bO j q.symm; omega), (below_box y3 _).block j hj]
    obtain ⟨⟨C4, F4⟩, N4, G4, S4⟩ := eF y4 e4'
    have z4' : (y3.alloc (Obj.cells #[.bool true] 4)).heap.size ≤ y4.heap.size := g4.size
    have g4' := grown_ext g3 (g4.os.trans rfl) (g4.tape.trans rfl) (g4.output.trans rfl) (by omega : y3.heap.size ≤ y4.heap.size) (fun j hj hn => e4' j (by omega) (.inl hj))
    have C5 := C4.same (w' := y4.setCell ⟨N, 0, none⟩ (.slice a2 O2.length k2)) (Below.heap_setCell _ _ _ _ (by show R ≠ N; omega))
    have S5 := S4.move (w' := y4.setCell ⟨N, 0, none⟩ (.slice a2 O2.length k2)) (Below.heap_setCell _ _ _ _ (by show cb ≠ N; omega)) (fun x e p => Below.heap_setCell _ _ _ _ (by have := had x e p; show x.block ≠ N; omega))
    have g5 := grown_ext (z := y4.setCell ⟨N, 0, none⟩ (.slice a2 O2.length k2)) g4' rfl rfl rfl (by simp) (fun j hj hn => Below.heap_setCell _ _ _ _ (by show j ≠ N; omega))
    have W5 := W4.off (z := y4.setCell ⟨N, 0, none⟩ (.slice a2 O2.length k2)) (N := N) (fun j hj => Below.heap_setCell _ _ _ _ hj) (by simp) (fun q => by
      rcases e4 with e4 | e4
      · have := bO N (e4 ▸ q); omega
      · rw [e4] at q; simp at q; omega) (fun q => by have := bM N q; omega) (fun i hi x q p => by have := bn i hi x q p; omega) (fun q => by have := bT N q; omega)
    have zO2 := own_nil3 W4.ob
    have zT2 := own_nil3 W4.ht
    have V5 := W5.view
    have f0 := F4 0
    have f1 := F4 1
    have f2 := F4 2
    have gN := G4 0
    obtain ⟨r1, r2, r3⟩ := C4
    obtain ⟨m1, m2, m3⟩ := N4
    clear n1 n2 n3 hown W3' W3 W4 W5 hO2 o4 g4 e4 e4' eF N3
    go_wp2
    obtain ⟨z, hz, q1, q2, q3, hD⟩ := draw_end (kO := k2) (kM := kM) (kT := kT) B0 ⟨hRw, hR0⟩ hcb had V5 S5 g5 h5 hNt (by omega) zO2 zT2 C5
    rw [hNl] at hz q2 hD
    rw [← hz]
    exact bodyPost_ret (v := .agg #[.slice a2 O2.length k2, .slice aM Ns.length kM, .slice aT T.length kT]) (by simp only [results, Tryz.results34]; simp [go_sem, q1, q2, q3]) rfl hD
  · obtain ⟨ad', cap', fp, ee, MW, f2⟩ := W3.mc.done
    cases ee
    obtain ⟨b, off, ee, hrow⟩ := MW.view.row (by omega)
    subst ee
    obtain ⟨b', off', ee, hroom⟩ := MW.room (by omega)
    cases ee
    have hbb := bM b rfl
    have hzO := own_nil3 W3.ob
    have hzT := own_nil3 W3.ht
    have V3 := W3.view
    have nb : b ≠ N := by omega
    have hNe : Ns ≠ [] := fun h => by rw [h] at hN1; simp at hN1
    go_wp2_with fail
    refine wp_region_held (S := fun Y => Y.cell? ⟨N, 1, none⟩ = some (.slice (some ⟨b, off, none⟩) Ns.length kM)) (by kernel_rfl) ?_
    change wpAnyH _ _ _ _ _ _ _ _ (World.drew _)
    have S0 : y3.drew.cell? ⟨N, 1, none⟩ = some (.slice (some ⟨b, off, none⟩) Ns.length kM) := N3.2.1
    refine takeW 0 17 (.pointer (some ⟨N, 1, none⟩)) rfl rfl (by kernel_rfl) (by kernel_rfl) (by kernel_rfl) (fun _ _ _ h => h) (by kernel_rfl) (by (intro w hSw; go_simp)) (by assumption) ?_
    simp only [List.set_cons_zero, List.set_cons_succ]
    refine takeW 1 18 (.slice (some ⟨b, off, none⟩) Ns.length kM) rfl rfl (by kernel_rfl) (by kernel_rfl) (by kernel_rfl) (fun _ _ _ h => h) (by kernel_rfl) (by (intro Y hSw; go_simp)) (by assumption) ?_
    simp only [List.set_cons_zero, List.set_cons_succ]
    refine takeW 2 19 (.pointer (some ⟨cb, 0, none⟩)) rfl rfl (by kernel_rfl) (by kernel_rfl) (by kernel_rfl) (fun _ _ _ h => h) (by kernel_rfl) (by (intro w hSw; go_simp)) (by assumption) ?_
    simp only [List.set_cons_zero, List.set_cons_succ]
    refine wpAnyH_all (rs := [3]) (by kernel_rfl) (by simp) ?_
    intro i hi; obtain rfl : i = 3 := by simpa using hi
    refine wpOp_step rfl (fun K hK => ?_)
    rw [if_pos (by kernel_rfl)]
    go_simp
    go_at_call 84
    refine (drawM y3.drew (hs3.later (Below.refl _ _).drew) (by show cb < y3.heap.size; omega) (fun x e p => by have := had x e p; show x.block < y3.heap.size; omega)).mono ?_
    rintro e y4 ⟨own, L, ⟨adL, capL, rfl, oL, hs4, hg4⟩, hL⟩
    have z4 : y3.heap.size ≤ y4.heap.size := hg4.size
    have e4 : ∀ j, j < y3.heap.size → j ≠ cb → y4.heap[j]? = y3.heap[j]? := fun j hj hn => hg4.block j hj (fun q => hn (by simpa using q))
    have S4 : y4.cell? ⟨N, 1, none⟩ = some (.slice (some ⟨b, off, none⟩) Ns.length kM) := (World.cell?_of_block (a := ⟨N, 1, none⟩) (e4 N (by omega) (by omega))).trans N3.2.1
    have hb4 := (hrow 0 (by omega)).same (e4 b (by omega) (by omega))
    rw [Nat.zero_mul, Nat.add_zero] at hb4
    obtain ⟨hb41, hb42⟩ := hb4
    have hf4 : ∀ i, i < Ns.length * 2 → y4.frozen? ⟨b, off + i, none⟩ = false := fun i hi => (World.frozen?_of_block (a := ⟨b, off + i, none⟩) (e4 b (by omega) (by omega))).trans (hroom i hi).2
    have hf40 := hf4 0 (by omega)
    rw [Nat.add_zero] at hf40
    have hf41 := hf4 1 (by omega)
    refine hK _ _ ⟨S4, ?_⟩
    clear hK K hi
    refine takeW 4 21 (.pointer (some ⟨b, off, none⟩)) rfl rfl (by kernel_rfl) (by kernel_rfl) (by kernel_rfl) (fun _ _ _ h => h) (by kernel_rfl) (by (intro Y hSw; go_simp)) (by assumption) ?_
    simp only [List.set_cons_zero, List.set_cons_succ]
    refine wpAnyH_all (rs := [5]) (by kernel_rfl) (by simp) ?_
    intro i hi; obtain rfl : i = 5 := by simpa using hi
    refine wpOp_step rfl (fun K hK => ?_)
    rw [if_pos (by kernel_rfl)]
    go_simp
    obtain ⟨y5, hy5⟩ : ∃ y, y = (y4.setCell ⟨b, off, none⟩ (.int .i64 own)).setCell ⟨b, off + 1, none⟩ (.slice adL L.length capL) := ⟨_, rfl⟩
    have h5 : ∀ j, j ≠ b → y5.heap[j]? = y4.heap[j]? := fun j hj => by rw [hy5, Below.heap_setCell _ _ _ _ hj, Below.heap_setCell _ _ _ _ hj]
    have s5 : y5.heap.size = y4.heap.size := by rw [hy5]; simp
    have S5 : y5.cell? ⟨N, 1, none⟩ = some (.slice (some ⟨b, off, none⟩) Ns.length kM) := (World.cell?_of_block (a := ⟨N, 1, none⟩) (h5 N (by omega))).trans S4
    have o5 : y5.os = y4.os ∧ y5.tape = y4.tape ∧ y5.output = y4.output := by rw [hy5]; exact ⟨rfl, rfl, rfl⟩
    have c50 : y5.cell? ⟨b, off, none⟩ = some (.int .i64 own) := by rw [hy5, cell_set_ne (by omega)]; exact cell_set_same ⟨_, hb41⟩
    have c51 : y5.cell? ⟨b, off + 1, none⟩ = some (.slice adL L.length capL) := by rw [hy5]; exact cell_set_same ⟨_, (cell_set_ne (by omega)).trans hb42⟩
    have c5n : ∀ i, i ≠ off → i ≠ off + 1 → y5.cell? ⟨b, i, none⟩ = y4.cell? ⟨b, i, none⟩ := fun i h1 h2 => by rw [hy5, cell_set_ne h2, cell_set_ne h1]
    rw [← hy5]
    clear hy5
    refine hK _ _ ⟨S5, ?_⟩
    clear hK K hi
    refine wpAnyH_done (by kernel_rfl) ?_ _
    have e5 : ∀ j, j < y3.heap.size → j ≠ cb → j ≠ b → y5.heap[j]? = y3.heap[j]? := fun j h1 h2 h3 => by rw [h5 j h3, e4 j h1 h2]
    obtain ⟨_, adL', capL', eL, vL, rL, bL, zL⟩ := own_viewN oL
    cases eL
    have bL' : ∀ x, adL = some x → y3.heap.size ≤ x.block ∧ x.block < y4.heap.size := fun x e => ⟨(bL x e).1, (bL x e).2.1⟩
    obtain ⟨m0, Ns', rfl⟩ : ∃ m N', Ns = m :: N' := by
      cases Ns with
      | nil => simp at hN1
      | cons m N' => exact ⟨m, N', rfl⟩
    have hL5 : totD ((own, L) :: Ns'.map Mb.d) ≤ 24 := by
      have t1 := tot_le Ns' (c := 5) (fun x hx => hNL x (by simp [hx]))
      show 1 + L.length + totD (Ns'.map Mb.d) ≤ 24
      simp at hN4
      omega
    have nst : ∀ i, i < Ns'.length → ∀ x, (Ns'.getD i Mb.nil).ad = some x → 0 < (Ns'.getD i Mb.nil).L.length → x.block ≠ b ∧ x0.heap.size ≤ x.block ∧ x.block < y3.heap.size := fun i hi x q p => by
      have hi' : i + 1 < (m0 :: Ns').length := by simp; omega
      have h1 := MW.apart (i + 1) hi' ⟨b, off, none⟩ x rfl q p
      have h2 := W3.mc.inn (i + 1) hi' x q p
      exact ⟨h1, h2⟩
    have V5 : CdV y5 x0.heap.size y5.heap.size aO O (some ⟨b, off, none⟩) ((own, L) :: Ns'.map Mb.d) aT T := by
      refine ⟨V3.vO.carry (fun x q p => e5 _ (by have := V3.iO x q p; omega) (by have := V3.iO x q p; omega) (fun c => W3.om x.block (oblk W3.ob q p) (by rw [c]; rfl))), fun x q p => by have := V3.iO x q p; omega, ⟨⟨own, adL, capL, L⟩ :: Ns', rfl, ⟨fun _ => ⟨b, off, rfl, fun i hi => ?_⟩, fun i hi => ?_, fun i hi => ?_⟩, fun x q p => by cases q; exact ⟨hbb.1, by show b < _; omega⟩, fun i hi x q p => ?_⟩, V3.vT.carry (fun x q p => e5 _ (by have := V3.iT x q p; omega) (by have := V3.iT x q p; omega) (fun c => W3.mt b rfl (by rw [← c]; exact tblk W3.ht q p))), fun x q p => by have := V3.iT x q p; omega⟩
      · cases i with
        | zero => exact ⟨by simpa using c50, by simpa using c51⟩
        | succ i =>
          have hr := (hrow (i + 1) (by simpa using hi)).same (e4 b (by omega) (by omega))
          obtain ⟨q1, q2⟩ := hr
          exact ⟨(c5n _ (by omega) (by omega)).trans q1, (c5n _ (by omega) (by omega)).trans q2⟩
      · cases i with
        | zero => exact ViewI.carry vL (fun x q p => h5 _ (by have := bL' x q; omega))
        | succ i => 
          have hi' : i < Ns'.length := by simpa using hi
          exact ViewI.carry (MW.view.nest (i + 1) (by simpa using hi)) (fun x q p => by have := nst i hi' x q p; exact e5 _ (by omega) (by omega) this.1)
      · cases i with
        | zero => exact zL
        | succ i => exact MW.view.nil0 (i + 1) (by simpa using hi)
      · cases i with
        | zero => have := bL' x q; omega
        | succ i => have := nst i (by simpa using hi) x q p; omega
    have g5 := grown_ext g3 (o5.1.trans hg4.os) (o5.2.1.trans hg4.tape) (o5.2.2.trans hg4.output) (by omega : y3.heap.size ≤ y5.heap.size) (fun j hj hn => e5 j (by omega) hn (by omega))
    have S5' := hs4.move (h5 cb (by omega)) (fun x e p => h5 _ (by have := had x e p; omega))
    have N5 := N3.same (e5 N (by omega) (by omega) (by omega))
    have C5 := C3.same (e5 R (by omega) (by omega) (by omega))
    have F5 : ∀ i, y5.frozen? ⟨R, i, none⟩ = false := fun i => (World.frozen?_of_block (a := ⟨R, i, none⟩) (e5 R (by omega) (by omega) (by omega))).trans (F3 i)
    have hl5 : (m0 :: Ns').length = ((own, L) :: Ns'.map Mb.d).length := by simp
    rw [hl5] at N5
    obtain ⟨n1, n2, n3⟩ := N5
    have C5' := C5
    obtain ⟨p1, p2, p3⟩ := C5'
    have f0 := F5 0
    have f1 := F5 1
    have f2 := F5 2
    generalize hDD : ((own, L) :: Ns'.map Mb.d) = DD at *
    clear hrow hroom h5 e5 e4 c50 c51 c5n hf4 hf40 hf41 S0 S4 S5 hb41 hb42 MW W3 V3 r1 r2 r3 eF
    go_wp2
    obtain ⟨z, hz, q1, q2, q3, hD⟩ := draw_end (kO := kO) (kM := kM) (kT := kT) B0 ⟨hRw, hR0⟩ hcb had V5 S5' g5 (by omega) hL5 (by omega) hzO hzT C5
    rw [← hz]
    exact bodyPost_ret (v := .agg #[.slice aO O.length kO, .slice (some ⟨b, off, none⟩) DD.length kM, .slice aT T.length kT]) (by simp only [results, Tryz.results34]; simp [go_sem, q1, q2, q3]) rfl hD
  · have N3' := N3
    obtain ⟨n1, n2, n3⟩ := N3'
    go_wp2_with fail
    go_at_call 85
    refine (drawT y3 hs3 (by omega) (fun x e p => by have := had x e p; omega)).mono ?_
    rintro e y4 ⟨vv, M, rfl, oT, hM, hDT⟩
    have z4 := hDT.gr.size
    have e4 : ∀ j, j < y3.heap.size → j ≠ cb → y4.heap[j]? = y3.heap[j]? := fun j hj hn => hDT.gr.block j hj (fun q => hn (by simpa using q))
    obtain ⟨aT', kT', rfl⟩ := row_slice oT
    have tT := own_lt oT
    have W4 := W3.keep (fun j h1 h2 => e4 j h2 (by omega)) hDT.gr.size
    have W4' : CW x0.heap.size y4 aO O kO aM Ns kM aT' M kT' := ⟨W4.ob, W4.mc, own_base' oT (by omega), W4.om, W4.on, fun j q c => by have := bO j q; have := tT j c; omega, fun j q c => by have := bM j q; have := tT j c; omega⟩
    have W5 := W4'.off (z := y4.setCell ⟨N, 2, none⟩ (.slice aT' M.length kT')) (N := N) (fun j hj => Below.heap_setCell _ _ _ _ hj) (by simp) (fun q => by have := bO N q; omega) (fun q => by have := bM N q; omega) (fun i hi x q p => by have := bn i hi x q p; omega) (fun q => by have := tT N q; omega)
    have V5 := W5.view
    have zO2 := own_nil3 W5.ob
    have zT2 := own_nil3 W5.ht
    have C4 := C3.same (e4 R (by omega) (by omega))
    have F4 : ∀ i, y4.frozen? ⟨R, i, none⟩ = false := fun i => (World.frozen?_of_block (a := ⟨R, i, none⟩) (e4 R (by omega) (by omega))).trans (F3 i)
    have N4 := N3.same (e4 N (by omega) (by omega))
    have gN := (World.frozen?_of_block (a := ⟨N, 2, none⟩) (e4 N (by omega) (by omega))).trans (G3 2)
    have C5 := C4.same (w' := y4.setCell ⟨N, 2, none⟩ (.slice aT' M.length kT')) (Below.heap_setCell _ _ _ _ (by show R ≠ N; omega))
    have S5 := hDT.src.move (w' := y4.setCell ⟨N, 2, none⟩ (.slice aT' M.length kT')) (Below.heap_setCell _ _ _ _ (by show cb ≠ N; omega)) (fun x e p => Below.heap_setCell _ _ _ _ (by have := had x e p; show x.block ≠ N; omega))
    have g4 := grown_ext g3 hDT.gr.os hDT.gr.tape hDT.gr.output hDT.gr.size (fun j hj hn => e4 j (by omega) hn)
    have g5 := grown_ext (z := y4.setCell ⟨N, 2, none⟩ (.slice aT' M.length kT')) g4 rfl rfl rfl (by simp) (fun j hj hn => Below.heap_setCell _ _ _ _ (by show j ≠ N; omega))
    obtain ⟨p1, p2, p3⟩ := C4
    obtain ⟨m1, m2, m3⟩ := N4
    have f0 := F4 0
    have f1 := F4 1
    have f2 := F4 2
    clear n1 n2 n3 r1 r2 r3 W3 W4 W4' W5 eF e4 N3 oT
    go_wp2
    obtain ⟨z, hz, q1, q2, q3, hD⟩ := draw_end (kO := kO) (kM := kM) (kT := kT') B0 ⟨hRw, hR0⟩ hcb had V5 S5 g5 (by omega) hNt hM zO2 zT2 C5
    rw [hNl] at hz q2 hD
    rw [← hz]
    exact bodyPost_ret (v := .agg #[.slice aO O.length kO, .slice aM Ns.length kM, .slice aT' M.length kT']) (by simp only [results, Tryz.results34]; simp [go_sem, q1, q2, q3]) rfl hD
  · have h30 : (x == 0) = false := by simp; omega
    have h31 : (x == 1) = false := by simp; omega
    have h32 : (x == 2) = false := by simp; omega
    have V3 := W3.view
    have zO2 := own_nil3 W3.ob
    have zT2 := own_nil3 W3.ht
    obtain ⟨n1, n2, n3⟩ := N3
    clear W3 eF
    go_wp2
    obtain ⟨z, hz, q1, q2, q3, hD⟩ := draw_end (kO := kO) (kM := kM) (kT := kT) B0 ⟨hRw, hR0⟩ hcb had V3 hs3 g3 (by omega) hNt (by omega) zO2 zT2 C3
    rw [hNl] at hz q2 hD
    rw [← hz]
    exact bodyPost_ret (v := .agg #[.slice aO O.length kO, .slice aM Ns.length kM, .slice aT T.length kT]) (by simp only [results, Tryz.results34]; simp [go_sem, q1, q2, q3]) rfl hD

end Go.Proofs.YtifndemkkaelaaaGreat
namespace Go.Proofs.YtifndemkkaelaaaGreat
open Go.ChangeShapes Go.WideShapes Go.ChangeAt Go.RowKit
open Go.ChangeMaps (open_string shut_string)
set_option linter.unusedVariables false
set_option maxRecDepth 100000

end Go.Proofs.YtifndemkkaelaaaGreat
