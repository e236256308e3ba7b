/- impl.Gate, walked. -/
import Derived.Test.YtifndemkkaelaaaGreatRows
import Derived.WalkKit
import Derived.ProofKit
import Derived.OpenShut
import Derived.ShutString
import Derived.ChangeOld
import Derived.Below
import Derived.Deep.QuietTactic
import Derived.BigQuiet
import Derived.WalkSmall
import Derived.Laws.OwnMore
import Derived.WalkSpells
import Derived.WalkLawsBesides
import Derived.Laws.AppendOwnNone
import Derived.Laws.CopyOwn
import Derived.Test.YtifndemkkaelaaaGreatZl15
namespace Go.Proofs.YtifndemkkaelaaaGreat
open Go.ChangeShapes Go.WideShapes Go.ChangeAt Go.RowKit
open Go.ChangeMaps (open_string shut_string)
set_option linter.unusedVariables false
set_option maxRecDepth 100000

set_option maxRecDepth 100000 in
set_option maxHeartbeats 8000000 in
theorem gateI (adO : Option Addr) (cO : Nat) (O : List Bool) (adM : Option Addr) (cM : Nat) (D : DL) (adT : Option Addr) (cT : Nat) (T : List Hd) (p : Int) (on : Bool) (lo hi : Nat) (w : World) (I : CdV w lo hi adO O adM D adT T) (ht : hi ≤ w.heap.size) (hl : O.length + totD D + T.length ≤ 1048576) (hp : (Lit.int .i64 p).wf = true) :
    Calls Tryz.prog 11 #[.agg #[.slice adO O.length cO, .slice adM D.length cM, .slice adT T.length cT], .int .i64 p, .bool on] w fun e w' => OwnC w (gO O D T p on) D (gT O D T p on) e w' := by
  have lO : O.length ≤ 1048576 := by omega
  have hpb := wf_bounds hp
  obtain ⟨x0, hx⟩ : ∃ x, x = (w.alloc (Obj.cells #[.slice adO O.length cO, .slice adM D.length cM, .slice adT T.length cT] 28)).alloc (Obj.cells #[.slice none 0 0, .slice none 0 0, .slice none 0 0] 28) := ⟨_, rfl⟩
  obtain ⟨P, hP⟩ : ∃ P, P = w.heap.size := ⟨_, rfl⟩
  have B0 : Below w.heap.size w x0 := by rw [hx]; exact ((Below.refl _ _).alloc (Nat.le_refl _) _).alloc (by simp) _
  have A0 : CdAt x0 P adO O.length cO adM D.length cM adT T.length cT := by rw [hx, hP]; refine ⟨?_, ?_, ?_⟩ <;> simp [go_sem]
  have C0 : CdAt x0 (P + 1) none 0 0 none 0 0 none 0 0 := by rw [hx, hP]; refine ⟨?_, ?_, ?_⟩ <;> simp [go_sem]
  have F0 : ∀ i, x0.frozen? ⟨P + 1, i, none⟩ = false := by intro i; rw [hx, hP]; simp [go_sem]
  have P1 : P + 1 < x0.heap.size := C0.lt
  have hPw : w.heap.size ≤ P := by omega
  have I0 := I.below B0 ht
  have ht0 : hi ≤ P := by omega
  clear I
  go_enter Tryz.func11, Tryz.ntmps11
  go_wp2_with fail
  go_at_call 39
  rw [← hx, ← hP]
  clear hx hP
  refine (copC adO cO O adM cM D adT cT T lo hi P x0 A0 I0 (by omega) hl).mono ?_
  rintro e x1 ⟨aO, kO, aM, kM, aT, kT, rfl, W1, k1⟩
  have s1 := k1.size
  have A1 := A0.below k1 (by omega)
  have C1 := C0.below k1 (by omega)
  have F1 := fz_below F0 k1 (by omega)
  have I1 := I0.below k1 (by omega)
  have B1 := B0.trans (k1.mono B0.size)
  obtain ⟨x2, hx2⟩ : ∃ y, y = x1.alloc (Obj.cells #[.slice aO O.length kO, .slice aM D.length kM, .slice aT T.length kT] 28) := ⟨_, rfl⟩
  obtain ⟨N, hN⟩ : ∃ N, N = x1.heap.size := ⟨_, rfl⟩
  have k2 : Below x1.heap.size x1 x2 := by rw [hx2]; exact below_box x1 _
  have N2 : CdAt x2 N aO O.length kO aM D.length kM aT T.length kT := by rw [hx2, hN]; exact CdAt.box _ _ _ _ _ _ _ _ _ _ _
  have G2 : ∀ i, x2.frozen? ⟨N, i, none⟩ = false := by intro i; rw [hx2, hN]; simp [go_sem]
  have hNl : x1.heap.size ≤ N := by omega
  have hN2 : N < x2.heap.size := N2.lt
  have s2 := k2.size
  have A2 := A1.below k2 (by omega)
  have C2 := C1.below k2 (by omega)
  have F2 := fz_below F1 k2 (by omega)
  have I2 := I1.below k2 (by omega)
  have W2 := W1.below k2 (Nat.le_refl _)
  have B2 := B1.trans (k2.mono B1.size)
  clear A0 A1 C0 C1 F0 F1 I0 I1 W1 B0 B1 k1 k2
  have lt2 : hi ≤ x2.heap.size := by omega
  go_wp2_with fail
  go_at_call 40
  rw [← hx2]
  rw [← hN]
  clear hN hx2
  refine (cardFits adO cO O adM cM D adT cT T lo hi P x2 A2 I2 lt2 hl).mono ?_
  rintro e x3 ⟨rfl, k3⟩
  have s3 := k3.size
  have A3 := A2.below k3 (by omega)
  have C3 := C2.below k3 (by omega)
  have F3 := fz_below F2 k3 (by omega)
  have I3 := I2.below k3 (by omega)
  have N3 := N2.below k3 (by omega)
  have G3 := fz_below G2 k3 (by omega)
  have W3 := W2.below k3 (by omega)
  have B3 := B2.trans (k3.mono B2.size)
  clear A2 C2 F2 I2 N2 G2 W2 B2 k3
  obtain ⟨c31, c32, c33⟩ := C3
  have f30 := F3 0
  have f31 := F3 1
  have f32 := F3 2
  have N3' := N3
  obtain ⟨n31, n32, n33⟩ := N3'
  have back : ∀ z : World, z = ((x3.setCell ⟨P + 1, 0, none⟩ (.slice aO O.length kO)).setCell ⟨P + 1, 1, none⟩ (.slice aM D.length kM)).setCell ⟨P + 1, 2, none⟩ (.slice aT T.length kT) → z.cell? ⟨P + 1, 0, none⟩ = some (.slice aO O.length kO) ∧ z.cell? ⟨P + 1, 1, none⟩ = some (.slice aM D.length kM) ∧ z.cell? ⟨P + 1, 2, none⟩ = some (.slice aT T.length kT) ∧ OwnC w O D T (.returned (.agg #[.slice aO O.length kO, .slice aM D.length kM, .slice aT T.length kT])) z := fun z hz => by
    refine ⟨?_, ?_, ?_, aO, kO, aM, kM, aT, kT, rfl, ?_, ?_⟩
    · rw [hz, cell_set_ne (by omega), cell_set_ne (by omega)]; exact cell_set_same ⟨_, c31⟩
    · rw [hz, cell_set_ne (by omega)]; exact cell_set_same ⟨_, (cell_set_ne (by omega)).trans c32⟩
    · rw [hz]; exact cell_set_same ⟨_, (cell_set_ne (by omega)).trans ((cell_set_ne (by omega)).trans c33)⟩
    · have e1 : ∀ j, x0.heap.size ≤ j → j < x1.heap.size → z.heap[j]? = x3.heap[j]? := fun j h1 h2 => by rw [hz]; exact heap_set3 (by omega)
      have q := W3.keep e1
      have zs : z.heap.size = x3.heap.size := by rw [hz]; simp
      exact q.wide (by omega) (by omega)
    · rw [hz]; exact ((B3.setCell (by show w.heap.size ≤ P + 1; omega) _).setCell (by show w.heap.size ≤ P + 1; omega) _).setCell (by show w.heap.size ≤ P + 1; omega) _
  by_cases hC : cOk O D T = true
  rotate_left
  · have hC' : cOk O D T = false := by simpa using hC
    have hg : gTurn O D T p on = false := by unfold gTurn; rw [hC']; rfl
    have hgO : Hid (gO O D T p on = O) := if_neg (by rw [hg]; simp)
    have hgT : Hid (gT O D T p on = T) := if_neg (by rw [hg]; simp)
    rw [hC']
    clear hC hC' hg
    go_wp2
    obtain ⟨z, hz⟩ : ∃ z, z = ((x3.setCell ⟨P + 1, 0, none⟩ (.slice aO O.length kO)).setCell ⟨P + 1, 1, none⟩ (.slice aM D.length kM)).setCell ⟨P + 1, 2, none⟩ (.slice aT T.length kT) := ⟨_, rfl⟩
    obtain ⟨q1, q2, q3, q4⟩ := back z hz
    rw [← hz]
    clear hz c31 c32 c33 f30 f31 f32 n31 n32 n33
    exact bodyPost_ret (v := .agg #[.slice aO O.length kO, .slice aM D.length kM, .slice aT T.length kT]) (by simp [results, Tryz.results11, go_sem, q1, q2, q3]) rfl (q4.as hgO.out hgT.out)
  rw [hC]
  go_wp2_with fail
  go_at_call 41
  refine (hasP adO cO O adM cM D adT cT T P p x3 A3 lO).mono ?_
  rintro e y3 ⟨rfl, hy3⟩
  rw [hy3]
  clear hy3 y3
  by_cases hQ : 0 ≤ p ∧ p < (O.length : Int)
  rotate_left
  · have hQ' : decide (0 ≤ p ∧ p < (O.length : Int)) = false := decide_eq_false hQ
    have hg : gTurn O D T p on = false := by unfold gTurn; rw [hC, hQ']; rfl
    have hgO : Hid (gO O D T p on = O) := if_neg (by rw [hg]; simp)
    have hgT : Hid (gT O D T p on = T) := if_neg (by rw [hg]; simp)
    rw [hQ']
    clear hQ hQ' hg hC
    go_wp2
    obtain ⟨z, hz⟩ : ∃ z, z = ((x3.setCell ⟨P + 1, 0, none⟩ (.slice aO O.length kO)).setCell ⟨P + 1, 1, none⟩ (.slice aM D.length kM)).setCell ⟨P + 1, 2, none⟩ (.slice aT T.length kT) := ⟨_, rfl⟩
    obtain ⟨q1, q2, q3, q4⟩ := back z hz
    rw [← hz]
    clear hz c31 c32 c33 f30 f31 f32 n31 n32 n33
    exact bodyPost_ret (v := .agg #[.slice aO O.length kO, .slice aM D.length kM, .slice aT T.length kT]) (by simp [results, Tryz.results11, go_sem, q1, q2, q3]) rfl (q4.as hgO.out hgT.out)
  have hQ' : decide (0 ≤ p ∧ p < (O.length : Int)) = true := decide_eq_true hQ
  rw [hQ']
  obtain ⟨i, rfl⟩ : ∃ i : Nat, p = (i : Int) := ⟨p.toNat, by omega⟩
  have hi0 : i < O.length := by omega
  obtain ⟨b, off, eb, hc⟩ := I3.vO (by omega)
  subst eb
  have hci : x3.cell? ⟨b, off + i, none⟩ = some (.bool (O.getD i false)) := hc i hi0
  obtain ⟨q, hq⟩ : ∃ q, O.getD i false = q := ⟨_, rfl⟩
  rw [hq] at hci
  have hgt : gTurn O D T (i : Int) on = (q != on) := by unfold gTurn; rw [hC, hQ', Int.toNat_natCast, hq]; rfl
  obtain ⟨X1, X2, X3⟩ := A3
  clear hc hQ hQ' hC hq
  by_cases hne : (q == on) = true
  · have hg : gTurn O D T (i : Int) on = false := by rw [hgt]; simpa using hne
    have hgO : Hid (gO O D T (i : Int) on = O) := if_neg (by rw [hg]; simp)
    have hgT : Hid (gT O D T (i : Int) on = T) := if_neg (by rw [hg]; simp)
    clear hg hgt
    go_wp2
    obtain ⟨z, hz⟩ : ∃ z, z = ((x3.setCell ⟨P + 1, 0, none⟩ (.slice aO O.length kO)).setCell ⟨P + 1, 1, none⟩ (.slice aM D.length kM)).setCell ⟨P + 1, 2, none⟩ (.slice aT T.length kT) := ⟨_, rfl⟩
    obtain ⟨q1, q2, q3, q4⟩ := back z hz
    rw [← hz]
    clear hz c31 c32 c33 f30 f31 f32 n31 n32 n33
    exact bodyPost_ret (v := .agg #[.slice aO O.length kO, .slice aM D.length kM, .slice aT T.length kT]) (by simp [results, Tryz.results11, go_sem, q1, q2, q3]) rfl (q4.as hgO.out hgT.out)
  have hne : (q == on) = false := by simpa using hne
  have hg : gTurn O D T (i : Int) on = true := by rw [hgt]; simpa using hne
  have hgO : Hid (gO O D T (i : Int) on = O.set i on) := (if_pos hg).trans (by rw [Int.toNat_natCast])
  have hgT : Hid (gT O D T (i : Int) on = forgot (i : Int) T) := if_pos hg
  clear hg hgt back
  obtain ⟨b', off', eb, hc'⟩ := W3.vO (by omega)
  subst eb
  have iO := W3.iO ⟨b', off', none⟩ rfl (by omega)
  have iO' : x0.heap.size ≤ b' ∧ b' < x1.heap.size := iO
  have hci' := hc' i hi0
  obtain ⟨b'', off'', eb, hr⟩ := W3.rO (by omega)
  cases eb
  have hfr := (hr i hi0).2
  clear hc' hr iO
  go_wp2_with fail
  go_at_call 50
  obtain ⟨x4, hx4⟩ : ∃ y, y = x3.setCell ⟨b', off' + i, none⟩ (.bool on) := ⟨_, rfl⟩
  have h4 : ∀ j, j ≠ b' → x4.heap[j]? = x3.heap[j]? := fun j hj => by rw [hx4]; exact Below.heap_setCell _ _ _ _ hj
  have h4b : x4.heap[b']? = (x3.setCell ⟨b', off' + i, none⟩ (.bool on)).heap[b']? := by rw [hx4]
  have s4 : x4.heap.size = x3.heap.size := by rw [hx4]; simp
  have B4 : Below w.heap.size w x4 := by rw [hx4]; exact B3.setCell (by show w.heap.size ≤ b'; omega) _
  rw [← hx4]
  clear hx4 hci hci' hfr X1 X2 X3
  have I4 : HView x4 adT T := I3.vT.carry (fun x e pp => h4 _ (by have := I3.iT x e pp; omega))
  have c41 := (World.cell?_of_block (a := ⟨P + 1, 0, none⟩) (h4 _ (by show P + 1 ≠ b'; omega))).trans c31
  have c42 := (World.cell?_of_block (a := ⟨P + 1, 1, none⟩) (h4 _ (by show P + 1 ≠ b'; omega))).trans c32
  have c43 := (World.cell?_of_block (a := ⟨P + 1, 2, none⟩) (h4 _ (by show P + 1 ≠ b'; omega))).trans c33
  have F4 : ∀ j, x4.frozen? ⟨P + 1, j, none⟩ = false := fun j => (World.frozen?_of_block (a := ⟨P + 1, j, none⟩) (h4 _ (by show P + 1 ≠ b'; omega))).trans (F3 j)
  have N4 := N3.same (h4 _ (by omega))
  have G4 : ∀ j, x4.frozen? ⟨N, j, none⟩ = false := fun j => (World.frozen?_of_block (a := ⟨N, j, none⟩) (h4 _ (by show N ≠ b'; omega))).trans (G3 j)
  clear c31 c32 c33 f30 f31 f32 n31 n32 n33 N3 G3 F3
  refine (forgI adT cT T (i : Int) x4 I4 (by omega) (fun x e pp => by have := I3.iT x e pp; show x.block < _; omega)).mono ?_
  rintro e x5 ⟨⟨aT', kT', rfl, vT', rT', iT'⟩, k5⟩
  have s5 := k5.size
  have B5 := B4.trans (k5.mono B4.size)
  have c5 : CdAt x5 (P + 1) none 0 0 none 0 0 none 0 0 := CdAt.below ⟨c41, c42, c43⟩ k5 (by omega)
  have F5 := fz_below F4 k5 (by omega)
  have N5 := N4.below k5 (by omega)
  have G5 := fz_below G4 k5 (by omega)
  clear c41 c42 c43 F4 N4 G4
  obtain ⟨c51, c52, c53⟩ := c5
  obtain ⟨n51, n52, n53⟩ := N5
  have f50 := F5 0
  have f51 := F5 1
  have f52 := F5 2
  have g52 := G5 2
  go_wp2
  obtain ⟨z, hz⟩ : ∃ z, z = (((x5.setCell ⟨N, 2, none⟩ (.slice aT' (forgot (i : Int) T).length kT')).setCell ⟨P + 1, 0, none⟩ (.slice (some ⟨b', off', none⟩) O.length kO)).setCell ⟨P + 1, 1, none⟩ (.slice aM D.length kM)).setCell ⟨P + 1, 2, none⟩ (.slice aT' (forgot (i : Int) T).length kT') := ⟨_, rfl⟩
  have zh : ∀ j, j ≠ P + 1 → j ≠ N → z.heap[j]? = x5.heap[j]? := fun j h1 h2 => by rw [hz, heap_set3 h1]; exact Below.heap_setCell _ _ _ _ h2
  have q1 : z.cell? ⟨P + 1, 0, none⟩ = some (.slice (some ⟨b', off', none⟩) O.length kO) := by
    rw [hz, cell_set_ne (by omega), cell_set_ne (by omega)]; exact cell_set_same ⟨_, (World.cell?_of_block (a := ⟨P + 1, 0, none⟩) (Below.heap_setCell _ _ _ _ (by show P + 1 ≠ N; omega))).trans c51⟩
  have q2 : z.cell? ⟨P + 1, 1, none⟩ = some (.slice aM D.length kM) := by
    rw [hz, cell_set_ne (by omega)]; exact cell_set_same ⟨_, (cell_set_ne (by omega)).trans ((World.cell?_of_block (a := ⟨P + 1, 1, none⟩) (Below.heap_setCell _ _ _ _ (by show P + 1 ≠ N; omega))).trans c52)⟩
  have q3 : z.cell? ⟨P + 1, 2, none⟩ = some (.slice aT' (forgot (i : Int) T).length kT') := by
    rw [hz]; exact cell_set_same ⟨_, (cell_set_ne (by omega)).trans ((cell_set_ne (by omega)).trans ((World.cell?_of_block (a := ⟨P + 1, 2, none⟩) (Below.heap_setCell _ _ _ _ (by show P + 1 ≠ N; omega))).trans c53))⟩
  have zs : z.heap.size = x5.heap.size := by rw [hz]; simp
  have BZ : Below w.heap.size w z := by rw [hz]; exact (((B5.setCell (by show w.heap.size ≤ N; omega) _).setCell (by show w.heap.size ≤ P + 1; omega) _).setCell (by show w.heap.size ≤ P + 1; omega) _).setCell (by show w.heap.size ≤ P + 1; omega) _
  rw [← hz]
  clear hz c51 c52 c53 n51 n52 n53 f50 f51 f52 g52
  refine bodyPost_ret (v := .agg #[.slice (some ⟨b', off', none⟩) O.length kO, .slice aM D.length kM, .slice aT' (forgot (i : Int) T).length kT']) (by simp [results, Tryz.results11, go_sem, q1, q2, q3]) rfl ?_
  refine OwnC.as (O := O.set i on) (T := forgot (i : Int) T) ?_ hgO.out hgT.out
  refine ⟨some ⟨b', off', none⟩, kO, aM, kM, aT', kT', by rw [List.length_set], ?_, BZ⟩
  have e1 : ∀ j, x0.heap.size ≤ j → j < x1.heap.size → j ≠ b' → z.heap[j]? = x3.heap[j]? := fun j h1 h2 h3 => by rw [zh j (by omega) (by omega), k5.block _ (by omega), h4 j h3]
  have e2 : z.heap[b']? = (x3.setCell ⟨b', off' + i, none⟩ (.bool on)).heap[b']? := by rw [zh b' (by omega) (by omega), k5.block _ (by omega), h4b]
  have q := W3.turn (adT' := aT') (T' := forgot (i : Int) T) (hi' := z.heap.size) (i := i) (on := on) rfl hi0 (by omega) e1 e2 (vT'.carry (fun x e _ => zh _ (by have := iT' x e; omega) (by have := iT' x e; omega))) (rT'.carry (fun x e _ => zh _ (by have := iT' x e; omega) (by have := iT' x e; omega))) (fun x e => by have := iT' x e; omega)
  exact q.wide (by omega) (Nat.le_refl _)

end Go.Proofs.YtifndemkkaelaaaGreat
