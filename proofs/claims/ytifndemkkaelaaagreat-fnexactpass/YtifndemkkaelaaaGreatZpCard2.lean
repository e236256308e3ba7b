/- The small functions over cards that the laws call. -/
import Derived.Test.YtifndemkkaelaaaGreatRows
import Derived.WalkKit
import Derived.ProofKit
import Derived.OpenShut
import Derived.ShutString
import Derived.ChangeOld
import Derived.Below
import Derived.Deep.QuietTactic
import Derived.BigQuiet
import Derived.WalkSmall
import Derived.Laws.OwnMore
import Derived.WalkSpells
import Derived.WalkLawsBesides
import Derived.Test.YtifndemkkaelaaaGreatZpCard1
import Derived.Test.YtifndemkkaelaaaGreatZp16
namespace Go.Proofs.YtifndemkkaelaaaGreat
open Go.ChangeShapes Go.WideShapes Go.ChangeAt Go.RowKit
open Go.ChangeMaps (open_string shut_string)
set_option linter.unusedVariables false
set_option maxRecDepth 100000

/-- A card in three cells. -/
def CdAt (w : World) (p : Nat) (adO : Option Addr) (nO cO : Nat) (adM : Option Addr) (nM cM : Nat) (adT : Option Addr) (nT cT : Nat) : Prop :=
  w.cell? ⟨p, 0, none⟩ = some (.slice adO nO cO) ∧ w.cell? ⟨p, 1, none⟩ = some (.slice adM nM cM) ∧ w.cell? ⟨p, 2, none⟩ = some (.slice adT nT cT)
theorem CdAt.same {w w' : World} {p : Nat} {adO : Option Addr} {nO cO : Nat} {adM : Option Addr} {nM cM : Nat} {adT : Option Addr} {nT cT : Nat} (h : CdAt w p adO nO cO adM nM cM adT nT cT) (e : w'.heap[p]? = w.heap[p]?) : CdAt w' p adO nO cO adM nM cM adT nT cT :=
  ⟨(World.cell?_of_block (a := ⟨p, 0, none⟩) e).trans h.1, (World.cell?_of_block (a := ⟨p, 1, none⟩) e).trans h.2.1, (World.cell?_of_block (a := ⟨p, 2, none⟩) e).trans h.2.2⟩
theorem CdAt.below {w w' : World} {p B : Nat} {adO : Option Addr} {nO cO : Nat} {adM : Option Addr} {nM cM : Nat} {adT : Option Addr} {nT cT : Nat} (h : CdAt w p adO nO cO adM nM cM adT nT cT) (k : Below B w w') (hp : p < B) : CdAt w' p adO nO cO adM nM cM adT nT cT := h.same (k.block _ hp)
theorem CdAt.lt {w : World} {p : Nat} {adO : Option Addr} {nO cO : Nat} {adM : Option Addr} {nM cM : Nat} {adT : Option Addr} {nT cT : Nat} (h : CdAt w p adO nO cO adM nM cM adT nT cT) : p < w.heap.size := World.block_lt_of_cell? w _ h.1
theorem CdAt.box (w : World) (adO : Option Addr) (nO cO : Nat) (adM : Option Addr) (nM cM : Nat) (adT : Option Addr) (nT cT : Nat) (t : TypeId) : CdAt (w.alloc (Obj.cells #[.slice adO nO cO, .slice adM nM cM, .slice adT nT cT] t)) w.heap.size adO nO cO adM nM cM adT nT cT := by
  refine ⟨?_, ?_, ?_⟩ <;> simp [go_sem]
theorem MbW.keep {w w' : World} {ad : Option Addr} {Ms : List Mb} {fp : List Nat} (m : MbW w ad Ms fp) (k : ∀ x ∈ fp, w'.heap[x]? = w.heap[x]?) : MbW w' ad Ms fp :=
  ⟨m.view.carry (fun x q p => k _ (m.rowIn x q p)) (fun i hi x q p => k _ (m.nestIn i hi x q p)), m.room.carry (fun x q p => k _ (m.rowIn x q (by omega))), fun i hi => (m.rooms i hi).carry (fun x q p => k _ (m.nestIn i hi x q p)), m.rowIn, m.nestIn, m.apart, m.aparts⟩
theorem mark_block {w w' : World} {ad : Option Addr} {len : Nat} (h : w' = w ∨ ∃ a, ad = some a ∧ 0 < len ∧ w.grownBy w' (some a.block)) {j : Nat} (hj : j < w.heap.size) (hn : ∀ a, ad = some a → 0 < len → a.block ≠ j) : w'.heap[j]? = w.heap[j]? := by
  rcases h with rfl | ⟨a, e, hp, g⟩
  · rfl
  · exact g.block j hj (fun q => hn a e hp (by simpa using q.symm))
theorem mark_size {w w' : World} {ad : Option Addr} {len : Nat} (h : w' = w ∨ ∃ a, ad = some a ∧ 0 < len ∧ w.grownBy w' (some a.block)) : w.heap.size ≤ w'.heap.size := by
  rcases h with rfl | ⟨a, e, hp, g⟩
  · exact Nat.le_refl _
  · exact g.size
/-- What an answer that is a card is: all of it new. -/
def OwnC (w : World) (O : List Bool) (D : DL) (T : List Hd) (e : Ending) (w' : World) : Prop :=
  ∃ adO cO adM cM adT cT, e = .returned (.agg #[.slice adO O.length cO, .slice adM D.length cM, .slice adT T.length cT]) ∧ CdW w' w.heap.size w'.heap.size adO O adM D adT T ∧ Below w.heap.size w w'
set_option maxHeartbeats 1000000 in
theorem szC (adO : Option Addr) (cO : Nat) (O : List Bool) (adM : Option Addr) (cM : Nat) (Ms : List Mb) (adT : Option Addr) (cT : Nat) (T : List Hd) (w : World) (I : CardIn w adO O adM Ms adT T) :
    Calls Tryz.prog 21 #[.agg #[.slice adO O.length cO, .slice adM Ms.length cM, .slice adT T.length cT], .int .i64 1048576] w fun e w' => (∃ r : Int, e = .returned (.int .i64 r) ∧ -1 ≤ r ∧ r ≤ 1048576 ∧ (0 ≤ r → O.length + (Ms.length + lTo Ms Ms.length) + T.length ≤ 1048576)) ∧ Below w.heap.size w w' := by
  obtain ⟨x0, hx⟩ : ∃ x, x = w.alloc (Obj.cells #[.slice adO O.length cO, .slice adM Ms.length cM, .slice adT T.length cT] 56) := ⟨_, rfl⟩
  have B0 : Below w.heap.size w x0 := by rw [hx]; exact below_box w _
  have C0 : CdAt x0 w.heap.size adO O.length cO adM Ms.length cM adT T.length cT := by rw [hx]; exact CdAt.box _ _ _ _ _ _ _ _ _ _ _
  have T0 : w.heap.size < x0.heap.size := C0.lt
  by_cases hO : (O.length : Int) ≤ 1048576
  rotate_left
  · go_enter Tryz.func21, Tryz.ntmps21
    go_wp2_with fail
    go_at_call 62
    rw [← hx]
    clear hx
    refine (szBo adO O.length cO 1048576 x0 (by omega) (by omega) I.mO).mono ?_
    rintro e w1 ⟨rfl, rfl⟩
    rw [if_neg (by omega)]
    go_wp2
    go_ret
    exact ⟨⟨-1, rfl, by omega, by omega, fun h => absurd h (by omega)⟩, B0⟩
  have hO1 : 0 ≤ 1048576 - (O.length : Int) := by omega
  have hO2 : ¬ 1048576 - (O.length : Int) < 0 := by omega
  have vM0 := I.vM.below B0 (Nat.le_refl _)
  by_cases hM : ((Ms.length + lTo Ms Ms.length : Nat) : Int) ≤ 1048576 - (O.length : Int)
  rotate_left
  · go_enter Tryz.func21, Tryz.ntmps21
    go_wp2_with fail
    go_at_call 62
    rw [← hx]
    clear hx
    refine (szBo adO O.length cO 1048576 x0 (by omega) (by omega) I.mO).mono ?_
    rintro e w1 ⟨rfl, rfl⟩
    rw [if_pos hO]
    obtain ⟨C1, C2, C3⟩ := C0
    go_wp2_with fail
    go_at_call 63
    refine (szMs adM cM Ms (1048576 - (O.length : Int)) w1 vM0 hO1 (by omega) I.mM I.mMs).mono ?_
    rintro e w2 ⟨rfl, k2⟩
    rw [if_neg (by omega)]
    go_wp2
    go_ret
    exact ⟨⟨-1, rfl, by omega, by omega, fun h => absurd h (by omega)⟩, B0.trans (k2.mono B0.size)⟩
  obtain ⟨lM, hlM⟩ : ∃ n : Nat, Hid (Ms.length + lTo Ms Ms.length = n) := ⟨_, rfl⟩
  rw [hlM.out] at hM
  have hM1 : 0 ≤ 1048576 - (O.length : Int) - (lM : Int) := by omega
  have hM2 : ¬ 1048576 - (O.length : Int) - (lM : Int) < 0 := by omega
  obtain ⟨r, hr⟩ : ∃ r : Int, (if (T.length : Int) ≤ 1048576 - (O.length : Int) - (lM : Int) then 1048576 - (O.length : Int) - (lM : Int) - (T.length : Int) else -1) = r := ⟨_, rfl⟩
  have hr1 : (0 ≤ r ∧ Hid (r = 1048576 - (O.length : Int) - (lM : Int) - (T.length : Int))) ∨ r = -1 := by
    by_cases h : (T.length : Int) ≤ 1048576 - (O.length : Int) - (lM : Int)
    · rw [if_pos h] at hr; exact .inl ⟨by omega, hr.symm⟩
    · rw [if_neg h] at hr; exact .inr hr.symm
  go_enter Tryz.func21, Tryz.ntmps21
  go_wp2_with fail
  go_at_call 62
  rw [← hx]
  clear hx
  refine (szBo adO O.length cO 1048576 x0 (by omega) (by omega) I.mO).mono ?_
  rintro e w1 ⟨rfl, rfl⟩
  rw [if_pos hO]
  have C0' := C0
  obtain ⟨C1, C2, C3⟩ := C0'
  go_wp2_with fail
  go_at_call 63
  refine (szMs adM cM Ms (1048576 - (O.length : Int)) w1 vM0 hO1 (by omega) I.mM I.mMs).mono ?_
  rintro e w2 ⟨rfl, k2⟩
  rw [hlM.out, if_pos hM]
  clear C1 C2 C3
  obtain ⟨C1, C2, C3⟩ := C0.below k2 T0
  go_wp2_with fail
  go_at_call 64
  refine (szH adT T.length cT (1048576 - (O.length : Int) - (lM : Int)) w2 hM1 (by omega) I.hT.lm).mono ?_
  rintro e w3 ⟨rfl, rfl⟩
  rw [hr]
  rcases hr1 with ⟨h0, h1⟩ | rfl
  · have h2 : ¬ r < 0 := by omega
    go_wp2
    go_ret
    refine ⟨⟨r, rfl, by omega, by have := h1.out; omega, fun _ => ?_⟩, B0.trans (k2.mono B0.size)⟩
    have := h1.out
    have := hlM.out
    omega
  · go_wp2
    go_ret
    exact ⟨⟨-1, rfl, by omega, by omega, fun h => absurd h (by omega)⟩, B0.trans (k2.mono B0.size)⟩
theorem heap_set3 {w : World} {p : Nat} {a b c : Value} {j : Nat} (h : j ≠ p) : (((w.setCell ⟨p, 0, none⟩ a).setCell ⟨p, 1, none⟩ b).setCell ⟨p, 2, none⟩ c).heap[j]? = w.heap[j]? := by
  rw [Below.heap_setCell _ _ _ _ h, Below.heap_setCell _ _ _ _ h, Below.heap_setCell _ _ _ _ h]
/-- The same, each list at the beginning of a block of its own. -/
def OwnS (w : World) (O : List Bool) (D : DL) (T : List Hd) (e : Ending) (w' : World) : Prop :=
  ∃ bO bM bT, e = .returned (.agg #[.slice (some ⟨bO, 0, none⟩) O.length O.length, .slice (some ⟨bM, 0, none⟩) D.length D.length, .slice (some ⟨bT, 0, none⟩) T.length T.length]) ∧ CdW w' w.heap.size w'.heap.size (some ⟨bO, 0, none⟩) O (some ⟨bM, 0, none⟩) D (some ⟨bT, 0, none⟩) T ∧ Below w.heap.size w w'
theorem OwnS.own {w w' : World} {O : List Bool} {D : DL} {T : List Hd} {e : Ending} (h : OwnS w O D T e w') : OwnC w O D T e w' := by
  obtain ⟨bO, bM, bT, e, W, k⟩ := h
  exact ⟨_, _, _, _, _, _, e, W, k⟩
set_option maxHeartbeats 2000000 in
theorem toCS (adO : Option Addr) (cO : Nat) (O : List Bool) (adM : Option Addr) (cM : Nat) (D : DL) (adT : Option Addr) (cT : Nat) (T : List Hd) (lo hi : Nat) (w : World) (I : CdV w lo hi adO O adM D adT T) (ht : hi ≤ w.heap.size) (hl : O.length + totD D + T.length ≤ 1048576) :
    Calls Tryz.prog 23 #[.agg #[.slice adO O.length cO, .slice adM D.length cM, .slice adT T.length cT]] w fun e w' => OwnS w O D T e w' := by
  obtain ⟨Ms, rfl, vM, iM, jM⟩ := I.vM
  rw [tot_siz, ← lTo_siz, List.length_map] at hl
  unfold OwnS
  rw [List.length_map]
  have hO : O.length ≤ 1048576 := by omega
  have hM : Ms.length ≤ 1048576 := by omega
  have hT : T.length ≤ 1048576 := by omega
  have hMs : ∀ i, i < Ms.length → (Ms.getD i Mb.nil).L.length ≤ 1048576 := fun i hi => Nat.le_trans (getL_le Ms hi) (by omega)
  clear hl
  have vO := I.vO
  have vT := I.vT
  have lO : ∀ a, adO = some a → 0 < O.length → a.block < w.heap.size := fun a e p => by have := I.iO a e p; omega
  have lT : HIs adT T (· < w.heap.size) := fun a e p => by have := I.iT a e p; show a.block < _; omega
  clear I iM jM
  go_enter Tryz.func23, Tryz.ntmps23
  go_wp2_with fail
  go_at_call 66
  obtain ⟨w0, hw0⟩ : ∃ w0, w0 = (((w.alloc (Obj.cells #[.slice adO O.length cO, .slice adM Ms.length cM, .slice adT T.length cT] 56)).alloc (Obj.cells #[.slice none 0 0, .slice none 0 0, .slice none 0 0] 28)).alloc (Obj.cells #[.slice none 0 0, .slice none 0 0, .slice none 0 0] 28)) := ⟨_, rfl⟩
  have hs0 : w0.heap.size = w.heap.size + 3 := by rw [hw0]; simp
  have b0 : Below w.heap.size w w0 := by rw [hw0]; exact (((Below.refl _ _).alloc (Nat.le_refl _) _).alloc (by simp) _).alloc (by simp; omega) _
  have a0 : CdAt w0 w.heap.size adO O.length cO adM Ms.length cM adT T.length cT := by rw [hw0]; refine ⟨?_, ?_, ?_⟩ <;> simp [go_sem]
  have c0 : CdAt w0 (w.heap.size + 1) none 0 0 none 0 0 none 0 0 := by rw [hw0]; refine ⟨?_, ?_, ?_⟩ <;> simp [go_sem]
  have g0 : ∀ i, w0.frozen? ⟨w.heap.size + 1, i, none⟩ = false := by intro i; rw [hw0]; simp [go_sem]
  have d0 : CdAt w0 (w.heap.size + 1 + 1) none 0 0 none 0 0 none 0 0 := by rw [hw0]; refine ⟨?_, ?_, ?_⟩ <;> simp [go_sem]
  have e0 : ∀ i, w0.frozen? ⟨w.heap.size + 1 + 1, i, none⟩ = false := by intro i; rw [hw0]; simp [go_sem]
  rw [← hw0]
  clear hw0
  refine (toBools adO O.length cO (fun i => O.getD i false) w0 (vO.below b0 (Nat.le_refl _)) hO (fun x h hp => by have := lO x h hp; omega)).mono ?_
  rintro e w1 ⟨rfl, F⟩
  obtain ⟨bO, hbO⟩ : ∃ n, w0.heap.size = n := ⟨_, rfl⟩
  rw [hbO] at F ⊢
  have hbO' : w.heap.size + 3 ≤ bO := by omega
  obtain ⟨f1, f2, f3, f4, f5⟩ := F
  have a1 := a0.below f1 (by omega)
  have c1 := c0.below f1 (by omega)
  have g1 := fz_below g0 f1 (by omega)
  have d1 := d0.below f1 (by omega)
  have e1 := fz_below e0 f1 (by omega)
  have B1 : Below w.heap.size w w1 := b0.trans (f1.mono (by omega))
  clear a0 c0 g0 d0 e0 b0 hs0 hbO
  obtain ⟨a11, a12, a13⟩ := a1
  obtain ⟨d11, d12, d13⟩ := d1
  have e10 := e1 0
  go_wp2_with fail
  go_at_call 67
  obtain ⟨y1, hy1⟩ : ∃ y, y = w1.setCell ⟨w.heap.size + 1 + 1, 0, none⟩ (.slice (some ⟨bO, 0, none⟩) O.length O.length) := ⟨_, rfl⟩
  have hy1s : y1.heap.size = w1.heap.size := by rw [hy1]; simp
  have hy1h : ∀ j, j ≠ w.heap.size + 1 + 1 → y1.heap[j]? = w1.heap[j]? := fun j hj => by rw [hy1]; exact Below.heap_setCell _ _ _ _ hj
  have d1' : CdAt y1 (w.heap.size + 1 + 1) (some ⟨bO, 0, none⟩) O.length O.length none 0 0 none 0 0 := by
    rw [hy1]; exact ⟨cell_set_same ⟨_, d11⟩, (cell_set_ne (by omega)).trans d12, (cell_set_ne (by omega)).trans d13⟩
  have e1' : ∀ i, y1.frozen? ⟨w.heap.size + 1 + 1, i, none⟩ = false := fun i => by rw [hy1]; simpa using e1 i
  have a1' : CdAt y1 w.heap.size adO O.length cO adM Ms.length cM adT T.length cT := CdAt.same ⟨a11, a12, a13⟩ (hy1h _ (by omega))
  have c1' := c1.same (hy1h _ (by omega))
  have g1' : ∀ i, y1.frozen? ⟨w.heap.size + 1, i, none⟩ = false := fun i => (World.frozen?_of_block (a := ⟨w.heap.size + 1, i, none⟩) (hy1h _ (by show w.heap.size + 1 ≠ w.heap.size + 1 + 1; omega))).trans (g1 i)
  have B1' : Below w.heap.size w y1 := by rw [hy1]; exact B1.setCell (by show w.heap.size ≤ w.heap.size + 1 + 1; omega) _
  rw [← hy1]
  clear hy1 d11 d12 d13 e10 e1 a11 a12 a13 c1 g1
  refine (toMs adM cM Ms y1 (vM.below B1' (Nat.le_refl _)) hM hMs).mono ?_
  rintro e w2 ⟨Ns, rfl, F2⟩
  obtain ⟨bM, hbM⟩ : ∃ n, y1.heap.size = n := ⟨_, rfl⟩
  rw [hbM] at F2 ⊢
  have hbM' : bO < bM := by omega
  have a2 := a1'.below F2.bel (by omega)
  have c2 := c1'.below F2.bel (by omega)
  have g2 := fz_below g1' F2.bel (by omega)
  have d2 := d1'.below F2.bel (by omega)
  have e2 := fz_below e1' F2.bel (by omega)
  have s2 := F2.bel.size
  have B2 : Below w.heap.size w w2 := B1'.trans (F2.bel.mono (by omega))
  clear a1' c1' g1' d1' e1' B1 B1'
  obtain ⟨a21, a22, a23⟩ := a2
  obtain ⟨d21, d22, d23⟩ := d2
  have e21 := e2 1
  go_wp2_with fail
  go_at_call 68
  obtain ⟨y2, hy2⟩ : ∃ y, y = w2.setCell ⟨w.heap.size + 1 + 1, 1, none⟩ (.slice (some ⟨bM, 0, none⟩) Ms.length Ms.length) := ⟨_, rfl⟩
  have hy2s : y2.heap.size = w2.heap.size := by rw [hy2]; simp
  have hy2h : ∀ j, j ≠ w.heap.size + 1 + 1 → y2.heap[j]? = w2.heap[j]? := fun j hj => by rw [hy2]; exact Below.heap_setCell _ _ _ _ hj
  have d2' : CdAt y2 (w.heap.size + 1 + 1) (some ⟨bO, 0, none⟩) O.length O.length (some ⟨bM, 0, none⟩) Ms.length Ms.length none 0 0 := by
    rw [hy2]; exact ⟨(cell_set_ne (by omega)).trans d21, cell_set_same ⟨_, d22⟩, (cell_set_ne (by omega)).trans d23⟩
  have e2' : ∀ i, y2.frozen? ⟨w.heap.size + 1 + 1, i, none⟩ = false := fun i => by rw [hy2]; simpa using e2 i
  have c2' := c2.same (hy2h _ (by omega))
  have g2' : ∀ i, y2.frozen? ⟨w.heap.size + 1, i, none⟩ = false := fun i => (World.frozen?_of_block (a := ⟨w.heap.size + 1, i, none⟩) (hy2h _ (by show w.heap.size + 1 ≠ w.heap.size + 1 + 1; omega))).trans (g2 i)
  have B2' : Below w.heap.size w y2 := by rw [hy2]; exact B2.setCell (by show w.heap.size ≤ w.heap.size + 1 + 1; omega) _
  rw [← hy2]
  clear hy2 d21 d22 d23 e21 e2 a21 a22 a23 c2 g2
  refine (toHS adT cT T y2 (vT.below lT B2') hT (lT.le B2'.size)).mono ?_
  rintro e w3 ⟨rfl, F3⟩
  obtain ⟨bT, hbT⟩ : ∃ n, y2.heap.size = n := ⟨_, rfl⟩
  rw [hbT] at F3 ⊢
  have hbT' : bM < bT := by have := F2.lt; omega
  have c3 := c2'.below F3.1 (by omega)
  have g3 := fz_below g2' F3.1 (by omega)
  have d3 := d2'.below F3.1 (by omega)
  have e3 := fz_below e2' F3.1 (by omega)
  have s3 := F3.1.size
  have B3 : Below w.heap.size w w3 := B2'.trans (F3.1.mono (by omega))
  clear c2' g2' d2' e2' B2 B2'
  obtain ⟨c31, c32, c33⟩ := c3
  obtain ⟨d31, d32, d33⟩ := d3
  have e32 := e3 2
  have g30 := g3 0
  have g31 := g3 1
  have g32 := g3 2
  have hv := F3.view
  have hr := F3.room
  have F3b := F3.1
  have F3l := F3.2.1
  have own2 := F2.own
  have nb2 := F2.nb
  have l2 := F2.lt
  have bel2 := F2.bel
  clear F3 F2 vM vO vT g3 e3
  go_wp2
  refine bodyPost_ret (v := .agg #[.slice (some ⟨bO, 0, none⟩) O.length O.length, .slice (some ⟨bM, 0, none⟩) Ms.length Ms.length, .slice (some ⟨bT, 0, none⟩) T.length T.length]) (by simp [results, Tryz.results23, go_sem, *]) rfl ⟨bO, bM, bT, rfl, ?_, ?_⟩
  rotate_left
  · exact (((B3.setCell (by show w.heap.size ≤ w.heap.size + 1 + 1; omega) _).setCell (by simp) _).setCell (by simp) _).setCell (by simp) _
  obtain ⟨z, hz⟩ : ∃ z, z = ((((w3.setCell ⟨w.heap.size + 1 + 1, 2, none⟩ (.slice (some ⟨bT, 0, none⟩) T.length T.length)).setCell ⟨w.heap.size + 1, 0, none⟩ (.slice (some ⟨bO, 0, none⟩) O.length O.length)).setCell ⟨w.heap.size + 1, 1, none⟩ (.slice (some ⟨bM, 0, none⟩) Ms.length Ms.length)).setCell ⟨w.heap.size + 1, 2, none⟩ (.slice (some ⟨bT, 0, none⟩) T.length T.length)) := ⟨_, rfl⟩
  rw [← hz]
  have zh : ∀ j, w.heap.size + 3 ≤ j → z.heap[j]? = w3.heap[j]? := fun j hj => by
    rw [hz, heap_set3 (by omega)]; exact Below.heap_setCell _ _ _ _ (by show j ≠ w.heap.size + 1 + 1; omega)
  have zs : z.heap.size = w3.heap.size := by rw [hz]; simp
  clear hz
  have zO : z.heap[bO]? = w1.heap[bO]? := by
    rw [zh _ (by omega), F3b.block _ (by omega), hy2h _ (by omega), bel2.block _ (by omega), hy1h _ (by omega)]
  have zM : ∀ j, bM ≤ j → j < bT → z.heap[j]? = w2.heap[j]? := fun j h1 h2 => by
    rw [zh _ (by omega), F3b.block _ (by omega), hy2h _ (by omega)]
  have inN : ∀ x ∈ (bM :: (List.range Ms.length).map Ns), bM ≤ x ∧ x < bT := fun x hx => by
    simp only [List.mem_cons, List.mem_map, List.mem_range] at hx
    rcases hx with rfl | ⟨j, hj, rfl⟩
    · omega
    · have := nb2 j hj; omega
  refine ⟨ViewB.mk0 fun i hi => (World.cell?_of_block (a := ⟨bO, i, none⟩) zO).trans (f5 i hi), fun _ => ⟨bO, 0, rfl, fun i hi => ?_⟩, fun x e _ => by cases e; exact ⟨by show w.heap.size ≤ bO; omega, by show bO < _; omega⟩, ⟨cpy Ms Ns, bM :: (List.range Ms.length).map Ns, cpy_d Ms Ns, ?_, fun x hx => ?_, fun x e _ => ?_, fun x e _ => ?_⟩, hv.carry (fun x e _ => by cases e; exact zh _ (by show w.heap.size + 3 ≤ bT; omega)), hr.carry (fun x e _ => by cases e; exact zh _ (by show w.heap.size + 3 ≤ bT; omega)), fun x e _ => by cases e; exact ⟨by show w.heap.size ≤ bT; omega, by show bT < _; omega⟩, fun x y e1 e2 _ _ => by cases e1; cases e2; show bO ≠ bT; omega⟩
  · rw [Nat.zero_add]
    exact ⟨⟨_, (World.cell?_of_block (a := ⟨bO, i, none⟩) zO).trans (f5 i hi)⟩, (World.frozen?_of_block (a := ⟨bO, i, none⟩) zO).trans (f4 i hi)⟩
  · exact own2.keep (fun x hx => by have := inN x hx; exact zM x this.1 this.2)
  · have := inN x hx; omega
  · cases e; intro hx; have := inN _ hx; simp at this; omega
  · cases e; intro hx; have := inN _ hx; simp at this
theorem toC (adO : Option Addr) (cO : Nat) (O : List Bool) (adM : Option Addr) (cM : Nat) (D : DL) (adT : Option Addr) (cT : Nat) (T : List Hd) (lo hi : Nat) (w : World) (I : CdV w lo hi adO O adM D adT T) (ht : hi ≤ w.heap.size) (hl : O.length + totD D + T.length ≤ 1048576) :
    Calls Tryz.prog 23 #[.agg #[.slice adO O.length cO, .slice adM D.length cM, .slice adT T.length cT]] w fun e w' => OwnC w O D T e w' := (toCS adO cO O adM cM D adT cT T lo hi w I ht hl).mono fun e w' h => h.own
set_option maxHeartbeats 1000000 in
theorem eqC (adO : Option Addr) (cO : Nat) (O : List Bool) (adM : Option Addr) (cM : Nat) (D : DL) (adT : Option Addr) (cT : Nat) (T : List Hd) (adO' : Option Addr) (cO' : Nat) (adM' : Option Addr) (cM' : Nat) (adT' : Option Addr) (cT' : Nat) (lo hi lo' hi' : Nat) (w : World) (I : CdV w lo hi adO O adM D adT T) (I' : CdV w lo' hi' adO' O adM' D adT' T) (ht : hi ≤ w.heap.size) (ht' : hi' ≤ w.heap.size) (hl : O.length + totD D + T.length ≤ 1048576) :
    Calls Tryz.prog 25 #[.agg #[.slice adO O.length cO, .slice adM D.length cM, .slice adT T.length cT], .agg #[.slice adO' O.length cO', .slice adM' D.length cM', .slice adT' T.length cT']] w fun e w' => e = .returned (.bool true) ∧ Below w.heap.size w w' := by
  obtain ⟨Ms, rfl, vM, iM, jM⟩ := I.vM
  obtain ⟨Ms', hd, vM', iM', jM'⟩ := I'.vM
  have hlen : Ms'.length = Ms.length := by have := congrArg List.length hd; simpa using this
  rw [tot_siz, ← lTo_siz, List.length_map] at hl
  rw [List.length_map]
  have hMs : ∀ i, i < Ms.length → (Ms.getD i Mb.nil).L.length ≤ 1048576 := fun i hi => Nat.le_trans (getL_le Ms hi) (by omega)
  have iO := I.iO
  have iO' := I'.iO
  have iT : HIs adT T (· < w.heap.size) := fun a e p => by have := I.iT a e p; show a.block < _; omega
  have iT' : HIs adT' T (· < w.heap.size) := fun a e p => by have := I'.iT a e p; show a.block < _; omega
  obtain ⟨x0, hx⟩ : ∃ x, x = (w.alloc (Obj.cells #[.slice adO O.length cO, .slice adM Ms.length cM, .slice adT T.length cT] 28)).alloc (Obj.cells #[.slice adO' O.length cO', .slice adM' Ms.length cM', .slice adT' T.length cT'] 28) := ⟨_, rfl⟩
  have B0 : Below w.heap.size w x0 := by rw [hx]; exact ((Below.refl _ _).alloc (Nat.le_refl _) _).alloc (by simp) _
  have T0 : w.heap.size + 1 < x0.heap.size := by rw [hx]; simp
  have A0 : CdAt x0 w.heap.size adO O.length cO adM Ms.length cM adT T.length cT := by rw [hx]; refine ⟨?_, ?_, ?_⟩ <;> simp [go_sem]
  have A0' : CdAt x0 (w.heap.size + 1) adO' O.length cO' adM' Ms.length cM' adT' T.length cT' := by rw [hx]; refine ⟨?_, ?_, ?_⟩ <;> simp [go_sem]
  go_enter Tryz.func25, Tryz.ntmps25
  go_wp2_with fail
  go_at_call 70
  rw [← hx]
  clear hx
  refine (eqBools adO adO' O.length cO cO' (fun i => O.getD i false) x0 (I.vO.below B0 (Nat.le_refl _)) (I'.vO.below B0 (Nat.le_refl _)) (by omega)).mono ?_
  rintro e w1 ⟨rfl, n, rfl⟩
  have B1 : Below w.heap.size w (x0.drewN n) := below_drewN' B0 n
  have A1 : CdAt (x0.drewN n) w.heap.size adO O.length cO adM Ms.length cM adT T.length cT := A0
  have A1' : CdAt (x0.drewN n) (w.heap.size + 1) adO' O.length cO' adM' Ms.length cM' adT' T.length cT' := A0'
  have T1 : w.heap.size + 1 < (x0.drewN n).heap.size := T0
  generalize hz : x0.drewN n = z at *
  clear hz A0 A0' T0 B0
  have A2 := A1
  have A2' := A1'
  obtain ⟨X1, X2, X3⟩ := A2
  obtain ⟨Y1, Y2, Y3⟩ := A2'
  go_wp2_with fail
  go_at_call 71
  have q := eqMs adM adM' cM cM' Ms Ms' z (vM.below B1 (Nat.le_refl _)) (vM'.below B1 (Nat.le_refl _)) hd (by omega) hMs
  rw [hlen] at q
  refine q.mono ?_
  rintro e w2 ⟨rfl, k2⟩
  clear q X1 X2 X3 Y1 Y2 Y3
  have B2 := B1.trans (k2.mono B1.size)
  obtain ⟨X1, X2, X3⟩ := A1.below k2 (by omega)
  obtain ⟨Y1, Y2, Y3⟩ := A1'.below k2 (by omega)
  go_wp2_with fail
  go_at_call 72
  refine (eqHS adT adT' cT cT' T w2 (I.vT.below iT B2) (I'.vT.below iT' B2) (by omega) (iT.le B2.size) (iT'.le B2.size)).mono ?_
  rintro e w3 ⟨rfl, k3⟩
  go_wp2
  go_ret
  exact ⟨rfl, B2.trans (k3.mono B2.size)⟩
/-- A card that bears the marks from k0 on, t of them. -/
structure CdH (w : World) (lo hi : Nat) (adO : Option Addr) (nO : Nat) (adM : Option Addr) (nM : Nat) (adT : Option Addr) (nT : Nat) (k0 t : Int) : Prop where
  vO : ViewB w adO nO (fun i => mkB (k0 + i))
  iO : ∀ x, adO = some x → 0 < nO → lo ≤ x.block ∧ x.block < hi
  vM : ∃ Ms : List Mb, Ms.length = nM ∧ MbV w adM Ms ∧ (∀ i, i < Ms.length → (Ms.getD i Mb.nil).o = k0 + (nO : Int) + (kTo Ms i : Int) ∧ (Ms.getD i Mb.nil).L = seqI (k0 + (nO : Int) + (kTo Ms i : Int) + 1) (Ms.getD i Mb.nil).L.length) ∧ nO + kTo Ms Ms.length + nT ≤ 1048576 ∧ (∀ x, adM = some x → 0 < Ms.length → lo ≤ x.block ∧ x.block < hi) ∧ (∀ i, i < Ms.length → ∀ x, (Ms.getD i Mb.nil).ad = some x → 0 < (Ms.getD i Mb.nil).L.length → lo ≤ x.block ∧ x.block < hi) ∧ HView w adT (mksH (k0 + (nO : Int) + (kTo Ms Ms.length : Int)) nT) ∧ t = (nO : Int) + (kTo Ms Ms.length : Int) + 4 * (nT : Int)
  iT : ∀ x, adT = some x → 0 < nT → lo ≤ x.block ∧ x.block < hi
theorem CdH.keep {w w' : World} {lo hi : Nat} {adO : Option Addr} {nO : Nat} {adM : Option Addr} {nM : Nat} {adT : Option Addr} {nT : Nat} {k0 t : Int} (h : CdH w lo hi adO nO adM nM adT nT k0 t) (k : ∀ j, lo ≤ j → j < hi → w'.heap[j]? = w.heap[j]?) : CdH w' lo hi adO nO adM nM adT nT k0 t := by
  obtain ⟨Ms, e, m, f0, fl, f1, f2, vT, et⟩ := h.vM
  exact ⟨h.vO.carry (fun x q p => k _ (h.iO x q p).1 (h.iO x q p).2), h.iO, ⟨Ms, e, m.carry (fun x q p => k _ (f1 x q p).1 (f1 x q p).2) (fun i hi x q p => k _ (f2 i hi x q p).1 (f2 i hi x q p).2), f0, fl, f1, f2, vT.carry (fun x q p => by rw [mksH_len] at p; exact k _ (h.iT x q p).1 (h.iT x q p).2), et⟩, h.iT⟩
theorem CdH.below {w w' : World} {lo hi B : Nat} {adO : Option Addr} {nO : Nat} {adM : Option Addr} {nM : Nat} {adT : Option Addr} {nT : Nat} {k0 t : Int} (h : CdH w lo hi adO nO adM nM adT nT k0 t) (k : Below B w w') (hB : hi ≤ B) : CdH w' lo hi adO nO adM nM adT nT k0 t := h.keep fun j _ hj => k.block _ (by omega)
set_option maxHeartbeats 1000000 in
theorem markC (adO : Option Addr) (cO : Nat) (O : List Bool) (adM : Option Addr) (cM : Nat) (D : DL) (adT : Option Addr) (cT : Nat) (T : List Hd) (lo hi : Nat) (k0 : Int) (w : World) (I : CdW w lo hi adO O adM D adT T) (ht : hi ≤ w.heap.size) (hl : O.length + totD D + T.length ≤ 1048576) (hk0 : 0 ≤ k0) (hk1 : k0 ≤ 10000000) :
    Calls Tryz.prog 28 #[.agg #[.slice adO O.length cO, .slice adM D.length cM, .slice adT T.length cT], .int .i64 k0] w fun e w' => e = .returned (.int .i64 (k0 + ((O.length : Int) + (totD D : Int) + 4 * (T.length : Int)))) ∧ CdH w' lo hi adO O.length adM D.length adT T.length k0 ((O.length : Int) + (totD D : Int) + 4 * (T.length : Int)) ∧ KeptR lo hi w w' := by
  obtain ⟨Ms, fp, rfl, vM, inF, aO, aT⟩ := I.vM
  have hkt := kTo_tot Ms
  have hkl := kTo_lTo Ms Ms.length
  rw [List.length_map, ← hkt]
  rw [← hkt] at hl
  have lO : O.length ≤ 1048576 := by omega
  have lM : Ms.length ≤ 1048576 := by omega
  have lL : lTo Ms Ms.length ≤ 1048576 := by omega
  have lT : T.length ≤ 1048576 := by omega
  obtain ⟨kM, hkM⟩ : ∃ n : Nat, Hid (kTo Ms Ms.length = n) := ⟨_, rfl⟩
  rw [hkM.out] at hl ⊢
  have rO := I.rO
  have rT := I.rT
  have iO := I.iO
  have iT := I.iT
  have apart := I.apart
  clear hkt hkl I
  obtain ⟨x0, hx⟩ : ∃ x, x = w.alloc (Obj.cells #[.slice adO O.length cO, .slice adM Ms.length cM, .slice adT T.length cT] 28) := ⟨_, rfl⟩
  have B0 : Below w.heap.size w x0 := by rw [hx]; exact below_box w _
  have A0 : CdAt x0 w.heap.size adO O.length cO adM Ms.length cM adT T.length cT := by rw [hx]; exact CdAt.box _ _ _ _ _ _ _ _ _ _ _
  have T0 : w.heap.size < x0.heap.size := A0.lt
  have vM0 := vM.keep (w' := x0) (fun x hx => B0.block _ (by have := inF x hx; omega))
  have rO0 := rO.carry (w' := x0) (fun x e p => B0.block _ (by have := iO x e p; omega))
  have rT0 := rT.carry (w' := x0) (fun x e p => B0.block _ (by have := iT x e p; omega))
  clear vM rO rT
  go_enter Tryz.func28, Tryz.ntmps28
  go_wp2_with fail
  go_at_call 75
  rw [← hx]
  clear hx
  refine (markBools adO O.length cO k0 x0 rO0 lO hk0 (by omega)).mono ?_
  rintro e w1 ⟨rfl, v1, r1, m1⟩
  have z1 := mark_size m1
  have A1 := A0.same (mark_block m1 T0 (fun a e p => by have := iO a e p; omega))
  have vM1 := vM0.keep (w' := w1) (fun x hx => mark_block m1 (by have := inF x hx; omega) (fun a e p => by have := aO a e p; intro q; rw [q] at this; exact this hx))
  have rT1 := rT0.carry (w' := w1) (fun x e p => mark_block m1 (by have := iT x e p; omega) (fun a q r => apart a x q e r p))
  have K1 : KeptR lo hi x0 w1 := KeptR.of_mark m1 iO
  clear rO0 vM0 rT0 A0 m1 r1
  have A1' := A1
  obtain ⟨X1, X2, X3⟩ := A1'
  go_wp2_with fail
  go_at_call 76
  refine (markMs adM cM Ms fp (k0 + (O.length : Int)) w1 vM1 lM lL (by omega) (by omega)).mono ?_
  rintro e w2 ⟨rfl, vM2, K2⟩
  rw [hkM.out]
  clear X1 X2 X3
  have z2 := K2.size
  have A2 := A1.same (K2.block _ (by omega) (fun q => by have := inF _ q; omega))
  have v2 := v1.carry (w' := w2) (fun x e p => K2.block _ (by have := iO x e p; omega) (aO x e p))
  have rT2 := rT1.carry (w' := w2) (fun x e p => K2.block _ (by have := iT x e p; omega) (aT x e p))
  have K2' : KeptR lo hi x0 w2 := K1.trans (KeptR.of_F K2 inF)
  clear v1 vM1 rT1 A1 K1 K2
  obtain ⟨X1, X2, X3⟩ := A2
  go_wp2_with fail
  go_at_call 77
  refine (markHG adT T.length cT (k0 + (O.length : Int) + (kM : Int)) w2 rT2 lT (by omega) (by omega)).mono ?_
  rintro e w3 ⟨rfl, vT, _, m3⟩
  have z3 := mark_size m3
  have v3 := v2.carry (w' := w3) (fun x e p => mark_block m3 (by have := iO x e p; omega) (fun a q r => (apart x a e q p r).symm))
  have vM3 := vM2.keep (w' := w3) (fun x hx => mark_block m3 (by have := inF x hx; omega) (fun a e p => by have := aT a e p; intro q; rw [q] at this; exact this hx))
  have K3 : KeptR lo hi w w3 := (KeptR.of_below B0).trans (K2'.trans (KeptR.of_mark m3 iT))
  clear v2 vM2 rT2 K2' m3
  have kk := kTo_marks Ms (k0 + (O.length : Int)) Ms.length Ms.length (Nat.le_refl _)
  have kl := marks_length Ms (k0 + (O.length : Int)) Ms.length
  go_wp2
  go_ret
  refine ⟨?_, ⟨v3, iO, ⟨marksM Ms (k0 + (O.length : Int)) Ms.length, kl, vM3.view, marks_held Ms _, ?_, fun x e p => inF _ (vM3.rowIn x e p), fun i hi x e p => inF _ (vM3.nestIn i hi x e p), ?_, ?_⟩, iT⟩, K3⟩
  · simp only [Int.add_assoc]; rfl
  · rw [kl, kk, hkM.out]; exact hl
  · rw [kl, kk, hkM.out]; exact vT
  · rw [kl, kk, hkM.out]
set_option maxHeartbeats 1000000 in
theorem heldC (adO : Option Addr) (nO cO : Nat) (adM : Option Addr) (nM cM : Nat) (adT : Option Addr) (nT cT : Nat) (lo hi : Nat) (k0 t : Int) (w : World) (I : CdH w lo hi adO nO adM nM adT nT k0 t) (ht : hi ≤ w.heap.size) (hk0 : 0 ≤ k0) (hk1 : k0 ≤ 10000000) :
    Calls Tryz.prog 31 #[.agg #[.slice adO nO cO, .slice adM nM cM, .slice adT nT cT], .int .i64 k0] w fun e w' => e = .returned (.int .i64 (k0 + t)) ∧ Below w.heap.size w w' := by
  obtain ⟨Ms, rfl, vM, hM, fl, iM, jM, vT, rfl⟩ := I.vM
  have hkl := kTo_lTo Ms Ms.length
  obtain ⟨kM, hkM⟩ : ∃ n : Nat, Hid (kTo Ms Ms.length = n) := ⟨_, rfl⟩
  have lL : lTo Ms Ms.length ≤ 1048576 := by omega
  have lM : Ms.length ≤ 1048576 := by omega
  rw [hkM.out] at fl vT ⊢
  have vO := I.vO
  have iT := I.iT
  clear hkl
  obtain ⟨x0, hx⟩ : ∃ x, x = w.alloc (Obj.cells #[.slice adO nO cO, .slice adM Ms.length cM, .slice adT nT cT] 28) := ⟨_, rfl⟩
  have B0 : Below w.heap.size w x0 := by rw [hx]; exact below_box w _
  have A0 : CdAt x0 w.heap.size adO nO cO adM Ms.length cM adT nT cT := by rw [hx]; exact CdAt.box _ _ _ _ _ _ _ _ _ _ _
  have hn1 : ¬ k0 + (nO : Int) < 0 := by omega
  have hn2 : ¬ k0 + (nO : Int) + (kM : Int) < 0 := by omega
  have hn3 : ¬ k0 + (nO : Int) + (kM : Int) + 4 * (nT : Int) < 0 := by omega
  have vT0 : HView x0 adT (mksH (k0 + (nO : Int) + (kM : Int)) nT) := vT.carry (fun x e p => B0.block _ (by rw [mksH_len] at p; have := iT x e p; omega))
  go_enter Tryz.func31, Tryz.ntmps31
  go_wp2_with fail
  go_at_call 79
  rw [← hx]
  clear hx
  refine (heldBools adO nO cO k0 x0 (vO.below B0 (Nat.le_refl _)) (by omega) hk0 (by omega)).mono ?_
  rintro e w1 ⟨rfl, rfl⟩
  obtain ⟨X1, X2, X3⟩ := A0
  go_wp2_with fail
  go_at_call 80
  refine (heldMs adM cM Ms (k0 + (nO : Int)) w1 (vM.below B0 (Nat.le_refl _)) hM lM lL (by omega) (by omega)).mono ?_
  rintro e w2 ⟨rfl, rfl⟩
  rw [hkM.out]
  go_wp2_with fail
  go_at_call 81
  refine (heldHG adT nT cT (k0 + (nO : Int) + (kM : Int)) w2 vT0 (by omega) (by omega) (by omega)).mono ?_
  rintro e w3 ⟨rfl, rfl⟩
  go_wp2
  go_ret
  exact ⟨by simp only [Int.add_assoc]; rfl, B0⟩

end Go.Proofs.YtifndemkkaelaaaGreat
