/- spec.Pass, walked. -/
import Derived.Test.YtifndemkkaelaaaGreatRows
import Derived.WalkKit
import Derived.ProofKit
import Derived.OpenShut
import Derived.ShutString
import Derived.ChangeOld
import Derived.Below
import Derived.Deep.QuietTactic
import Derived.BigQuiet
import Derived.WalkSmall
import Derived.Laws.OwnMore
import Derived.WalkSpells
import Derived.WalkLawsBesides
import Derived.Laws.AppendOwnNone
import Derived.Laws.CopyOwn
import Derived.Maps.AppendAt
import Derived.Test.YtifndemkkaelaaaGreatZl16
import Derived.Test.YtifndemkkaelaaaGreatZlHear3
import Derived.Test.YtifndemkkaelaaaGreatZlCopy3
import Derived.Test.YtifndemkkaelaaaGreatZlInside2
import Derived.Test.YtifndemkkaelaaaGreatZl21
import Derived.Test.YtifndemkkaelaaaGreatZl1
namespace Go.Proofs.YtifndemkkaelaaaGreat
open Go.ChangeShapes Go.WideShapes Go.ChangeAt Go.RowKit
open Go.ChangeMaps (open_string shut_string)
set_option linter.unusedVariables false
set_option maxRecDepth 100000

theorem Tryz.info43' : (Tryz.prog.info? 43).map (fun i => (i.zero, i.size, i.bytes)) = some (some (.agg #[.int .i64 0, .int .i64 0, .int .i64 0, .int .i64 0, .slice none 0 0]), 5, 56) := by kernel_rfl
theorem Tryz.underlying33 : Tryz.prog.underlying 33 = some (.slice 43) := by kernel_rfl
theorem Go_refl (w : World) (r : Option Nat) : w.grownBy w r := ⟨rfl, rfl, rfl, Nat.le_refl _, fun _ _ _ => rfl⟩
theorem grownV {x w w1 w2 : World} {B : Nat} {r : Option Nat} (h : x.grownBy w (some B)) (k1 : Below w.heap.size w w1) (g : w1.grownBy w2 r) (hv : ∀ j, r = some j → j = B ∨ x.heap.size ≤ j) : x.grownBy w2 (some B) := by
  have s1 := h.size
  have s2 := k1.size
  have s3 := g.size
  refine ⟨g.os.trans (k1.os.trans h.os), g.tape.trans (k1.tape.trans h.tape), g.output.trans (k1.output.trans h.output), by omega, fun j hj hn => (g.block j (by omega) (fun q => ?_)).trans ((k1.block j (by omega)).trans (h.block j hj hn))⟩
  rcases hv j q.symm with e | e
  · exact hn (by rw [e])
  · omega
theorem own_zero {w : World} {base E k n m cap : Nat} {ad : Option Addr} {xs : List Value} (h : w.ownsRow base E k (.slice ad m cap) n xs) : ad = none → cap = 0 := fun e => by
  rcases h.2 with ⟨q, _⟩ | ⟨g, c, cur, q, _⟩
  · cases q; rfl
  · rw [e] at q; cases q
set_option maxRecDepth 100000 in
set_option maxHeartbeats 64000000 in
theorem passS (adO : Option Addr) (cO : Nat) (O : List Bool) (adM : Option Addr) (cM : Nat) (D : DL) (adT : Option Addr) (cT : Nat) (T : List Hd) (p : Int) (a b c : Int) (adL : Option Addr) (capL : Nat) (L : List Int) (lo hi : Nat) (w : World) (I : CdV w lo hi adO O adM D adT T) (ht : hi ≤ w.heap.size) (hl : O.length + totD D + T.length ≤ 1048576) (hp : (Lit.int .i64 p).wf = true) (zO : adO = none → cO = 0) (zT : adT = none → cT = 0) (hvL : View w adL L.length (fun i => L.getD i 0)) (hlL : L.length ≤ 1048576) (zL : adL = none → capL = 0) :
    Calls Tryz.prog 9 #[.agg #[.slice adO O.length cO, .slice adM D.length cM, .slice adT T.length cT], .int .i64 p, .agg #[.int .i64 a, .int .i64 b, .int .i64 c, .slice adL L.length capL]] w fun e w' => ViewP w O D (pTab O D T p a b c L) (pOuts O D T p a b c L) e w' := by
  obtain ⟨i1, hj, hy0, hy1, hy2⟩ := info_parts Tryz.info43'
  have lO : O.length ≤ 1048576 := by omega
  have hpb := wf_bounds hp
  obtain ⟨x0, hx⟩ : ∃ x, x = ((w.alloc (Obj.cells #[.slice adO O.length cO, .slice adM D.length cM, .slice adT T.length cT] 28)).alloc (Obj.cells #[.int .i64 a, .int .i64 b, .int .i64 c, .slice adL L.length capL] 30)).alloc (Obj.cells #[.slice none 0 0, .slice none 0 0, .slice none 0 0] 28) := ⟨_, rfl⟩
  obtain ⟨P, hP⟩ : ∃ P, P = w.heap.size := ⟨_, rfl⟩
  have B0 : Below w.heap.size w x0 := by rw [hx]; exact (((Below.refl _ _).alloc (Nat.le_refl _) _).alloc (by simp) _).alloc (by simp; omega) _
  have A0 : CdAt x0 P adO O.length cO adM D.length cM adT T.length cT := by rw [hx, hP]; refine ⟨?_, ?_, ?_⟩ <;> simp [go_sem]
  have Q0 : FrameAt x0 (P + 1) a b c adL L.length capL := by rw [hx, hP]; refine ⟨?_, ?_, ?_, ?_⟩ <;> simp [go_sem]
  have C0 : CdAt x0 (P + 1 + 1) none 0 0 none 0 0 none 0 0 := by rw [hx, hP]; refine ⟨?_, ?_, ?_⟩ <;> simp [go_sem]
  have F0 : ∀ i, x0.frozen? ⟨P + 1 + 1, i, none⟩ = false := by intro i; rw [hx, hP]; simp [go_sem]
  have P1 : P + 1 + 1 < x0.heap.size := C0.lt
  have hPw : w.heap.size ≤ P := by omega
  have I0 := I.below B0 ht
  have ht0 : hi ≤ P := by omega
  have vL0 := hvL.carry (w' := x0) (fun x e q => B0.block _ (hvL.lt x e q))
  clear I hvL
  go_enter Tryz.func9, Tryz.ntmps9
  go_wp2_with fail
  go_at_call 44
  rw [← hx, ← hP]
  clear hx hP
  refine (l5Copy adO cO O adM cM D adT cT T lo hi x0 I0 (by omega) hl zO zT).mono ?_
  rintro e x1 ⟨aO, kO, aM, kM, aT, kT, rfl, W1, k1⟩
  have s1 := k1.size
  have A1 := A0.below k1 (by omega)
  have Q1 := Q0.below k1 (by omega)
  have C1 := C0.below k1 (by omega)
  have F1 := fz_below F0 k1 (by omega)
  have I1 := I0.below k1 (by omega)
  have B1 := B0.trans (k1.mono B0.size)
  have vL1 := vL0.carry (w' := x1) (fun x e q => k1.block _ (vL0.lt x e q))
  obtain ⟨x2, hx2⟩ : ∃ y, y = (x1.alloc (Obj.cells #[.slice aO O.length kO, .slice aM D.length kM, .slice aT T.length kT] 28)).alloc (Obj.cells #[] 43) := ⟨_, rfl⟩
  obtain ⟨N, hN⟩ : ∃ N, N = x1.heap.size := ⟨_, rfl⟩
  have k2 : Below x1.heap.size x1 x2 := by rw [hx2]; exact ((Below.refl _ _).alloc (Nat.le_refl _) _).alloc (by simp) _
  have N2 : CdAt x2 N aO O.length kO aM D.length kM aT T.length kT := by rw [hx2, hN]; refine ⟨?_, ?_, ?_⟩ <;> simp [go_sem]
  have G2 : ∀ i, x2.frozen? ⟨N, i, none⟩ = false := by intro i; rw [hx2, hN]; simp [go_sem]
  have E2 : x2.ownsRow (N + 1) 43 5 (.slice (some ⟨N + 1, 0, none⟩) 0 0) 0 [] := by
    rw [hx2, hN]
    have := row_empty (x1.alloc (Obj.cells #[.slice aO O.length kO, .slice aM D.length kM, .slice aT T.length kT] 28)) 43 5
    simpa using this
  have hNl : x1.heap.size ≤ N := by omega
  have hN2 : N + 1 < x2.heap.size := (own_lt E2 (N + 1) rfl).2
  have s2 := k2.size
  have A2 := A1.below k2 (by omega)
  have Q2 := Q1.below k2 (by omega)
  have C2 := C1.below k2 (by omega)
  have F2 := fz_below F1 k2 (by omega)
  have I2 := I1.below k2 (by omega)
  have W2 := W1.below k2 (Nat.le_refl _)
  have B2 := B1.trans (k2.mono B1.size)
  have vL2 := vL1.carry (w' := x2) (fun x e q => k2.block _ (vL1.lt x e q))
  clear A0 A1 Q0 Q1 C0 C1 F0 F1 I0 I1 W1 B0 B1 k1 k2 vL0 vL1
  obtain ⟨Y1, Y2, Y3⟩ := A2
  rw [hx2] at Y1 Y2 Y3
  go_wp2_with fail
  go_at_call 16
  have hN' : x1.heap.size + 1 = N + 1 := by omega
  rw [← hx2]
  rw [← hx2] at Y1 Y2 Y3
  rw [← hN]
  have A2 : CdAt x2 P adO O.length cO adM D.length cM adT T.length cT := ⟨Y1, Y2, Y3⟩
  clear hN hN' hx2 Y1 Y2 Y3
  refine (cardOkS adO cO O adM cM D adT cT T lo hi x2 I2 (by omega) hl).mono ?_
  rintro e x5 ⟨rfl, k3⟩
  have s3 := k3.size
  have A5 := A2.below k3 (by omega)
  have Q5 := Q2.below k3 (by omega)
  have C5 := C2.below k3 (by omega)
  have F5 := fz_below F2 k3 (by omega)
  have I5 := I2.below k3 (by omega)
  have N5 := N2.below k3 (by omega)
  have G5 := fz_below G2 k3 (by omega)
  have W5 := W2.below k3 (by omega)
  have E5 := own_below2 E2 k3 (Nat.le_refl _)
  have B5 := B2.trans (k3.mono B2.size)
  have vL5 := vL2.carry (w' := x5) (fun x e q => k3.block _ (vL2.lt x e q))
  clear A2 Q2 C2 F2 I2 N2 G2 W2 B2 k3 E2 vL2
  have h3 : ∀ (y : World) (j : Nat), j ≠ P + 1 + 1 → (((y.setCell ⟨P + 1 + 1, 0, none⟩ (.slice aO O.length kO)).setCell ⟨P + 1 + 1, 1, none⟩ (.slice aM D.length kM)).setCell ⟨P + 1 + 1, 2, none⟩ (.slice aT T.length kT)).heap[j]? = y.heap[j]? := fun y j hj => heap_set3 hj
  have back : ∀ y : World, Below x5.heap.size x5 y → ∃ z : World, z = ((y.setCell ⟨P + 1 + 1, 0, none⟩ (.slice aO O.length kO)).setCell ⟨P + 1 + 1, 1, none⟩ (.slice aM D.length kM)).setCell ⟨P + 1 + 1, 2, none⟩ (.slice aT T.length kT) ∧ z.cell? ⟨P + 1 + 1, 0, none⟩ = some (.slice aO O.length kO) ∧ z.cell? ⟨P + 1 + 1, 1, none⟩ = some (.slice aM D.length kM) ∧ z.cell? ⟨P + 1 + 1, 2, none⟩ = some (.slice aT T.length kT) ∧ ViewP w O D T [] (.returned (.tuple #[.agg #[.slice aO O.length kO, .slice aM (List.length D) kM, .slice aT T.length kT], .slice (some ⟨N + 1, 0, none⟩) 0 0])) z := fun y ky => by
    obtain ⟨c1, c2, c3⟩ := C5.below ky (by omega)
    have sy := ky.size
    have BY := B5.trans (ky.mono B5.size)
    refine ⟨_, rfl, ?_, ?_, ?_, aO, kO, aM, kM, aT, kT, some ⟨N + 1, 0, none⟩, 0, [], rfl, ?_, rfl, ⟨fun h => absurd h (by simp), fun i h => absurd h (by simp), fun i h => absurd h (by simp)⟩, fun x _ h => absurd h (by simp), fun i h => absurd h (by simp), ?_⟩
    · rw [cell_set_ne (by omega), cell_set_ne (by omega)]; exact cell_set_same ⟨_, c1⟩
    · rw [cell_set_ne (by omega)]; exact cell_set_same ⟨_, (cell_set_ne (by omega)).trans c2⟩
    · exact cell_set_same ⟨_, (cell_set_ne (by omega)).trans ((cell_set_ne (by omega)).trans c3)⟩
    · refine ((W5.below ky (by omega)).view.keep (fun j h1 h2 => h3 y j (by omega))).wide (by omega) ?_
      simp; omega
    · exact ((BY.setCell (by show w.heap.size ≤ P + 1 + 1; omega) _).setCell (by show w.heap.size ≤ P + 1 + 1; omega) _).setCell (by show w.heap.size ≤ P + 1 + 1; omega) _
  have N5' := N5
  obtain ⟨n1, n2, n3⟩ := N5'
  have C5' := C5
  obtain ⟨r1, r2, r3⟩ := C5'
  have f0 := F5 0
  have f1 := F5 1
  have f2 := F5 2
  by_cases hC : cOk O D T = true
  rotate_left
  · have hC' : cOk O D T = false := by simpa using hC
    obtain ⟨hpT, hpO⟩ := p_no (O := O) (D := D) (T := T) (p := p) (a := a) (b := b) (c := c) (L := L) (by unfold pIn pGo; rw [hC']; rfl)
    have hpT : Hid _ := hpT
    have hpO : Hid _ := hpO
    rw [hC']
    clear hC hC'
    go_wp2
    obtain ⟨z, hz, q1, q2, q3, hD⟩ := back x5 (Below.refl _ _)
    rw [← hz]
    exact bodyPost_ret (v := .tuple #[.agg #[.slice aO O.length kO, .slice aM (List.length D) kM, .slice aT T.length kT], .slice (some ⟨N + 1, 0, none⟩) 0 0]) (by simp only [results, Tryz.results9]; simp [go_sem, q1, q2, q3]) rfl (by show ViewP _ _ _ _ _ _ _; rw [hpT.out, hpO.out]; exact hD)
  rw [hC]
  have A5' := A5
  obtain ⟨X1, X2, X3⟩ := A5'
  have hw1 : IntKind.i64.wrap ((O.length : Int) - 1) = (O.length : Int) - 1 := wrap_i64' (by omega) (by omega)
  go_wp2_with fail
  go_at_call 45
  refine (inIs p 0 ((O.length : Int) - 1) x5).mono ?_
  rintro e y3 ⟨rfl, hy3⟩
  rw [hy3]
  clear hy3 y3
  have hin : decide (0 ≤ p ∧ p ≤ (O.length : Int) - 1) = decide (0 ≤ p ∧ p < (O.length : Int)) := by
    by_cases q : 0 ≤ p ∧ p < (O.length : Int)
    · rw [decide_eq_true q, decide_eq_true ⟨q.1, by omega⟩]
    · rw [decide_eq_false q, decide_eq_false (fun r => q ⟨r.1, by omega⟩)]
  rw [hin]
  clear hin
  by_cases hQ : 0 ≤ p ∧ p < (O.length : Int)
  rotate_left
  · have hQ' : decide (0 ≤ p ∧ p < (O.length : Int)) = false := decide_eq_false hQ
    obtain ⟨hpT, hpO⟩ := p_no (O := O) (D := D) (T := T) (p := p) (a := a) (b := b) (c := c) (L := L) (by unfold pIn pGo; rw [hC, hQ']; rfl)
    have hpT : Hid _ := hpT
    have hpO : Hid _ := hpO
    rw [hQ']
    clear hC hQ hQ'
    go_wp2
    obtain ⟨z, hz, q1, q2, q3, hD⟩ := back x5 (Below.refl _ _)
    rw [← hz]
    exact bodyPost_ret (v := .tuple #[.agg #[.slice aO O.length kO, .slice aM (List.length D) kM, .slice aT T.length kT], .slice (some ⟨N + 1, 0, none⟩) 0 0]) (by simp only [results, Tryz.results9]; simp [go_sem, q1, q2, q3]) rfl (by show ViewP _ _ _ _ _ _ _; rw [hpT.out, hpO.out]; exact hD)
  have hQ' : decide (0 ≤ p ∧ p < (O.length : Int)) = true := decide_eq_true hQ
  rw [hQ']
  obtain ⟨i, rfl⟩ : ∃ i : Nat, p = (i : Int) := ⟨p.toNat, by omega⟩
  have hi0 : i < O.length := by omega
  obtain ⟨bO, offO, eb, hcO⟩ := I5.vO (by omega)
  subst eb
  have hiO := I5.iO ⟨bO, offO, none⟩ rfl (by omega)
  have hiO' : lo ≤ bO ∧ bO < hi := hiO
  have hOY : ∀ k, k < O.length → ∀ Y, Below x5.heap.size x5 Y → Y.cell? ⟨bO, offO + k, none⟩ = some (.bool (O.getD k false)) := fun k hk Y hY => (hY.cell (p := ⟨bO, offO + k, none⟩) (by show bO < _; omega)).trans (hcO k hk)
  have hci := hOY i hi0 x5 (Below.refl _ _)
  obtain ⟨q, hq⟩ : ∃ q, O.getD i false = q := ⟨_, rfl⟩
  rw [hq] at hci
  have hgo : Hid (pGo O D T (i : Int) = q) := by unfold Hid pGo; rw [hC, hQ', Int.toNat_natCast, hq]; cases q <;> rfl
  clear hcO hiO hQ hQ'
  cases q with
  | false =>
    obtain ⟨hpT, hpO⟩ := p_no (O := O) (D := D) (T := T) (p := (i : Int)) (a := a) (b := b) (c := c) (L := L) (by unfold pIn; rw [hgo.out]; rfl)
    have hpT : Hid _ := hpT
    have hpO : Hid _ := hpO
    clear hC hq hgo
    go_wp2
    obtain ⟨z, hz, q1, q2, q3, hD⟩ := back x5 (Below.refl _ _)
    rw [← hz]
    exact bodyPost_ret (v := .tuple #[.agg #[.slice aO O.length kO, .slice aM (List.length D) kM, .slice aT T.length kT], .slice (some ⟨N + 1, 0, none⟩) 0 0]) (by simp only [results, Tryz.results9]; simp [go_sem, q1, q2, q3]) rfl (by show ViewP _ _ _ _ _ _ _; rw [hpT.out, hpO.out]; exact hD)
  | true =>
  obtain ⟨Ms, hD, vM, iM, jM⟩ := I5.vM
  have hlen : D.length = Ms.length := by rw [← hD, List.length_map]
  have hDO : Ms.length = O.length := by
    unfold cOk at hC
    simp only [Bool.and_eq_true, decide_eq_true_eq] at hC
    omega
  have hT12 : T.length ≤ 12 := by
    unfold cOk at hC
    simp only [Bool.and_eq_true] at hC
    exact (tokB_of hC.2.2.2.2).1
  have hget : ∀ k, D.getD k (0, []) = (Ms.getD k Mb.nil).d := fun k => by rw [← hD]; exact d_get Ms k
  have hts := tot_siz D
  have hmx : ∀ k, k < Ms.length → (Ms.getD k Mb.nil).L.length ≤ maxLen := fun k hk => by
    have := siz_max D (by omega) k (by omega)
    rw [hget k] at this
    exact this
  obtain ⟨bM, offM, eb, hrow⟩ := vM.row (by omega)
  subst eb
  have hbM := iM ⟨bM, offM, none⟩ rfl (by omega)
  have hbM' : lo ≤ bM ∧ bM < hi := hbM
  have hmYa : ∀ k, k < Ms.length → ∀ Y, Below x5.heap.size x5 Y → MbAt Y bM (offM + k * 2) (Ms.getD k Mb.nil) := fun k hk Y hY => (hrow k hk).same (hY.block _ (by omega))
  have hnYa : ∀ k, k < Ms.length → ∀ Y, Below x5.heap.size x5 Y → MbL Y (Ms.getD k Mb.nil) := fun k hk Y hY => ViewI.below (vM.nest k hk) hY (Nat.le_refl _)
  have hiM : i < Ms.length := by omega
  have hmY := hmYa i hiM
  have hnY := hnYa i hiM
  have hmk := hmx i hiM
  have hgi := hget i
  obtain ⟨m, hh⟩ : ∃ m, Ms.getD i Mb.nil = m := ⟨_, rfl⟩
  simp only [hh] at hmY hnY
  rw [hh] at hmk hgi
  unfold MbAt at hmY
  unfold MbL at hnY
  have hrl := insR_len m.o (fun i => m.L.getD i 0) m.L.length a b c L
  obtain ⟨r, hr⟩ : ∃ r, Hid (insR m.o (fun i => m.L.getD i 0) m.L.length a b c L = r) := ⟨_, rfl⟩
  have hpI : Hid (pIn O D T (i : Int) a b c L = r) := by
    unfold Hid pIn
    rw [hgo.out, if_pos rfl, Int.toNat_natCast, hgi, ← hr.out]
    rfl
  rw [hr.out] at hrl
  obtain ⟨ra, rb, rc, rM, rok⟩ := r
  simp only [] at hrl
  have hrm : rM.length ≤ 1048576 := by omega
  have hiD : i < D.length := by omega
  replace hlen : Hid (D.length = Ms.length) := hlen
  replace hDO : Hid (Ms.length = O.length) := hDO
  clear hh hrow hbM hts hq hgo hgi
  go_wp2_with fail
  clear X1 X2 X3 hci
  refine join_region (fun l l' W' => ∃ (NX : Nat) (adX : Option Addr) (capX : Nat) (us : List Value), us.length = 10 ∧ l' = l.take 10 ++ (.pointer (some ⟨NX, 0, none⟩) :: .bool rok :: (l.drop 12).take 30) ++ us ++ l.drop 52 ∧ FrameAt W' NX ra rb rc adX rM.length capX ∧ W'.ownsRow x5.heap.size 5 1 (.slice adX rM.length capX) rM.length (rM.map (Value.int .u8)) ∧ (∀ j, (Value.slice adX rM.length capX).ownBlock = some j → j ≠ NX) ∧ x5.heap.size ≤ NX ∧ Below x5.heap.size x5 W') ?_ ?_
  rotate_left
  · intro K2 hT
    refine wp_region_held (S := fun Y => Below x5.heap.size x5 Y) (by kernel_rfl) ?_
    change wpAnyH _ _ _ _ _ _ _ _ (World.drew _)
    have hb0 : Below x5.heap.size x5 x5.drew := (Below.refl _ _).drew
    obtain ⟨y0, hy0⟩ : ∃ z, z = x5.drew := ⟨_, rfl⟩
    rw [← hy0] at hb0 ⊢
    have z0 := hb0.size
    clear hy0
    refine takeW 0 43 (.pointer (some ⟨P, 1, none⟩)) rfl rfl (by kernel_rfl) (by kernel_rfl) (by kernel_rfl) (fun _ _ _ h => h) (by kernel_rfl) (by (intro w hSw; go_simp)) (by assumption) ?_
    simp only [List.set_cons_zero, List.set_cons_succ]
    refine takeW 1 44 (.slice (some ⟨bM, offM, none⟩) D.length cM) rfl rfl (by kernel_rfl) (by kernel_rfl) (by kernel_rfl) (fun _ _ _ h => h) (by kernel_rfl) (by (intro Y hSw; obtain ⟨X1, X2, X3⟩ := A5.below hSw (by omega); go_simp)) (by assumption) ?_
    simp only [List.set_cons_zero, List.set_cons_succ]
    refine takeW 2 45 (.int .i64 (i : Int)) rfl rfl (by kernel_rfl) (by kernel_rfl) (by kernel_rfl) (fun _ _ _ h => h) (by kernel_rfl) (by (intro w hSw; go_simp)) (by assumption) ?_
    simp only [List.set_cons_zero, List.set_cons_succ]
    refine takeW 3 46 (.pointer (some ⟨bM, offM + i * 2, none⟩)) rfl rfl (by kernel_rfl) (by kernel_rfl) (by kernel_rfl) (fun _ _ _ h => h) (by kernel_rfl) (by (intro Y hSw; go_simp; try omega)) (by assumption) ?_
    simp only [List.set_cons_zero, List.set_cons_succ]
    refine takeW 4 47 (.agg #[.int .i64 m.o, .slice m.ad m.L.length m.cap]) rfl rfl (by kernel_rfl) (by kernel_rfl) (by kernel_rfl) (fun _ _ _ h => h) (by kernel_rfl) (by (intro Y hSw; obtain ⟨X1, X2⟩ := hmY Y hSw; go_simp)) (by assumption) ?_
    simp only [List.set_cons_zero, List.set_cons_succ]
    refine takeW 5 48 (.agg #[.int .i64 a, .int .i64 b, .int .i64 c, .slice adL L.length capL]) rfl rfl (by kernel_rfl) (by kernel_rfl) (by kernel_rfl) (fun _ _ _ h => h) (by kernel_rfl) (by (intro Y hSw; obtain ⟨X1, X2, X3, X4⟩ := Q5.below hSw (by omega); go_simp)) (by assumption) ?_
    simp only [List.set_cons_zero, List.set_cons_succ]
    have hby0 := hb0
    refine wpAnyH_all (rs := [6, 10]) (by kernel_rfl) (by simp) ?_
    intro i hi; rcases (by simpa using hi : i = 6 ∨ i = 10) with rfl | rfl
    · refine wpOp_step rfl (fun K hK => ?_)
      rw [if_pos (by kernel_rfl)]
      go_simp
      go_at_call 46
      refine (insideS m.o m.ad m.L.length m.cap (fun i => m.L.getD i 0) a b c adL capL L y0 (hnY y0 hby0) hmk (vL5.carry (fun x e hp => hby0.block _ (vL5.lt x e hp))) hlL (fun _ h => zL h)).mono ?_
      rintro e y1 ⟨adX, capX, rfl, oX, ky1⟩
      rw [hr.out] at oX ⊢
      simp only [] at oX ⊢
      have hby1 : Below x5.heap.size x5 y1 := hby0.trans (ky1.mono hby0.size)
      have zy1 := ky1.size
      refine hK _ _ ⟨hby1, ?_⟩
      clear hK K hi
      refine takeW 7 42 (.tuple #[.agg #[.int .i64 ra, .int .i64 rb, .int .i64 rc, .slice adX rM.length capX], .bool rok]) rfl rfl (by kernel_rfl) (by kernel_rfl) (by kernel_rfl) (fun _ _ _ h => h) (by kernel_rfl) (by (intro w hSw; go_simp)) (by assumption) ?_
      simp only [List.set_cons_zero, List.set_cons_succ]
      refine takeW 8 50 (.agg #[.int .i64 ra, .int .i64 rb, .int .i64 rc, .slice adX rM.length capX]) rfl rfl (by kernel_rfl) (by kernel_rfl) (by kernel_rfl) (fun _ _ _ h => h) (by kernel_rfl) (by (intro w hSw; go_simp)) (by assumption) ?_
      simp only [List.set_cons_zero, List.set_cons_succ]
      refine takeW 9 51 (.bool rok) rfl rfl (by kernel_rfl) (by kernel_rfl) (by kernel_rfl) (fun _ _ _ h => h) (by kernel_rfl) (by (intro w hSw; go_simp)) (by assumption) ?_
      simp only [List.set_cons_zero, List.set_cons_succ]
      refine wpAnyH_all (rs := [10]) (by kernel_rfl) (by simp) ?_
      intro i hi; obtain rfl : i = 10 := by simpa using hi
      refine wpOp_step rfl (fun K hK => ?_)
      rw [if_pos (by kernel_rfl)]
      go_simp
      obtain ⟨NX, hNX⟩ : ∃ n, n = y1.heap.size := ⟨_, rfl⟩
      obtain ⟨y2, hy2⟩ : ∃ z, z = y1.alloc (Obj.cells #[.int .i64 0, .int .i64 0, .int .i64 0, .slice none 0 0] 30) := ⟨_, rfl⟩
      have ky2 : Below y1.heap.size y1 y2 := by rw [hy2]; exact below_box _ _
      have CX : FrameAt y2 NX 0 0 0 none 0 0 := by rw [hy2, hNX]; refine ⟨?_, ?_, ?_, ?_⟩ <;> simp [go_sem]
      have FX : ∀ i, y2.frozen? ⟨NX, i, none⟩ = false := by intro i; rw [hy2, hNX]; simp [go_sem]
      have tX := CX.lt
      have hNX' : y1.heap.size ≤ NX := by omega
      rw [← hNX, ← hy2]
      have hby2 : Below x5.heap.size x5 y2 := hby1.trans (ky2.mono hby1.size)
      have zy2 := ky2.size
      clear hy2 hNX
      have nX : ∀ j, (Value.slice adX rM.length capX).ownBlock = some j → j ≠ NX := fun j q => by have := (own_lt oX j q).2; omega
      have oX := own_below2 oX ky2 (Nat.le_refl _)
      refine hK _ _ ⟨hby2, ?_⟩
      clear hK K hi
      have c0 := CX
      obtain ⟨c0, c1, c2, c3⟩ := c0
      have f0 := FX 0
      have f1 := FX 1
      have f2 := FX 2
      have f3 := FX 3
      obtain ⟨yF, hyF⟩ : ∃ z, z = (((y2.setCell ⟨NX, 0, none⟩ (.int .i64 ra)).setCell ⟨NX, 1, none⟩ (.int .i64 rb)).setCell ⟨NX, 2, none⟩ (.int .i64 rc)).setCell ⟨NX, 3, none⟩ (.slice adX rM.length capX) := ⟨_, rfl⟩
      have hF : ∀ j, j ≠ NX → yF.heap[j]? = y2.heap[j]? := fun j hj => by rw [hyF, Below.heap_setCell _ _ _ _ hj, Below.heap_setCell _ _ _ _ hj, Below.heap_setCell _ _ _ _ hj, Below.heap_setCell _ _ _ _ hj]
      have GX : FrameAt yF NX ra rb rc adX rM.length capX := by rw [hyF]; exact frame_put CX rfl
      have BF : Below x5.heap.size x5 yF := by rw [hyF]; exact (((hby2.setCell (by show x5.heap.size ≤ NX; omega) _).setCell (by show x5.heap.size ≤ NX; omega) _).setCell (by show x5.heap.size ≤ NX; omega) _).setCell (by show x5.heap.size ≤ NX; omega) _
      have oF : yF.ownsRow x5.heap.size 5 1 (.slice adX rM.length capX) rM.length (rM.map (Value.int .u8)) := own_base (own_same oX (fun j q => hF j (nX j q))) (by omega)
      refine wpAnyH_all (rs := [11]) (by kernel_rfl) (by simp) ?_
      intro i hi; obtain rfl : i = 11 := by simpa using hi
      refine wpOp_step rfl (fun K hK => ?_)
      rw [if_pos (by kernel_rfl)]
      go_simp
      rw [← hyF]
      refine hK _ _ ⟨BF, ?_⟩
      clear hK K hi
      refine takeW 12 11 (.bool rok) rfl rfl (by kernel_rfl) (by kernel_rfl) (by kernel_rfl) (fun _ _ _ h => h) (by kernel_rfl) (by (intro w hSw; go_simp)) (by assumption) ?_
      simp only [List.set_cons_zero, List.set_cons_succ]
      refine wpAnyH_done (by kernel_rfl) ?_ _
      exact hT.out _ _ ⟨NX, adX, capX, [_, _, _, _, _, _, _, _, _, _], rfl, rfl, GX, oF, nX, by omega, BF⟩
    · refine wpOp_step rfl (fun K hK => ?_)
      rw [if_pos (by kernel_rfl)]
      go_simp
      obtain ⟨NX, hNX⟩ : ∃ n, n = y0.heap.size := ⟨_, rfl⟩
      obtain ⟨y1, hy1⟩ : ∃ z, z = y0.alloc (Obj.cells #[.int .i64 0, .int .i64 0, .int .i64 0, .slice none 0 0] 30) := ⟨_, rfl⟩
      have ky1 : Below y0.heap.size y0 y1 := by rw [hy1]; exact below_box _ _
      have CX : FrameAt y1 NX 0 0 0 none 0 0 := by rw [hy1, hNX]; refine ⟨?_, ?_, ?_, ?_⟩ <;> simp [go_sem]
      have FX : ∀ i, y1.frozen? ⟨NX, i, none⟩ = false := by intro i; rw [hy1, hNX]; simp [go_sem]
      have tX := CX.lt
      have hNX' : y0.heap.size ≤ NX := by omega
      rw [← hNX, ← hy1]
      have hby1 : Below x5.heap.size x5 y1 := hby0.trans (ky1.mono hby0.size)
      have zy1 := ky1.size
      clear hy1 hNX
      refine hK _ _ ⟨hby1, ?_⟩
      clear hK K hi
      refine wpAnyH_all (rs := [6]) (by kernel_rfl) (by simp) ?_
      intro i hi; obtain rfl : i = 6 := by simpa using hi
      refine wpOp_step rfl (fun K hK => ?_)
      rw [if_pos (by kernel_rfl)]
      go_simp
      go_at_call 46
      refine (insideS m.o m.ad m.L.length m.cap (fun i => m.L.getD i 0) a b c adL capL L y1 (hnY y1 hby1) hmk (vL5.carry (fun x e hp => hby1.block _ (vL5.lt x e hp))) hlL (fun _ h => zL h)).mono ?_
      rintro e y2 ⟨adX, capX, rfl, oX, ky2⟩
      rw [hr.out] at oX ⊢
      simp only [] at oX ⊢
      have hby2 : Below x5.heap.size x5 y2 := hby1.trans (ky2.mono hby1.size)
      have zy2 := ky2.size
      have nX : ∀ j, (Value.slice adX rM.length capX).ownBlock = some j → j ≠ NX := fun j q => by have := (own_lt oX j q).1; omega
      have CX := CX.below ky2 (by omega)
      have FX := fz_below FX ky2 (by omega)
      refine hK _ _ ⟨hby2, ?_⟩
      clear hK K hi
      refine takeW 7 42 (.tuple #[.agg #[.int .i64 ra, .int .i64 rb, .int .i64 rc, .slice adX rM.length capX], .bool rok]) rfl rfl (by kernel_rfl) (by kernel_rfl) (by kernel_rfl) (fun _ _ _ h => h) (by kernel_rfl) (by (intro w hSw; go_simp)) (by assumption) ?_
      simp only [List.set_cons_zero, List.set_cons_succ]
      refine takeW 8 50 (.agg #[.int .i64 ra, .int .i64 rb, .int .i64 rc, .slice adX rM.length capX]) rfl rfl (by kernel_rfl) (by kernel_rfl) (by kernel_rfl) (fun _ _ _ h => h) (by kernel_rfl) (by (intro w hSw; go_simp)) (by assumption) ?_
      simp only [List.set_cons_zero, List.set_cons_succ]
      refine takeW 9 51 (.bool rok) rfl rfl (by kernel_rfl) (by kernel_rfl) (by kernel_rfl) (fun _ _ _ h => h) (by kernel_rfl) (by (intro w hSw; go_simp)) (by assumption) ?_
      simp only [List.set_cons_zero, List.set_cons_succ]
      have c0 := CX
      obtain ⟨c0, c1, c2, c3⟩ := c0
      have f0 := FX 0
      have f1 := FX 1
      have f2 := FX 2
      have f3 := FX 3
      obtain ⟨yF, hyF⟩ : ∃ z, z = (((y2.setCell ⟨NX, 0, none⟩ (.int .i64 ra)).setCell ⟨NX, 1, none⟩ (.int .i64 rb)).setCell ⟨NX, 2, none⟩ (.int .i64 rc)).setCell ⟨NX, 3, none⟩ (.slice adX rM.length capX) := ⟨_, rfl⟩
      have hF : ∀ j, j ≠ NX → yF.heap[j]? = y2.heap[j]? := fun j hj => by rw [hyF, Below.heap_setCell _ _ _ _ hj, Below.heap_setCell _ _ _ _ hj, Below.heap_setCell _ _ _ _ hj, Below.heap_setCell _ _ _ _ hj]
      have GX : FrameAt yF NX ra rb rc adX rM.length capX := by rw [hyF]; exact frame_put CX rfl
      have BF : Below x5.heap.size x5 yF := by rw [hyF]; exact (((hby2.setCell (by show x5.heap.size ≤ NX; omega) _).setCell (by show x5.heap.size ≤ NX; omega) _).setCell (by show x5.heap.size ≤ NX; omega) _).setCell (by show x5.heap.size ≤ NX; omega) _
      have oF : yF.ownsRow x5.heap.size 5 1 (.slice adX rM.length capX) rM.length (rM.map (Value.int .u8)) := own_base (own_same oX (fun j q => hF j (nX j q))) (by omega)
      refine wpAnyH_all (rs := [11]) (by kernel_rfl) (by simp) ?_
      intro i hi; obtain rfl : i = 11 := by simpa using hi
      refine wpOp_step rfl (fun K hK => ?_)
      rw [if_pos (by kernel_rfl)]
      go_simp
      rw [← hyF]
      refine hK _ _ ⟨BF, ?_⟩
      clear hK K hi
      refine takeW 12 11 (.bool rok) rfl rfl (by kernel_rfl) (by kernel_rfl) (by kernel_rfl) (fun _ _ _ h => h) (by kernel_rfl) (by (intro w hSw; go_simp)) (by assumption) ?_
      simp only [List.set_cons_zero, List.set_cons_succ]
      refine wpAnyH_done (by kernel_rfl) ?_ _
      exact hT.out _ _ ⟨NX, adX, capX, [_, _, _, _, _, _, _, _, _, _], rfl, rfl, GX, oF, nX, by omega, BF⟩
  rintro l' W6 ⟨NX, adX, capX, us, hul, rfl, GX, oX, nX, hNX, BX⟩
  obtain ⟨u42, us, rfl⟩ : ∃ a b, us = a :: b := List.exists_cons_of_length_eq_add_one hul
  replace hul := Nat.succ.inj hul
  obtain ⟨u43, us, rfl⟩ : ∃ a b, us = a :: b := List.exists_cons_of_length_eq_add_one hul
  replace hul := Nat.succ.inj hul
  obtain ⟨u44, us, rfl⟩ : ∃ a b, us = a :: b := List.exists_cons_of_length_eq_add_one hul
  replace hul := Nat.succ.inj hul
  obtain ⟨u45, us, rfl⟩ : ∃ a b, us = a :: b := List.exists_cons_of_length_eq_add_one hul
  replace hul := Nat.succ.inj hul
  obtain ⟨u46, us, rfl⟩ : ∃ a b, us = a :: b := List.exists_cons_of_length_eq_add_one hul
  replace hul := Nat.succ.inj hul
  obtain ⟨u47, us, rfl⟩ : ∃ a b, us = a :: b := List.exists_cons_of_length_eq_add_one hul
  replace hul := Nat.succ.inj hul
  obtain ⟨u48, us, rfl⟩ : ∃ a b, us = a :: b := List.exists_cons_of_length_eq_add_one hul
  replace hul := Nat.succ.inj hul
  obtain ⟨u49, us, rfl⟩ : ∃ a b, us = a :: b := List.exists_cons_of_length_eq_add_one hul
  replace hul := Nat.succ.inj hul
  obtain ⟨u50, us, rfl⟩ : ∃ a b, us = a :: b := List.exists_cons_of_length_eq_add_one hul
  replace hul := Nat.succ.inj hul
  obtain ⟨u51, us, rfl⟩ : ∃ a b, us = a :: b := List.exists_cons_of_length_eq_add_one hul
  replace hul := Nat.succ.inj hul
  obtain rfl : us = [] := List.eq_nil_of_length_eq_zero hul
  clear hul
  simp only [List.take, List.drop, List.cons_append, List.nil_append]
  have s6 := BX.size
  have P5 := A5.lt
  have A6 := A5.below BX (by omega)
  have C6 := C5.below BX (by omega)
  have F6 := fz_below F5 BX (by omega)
  have N6 := N5.below BX (by omega)
  have G6 := fz_below G5 BX (by omega)
  have V6 := W5.below BX (by omega)
  have E6 := own_below2 E5 BX (Nat.le_refl _)
  have I6 := I5.below BX (by omega)
  have B6 := B5.trans (BX.mono B5.size)
  have NXl := GX.lt
  obtain ⟨vX, rX, iX⟩ := own_view2 oX
  clear n1 n2 n3 r1 r2 r3 f0 f1 f2
  obtain ⟨n1, n2, n3⟩ := N6
  obtain ⟨r1, r2, r3⟩ := C6
  have f0 := F6 0
  have f1 := F6 1
  have f2 := F6 2
  cases rok with
  | false =>
    obtain ⟨hpT, hpO⟩ := p_no (O := O) (D := D) (T := T) (p := (i : Int)) (a := a) (b := b) (c := c) (L := L) (by rw [hpI.out])
    have hpT : Hid _ := hpT
    have hpO : Hid _ := hpO
    clear hC hpI
    go_wp2
    obtain ⟨z, hz, q1, q2, q3, hD'⟩ := back W6 BX
    rw [← hz]
    exact bodyPost_ret (v := .tuple #[.agg #[.slice aO O.length kO, .slice aM (List.length D) kM, .slice aT T.length kT], .slice (some ⟨N + 1, 0, none⟩) 0 0]) (by simp only [results, Tryz.results9]; simp [go_sem, q1, q2, q3]) rfl (by show ViewP _ _ _ _ _ _ _; rw [hpT.out, hpO.out]; exact hD')
  | true =>
  clear back
  have A6' := A6
  obtain ⟨X1, X2, X3⟩ := A6'
  have GX' := GX
  obtain ⟨j1, j2, j3, j4⟩ := GX'
  go_wp2_with fail
  go_at_call 47
  refine (whereS adT cT T ra rc W6 I6.vT (by unfold maxLen; omega) (fun x e p => by have := I6.iT x e p; omega)).mono ?_
  rintro e y3 ⟨rfl, hy3⟩
  rw [hy3]
  clear hy3 y3
  obtain ⟨g, hg⟩ : ∃ g, Hid (whereR T ra rc = g) := ⟨_, rfl⟩
  rw [hg.out]
  obtain ⟨g1, kn0⟩ := g
  simp only []
  cases kn0 with
  | false =>
    go_wp2_with fail
    go_at_call 48
    clear X1
    refine (hearV adT cT T rb rc (i : Int) W6 I6.vT (fun x e p => by have := I6.iT x e p; omega) zT (by omega)).mono ?_
    rintro e x7 ⟨vv, rfl, oT, k7⟩
    have hkn : Hid (((whereR T ra rc).2 && (ra != 0)) = false) := by unfold Hid; rw [hg.out]; rfl
    have hg1 : Hid ((whereR T ra rc).1 = g1) := by unfold Hid; rw [hg.out]
    obtain ⟨T1, hT1⟩ : ∃ T1, Hid (hearR T ⟨rb, rc, (i : Int), 20⟩ = T1) := ⟨_, rfl⟩
    rw [hT1.out] at oT
    obtain ⟨aT1, kT1, rfl, vT7, rT7, iT7⟩ := hown_view oT
    have s7 := k7.size
    have N7 : CdAt x7 N aO O.length kO aM D.length kM aT T.length kT := CdAt.below ⟨n1, n2, n3⟩ k7 (by omega)
    have G7 := fz_below G6 k7 (by omega)
    clear n1 n2 n3 r1 r2 r3 f0 f1 f2 j1 j2 j3 j4
    obtain ⟨n1, n2, n3⟩ := N7
    have g2 := G7 2
    obtain ⟨x8, hx8⟩ : ∃ z, z = x7.setCell ⟨N, 2, none⟩ (.slice aT1 T1.length kT1) := ⟨_, rfl⟩
    have e8 : ∀ j, j ≠ N → x8.heap[j]? = x7.heap[j]? := fun j hj => by rw [hx8]; exact Below.heap_setCell _ _ _ _ hj
    have s8 : x8.heap.size = x7.heap.size := by rw [hx8]; simp
    have N8 : CdAt x8 N aO O.length kO aM D.length kM aT1 T1.length kT1 := by
      rw [hx8]
      exact ⟨(cell_set_ne (by omega)).trans n1, (cell_set_ne (by omega)).trans n2, cell_set_same ⟨_, n3⟩⟩
    have B8 : Below w.heap.size w x8 := by rw [hx8]; exact ((B6.trans (k7.mono B6.size)).setCell (by show w.heap.size ≤ N; omega) _)
    have k8 : ∀ j, j < W6.heap.size → j ≠ N → x8.heap[j]? = W6.heap[j]? := fun j h1 h2 => (e8 j h2).trans (k7.block j h1)
    have A8 := A6.same (k8 P (by omega) (by omega))
    have C8 : CdAt x8 (P + 1 + 1) none 0 0 none 0 0 none 0 0 := CdAt.same (C5.below BX (by omega)) (k8 (P + 1 + 1) (by omega) (by omega))
    have F8 : ∀ i, x8.frozen? ⟨P + 1 + 1, i, none⟩ = false := fun i => (World.frozen?_of_block (a := ⟨P + 1 + 1, i, none⟩) (k8 (P + 1 + 1) (by omega) (by omega))).trans (F6 i)
    have E8 := own_same E6 (w' := x8) (fun j q => by obtain rfl : N + 1 = j := by simpa [Value.ownBlock] using q
                                                     exact k8 (N + 1) (by omega) (by omega))
    have GX8 := GX.same (k8 NX (by omega) (by omega))
    have vX8 := vX.carry (w' := x8) (fun x e q => k8 _ (by have := iX x e; omega) (by have := iX x e; omega))
    have vT8 := vT7.carry (w' := x8) (fun x e q => e8 _ (by have := iT7 x e; omega))
    have V8 := V6.view.keep (w' := x8) (fun j h1 h2 => k8 j (by omega) (by omega))
    have iT8 : ∀ x, aT1 = some x → x7.heap.size ≥ x.block + 1 ∧ W6.heap.size ≤ x.block := fun x e => by have := iT7 x e; omega
    have iX8 : ∀ x, adX = some x → x5.heap.size ≤ x.block ∧ x.block < W6.heap.size := iX
    have hOY8 : ∀ Y : World, (∀ j, j < hi → Y.heap[j]? = x8.heap[j]?) → ∀ k, k < O.length → Y.cell? ⟨bO, offO + k, none⟩ = some (.bool (O.getD k false)) := fun Y hY k hk => (World.cell?_of_block (a := ⟨bO, offO + k, none⟩) ((hY bO (by omega)).trans (k8 bO (by omega) (by omega)))).trans (hOY k hk W6 BX)
    have hmY8 : ∀ Y : World, (∀ j, j < hi → Y.heap[j]? = x8.heap[j]?) → ∀ k, k < Ms.length → MbAt Y bM (offM + k * 2) (Ms.getD k Mb.nil) := fun Y hY k hk => (hmYa k hk W6 BX).same ((hY bM (by omega)).trans (k8 bM (by omega) (by omega)))
    have hnY8 : ∀ Y : World, (∀ j, j < hi → Y.heap[j]? = x8.heap[j]?) → ∀ k, k < Ms.length → MbL Y (Ms.getD k Mb.nil) := fun Y hY k hk => ViewI.carry (hnYa k hk W6 BX) (fun x e q => (hY _ (jM k hk x e q).2).trans (k8 _ (by have := jM k hk x e q; omega) (by have := jM k hk x e q; omega)))
    have hNP : P + 1 + 1 < N := by omega
    have hN8 : N + 1 < x8.heap.size := by omega
    have hNX8 : N + 1 < NX ∧ NX < x8.heap.size := by omega
    have iX9 : ∀ x, adX = some x → N + 1 < x.block ∧ x.block < x8.heap.size := fun x e => by have := iX x e; omega
    have iT9 : ∀ x, aT1 = some x → N + 1 < x.block ∧ x.block < x8.heap.size := fun x e => by have := iT8 x e; omega
    have zX := own_zero oX
    clear hmYa hnYa hOY hmY hnY vL5 I5 I6 A5 A6 C5 Q5 F5 F6 N5 G5 G6 G7 W5 V6 E5 E6 B5 BX B6 GX oX nX vX rX iX vT7 rT7 iT7 oT k7 k8 e8 iX8 iT8 hmk
    go_wp2
    rw [← hx8]
    clear hx8 n1 n2 n3 g2
    go_loopw [9, 14] (fun o it wr => ∃ (k : Nat) (Ns : List Ob), it = .int .i64 (k : Int) ∧ k ≤ O.length ∧ Hid (Ns.map Ob.d = goesTo O D (i : Int) ⟨ra, rb, rc, rM, true⟩ false g1 k) ∧ Ns.length ≤ k ∧ OC (N + 1) wr o Ns ∧ x8.grownBy wr (some (N + 1)) ∧ Hid (∀ j, o.ownBlock = some j → j = N + 1 ∨ x8.heap.size ≤ j)) (fun _ it _ => O.length - (intOf it).toNat)
    case atStart => exact ⟨0, [], rfl, by omega, rfl, Nat.le_refl _, ⟨E8, fun i hi => absurd hi (by simp), fun i hi => absurd hi (by simp), fun i hi => absurd hi (by simp), fun i hi => absurd hi (by simp), fun i hi => absurd hi (by simp), fun i j _ hi => absurd hi (by simp)⟩, Go_refl x8 _, fun j q => .inl (Option.some.inj q).symm⟩
    case round =>
      obtain ⟨k, Ns, rfl, hk, hM, hNk, oc, gr, hob⟩ := hrel
      clear E8
      have sr := gr.size
      have gh : ∀ j, j < x8.heap.size → j ≠ N + 1 → wr.heap[j]? = x8.heap[j]? := fun j hj hn => gr.block j hj (fun q => hn (by simpa using q))
      have AR := A8.same (gh P (by omega) (by omega))
      have AR' := AR
      obtain ⟨X1, X2, X3⟩ := AR'
      by_cases hlt : k < O.length
      · have hlt' : (k : Int) < (O.length : Int) := by omega
        have hck := hOY8 wr (fun j hj => gh j (by omega) (by omega)) k hlt
        obtain ⟨q, hq0⟩ : ∃ q, O.getD k false = q := ⟨_, rfl⟩
        rw [hq0] at hck
        have hq : Hid (O.getD k false = q) := hq0
        clear hq0
        by_cases hki : k = i
        · have hki' : ((k : Int) == (i : Int)) = true := by simp [hki]
          subst hki
          have hga : Hid (goesAt O D (k : Int) ⟨ra, rb, rc, rM, true⟩ false g1 k = []) := by unfold Hid goesAt; rw [if_pos rfl]
          go_wp2
          go_roundw
          case rel => exact ⟨k + 1, Ns, by go_num, by omega, by unfold Hid; rw [goesTo, hga.out, List.append_nil]; exact hM.out, by omega, oc, gr, hob⟩
          case measure => simp [intOf]; omega
        have hki' : ¬ (k : Int) = (i : Int) := by omega
        have hki2 : ((k : Int) == (i : Int)) = false := by simp; omega
        cases q with
        | false =>
          have hq := hq.out
          have hga : Hid (goesAt O D (i : Int) ⟨ra, rb, rc, rM, true⟩ false g1 k = []) := by unfold Hid goesAt; rw [if_neg (by omega), if_pos hq]
          go_wp2
          go_roundw
          case rel => exact ⟨k + 1, Ns, by go_num, by omega, by unfold Hid; rw [goesTo, hga.out, List.append_nil]; exact hM.out, by omega, oc, gr, hob⟩
          case measure => simp [intOf]; omega
        | true =>
          have hqq := hq.out
          have hq : Hid (O.getD k false = true) := hqq
          clear hqq
          have GR := GX8.same (gh NX (by omega) (by omega))
          have vXr := vX8.carry (w' := wr) (fun x e _ => gh _ (by have := iX9 x e; omega) (by have := iX9 x e; omega))
          have hga : Hid (goesAt O D (i : Int) ⟨ra, rb, rc, rM, true⟩ false g1 k = if (outD (D.getD k (0, [])) ra rb rc rM).ok then [((k : Int), (outD (D.getD k (0, [])) ra rb rc rM).a, (outD (D.getD k (0, [])) ra rb rc rM).b, (outD (D.getD k (0, [])) ra rb rc rM).c, (outD (D.getD k (0, [])) ra rb rc rM).M)] else []) := by unfold Hid goesAt; rw [if_neg (by omega), if_neg (by rw [hq.out]; decide), if_neg (by simp)]
          have hkM : k < Ms.length := by have := hDO.out; omega
          have hmY : ∀ Y, Below wr.heap.size wr Y → MbAt Y bM (offM + k * 2) (Ms.getD k Mb.nil) := fun Y hY => hmY8 Y (fun j hj => (hY.block j (by omega)).trans (gh j (by omega) (by omega))) k hkM
          have hnY : ∀ Y, Below wr.heap.size wr Y → MbL Y (Ms.getD k Mb.nil) := fun Y hY => hnY8 Y (fun j hj => (hY.block j (by omega)).trans (gh j (by omega) (by omega))) k hkM
          have hmk := hmx k hkM
          have hgk := hget k
          obtain ⟨m, hh⟩ : ∃ m, Ms.getD k Mb.nil = m := ⟨_, rfl⟩
          simp only [hh] at hmY hnY
          rw [hh] at hmk hgk
          unfold MbAt at hmY
          unfold MbL at hnY
          obtain ⟨s, hs⟩ : ∃ s, Hid (outR m.o (fun i => m.L.getD i 0) m.L.length ra rb rc rM = s) := ⟨_, rfl⟩
          have hgb : outD (D.getD k (0, [])) ra rb rc rM = s := by rw [hgk, ← hs.out]; rfl
          rw [hgb] at hga
          obtain ⟨sa, sb, sc, sM, sok⟩ := s
          simp only [] at hga
          have hkD : k < D.length := by have := hlen.out; omega
          clear hgb hgk hh
          go_wp2_with fail
          clear X1 X2 X3 hck
          refine join_region (fun l l' W' => ∃ (NY : Nat) (adY : Option Addr) (capY : Nat) (us : List Value), us.length = 10 ∧ l' = l.take 15 ++ (.pointer (some ⟨NY, 0, none⟩) :: .bool sok :: (l.drop 17).take 90) ++ us ++ l.drop 117 ∧ FrameAt W' NY sa sb sc adY sM.length capY ∧ W'.ownsRow wr.heap.size 5 1 (.slice adY sM.length capY) sM.length (sM.map (Value.int .u8)) ∧ (∀ j, (Value.slice adY sM.length capY).ownBlock = some j → j ≠ NY) ∧ wr.heap.size ≤ NY ∧ Below wr.heap.size wr W') ?_ ?_
          rotate_left
          · intro K2 hT
            refine wp_region_held (S := fun Y => Below wr.heap.size wr Y) (by kernel_rfl) ?_
            change wpAnyH _ _ _ _ _ _ _ _ (World.drew _)
            have hb0 : Below wr.heap.size wr wr.drew := (Below.refl _ _).drew
            obtain ⟨y0, hy0⟩ : ∃ z, z = wr.drew := ⟨_, rfl⟩
            rw [← hy0] at hb0 ⊢
            have z0 := hb0.size
            clear hy0
            refine takeW 0 108 (.pointer (some ⟨P, 1, none⟩)) rfl rfl (by kernel_rfl) (by kernel_rfl) (by kernel_rfl) (fun _ _ _ h => h) (by kernel_rfl) (by (intro w hSw; go_simp)) (by assumption) ?_
            simp only [List.set_cons_zero, List.set_cons_succ]
            refine takeW 1 109 (.slice (some ⟨bM, offM, none⟩) D.length cM) rfl rfl (by kernel_rfl) (by kernel_rfl) (by kernel_rfl) (fun _ _ _ h => h) (by kernel_rfl) (by (intro Y hSw; obtain ⟨X1, X2, X3⟩ := AR.below hSw (by omega); go_simp)) (by assumption) ?_
            simp only [List.set_cons_zero, List.set_cons_succ]
            refine takeW 2 110 (.int .i64 (k : Int)) rfl rfl (by kernel_rfl) (by kernel_rfl) (by kernel_rfl) (fun _ _ _ h => h) (by kernel_rfl) (by (intro w hSw; go_simp)) (by assumption) ?_
            simp only [List.set_cons_zero, List.set_cons_succ]
            refine takeW 3 111 (.pointer (some ⟨bM, offM + k * 2, none⟩)) rfl rfl (by kernel_rfl) (by kernel_rfl) (by kernel_rfl) (fun _ _ _ h => h) (by kernel_rfl) (by (intro Y hSw; go_simp; try omega)) (by assumption) ?_
            simp only [List.set_cons_zero, List.set_cons_succ]
            refine takeW 4 112 (.agg #[.int .i64 m.o, .slice m.ad m.L.length m.cap]) rfl rfl (by kernel_rfl) (by kernel_rfl) (by kernel_rfl) (fun _ _ _ h => h) (by kernel_rfl) (by (intro Y hSw; obtain ⟨X1, X2⟩ := hmY Y hSw; go_simp)) (by assumption) ?_
            simp only [List.set_cons_zero, List.set_cons_succ]
            refine takeW 5 113 (.agg #[.int .i64 ra, .int .i64 rb, .int .i64 rc, .slice adX rM.length capX]) rfl rfl (by kernel_rfl) (by kernel_rfl) (by kernel_rfl) (fun _ _ _ h => h) (by kernel_rfl) (by (intro Y hSw; obtain ⟨X1, X2, X3, X4⟩ := GR.below hSw (by omega); go_simp)) (by assumption) ?_
            simp only [List.set_cons_zero, List.set_cons_succ]
            have hby0 := hb0
            refine wpAnyH_all (rs := [6, 10]) (by kernel_rfl) (by simp) ?_
            intro i hi; rcases (by simpa using hi : i = 6 ∨ i = 10) with rfl | rfl
            · refine wpOp_step rfl (fun K hK => ?_)
              rw [if_pos (by kernel_rfl)]
              go_simp
              go_at_call 49
              refine (outsideS m.o m.ad m.L.length m.cap (fun i => m.L.getD i 0) ra rb rc adX capX rM y0 (hnY y0 hby0) hmk (vXr.carry (fun x e hp => hby0.block _ (vXr.lt x e hp))) hrm (fun _ h => zX h)).mono ?_
              rintro e y1 ⟨adY, capY, rfl, oX, ky1⟩
              rw [hs.out] at oX ⊢
              simp only [] at oX ⊢
              have hby1 : Below wr.heap.size wr y1 := hby0.trans (ky1.mono hby0.size)
              have zy1 := ky1.size
              refine hK _ _ ⟨hby1, ?_⟩
              clear hK K hi
              refine takeW 7 107 (.tuple #[.agg #[.int .i64 sa, .int .i64 sb, .int .i64 sc, .slice adY sM.length capY], .bool sok]) rfl rfl (by kernel_rfl) (by kernel_rfl) (by kernel_rfl) (fun _ _ _ h => h) (by kernel_rfl) (by (intro w hSw; go_simp)) (by assumption) ?_
              simp only [List.set_cons_zero, List.set_cons_succ]
              refine takeW 8 115 (.agg #[.int .i64 sa, .int .i64 sb, .int .i64 sc, .slice adY sM.length capY]) rfl rfl (by kernel_rfl) (by kernel_rfl) (by kernel_rfl) (fun _ _ _ h => h) (by kernel_rfl) (by (intro w hSw; go_simp)) (by assumption) ?_
              simp only [List.set_cons_zero, List.set_cons_succ]
              refine takeW 9 116 (.bool sok) rfl rfl (by kernel_rfl) (by kernel_rfl) (by kernel_rfl) (fun _ _ _ h => h) (by kernel_rfl) (by (intro w hSw; go_simp)) (by assumption) ?_
              simp only [List.set_cons_zero, List.set_cons_succ]
              refine wpAnyH_all (rs := [10]) (by kernel_rfl) (by simp) ?_
              intro i hi; obtain rfl : i = 10 := by simpa using hi
              refine wpOp_step rfl (fun K hK => ?_)
              rw [if_pos (by kernel_rfl)]
              go_simp
              obtain ⟨NY, hNX⟩ : ∃ n, n = y1.heap.size := ⟨_, rfl⟩
              obtain ⟨y2, hy2⟩ : ∃ z, z = y1.alloc (Obj.cells #[.int .i64 0, .int .i64 0, .int .i64 0, .slice none 0 0] 30) := ⟨_, rfl⟩
              have ky2 : Below y1.heap.size y1 y2 := by rw [hy2]; exact below_box _ _
              have CX : FrameAt y2 NY 0 0 0 none 0 0 := by rw [hy2, hNX]; refine ⟨?_, ?_, ?_, ?_⟩ <;> simp [go_sem]
              have FX : ∀ i, y2.frozen? ⟨NY, i, none⟩ = false := by intro i; rw [hy2, hNX]; simp [go_sem]
              have tX := CX.lt
              have hNX' : y1.heap.size ≤ NY := by omega
              rw [← hNX, ← hy2]
              have hby2 : Below wr.heap.size wr y2 := hby1.trans (ky2.mono hby1.size)
              have zy2 := ky2.size
              clear hy2 hNX
              have nX : ∀ j, (Value.slice adY sM.length capY).ownBlock = some j → j ≠ NY := fun j q => by have := (own_lt oX j q).2; omega
              have oX := own_below2 oX ky2 (Nat.le_refl _)
              refine hK _ _ ⟨hby2, ?_⟩
              clear hK K hi
              have c0 := CX
              obtain ⟨c0, c1, c2, c3⟩ := c0
              have f0 := FX 0
              have f1 := FX 1
              have f2 := FX 2
              have f3 := FX 3
              obtain ⟨yF, hyF⟩ : ∃ z, z = (((y2.setCell ⟨NY, 0, none⟩ (.int .i64 sa)).setCell ⟨NY, 1, none⟩ (.int .i64 sb)).setCell ⟨NY, 2, none⟩ (.int .i64 sc)).setCell ⟨NY, 3, none⟩ (.slice adY sM.length capY) := ⟨_, rfl⟩
              have hF : ∀ j, j ≠ NY → yF.heap[j]? = y2.heap[j]? := fun j hj => by rw [hyF, Below.heap_setCell _ _ _ _ hj, Below.heap_setCell _ _ _ _ hj, Below.heap_setCell _ _ _ _ hj, Below.heap_setCell _ _ _ _ hj]
              have GX : FrameAt yF NY sa sb sc adY sM.length capY := by rw [hyF]; exact frame_put CX rfl
              have BF : Below wr.heap.size wr yF := by rw [hyF]; exact (((hby2.setCell (by show wr.heap.size ≤ NY; omega) _).setCell (by show wr.heap.size ≤ NY; omega) _).setCell (by show wr.heap.size ≤ NY; omega) _).setCell (by show wr.heap.size ≤ NY; omega) _
              have oF : yF.ownsRow wr.heap.size 5 1 (.slice adY sM.length capY) sM.length (sM.map (Value.int .u8)) := own_base (own_same oX (fun j q => hF j (nX j q))) (by omega)
              refine wpAnyH_all (rs := [11]) (by kernel_rfl) (by simp) ?_
              intro i hi; obtain rfl : i = 11 := by simpa using hi
              refine wpOp_step rfl (fun K hK => ?_)
              rw [if_pos (by kernel_rfl)]
              go_simp
              rw [← hyF]
              refine hK _ _ ⟨BF, ?_⟩
              clear hK K hi
              refine takeW 12 16 (.bool sok) rfl rfl (by kernel_rfl) (by kernel_rfl) (by kernel_rfl) (fun _ _ _ h => h) (by kernel_rfl) (by (intro w hSw; go_simp)) (by assumption) ?_
              simp only [List.set_cons_zero, List.set_cons_succ]
              refine wpAnyH_done (by kernel_rfl) ?_ _
              exact hT.out _ _ ⟨NY, adY, capY, [_, _, _, _, _, _, _, _, _, _], rfl, rfl, GX, oF, nX, by omega, BF⟩
            · refine wpOp_step rfl (fun K hK => ?_)
              rw [if_pos (by kernel_rfl)]
              go_simp
              obtain ⟨NY, hNX⟩ : ∃ n, n = y0.heap.size := ⟨_, rfl⟩
              obtain ⟨y1, hy1⟩ : ∃ z, z = y0.alloc (Obj.cells #[.int .i64 0, .int .i64 0, .int .i64 0, .slice none 0 0] 30) := ⟨_, rfl⟩
              have ky1 : Below y0.heap.size y0 y1 := by rw [hy1]; exact below_box _ _
              have CX : FrameAt y1 NY 0 0 0 none 0 0 := by rw [hy1, hNX]; refine ⟨?_, ?_, ?_, ?_⟩ <;> simp [go_sem]
              have FX : ∀ i, y1.frozen? ⟨NY, i, none⟩ = false := by intro i; rw [hy1, hNX]; simp [go_sem]
              have tX := CX.lt
              have hNX' : y0.heap.size ≤ NY := by omega
              rw [← hNX, ← hy1]
              have hby1 : Below wr.heap.size wr y1 := hby0.trans (ky1.mono hby0.size)
              have zy1 := ky1.size
              clear hy1 hNX
              refine hK _ _ ⟨hby1, ?_⟩
              clear hK K hi
              refine wpAnyH_all (rs := [6]) (by kernel_rfl) (by simp) ?_
              intro i hi; obtain rfl : i = 6 := by simpa using hi
              refine wpOp_step rfl (fun K hK => ?_)
              rw [if_pos (by kernel_rfl)]
              go_simp
              go_at_call 49
              refine (outsideS m.o m.ad m.L.length m.cap (fun i => m.L.getD i 0) ra rb rc adX capX rM y1 (hnY y1 hby1) hmk (vXr.carry (fun x e hp => hby1.block _ (vXr.lt x e hp))) hrm (fun _ h => zX h)).mono ?_
              rintro e y2 ⟨adY, capY, rfl, oX, ky2⟩
              rw [hs.out] at oX ⊢
              simp only [] at oX ⊢
              have hby2 : Below wr.heap.size wr y2 := hby1.trans (ky2.mono hby1.size)
              have zy2 := ky2.size
              have nX : ∀ j, (Value.slice adY sM.length capY).ownBlock = some j → j ≠ NY := fun j q => by have := (own_lt oX j q).1; omega
              have CX := CX.below ky2 (by omega)
              have FX := fz_below FX ky2 (by omega)
              refine hK _ _ ⟨hby2, ?_⟩
              clear hK K hi
              refine takeW 7 107 (.tuple #[.agg #[.int .i64 sa, .int .i64 sb, .int .i64 sc, .slice adY sM.length capY], .bool sok]) rfl rfl (by kernel_rfl) (by kernel_rfl) (by kernel_rfl) (fun _ _ _ h => h) (by kernel_rfl) (by (intro w hSw; go_simp)) (by assumption) ?_
              simp only [List.set_cons_zero, List.set_cons_succ]
              refine takeW 8 115 (.agg #[.int .i64 sa, .int .i64 sb, .int .i64 sc, .slice adY sM.length capY]) rfl rfl (by kernel_rfl) (by kernel_rfl) (by kernel_rfl) (fun _ _ _ h => h) (by kernel_rfl) (by (intro w hSw; go_simp)) (by assumption) ?_
              simp only [List.set_cons_zero, List.set_cons_succ]
              refine takeW 9 116 (.bool sok) rfl rfl (by kernel_rfl) (by kernel_rfl) (by kernel_rfl) (fun _ _ _ h => h) (by kernel_rfl) (by (intro w hSw; go_simp)) (by assumption) ?_
              simp only [List.set_cons_zero, List.set_cons_succ]
              have c0 := CX
              obtain ⟨c0, c1, c2, c3⟩ := c0
              have f0 := FX 0
              have f1 := FX 1
              have f2 := FX 2
              have f3 := FX 3
              obtain ⟨yF, hyF⟩ : ∃ z, z = (((y2.setCell ⟨NY, 0, none⟩ (.int .i64 sa)).setCell ⟨NY, 1, none⟩ (.int .i64 sb)).setCell ⟨NY, 2, none⟩ (.int .i64 sc)).setCell ⟨NY, 3, none⟩ (.slice adY sM.length capY) := ⟨_, rfl⟩
              have hF : ∀ j, j ≠ NY → yF.heap[j]? = y2.heap[j]? := fun j hj => by rw [hyF, Below.heap_setCell _ _ _ _ hj, Below.heap_setCell _ _ _ _ hj, Below.heap_setCell _ _ _ _ hj, Below.heap_setCell _ _ _ _ hj]
              have GX : FrameAt yF NY sa sb sc adY sM.length capY := by rw [hyF]; exact frame_put CX rfl
              have BF : Below wr.heap.size wr yF := by rw [hyF]; exact (((hby2.setCell (by show wr.heap.size ≤ NY; omega) _).setCell (by show wr.heap.size ≤ NY; omega) _).setCell (by show wr.heap.size ≤ NY; omega) _).setCell (by show wr.heap.size ≤ NY; omega) _
              have oF : yF.ownsRow wr.heap.size 5 1 (.slice adY sM.length capY) sM.length (sM.map (Value.int .u8)) := own_base (own_same oX (fun j q => hF j (nX j q))) (by omega)
              refine wpAnyH_all (rs := [11]) (by kernel_rfl) (by simp) ?_
              intro i hi; obtain rfl : i = 11 := by simpa using hi
              refine wpOp_step rfl (fun K hK => ?_)
              rw [if_pos (by kernel_rfl)]
              go_simp
              rw [← hyF]
              refine hK _ _ ⟨BF, ?_⟩
              clear hK K hi
              refine takeW 12 16 (.bool sok) rfl rfl (by kernel_rfl) (by kernel_rfl) (by kernel_rfl) (fun _ _ _ h => h) (by kernel_rfl) (by (intro w hSw; go_simp)) (by assumption) ?_
              simp only [List.set_cons_zero, List.set_cons_succ]
              refine wpAnyH_done (by kernel_rfl) ?_ _
              exact hT.out _ _ ⟨NY, adY, capY, [_, _, _, _, _, _, _, _, _, _], rfl, rfl, GX, oF, nX, by omega, BF⟩
          rintro l' W9 ⟨NY, adY, capY, us, hul, rfl, GY, oY, nY, hNY, BY⟩
          obtain ⟨u107, us, rfl⟩ : ∃ a b, us = a :: b := List.exists_cons_of_length_eq_add_one hul
          replace hul := Nat.succ.inj hul
          obtain ⟨u108, us, rfl⟩ : ∃ a b, us = a :: b := List.exists_cons_of_length_eq_add_one hul
          replace hul := Nat.succ.inj hul
          obtain ⟨u109, us, rfl⟩ : ∃ a b, us = a :: b := List.exists_cons_of_length_eq_add_one hul
          replace hul := Nat.succ.inj hul
          obtain ⟨u110, us, rfl⟩ : ∃ a b, us = a :: b := List.exists_cons_of_length_eq_add_one hul
          replace hul := Nat.succ.inj hul
          obtain ⟨u111, us, rfl⟩ : ∃ a b, us = a :: b := List.exists_cons_of_length_eq_add_one hul
          replace hul := Nat.succ.inj hul
          obtain ⟨u112, us, rfl⟩ : ∃ a b, us = a :: b := List.exists_cons_of_length_eq_add_one hul
          replace hul := Nat.succ.inj hul
          obtain ⟨u113, us, rfl⟩ : ∃ a b, us = a :: b := List.exists_cons_of_length_eq_add_one hul
          replace hul := Nat.succ.inj hul
          obtain ⟨u114, us, rfl⟩ : ∃ a b, us = a :: b := List.exists_cons_of_length_eq_add_one hul
          replace hul := Nat.succ.inj hul
          obtain ⟨u115, us, rfl⟩ : ∃ a b, us = a :: b := List.exists_cons_of_length_eq_add_one hul
          replace hul := Nat.succ.inj hul
          obtain ⟨u116, us, rfl⟩ : ∃ a b, us = a :: b := List.exists_cons_of_length_eq_add_one hul
          replace hul := Nat.succ.inj hul
          obtain rfl : us = [] := List.eq_nil_of_length_eq_zero hul
          clear hul
          simp only [List.take, List.drop, List.cons_append, List.nil_append]
          have z9 := BY.size
          cases sok with
          | false =>
            have gr9 := grownV gr BY (Go_refl W9 none) (fun j q => (by cases q))
            go_wp2
            go_roundw
            case rel => exact ⟨k + 1, Ns, by go_num, by omega, by unfold Hid; rw [goesTo, hga.out]; exact hM.out.trans (List.append_nil _).symm, by omega, oc.later BY (Nat.le_refl _), gr9, hob⟩
            case measure => simp [intOf]; omega
          | true =>
            obtain ⟨vY, rY, iY⟩ := own_view2 oY
            have zY := own_zero oY
            have NYl := GY.lt
            have GY' := GY
            obtain ⟨h1, h2, h3, h4⟩ := GY'
            obtain ⟨w1, hw1'⟩ : ∃ z, z = W9.alloc (Obj.cells #[.int .i64 (k : Int), .int .i64 sa, .int .i64 sb, .int .i64 sc, .slice adY sM.length capY] 43) := ⟨_, rfl⟩
            have k1 : Below W9.heap.size W9 w1 := by rw [hw1']; exact below_box _ _
            have kk1 : Below wr.heap.size wr w1 := BY.trans (k1.mono BY.size)
            have oc1 : (W9.alloc (Obj.cells #[.int .i64 (k : Int), .int .i64 sa, .int .i64 sb, .int .i64 sc, .slice adY sM.length capY] 43)).ownsRow (N + 1) 43 5 u9 Ns.length (ocells Ns) := by rw [← hw1']; exact (oc.later kk1 (Nat.le_refl _)).own
            have vY1 := vY.carry (w' := w1) (fun x e _ => k1.block _ (iY x e).2)
            have rY1 := rY.carry (w' := w1) (fun x e _ => k1.block _ (iY x e).2)
            have zz1 := k1.size
            go_wp2_with (first | (at_builtin; refine wpList_append_own_at _ rfl _ _ 33 rfl (N + 1) 43 i1 (.agg #[.int .i64 0, .int .i64 0, .int .i64 0, .int .i64 0, .slice none 0 0]) 5 56 Tryz.underlying33 hj hy0 hy1 hy2 rfl (by decide) _ _ _ rfl oc1 ⟨W9.heap.size, 0, none⟩ 1 1 [.int .i64 (k : Int), .int .i64 sa, .int .i64 sb, .int .i64 sc, .slice adY sM.length capY] rfl ?a10 ?a11 ?a12 ?a13 ?a14 ?a15 ?_) | go_in)
            try (case a10 => rfl)
            try (case a11 => exact cells5 W9 _ _ _ _ _ _)
            case a12 => first | exact ⟨rfl, rfl, rfl, rfl, rfl⟩ | (intro u hu; simp at hu; rcases hu with rfl | rfl | rfl | rfl | rfl <;> rfl)
            case a13 => unfold maxLen; omega
            case a14 => omega
            case a15 => first | omega | (simp; omega)
            intro v4 y4 o4 g4 _ e4
            rw [← hw1'] at g4
            have e4' : v4.ownBlock = u9.ownBlock ∨ v4.ownBlock = some w1.heap.size := by rw [hw1', show (W9.alloc (Obj.cells #[.int .i64 (k : Int), .int .i64 sa, .int .i64 sb, .int .i64 sc, .slice adY sM.length capY] 43)).heap.size = W9.heap.size + 1 by simp]; exact e4
            have oc4 := oc.push (B := 0) (m := ⟨(k : Int), sa, sb, sc, adY, capY, sM⟩) kk1 vY1 rY1 zY (fun x e _ => ⟨(iY x e).1, by have := (iY x e).2; omega⟩) (by omega) o4 g4 e4'
            have gr4 := grownV gr kk1 g4 hob.out
            have hob4 : Hid (∀ j, v4.ownBlock = some j → j = N + 1 ∨ x8.heap.size ≤ j) := fun j q => by
              rcases e4' with r | r
              · exact hob.out j (r ▸ q)
              · rw [r] at q
                have : w1.heap.size = j := by simpa using q
                omega
            clear e4 e4' o4 g4 oc1 hw1' h1 h2 h3 h4
            go_wp2
            go_roundw
            case rel => exact ⟨k + 1, Ns ++ [⟨(k : Int), sa, sb, sc, adY, capY, sM⟩], by go_num, by omega, by unfold Hid; rw [goesTo, hga.out, List.map_append, hM.out]; rfl, by simp; omega, oc4, gr4, hob4⟩
            case measure => simp [intOf]; omega
      · have hlt' : ¬ (k : Int) < (O.length : Int) := by omega
        have hk' : O.length = k := by omega
        have hM' : Hid (Ns.map Ob.d = goesTo O D (i : Int) ⟨ra, rb, rc, rM, true⟩ false g1 O.length) := by unfold Hid; rw [hk']; exact hM.out
        clear hk' hk
        have NR := N8.same (gh N (by omega) (by omega))
        have CR := C8.same (gh (P + 1 + 1) (by omega) (by omega))
        have FR' : ∀ i, wr.frozen? ⟨P + 1 + 1, i, none⟩ = false := fun i => (World.frozen?_of_block (a := ⟨P + 1 + 1, i, none⟩) (gh (P + 1 + 1) (by omega) (by omega))).trans (F8 i)
        have hpT : Hid (pTab O D T (i : Int) a b c L = T1) := by
          unfold Hid pTab
          rw [hpI.out]
          exact (if_pos rfl).trans hT1.out
        have hpO : Hid (pOuts O D T (i : Int) a b c L = goesTo O D (i : Int) ⟨ra, rb, rc, rM, true⟩ false g1 O.length) := by
          unfold Hid pOuts
          rw [hpI.out]
          refine (if_pos rfl).trans ?_
          show goesTo O D (i : Int) ⟨ra, rb, rc, rM, true⟩ ((whereR T ra rc).2 && (ra != 0)) (whereR T ra rc).1 O.length = _
          rw [hkn.out, hg1.out]
        obtain ⟨aL, kL, fp, rfl, OW, hfp⟩ := oc.done
        have NR' := NR
        obtain ⟨n1, n2, n3⟩ := NR'
        have CR' := CR
        obtain ⟨r1, r2, r3⟩ := CR'
        have f0 := FR' 0
        have f1 := FR' 1
        have f2 := FR' 2
        go_wp2
        obtain ⟨z, hz⟩ : ∃ z, z = ((wr.setCell ⟨P + 1 + 1, 0, none⟩ (.slice aO O.length kO)).setCell ⟨P + 1 + 1, 1, none⟩ (.slice aM D.length kM)).setCell ⟨P + 1 + 1, 2, none⟩ (.slice aT1 T1.length kT1) := ⟨_, rfl⟩
        have zh : ∀ j, j ≠ P + 1 + 1 → z.heap[j]? = wr.heap[j]? := fun j hj => by rw [hz]; exact heap_set3 hj
        have q1 : z.cell? ⟨P + 1 + 1, 0, none⟩ = some (.slice aO O.length kO) := by rw [hz, cell_set_ne (by omega), cell_set_ne (by omega)]; exact cell_set_same ⟨_, r1⟩
        have q2 : z.cell? ⟨P + 1 + 1, 1, none⟩ = some (.slice aM D.length kM) := by rw [hz, cell_set_ne (by omega)]; exact cell_set_same ⟨_, (cell_set_ne (by omega)).trans r2⟩
        have q3 : z.cell? ⟨P + 1 + 1, 2, none⟩ = some (.slice aT1 T1.length kT1) := by rw [hz]; exact cell_set_same ⟨_, (cell_set_ne (by omega)).trans ((cell_set_ne (by omega)).trans r3)⟩
        have zs : z.heap.size = wr.heap.size := by rw [hz]; simp
        have BZ : Below w.heap.size w z := by
          rw [hz]
          have BR : Below w.heap.size w wr := B8.grown gr (by omega) (fun j q => by have : N + 1 = j := Option.some.inj q
                                                                                    omega)
          exact ((BR.setCell (by show w.heap.size ≤ P + 1 + 1; omega) _).setCell (by show w.heap.size ≤ P + 1 + 1; omega) _).setCell (by show w.heap.size ≤ P + 1 + 1; omega) _
        rw [← hz]
        clear hz r1 r2 r3 n1 n2 n3 f0 f1 f2 X1 X2 X3
        have VZ := (V8.keep (w' := z) (fun j h1 h2 => (zh j (by omega)).trans (gh j (by omega) (by omega)))).wide (lo' := w.heap.size) (hi' := z.heap.size) (by omega) (by omega)
        have vTZ := vT8.carry (w' := z) (fun x e _ => (zh _ (by have := iT9 x e; omega)).trans (gh _ (by have := iT9 x e; omega) (by have := iT9 x e; omega)))
        have OZ := OW.view.carry (w' := z) (fun x e p => zh _ (by have := hfp _ (OW.rowIn x e p); omega)) (fun i hi x e p => zh _ (by have := hfp _ (OW.nestIn i hi x e p); omega))
        refine bodyPost_ret (v := .tuple #[.agg #[.slice aO O.length kO, .slice aM D.length kM, .slice aT1 T1.length kT1], .slice aL Ns.length kL]) (by simp only [results, Tryz.results9]; simp [go_sem, q1, q2, q3]) rfl ?_
        show ViewP _ _ _ _ _ _ _
        rw [hpT.out, hpO.out]
        exact ⟨aO, kO, aM, kM, aT1, kT1, aL, kL, Ns, rfl, ⟨VZ.vO, VZ.iO, VZ.vM, vTZ, fun x e _ => by have := iT9 x e; omega⟩, hM'.out, OZ, fun x e p => by have := hfp _ (OW.rowIn x e p); omega, fun i hi x e p => by have := hfp _ (OW.nestIn i hi x e p); omega, BZ⟩
  | true =>
    obtain ⟨kb, hkb⟩ : ∃ kb, (ra != 0) = kb := ⟨_, rfl⟩
    go_wp2_with fail
    go_at_call 48
    replace hkb : Hid _ := hkb
    refine (hearV adT cT T rb rc (i : Int) W6 I6.vT (fun x e p => by have := I6.iT x e p; omega) zT (by omega)).mono ?_
    rintro e x7 ⟨vv, rfl, oT, k7⟩
    have hkn : Hid (((whereR T ra rc).2 && (ra != 0)) = kb) := by unfold Hid; rw [hg.out]; exact hkb.out
    have hg1 : Hid ((whereR T ra rc).1 = g1) := by unfold Hid; rw [hg.out]
    obtain ⟨T1, hT1⟩ : ∃ T1, Hid (hearR T ⟨rb, rc, (i : Int), 20⟩ = T1) := ⟨_, rfl⟩
    rw [hT1.out] at oT
    obtain ⟨aT1, kT1, rfl, vT7, rT7, iT7⟩ := hown_view oT
    have s7 := k7.size
    have N7 : CdAt x7 N aO O.length kO aM D.length kM aT T.length kT := CdAt.below ⟨n1, n2, n3⟩ k7 (by omega)
    have G7 := fz_below G6 k7 (by omega)
    clear n1 n2 n3 r1 r2 r3 f0 f1 f2 j1 j2 j3 j4
    obtain ⟨n1, n2, n3⟩ := N7
    have g2 := G7 2
    obtain ⟨x8, hx8⟩ : ∃ z, z = x7.setCell ⟨N, 2, none⟩ (.slice aT1 T1.length kT1) := ⟨_, rfl⟩
    have e8 : ∀ j, j ≠ N → x8.heap[j]? = x7.heap[j]? := fun j hj => by rw [hx8]; exact Below.heap_setCell _ _ _ _ hj
    have s8 : x8.heap.size = x7.heap.size := by rw [hx8]; simp
    have N8 : CdAt x8 N aO O.length kO aM D.length kM aT1 T1.length kT1 := by
      rw [hx8]
      exact ⟨(cell_set_ne (by omega)).trans n1, (cell_set_ne (by omega)).trans n2, cell_set_same ⟨_, n3⟩⟩
    have B8 : Below w.heap.size w x8 := by rw [hx8]; exact ((B6.trans (k7.mono B6.size)).setCell (by show w.heap.size ≤ N; omega) _)
    have k8 : ∀ j, j < W6.heap.size → j ≠ N → x8.heap[j]? = W6.heap[j]? := fun j h1 h2 => (e8 j h2).trans (k7.block j h1)
    have A8 := A6.same (k8 P (by omega) (by omega))
    have C8 : CdAt x8 (P + 1 + 1) none 0 0 none 0 0 none 0 0 := CdAt.same (C5.below BX (by omega)) (k8 (P + 1 + 1) (by omega) (by omega))
    have F8 : ∀ i, x8.frozen? ⟨P + 1 + 1, i, none⟩ = false := fun i => (World.frozen?_of_block (a := ⟨P + 1 + 1, i, none⟩) (k8 (P + 1 + 1) (by omega) (by omega))).trans (F6 i)
    have E8 := own_same E6 (w' := x8) (fun j q => by obtain rfl : N + 1 = j := by simpa [Value.ownBlock] using q
                                                     exact k8 (N + 1) (by omega) (by omega))
    have GX8 := GX.same (k8 NX (by omega) (by omega))
    have vX8 := vX.carry (w' := x8) (fun x e q => k8 _ (by have := iX x e; omega) (by have := iX x e; omega))
    have vT8 := vT7.carry (w' := x8) (fun x e q => e8 _ (by have := iT7 x e; omega))
    have V8 := V6.view.keep (w' := x8) (fun j h1 h2 => k8 j (by omega) (by omega))
    have iT8 : ∀ x, aT1 = some x → x7.heap.size ≥ x.block + 1 ∧ W6.heap.size ≤ x.block := fun x e => by have := iT7 x e; omega
    have iX8 : ∀ x, adX = some x → x5.heap.size ≤ x.block ∧ x.block < W6.heap.size := iX
    have hOY8 : ∀ Y : World, (∀ j, j < hi → Y.heap[j]? = x8.heap[j]?) → ∀ k, k < O.length → Y.cell? ⟨bO, offO + k, none⟩ = some (.bool (O.getD k false)) := fun Y hY k hk => (World.cell?_of_block (a := ⟨bO, offO + k, none⟩) ((hY bO (by omega)).trans (k8 bO (by omega) (by omega)))).trans (hOY k hk W6 BX)
    have hmY8 : ∀ Y : World, (∀ j, j < hi → Y.heap[j]? = x8.heap[j]?) → ∀ k, k < Ms.length → MbAt Y bM (offM + k * 2) (Ms.getD k Mb.nil) := fun Y hY k hk => (hmYa k hk W6 BX).same ((hY bM (by omega)).trans (k8 bM (by omega) (by omega)))
    have hnY8 : ∀ Y : World, (∀ j, j < hi → Y.heap[j]? = x8.heap[j]?) → ∀ k, k < Ms.length → MbL Y (Ms.getD k Mb.nil) := fun Y hY k hk => ViewI.carry (hnYa k hk W6 BX) (fun x e q => (hY _ (jM k hk x e q).2).trans (k8 _ (by have := jM k hk x e q; omega) (by have := jM k hk x e q; omega)))
    have hNP : P + 1 + 1 < N := by omega
    have hN8 : N + 1 < x8.heap.size := by omega
    have hNX8 : N + 1 < NX ∧ NX < x8.heap.size := by omega
    have iX9 : ∀ x, adX = some x → N + 1 < x.block ∧ x.block < x8.heap.size := fun x e => by have := iX x e; omega
    have iT9 : ∀ x, aT1 = some x → N + 1 < x.block ∧ x.block < x8.heap.size := fun x e => by have := iT8 x e; omega
    have zX := own_zero oX
    clear hmYa hnYa hOY hmY hnY vL5 I5 I6 A5 A6 C5 Q5 F5 F6 N5 G5 G6 G7 W5 V6 E5 E6 B5 BX B6 GX oX nX vX rX iX vT7 rT7 iT7 oT k7 k8 e8 iX8 iT8 hmk
    go_wp2
    rw [← hx8]
    clear hx8 n1 n2 n3 g2
    go_loopw [9, 14] (fun o it wr => ∃ (k : Nat) (Ns : List Ob), it = .int .i64 (k : Int) ∧ k ≤ O.length ∧ Hid (Ns.map Ob.d = goesTo O D (i : Int) ⟨ra, rb, rc, rM, true⟩ kb g1 k) ∧ Ns.length ≤ k ∧ OC (N + 1) wr o Ns ∧ x8.grownBy wr (some (N + 1)) ∧ Hid (∀ j, o.ownBlock = some j → j = N + 1 ∨ x8.heap.size ≤ j)) (fun _ it _ => O.length - (intOf it).toNat)
    case atStart => exact ⟨0, [], rfl, by omega, rfl, Nat.le_refl _, ⟨E8, fun i hi => absurd hi (by simp), fun i hi => absurd hi (by simp), fun i hi => absurd hi (by simp), fun i hi => absurd hi (by simp), fun i hi => absurd hi (by simp), fun i j _ hi => absurd hi (by simp)⟩, Go_refl x8 _, fun j q => .inl (Option.some.inj q).symm⟩
    case round =>
      obtain ⟨k, Ns, rfl, hk, hM, hNk, oc, gr, hob⟩ := hrel
      clear E8
      have sr := gr.size
      have gh : ∀ j, j < x8.heap.size → j ≠ N + 1 → wr.heap[j]? = x8.heap[j]? := fun j hj hn => gr.block j hj (fun q => hn (by simpa using q))
      have AR := A8.same (gh P (by omega) (by omega))
      have AR' := AR
      obtain ⟨X1, X2, X3⟩ := AR'
      by_cases hlt : k < O.length
      · have hlt' : (k : Int) < (O.length : Int) := by omega
        have hck := hOY8 wr (fun j hj => gh j (by omega) (by omega)) k hlt
        obtain ⟨q, hq0⟩ : ∃ q, O.getD k false = q := ⟨_, rfl⟩
        rw [hq0] at hck
        have hq : Hid (O.getD k false = q) := hq0
        clear hq0
        by_cases hki : k = i
        · have hki' : ((k : Int) == (i : Int)) = true := by simp [hki]
          subst hki
          have hga : Hid (goesAt O D (k : Int) ⟨ra, rb, rc, rM, true⟩ kb g1 k = []) := by unfold Hid goesAt; rw [if_pos rfl]
          go_wp2
          go_roundw
          case rel => exact ⟨k + 1, Ns, by go_num, by omega, by unfold Hid; rw [goesTo, hga.out, List.append_nil]; exact hM.out, by omega, oc, gr, hob⟩
          case measure => simp [intOf]; omega
        have hki' : ¬ (k : Int) = (i : Int) := by omega
        have hki2 : ((k : Int) == (i : Int)) = false := by simp; omega
        cases q with
        | false =>
          have hq := hq.out
          have hga : Hid (goesAt O D (i : Int) ⟨ra, rb, rc, rM, true⟩ kb g1 k = []) := by unfold Hid goesAt; rw [if_neg (by omega), if_pos hq]
          go_wp2
          go_roundw
          case rel => exact ⟨k + 1, Ns, by go_num, by omega, by unfold Hid; rw [goesTo, hga.out, List.append_nil]; exact hM.out, by omega, oc, gr, hob⟩
          case measure => simp [intOf]; omega
        | true =>
          have hqq := hq.out
          have hq : Hid (O.getD k false = true) := hqq
          clear hqq
          have GR := GX8.same (gh NX (by omega) (by omega))
          have vXr := vX8.carry (w' := wr) (fun x e _ => gh _ (by have := iX9 x e; omega) (by have := iX9 x e; omega))
          cases kb with
          | false =>
            have hga : Hid (goesAt O D (i : Int) ⟨ra, rb, rc, rM, true⟩ false g1 k = if (outD (D.getD k (0, [])) ra rb rc rM).ok then [((k : Int), (outD (D.getD k (0, [])) ra rb rc rM).a, (outD (D.getD k (0, [])) ra rb rc rM).b, (outD (D.getD k (0, [])) ra rb rc rM).c, (outD (D.getD k (0, [])) ra rb rc rM).M)] else []) := by unfold Hid goesAt; rw [if_neg (by omega), if_neg (by rw [hq.out]; decide), if_neg (by simp)]
            have hkM : k < Ms.length := by have := hDO.out; omega
            have hmY : ∀ Y, Below wr.heap.size wr Y → MbAt Y bM (offM + k * 2) (Ms.getD k Mb.nil) := fun Y hY => hmY8 Y (fun j hj => (hY.block j (by omega)).trans (gh j (by omega) (by omega))) k hkM
            have hnY : ∀ Y, Below wr.heap.size wr Y → MbL Y (Ms.getD k Mb.nil) := fun Y hY => hnY8 Y (fun j hj => (hY.block j (by omega)).trans (gh j (by omega) (by omega))) k hkM
            have hmk := hmx k hkM
            have hgk := hget k
            obtain ⟨m, hh⟩ : ∃ m, Ms.getD k Mb.nil = m := ⟨_, rfl⟩
            simp only [hh] at hmY hnY
            rw [hh] at hmk hgk
            unfold MbAt at hmY
            unfold MbL at hnY
            obtain ⟨s, hs⟩ : ∃ s, Hid (outR m.o (fun i => m.L.getD i 0) m.L.length ra rb rc rM = s) := ⟨_, rfl⟩
            have hgb : outD (D.getD k (0, [])) ra rb rc rM = s := by rw [hgk, ← hs.out]; rfl
            rw [hgb] at hga
            obtain ⟨sa, sb, sc, sM, sok⟩ := s
            simp only [] at hga
            have hkD : k < D.length := by have := hlen.out; omega
            clear hgb hgk hh
            go_wp2_with fail
            clear X1 X2 X3 hck
            refine join_region (fun l l' W' => ∃ (NY : Nat) (adY : Option Addr) (capY : Nat) (us : List Value), us.length = 10 ∧ l' = l.take 15 ++ (.pointer (some ⟨NY, 0, none⟩) :: .bool sok :: (l.drop 17).take 90) ++ us ++ l.drop 117 ∧ FrameAt W' NY sa sb sc adY sM.length capY ∧ W'.ownsRow wr.heap.size 5 1 (.slice adY sM.length capY) sM.length (sM.map (Value.int .u8)) ∧ (∀ j, (Value.slice adY sM.length capY).ownBlock = some j → j ≠ NY) ∧ wr.heap.size ≤ NY ∧ Below wr.heap.size wr W') ?_ ?_
            rotate_left
            · intro K2 hT
              refine wp_region_held (S := fun Y => Below wr.heap.size wr Y) (by kernel_rfl) ?_
              change wpAnyH _ _ _ _ _ _ _ _ (World.drew _)
              have hb0 : Below wr.heap.size wr wr.drew := (Below.refl _ _).drew
              obtain ⟨y0, hy0⟩ : ∃ z, z = wr.drew := ⟨_, rfl⟩
              rw [← hy0] at hb0 ⊢
              have z0 := hb0.size
              clear hy0
              refine takeW 0 108 (.pointer (some ⟨P, 1, none⟩)) rfl rfl (by kernel_rfl) (by kernel_rfl) (by kernel_rfl) (fun _ _ _ h => h) (by kernel_rfl) (by (intro w hSw; go_simp)) (by assumption) ?_
              simp only [List.set_cons_zero, List.set_cons_succ]
              refine takeW 1 109 (.slice (some ⟨bM, offM, none⟩) D.length cM) rfl rfl (by kernel_rfl) (by kernel_rfl) (by kernel_rfl) (fun _ _ _ h => h) (by kernel_rfl) (by (intro Y hSw; obtain ⟨X1, X2, X3⟩ := AR.below hSw (by omega); go_simp)) (by assumption) ?_
              simp only [List.set_cons_zero, List.set_cons_succ]
              refine takeW 2 110 (.int .i64 (k : Int)) rfl rfl (by kernel_rfl) (by kernel_rfl) (by kernel_rfl) (fun _ _ _ h => h) (by kernel_rfl) (by (intro w hSw; go_simp)) (by assumption) ?_
              simp only [List.set_cons_zero, List.set_cons_succ]
              refine takeW 3 111 (.pointer (some ⟨bM, offM + k * 2, none⟩)) rfl rfl (by kernel_rfl) (by kernel_rfl) (by kernel_rfl) (fun _ _ _ h => h) (by kernel_rfl) (by (intro Y hSw; go_simp; try omega)) (by assumption) ?_
              simp only [List.set_cons_zero, List.set_cons_succ]
              refine takeW 4 112 (.agg #[.int .i64 m.o, .slice m.ad m.L.length m.cap]) rfl rfl (by kernel_rfl) (by kernel_rfl) (by kernel_rfl) (fun _ _ _ h => h) (by kernel_rfl) (by (intro Y hSw; obtain ⟨X1, X2⟩ := hmY Y hSw; go_simp)) (by assumption) ?_
              simp only [List.set_cons_zero, List.set_cons_succ]
              refine takeW 5 113 (.agg #[.int .i64 ra, .int .i64 rb, .int .i64 rc, .slice adX rM.length capX]) rfl rfl (by kernel_rfl) (by kernel_rfl) (by kernel_rfl) (fun _ _ _ h => h) (by kernel_rfl) (by (intro Y hSw; obtain ⟨X1, X2, X3, X4⟩ := GR.below hSw (by omega); go_simp)) (by assumption) ?_
              simp only [List.set_cons_zero, List.set_cons_succ]
              have hby0 := hb0
              refine wpAnyH_all (rs := [6, 10]) (by kernel_rfl) (by simp) ?_
              intro i hi; rcases (by simpa using hi : i = 6 ∨ i = 10) with rfl | rfl
              · refine wpOp_step rfl (fun K hK => ?_)
                rw [if_pos (by kernel_rfl)]
                go_simp
                go_at_call 49
                refine (outsideS m.o m.ad m.L.length m.cap (fun i => m.L.getD i 0) ra rb rc adX capX rM y0 (hnY y0 hby0) hmk (vXr.carry (fun x e hp => hby0.block _ (vXr.lt x e hp))) hrm (fun _ h => zX h)).mono ?_
                rintro e y1 ⟨adY, capY, rfl, oX, ky1⟩
                rw [hs.out] at oX ⊢
                simp only [] at oX ⊢
                have hby1 : Below wr.heap.size wr y1 := hby0.trans (ky1.mono hby0.size)
                have zy1 := ky1.size
                refine hK _ _ ⟨hby1, ?_⟩
                clear hK K hi
                refine takeW 7 107 (.tuple #[.agg #[.int .i64 sa, .int .i64 sb, .int .i64 sc, .slice adY sM.length capY], .bool sok]) rfl rfl (by kernel_rfl) (by kernel_rfl) (by kernel_rfl) (fun _ _ _ h => h) (by kernel_rfl) (by (intro w hSw; go_simp)) (by assumption) ?_
                simp only [List.set_cons_zero, List.set_cons_succ]
                refine takeW 8 115 (.agg #[.int .i64 sa, .int .i64 sb, .int .i64 sc, .slice adY sM.length capY]) rfl rfl (by kernel_rfl) (by kernel_rfl) (by kernel_rfl) (fun _ _ _ h => h) (by kernel_rfl) (by (intro w hSw; go_simp)) (by assumption) ?_
                simp only [List.set_cons_zero, List.set_cons_succ]
                refine takeW 9 116 (.bool sok) rfl rfl (by kernel_rfl) (by kernel_rfl) (by kernel_rfl) (fun _ _ _ h => h) (by kernel_rfl) (by (intro w hSw; go_simp)) (by assumption) ?_
                simp only [List.set_cons_zero, List.set_cons_succ]
                refine wpAnyH_all (rs := [10]) (by kernel_rfl) (by simp) ?_
                intro i hi; obtain rfl : i = 10 := by simpa using hi
                refine wpOp_step rfl (fun K hK => ?_)
                rw [if_pos (by kernel_rfl)]
                go_simp
                obtain ⟨NY, hNX⟩ : ∃ n, n = y1.heap.size := ⟨_, rfl⟩
                obtain ⟨y2, hy2⟩ : ∃ z, z = y1.alloc (Obj.cells #[.int .i64 0, .int .i64 0, .int .i64 0, .slice none 0 0] 30) := ⟨_, rfl⟩
                have ky2 : Below y1.heap.size y1 y2 := by rw [hy2]; exact below_box _ _
                have CX : FrameAt y2 NY 0 0 0 none 0 0 := by rw [hy2, hNX]; refine ⟨?_, ?_, ?_, ?_⟩ <;> simp [go_sem]
                have FX : ∀ i, y2.frozen? ⟨NY, i, none⟩ = false := by intro i; rw [hy2, hNX]; simp [go_sem]
                have tX := CX.lt
                have hNX' : y1.heap.size ≤ NY := by omega
                rw [← hNX, ← hy2]
                have hby2 : Below wr.heap.size wr y2 := hby1.trans (ky2.mono hby1.size)
                have zy2 := ky2.size
                clear hy2 hNX
                have nX : ∀ j, (Value.slice adY sM.length capY).ownBlock = some j → j ≠ NY := fun j q => by have := (own_lt oX j q).2; omega
                have oX := own_below2 oX ky2 (Nat.le_refl _)
                refine hK _ _ ⟨hby2, ?_⟩
                clear hK K hi
                have c0 := CX
                obtain ⟨c0, c1, c2, c3⟩ := c0
                have f0 := FX 0
                have f1 := FX 1
                have f2 := FX 2
                have f3 := FX 3
                obtain ⟨yF, hyF⟩ : ∃ z, z = (((y2.setCell ⟨NY, 0, none⟩ (.int .i64 sa)).setCell ⟨NY, 1, none⟩ (.int .i64 sb)).setCell ⟨NY, 2, none⟩ (.int .i64 sc)).setCell ⟨NY, 3, none⟩ (.slice adY sM.length capY) := ⟨_, rfl⟩
                have hF : ∀ j, j ≠ NY → yF.heap[j]? = y2.heap[j]? := fun j hj => by rw [hyF, Below.heap_setCell _ _ _ _ hj, Below.heap_setCell _ _ _ _ hj, Below.heap_setCell _ _ _ _ hj, Below.heap_setCell _ _ _ _ hj]
                have GX : FrameAt yF NY sa sb sc adY sM.length capY := by rw [hyF]; exact frame_put CX rfl
                have BF : Below wr.heap.size wr yF := by rw [hyF]; exact (((hby2.setCell (by show wr.heap.size ≤ NY; omega) _).setCell (by show wr.heap.size ≤ NY; omega) _).setCell (by show wr.heap.size ≤ NY; omega) _).setCell (by show wr.heap.size ≤ NY; omega) _
                have oF : yF.ownsRow wr.heap.size 5 1 (.slice adY sM.length capY) sM.length (sM.map (Value.int .u8)) := own_base (own_same oX (fun j q => hF j (nX j q))) (by omega)
                refine wpAnyH_all (rs := [11]) (by kernel_rfl) (by simp) ?_
                intro i hi; obtain rfl : i = 11 := by simpa using hi
                refine wpOp_step rfl (fun K hK => ?_)
                rw [if_pos (by kernel_rfl)]
                go_simp
                rw [← hyF]
                refine hK _ _ ⟨BF, ?_⟩
                clear hK K hi
                refine takeW 12 16 (.bool sok) rfl rfl (by kernel_rfl) (by kernel_rfl) (by kernel_rfl) (fun _ _ _ h => h) (by kernel_rfl) (by (intro w hSw; go_simp)) (by assumption) ?_
                simp only [List.set_cons_zero, List.set_cons_succ]
                refine wpAnyH_done (by kernel_rfl) ?_ _
                exact hT.out _ _ ⟨NY, adY, capY, [_, _, _, _, _, _, _, _, _, _], rfl, rfl, GX, oF, nX, by omega, BF⟩
              · refine wpOp_step rfl (fun K hK => ?_)
                rw [if_pos (by kernel_rfl)]
                go_simp
                obtain ⟨NY, hNX⟩ : ∃ n, n = y0.heap.size := ⟨_, rfl⟩
                obtain ⟨y1, hy1⟩ : ∃ z, z = y0.alloc (Obj.cells #[.int .i64 0, .int .i64 0, .int .i64 0, .slice none 0 0] 30) := ⟨_, rfl⟩
                have ky1 : Below y0.heap.size y0 y1 := by rw [hy1]; exact below_box _ _
                have CX : FrameAt y1 NY 0 0 0 none 0 0 := by rw [hy1, hNX]; refine ⟨?_, ?_, ?_, ?_⟩ <;> simp [go_sem]
                have FX : ∀ i, y1.frozen? ⟨NY, i, none⟩ = false := by intro i; rw [hy1, hNX]; simp [go_sem]
                have tX := CX.lt
                have hNX' : y0.heap.size ≤ NY := by omega
                rw [← hNX, ← hy1]
                have hby1 : Below wr.heap.size wr y1 := hby0.trans (ky1.mono hby0.size)
                have zy1 := ky1.size
                clear hy1 hNX
                refine hK _ _ ⟨hby1, ?_⟩
                clear hK K hi
                refine wpAnyH_all (rs := [6]) (by kernel_rfl) (by simp) ?_
                intro i hi; obtain rfl : i = 6 := by simpa using hi
                refine wpOp_step rfl (fun K hK => ?_)
                rw [if_pos (by kernel_rfl)]
                go_simp
                go_at_call 49
                refine (outsideS m.o m.ad m.L.length m.cap (fun i => m.L.getD i 0) ra rb rc adX capX rM y1 (hnY y1 hby1) hmk (vXr.carry (fun x e hp => hby1.block _ (vXr.lt x e hp))) hrm (fun _ h => zX h)).mono ?_
                rintro e y2 ⟨adY, capY, rfl, oX, ky2⟩
                rw [hs.out] at oX ⊢
                simp only [] at oX ⊢
                have hby2 : Below wr.heap.size wr y2 := hby1.trans (ky2.mono hby1.size)
                have zy2 := ky2.size
                have nX : ∀ j, (Value.slice adY sM.length capY).ownBlock = some j → j ≠ NY := fun j q => by have := (own_lt oX j q).1; omega
                have CX := CX.below ky2 (by omega)
                have FX := fz_below FX ky2 (by omega)
                refine hK _ _ ⟨hby2, ?_⟩
                clear hK K hi
                refine takeW 7 107 (.tuple #[.agg #[.int .i64 sa, .int .i64 sb, .int .i64 sc, .slice adY sM.length capY], .bool sok]) rfl rfl (by kernel_rfl) (by kernel_rfl) (by kernel_rfl) (fun _ _ _ h => h) (by kernel_rfl) (by (intro w hSw; go_simp)) (by assumption) ?_
                simp only [List.set_cons_zero, List.set_cons_succ]
                refine takeW 8 115 (.agg #[.int .i64 sa, .int .i64 sb, .int .i64 sc, .slice adY sM.length capY]) rfl rfl (by kernel_rfl) (by kernel_rfl) (by kernel_rfl) (fun _ _ _ h => h) (by kernel_rfl) (by (intro w hSw; go_simp)) (by assumption) ?_
                simp only [List.set_cons_zero, List.set_cons_succ]
                refine takeW 9 116 (.bool sok) rfl rfl (by kernel_rfl) (by kernel_rfl) (by kernel_rfl) (fun _ _ _ h => h) (by kernel_rfl) (by (intro w hSw; go_simp)) (by assumption) ?_
                simp only [List.set_cons_zero, List.set_cons_succ]
                have c0 := CX
                obtain ⟨c0, c1, c2, c3⟩ := c0
                have f0 := FX 0
                have f1 := FX 1
                have f2 := FX 2
                have f3 := FX 3
                obtain ⟨yF, hyF⟩ : ∃ z, z = (((y2.setCell ⟨NY, 0, none⟩ (.int .i64 sa)).setCell ⟨NY, 1, none⟩ (.int .i64 sb)).setCell ⟨NY, 2, none⟩ (.int .i64 sc)).setCell ⟨NY, 3, none⟩ (.slice adY sM.length capY) := ⟨_, rfl⟩
                have hF : ∀ j, j ≠ NY → yF.heap[j]? = y2.heap[j]? := fun j hj => by rw [hyF, Below.heap_setCell _ _ _ _ hj, Below.heap_setCell _ _ _ _ hj, Below.heap_setCell _ _ _ _ hj, Below.heap_setCell _ _ _ _ hj]
                have GX : FrameAt yF NY sa sb sc adY sM.length capY := by rw [hyF]; exact frame_put CX rfl
                have BF : Below wr.heap.size wr yF := by rw [hyF]; exact (((hby2.setCell (by show wr.heap.size ≤ NY; omega) _).setCell (by show wr.heap.size ≤ NY; omega) _).setCell (by show wr.heap.size ≤ NY; omega) _).setCell (by show wr.heap.size ≤ NY; omega) _
                have oF : yF.ownsRow wr.heap.size 5 1 (.slice adY sM.length capY) sM.length (sM.map (Value.int .u8)) := own_base (own_same oX (fun j q => hF j (nX j q))) (by omega)
                refine wpAnyH_all (rs := [11]) (by kernel_rfl) (by simp) ?_
                intro i hi; obtain rfl : i = 11 := by simpa using hi
                refine wpOp_step rfl (fun K hK => ?_)
                rw [if_pos (by kernel_rfl)]
                go_simp
                rw [← hyF]
                refine hK _ _ ⟨BF, ?_⟩
                clear hK K hi
                refine takeW 12 16 (.bool sok) rfl rfl (by kernel_rfl) (by kernel_rfl) (by kernel_rfl) (fun _ _ _ h => h) (by kernel_rfl) (by (intro w hSw; go_simp)) (by assumption) ?_
                simp only [List.set_cons_zero, List.set_cons_succ]
                refine wpAnyH_done (by kernel_rfl) ?_ _
                exact hT.out _ _ ⟨NY, adY, capY, [_, _, _, _, _, _, _, _, _, _], rfl, rfl, GX, oF, nX, by omega, BF⟩
            rintro l' W9 ⟨NY, adY, capY, us, hul, rfl, GY, oY, nY, hNY, BY⟩
            obtain ⟨u107, us, rfl⟩ : ∃ a b, us = a :: b := List.exists_cons_of_length_eq_add_one hul
            replace hul := Nat.succ.inj hul
            obtain ⟨u108, us, rfl⟩ : ∃ a b, us = a :: b := List.exists_cons_of_length_eq_add_one hul
            replace hul := Nat.succ.inj hul
            obtain ⟨u109, us, rfl⟩ : ∃ a b, us = a :: b := List.exists_cons_of_length_eq_add_one hul
            replace hul := Nat.succ.inj hul
            obtain ⟨u110, us, rfl⟩ : ∃ a b, us = a :: b := List.exists_cons_of_length_eq_add_one hul
            replace hul := Nat.succ.inj hul
            obtain ⟨u111, us, rfl⟩ : ∃ a b, us = a :: b := List.exists_cons_of_length_eq_add_one hul
            replace hul := Nat.succ.inj hul
            obtain ⟨u112, us, rfl⟩ : ∃ a b, us = a :: b := List.exists_cons_of_length_eq_add_one hul
            replace hul := Nat.succ.inj hul
            obtain ⟨u113, us, rfl⟩ : ∃ a b, us = a :: b := List.exists_cons_of_length_eq_add_one hul
            replace hul := Nat.succ.inj hul
            obtain ⟨u114, us, rfl⟩ : ∃ a b, us = a :: b := List.exists_cons_of_length_eq_add_one hul
            replace hul := Nat.succ.inj hul
            obtain ⟨u115, us, rfl⟩ : ∃ a b, us = a :: b := List.exists_cons_of_length_eq_add_one hul
            replace hul := Nat.succ.inj hul
            obtain ⟨u116, us, rfl⟩ : ∃ a b, us = a :: b := List.exists_cons_of_length_eq_add_one hul
            replace hul := Nat.succ.inj hul
            obtain rfl : us = [] := List.eq_nil_of_length_eq_zero hul
            clear hul
            simp only [List.take, List.drop, List.cons_append, List.nil_append]
            have z9 := BY.size
            cases sok with
            | false =>
              have gr9 := grownV gr BY (Go_refl W9 none) (fun j q => (by cases q))
              go_wp2
              go_roundw
              case rel => exact ⟨k + 1, Ns, by go_num, by omega, by unfold Hid; rw [goesTo, hga.out]; exact hM.out.trans (List.append_nil _).symm, by omega, oc.later BY (Nat.le_refl _), gr9, hob⟩
              case measure => simp [intOf]; omega
            | true =>
              obtain ⟨vY, rY, iY⟩ := own_view2 oY
              have zY := own_zero oY
              have NYl := GY.lt
              have GY' := GY
              obtain ⟨h1, h2, h3, h4⟩ := GY'
              obtain ⟨w1, hw1'⟩ : ∃ z, z = W9.alloc (Obj.cells #[.int .i64 (k : Int), .int .i64 sa, .int .i64 sb, .int .i64 sc, .slice adY sM.length capY] 43) := ⟨_, rfl⟩
              have k1 : Below W9.heap.size W9 w1 := by rw [hw1']; exact below_box _ _
              have kk1 : Below wr.heap.size wr w1 := BY.trans (k1.mono BY.size)
              have oc1 : (W9.alloc (Obj.cells #[.int .i64 (k : Int), .int .i64 sa, .int .i64 sb, .int .i64 sc, .slice adY sM.length capY] 43)).ownsRow (N + 1) 43 5 u9 Ns.length (ocells Ns) := by rw [← hw1']; exact (oc.later kk1 (Nat.le_refl _)).own
              have vY1 := vY.carry (w' := w1) (fun x e _ => k1.block _ (iY x e).2)
              have rY1 := rY.carry (w' := w1) (fun x e _ => k1.block _ (iY x e).2)
              have zz1 := k1.size
              go_wp2_with (first | (at_builtin; refine wpList_append_own_at _ rfl _ _ 33 rfl (N + 1) 43 i1 (.agg #[.int .i64 0, .int .i64 0, .int .i64 0, .int .i64 0, .slice none 0 0]) 5 56 Tryz.underlying33 hj hy0 hy1 hy2 rfl (by decide) _ _ _ rfl oc1 ⟨W9.heap.size, 0, none⟩ 1 1 [.int .i64 (k : Int), .int .i64 sa, .int .i64 sb, .int .i64 sc, .slice adY sM.length capY] rfl ?a20 ?a21 ?a22 ?a23 ?a24 ?a25 ?_) | go_in)
              try (case a20 => rfl)
              try (case a21 => exact cells5 W9 _ _ _ _ _ _)
              case a22 => first | exact ⟨rfl, rfl, rfl, rfl, rfl⟩ | (intro u hu; simp at hu; rcases hu with rfl | rfl | rfl | rfl | rfl <;> rfl)
              case a23 => unfold maxLen; omega
              case a24 => omega
              case a25 => first | omega | (simp; omega)
              intro v4 y4 o4 g4 _ e4
              rw [← hw1'] at g4
              have e4' : v4.ownBlock = u9.ownBlock ∨ v4.ownBlock = some w1.heap.size := by rw [hw1', show (W9.alloc (Obj.cells #[.int .i64 (k : Int), .int .i64 sa, .int .i64 sb, .int .i64 sc, .slice adY sM.length capY] 43)).heap.size = W9.heap.size + 1 by simp]; exact e4
              have oc4 := oc.push (B := 0) (m := ⟨(k : Int), sa, sb, sc, adY, capY, sM⟩) kk1 vY1 rY1 zY (fun x e _ => ⟨(iY x e).1, by have := (iY x e).2; omega⟩) (by omega) o4 g4 e4'
              have gr4 := grownV gr kk1 g4 hob.out
              have hob4 : Hid (∀ j, v4.ownBlock = some j → j = N + 1 ∨ x8.heap.size ≤ j) := fun j q => by
                rcases e4' with r | r
                · exact hob.out j (r ▸ q)
                · rw [r] at q
                  have : w1.heap.size = j := by simpa using q
                  omega
              clear e4 e4' o4 g4 oc1 hw1' h1 h2 h3 h4
              go_wp2
              go_roundw
              case rel => exact ⟨k + 1, Ns ++ [⟨(k : Int), sa, sb, sc, adY, capY, sM⟩], by go_num, by omega, by unfold Hid; rw [goesTo, hga.out, List.map_append, hM.out]; rfl, by simp; omega, oc4, gr4, hob4⟩
              case measure => simp [intOf]; omega
          | true =>
            by_cases hkg : (k : Int) = g1
            · subst hkg
              have hga : Hid (goesAt O D (i : Int) ⟨ra, rb, rc, rM, true⟩ true (k : Int) k = if (outD (D.getD k (0, [])) ra rb rc rM).ok then [((k : Int), (outD (D.getD k (0, [])) ra rb rc rM).a, (outD (D.getD k (0, [])) ra rb rc rM).b, (outD (D.getD k (0, [])) ra rb rc rM).c, (outD (D.getD k (0, [])) ra rb rc rM).M)] else []) := by unfold Hid goesAt; rw [if_neg (by omega), if_neg (by rw [hq.out]; decide), if_neg (by simp)]
              have hkM : k < Ms.length := by have := hDO.out; omega
              have hmY : ∀ Y, Below wr.heap.size wr Y → MbAt Y bM (offM + k * 2) (Ms.getD k Mb.nil) := fun Y hY => hmY8 Y (fun j hj => (hY.block j (by omega)).trans (gh j (by omega) (by omega))) k hkM
              have hnY : ∀ Y, Below wr.heap.size wr Y → MbL Y (Ms.getD k Mb.nil) := fun Y hY => hnY8 Y (fun j hj => (hY.block j (by omega)).trans (gh j (by omega) (by omega))) k hkM
              have hmk := hmx k hkM
              have hgk := hget k
              obtain ⟨m, hh⟩ : ∃ m, Ms.getD k Mb.nil = m := ⟨_, rfl⟩
              simp only [hh] at hmY hnY
              rw [hh] at hmk hgk
              unfold MbAt at hmY
              unfold MbL at hnY
              obtain ⟨s, hs⟩ : ∃ s, Hid (outR m.o (fun i => m.L.getD i 0) m.L.length ra rb rc rM = s) := ⟨_, rfl⟩
              have hgb : outD (D.getD k (0, [])) ra rb rc rM = s := by rw [hgk, ← hs.out]; rfl
              rw [hgb] at hga
              obtain ⟨sa, sb, sc, sM, sok⟩ := s
              simp only [] at hga
              have hkD : k < D.length := by have := hlen.out; omega
              clear hgb hgk hh
              go_wp2_with fail
              clear X1 X2 X3 hck
              refine join_region (fun l l' W' => ∃ (NY : Nat) (adY : Option Addr) (capY : Nat) (us : List Value), us.length = 10 ∧ l' = l.take 15 ++ (.pointer (some ⟨NY, 0, none⟩) :: .bool sok :: (l.drop 17).take 90) ++ us ++ l.drop 117 ∧ FrameAt W' NY sa sb sc adY sM.length capY ∧ W'.ownsRow wr.heap.size 5 1 (.slice adY sM.length capY) sM.length (sM.map (Value.int .u8)) ∧ (∀ j, (Value.slice adY sM.length capY).ownBlock = some j → j ≠ NY) ∧ wr.heap.size ≤ NY ∧ Below wr.heap.size wr W') ?_ ?_
              rotate_left
              · intro K2 hT
                refine wp_region_held (S := fun Y => Below wr.heap.size wr Y) (by kernel_rfl) ?_
                change wpAnyH _ _ _ _ _ _ _ _ (World.drew _)
                have hb0 : Below wr.heap.size wr wr.drew := (Below.refl _ _).drew
                obtain ⟨y0, hy0⟩ : ∃ z, z = wr.drew := ⟨_, rfl⟩
                rw [← hy0] at hb0 ⊢
                have z0 := hb0.size
                clear hy0
                refine takeW 0 108 (.pointer (some ⟨P, 1, none⟩)) rfl rfl (by kernel_rfl) (by kernel_rfl) (by kernel_rfl) (fun _ _ _ h => h) (by kernel_rfl) (by (intro w hSw; go_simp)) (by assumption) ?_
                simp only [List.set_cons_zero, List.set_cons_succ]
                refine takeW 1 109 (.slice (some ⟨bM, offM, none⟩) D.length cM) rfl rfl (by kernel_rfl) (by kernel_rfl) (by kernel_rfl) (fun _ _ _ h => h) (by kernel_rfl) (by (intro Y hSw; obtain ⟨X1, X2, X3⟩ := AR.below hSw (by omega); go_simp)) (by assumption) ?_
                simp only [List.set_cons_zero, List.set_cons_succ]
                refine takeW 2 110 (.int .i64 (k : Int)) rfl rfl (by kernel_rfl) (by kernel_rfl) (by kernel_rfl) (fun _ _ _ h => h) (by kernel_rfl) (by (intro w hSw; go_simp)) (by assumption) ?_
                simp only [List.set_cons_zero, List.set_cons_succ]
                refine takeW 3 111 (.pointer (some ⟨bM, offM + k * 2, none⟩)) rfl rfl (by kernel_rfl) (by kernel_rfl) (by kernel_rfl) (fun _ _ _ h => h) (by kernel_rfl) (by (intro Y hSw; go_simp; try omega)) (by assumption) ?_
                simp only [List.set_cons_zero, List.set_cons_succ]
                refine takeW 4 112 (.agg #[.int .i64 m.o, .slice m.ad m.L.length m.cap]) rfl rfl (by kernel_rfl) (by kernel_rfl) (by kernel_rfl) (fun _ _ _ h => h) (by kernel_rfl) (by (intro Y hSw; obtain ⟨X1, X2⟩ := hmY Y hSw; go_simp)) (by assumption) ?_
                simp only [List.set_cons_zero, List.set_cons_succ]
                refine takeW 5 113 (.agg #[.int .i64 ra, .int .i64 rb, .int .i64 rc, .slice adX rM.length capX]) rfl rfl (by kernel_rfl) (by kernel_rfl) (by kernel_rfl) (fun _ _ _ h => h) (by kernel_rfl) (by (intro Y hSw; obtain ⟨X1, X2, X3, X4⟩ := GR.below hSw (by omega); go_simp)) (by assumption) ?_
                simp only [List.set_cons_zero, List.set_cons_succ]
                have hby0 := hb0
                refine wpAnyH_all (rs := [6, 10]) (by kernel_rfl) (by simp) ?_
                intro i hi; rcases (by simpa using hi : i = 6 ∨ i = 10) with rfl | rfl
                · refine wpOp_step rfl (fun K hK => ?_)
                  rw [if_pos (by kernel_rfl)]
                  go_simp
                  go_at_call 49
                  refine (outsideS m.o m.ad m.L.length m.cap (fun i => m.L.getD i 0) ra rb rc adX capX rM y0 (hnY y0 hby0) hmk (vXr.carry (fun x e hp => hby0.block _ (vXr.lt x e hp))) hrm (fun _ h => zX h)).mono ?_
                  rintro e y1 ⟨adY, capY, rfl, oX, ky1⟩
                  rw [hs.out] at oX ⊢
                  simp only [] at oX ⊢
                  have hby1 : Below wr.heap.size wr y1 := hby0.trans (ky1.mono hby0.size)
                  have zy1 := ky1.size
                  refine hK _ _ ⟨hby1, ?_⟩
                  clear hK K hi
                  refine takeW 7 107 (.tuple #[.agg #[.int .i64 sa, .int .i64 sb, .int .i64 sc, .slice adY sM.length capY], .bool sok]) rfl rfl (by kernel_rfl) (by kernel_rfl) (by kernel_rfl) (fun _ _ _ h => h) (by kernel_rfl) (by (intro w hSw; go_simp)) (by assumption) ?_
                  simp only [List.set_cons_zero, List.set_cons_succ]
                  refine takeW 8 115 (.agg #[.int .i64 sa, .int .i64 sb, .int .i64 sc, .slice adY sM.length capY]) rfl rfl (by kernel_rfl) (by kernel_rfl) (by kernel_rfl) (fun _ _ _ h => h) (by kernel_rfl) (by (intro w hSw; go_simp)) (by assumption) ?_
                  simp only [List.set_cons_zero, List.set_cons_succ]
                  refine takeW 9 116 (.bool sok) rfl rfl (by kernel_rfl) (by kernel_rfl) (by kernel_rfl) (fun _ _ _ h => h) (by kernel_rfl) (by (intro w hSw; go_simp)) (by assumption) ?_
                  simp only [List.set_cons_zero, List.set_cons_succ]
                  refine wpAnyH_all (rs := [10]) (by kernel_rfl) (by simp) ?_
                  intro i hi; obtain rfl : i = 10 := by simpa using hi
                  refine wpOp_step rfl (fun K hK => ?_)
                  rw [if_pos (by kernel_rfl)]
                  go_simp
                  obtain ⟨NY, hNX⟩ : ∃ n, n = y1.heap.size := ⟨_, rfl⟩
                  obtain ⟨y2, hy2⟩ : ∃ z, z = y1.alloc (Obj.cells #[.int .i64 0, .int .i64 0, .int .i64 0, .slice none 0 0] 30) := ⟨_, rfl⟩
                  have ky2 : Below y1.heap.size y1 y2 := by rw [hy2]; exact below_box _ _
                  have CX : FrameAt y2 NY 0 0 0 none 0 0 := by rw [hy2, hNX]; refine ⟨?_, ?_, ?_, ?_⟩ <;> simp [go_sem]
                  have FX : ∀ i, y2.frozen? ⟨NY, i, none⟩ = false := by intro i; rw [hy2, hNX]; simp [go_sem]
                  have tX := CX.lt
                  have hNX' : y1.heap.size ≤ NY := by omega
                  rw [← hNX, ← hy2]
                  have hby2 : Below wr.heap.size wr y2 := hby1.trans (ky2.mono hby1.size)
                  have zy2 := ky2.size
                  clear hy2 hNX
                  have nX : ∀ j, (Value.slice adY sM.length capY).ownBlock = some j → j ≠ NY := fun j q => by have := (own_lt oX j q).2; omega
                  have oX := own_below2 oX ky2 (Nat.le_refl _)
                  refine hK _ _ ⟨hby2, ?_⟩
                  clear hK K hi
                  have c0 := CX
                  obtain ⟨c0, c1, c2, c3⟩ := c0
                  have f0 := FX 0
                  have f1 := FX 1
                  have f2 := FX 2
                  have f3 := FX 3
                  obtain ⟨yF, hyF⟩ : ∃ z, z = (((y2.setCell ⟨NY, 0, none⟩ (.int .i64 sa)).setCell ⟨NY, 1, none⟩ (.int .i64 sb)).setCell ⟨NY, 2, none⟩ (.int .i64 sc)).setCell ⟨NY, 3, none⟩ (.slice adY sM.length capY) := ⟨_, rfl⟩
                  have hF : ∀ j, j ≠ NY → yF.heap[j]? = y2.heap[j]? := fun j hj => by rw [hyF, Below.heap_setCell _ _ _ _ hj, Below.heap_setCell _ _ _ _ hj, Below.heap_setCell _ _ _ _ hj, Below.heap_setCell _ _ _ _ hj]
                  have GX : FrameAt yF NY sa sb sc adY sM.length capY := by rw [hyF]; exact frame_put CX rfl
                  have BF : Below wr.heap.size wr yF := by rw [hyF]; exact (((hby2.setCell (by show wr.heap.size ≤ NY; omega) _).setCell (by show wr.heap.size ≤ NY; omega) _).setCell (by show wr.heap.size ≤ NY; omega) _).setCell (by show wr.heap.size ≤ NY; omega) _
                  have oF : yF.ownsRow wr.heap.size 5 1 (.slice adY sM.length capY) sM.length (sM.map (Value.int .u8)) := own_base (own_same oX (fun j q => hF j (nX j q))) (by omega)
                  refine wpAnyH_all (rs := [11]) (by kernel_rfl) (by simp) ?_
                  intro i hi; obtain rfl : i = 11 := by simpa using hi
                  refine wpOp_step rfl (fun K hK => ?_)
                  rw [if_pos (by kernel_rfl)]
                  go_simp
                  rw [← hyF]
                  refine hK _ _ ⟨BF, ?_⟩
                  clear hK K hi
                  refine takeW 12 16 (.bool sok) rfl rfl (by kernel_rfl) (by kernel_rfl) (by kernel_rfl) (fun _ _ _ h => h) (by kernel_rfl) (by (intro w hSw; go_simp)) (by assumption) ?_
                  simp only [List.set_cons_zero, List.set_cons_succ]
                  refine wpAnyH_done (by kernel_rfl) ?_ _
                  exact hT.out _ _ ⟨NY, adY, capY, [_, _, _, _, _, _, _, _, _, _], rfl, rfl, GX, oF, nX, by omega, BF⟩
                · refine wpOp_step rfl (fun K hK => ?_)
                  rw [if_pos (by kernel_rfl)]
                  go_simp
                  obtain ⟨NY, hNX⟩ : ∃ n, n = y0.heap.size := ⟨_, rfl⟩
                  obtain ⟨y1, hy1⟩ : ∃ z, z = y0.alloc (Obj.cells #[.int .i64 0, .int .i64 0, .int .i64 0, .slice none 0 0] 30) := ⟨_, rfl⟩
                  have ky1 : Below y0.heap.size y0 y1 := by rw [hy1]; exact below_box _ _
                  have CX : FrameAt y1 NY 0 0 0 none 0 0 := by rw [hy1, hNX]; refine ⟨?_, ?_, ?_, ?_⟩ <;> simp [go_sem]
                  have FX : ∀ i, y1.frozen? ⟨NY, i, none⟩ = false := by intro i; rw [hy1, hNX]; simp [go_sem]
                  have tX := CX.lt
                  have hNX' : y0.heap.size ≤ NY := by omega
                  rw [← hNX, ← hy1]
                  have hby1 : Below wr.heap.size wr y1 := hby0.trans (ky1.mono hby0.size)
                  have zy1 := ky1.size
                  clear hy1 hNX
                  refine hK _ _ ⟨hby1, ?_⟩
                  clear hK K hi
                  refine wpAnyH_all (rs := [6]) (by kernel_rfl) (by simp) ?_
                  intro i hi; obtain rfl : i = 6 := by simpa using hi
                  refine wpOp_step rfl (fun K hK => ?_)
                  rw [if_pos (by kernel_rfl)]
                  go_simp
                  go_at_call 49
                  refine (outsideS m.o m.ad m.L.length m.cap (fun i => m.L.getD i 0) ra rb rc adX capX rM y1 (hnY y1 hby1) hmk (vXr.carry (fun x e hp => hby1.block _ (vXr.lt x e hp))) hrm (fun _ h => zX h)).mono ?_
                  rintro e y2 ⟨adY, capY, rfl, oX, ky2⟩
                  rw [hs.out] at oX ⊢
                  simp only [] at oX ⊢
                  have hby2 : Below wr.heap.size wr y2 := hby1.trans (ky2.mono hby1.size)
                  have zy2 := ky2.size
                  have nX : ∀ j, (Value.slice adY sM.length capY).ownBlock = some j → j ≠ NY := fun j q => by have := (own_lt oX j q).1; omega
                  have CX := CX.below ky2 (by omega)
                  have FX := fz_below FX ky2 (by omega)
                  refine hK _ _ ⟨hby2, ?_⟩
                  clear hK K hi
                  refine takeW 7 107 (.tuple #[.agg #[.int .i64 sa, .int .i64 sb, .int .i64 sc, .slice adY sM.length capY], .bool sok]) rfl rfl (by kernel_rfl) (by kernel_rfl) (by kernel_rfl) (fun _ _ _ h => h) (by kernel_rfl) (by (intro w hSw; go_simp)) (by assumption) ?_
                  simp only [List.set_cons_zero, List.set_cons_succ]
                  refine takeW 8 115 (.agg #[.int .i64 sa, .int .i64 sb, .int .i64 sc, .slice adY sM.length capY]) rfl rfl (by kernel_rfl) (by kernel_rfl) (by kernel_rfl) (fun _ _ _ h => h) (by kernel_rfl) (by (intro w hSw; go_simp)) (by assumption) ?_
                  simp only [List.set_cons_zero, List.set_cons_succ]
                  refine takeW 9 116 (.bool sok) rfl rfl (by kernel_rfl) (by kernel_rfl) (by kernel_rfl) (fun _ _ _ h => h) (by kernel_rfl) (by (intro w hSw; go_simp)) (by assumption) ?_
                  simp only [List.set_cons_zero, List.set_cons_succ]
                  have c0 := CX
                  obtain ⟨c0, c1, c2, c3⟩ := c0
                  have f0 := FX 0
                  have f1 := FX 1
                  have f2 := FX 2
                  have f3 := FX 3
                  obtain ⟨yF, hyF⟩ : ∃ z, z = (((y2.setCell ⟨NY, 0, none⟩ (.int .i64 sa)).setCell ⟨NY, 1, none⟩ (.int .i64 sb)).setCell ⟨NY, 2, none⟩ (.int .i64 sc)).setCell ⟨NY, 3, none⟩ (.slice adY sM.length capY) := ⟨_, rfl⟩
                  have hF : ∀ j, j ≠ NY → yF.heap[j]? = y2.heap[j]? := fun j hj => by rw [hyF, Below.heap_setCell _ _ _ _ hj, Below.heap_setCell _ _ _ _ hj, Below.heap_setCell _ _ _ _ hj, Below.heap_setCell _ _ _ _ hj]
                  have GX : FrameAt yF NY sa sb sc adY sM.length capY := by rw [hyF]; exact frame_put CX rfl
                  have BF : Below wr.heap.size wr yF := by rw [hyF]; exact (((hby2.setCell (by show wr.heap.size ≤ NY; omega) _).setCell (by show wr.heap.size ≤ NY; omega) _).setCell (by show wr.heap.size ≤ NY; omega) _).setCell (by show wr.heap.size ≤ NY; omega) _
                  have oF : yF.ownsRow wr.heap.size 5 1 (.slice adY sM.length capY) sM.length (sM.map (Value.int .u8)) := own_base (own_same oX (fun j q => hF j (nX j q))) (by omega)
                  refine wpAnyH_all (rs := [11]) (by kernel_rfl) (by simp) ?_
                  intro i hi; obtain rfl : i = 11 := by simpa using hi
                  refine wpOp_step rfl (fun K hK => ?_)
                  rw [if_pos (by kernel_rfl)]
                  go_simp
                  rw [← hyF]
                  refine hK _ _ ⟨BF, ?_⟩
                  clear hK K hi
                  refine takeW 12 16 (.bool sok) rfl rfl (by kernel_rfl) (by kernel_rfl) (by kernel_rfl) (fun _ _ _ h => h) (by kernel_rfl) (by (intro w hSw; go_simp)) (by assumption) ?_
                  simp only [List.set_cons_zero, List.set_cons_succ]
                  refine wpAnyH_done (by kernel_rfl) ?_ _
                  exact hT.out _ _ ⟨NY, adY, capY, [_, _, _, _, _, _, _, _, _, _], rfl, rfl, GX, oF, nX, by omega, BF⟩
              rintro l' W9 ⟨NY, adY, capY, us, hul, rfl, GY, oY, nY, hNY, BY⟩
              obtain ⟨u107, us, rfl⟩ : ∃ a b, us = a :: b := List.exists_cons_of_length_eq_add_one hul
              replace hul := Nat.succ.inj hul
              obtain ⟨u108, us, rfl⟩ : ∃ a b, us = a :: b := List.exists_cons_of_length_eq_add_one hul
              replace hul := Nat.succ.inj hul
              obtain ⟨u109, us, rfl⟩ : ∃ a b, us = a :: b := List.exists_cons_of_length_eq_add_one hul
              replace hul := Nat.succ.inj hul
              obtain ⟨u110, us, rfl⟩ : ∃ a b, us = a :: b := List.exists_cons_of_length_eq_add_one hul
              replace hul := Nat.succ.inj hul
              obtain ⟨u111, us, rfl⟩ : ∃ a b, us = a :: b := List.exists_cons_of_length_eq_add_one hul
              replace hul := Nat.succ.inj hul
              obtain ⟨u112, us, rfl⟩ : ∃ a b, us = a :: b := List.exists_cons_of_length_eq_add_one hul
              replace hul := Nat.succ.inj hul
              obtain ⟨u113, us, rfl⟩ : ∃ a b, us = a :: b := List.exists_cons_of_length_eq_add_one hul
              replace hul := Nat.succ.inj hul
              obtain ⟨u114, us, rfl⟩ : ∃ a b, us = a :: b := List.exists_cons_of_length_eq_add_one hul
              replace hul := Nat.succ.inj hul
              obtain ⟨u115, us, rfl⟩ : ∃ a b, us = a :: b := List.exists_cons_of_length_eq_add_one hul
              replace hul := Nat.succ.inj hul
              obtain ⟨u116, us, rfl⟩ : ∃ a b, us = a :: b := List.exists_cons_of_length_eq_add_one hul
              replace hul := Nat.succ.inj hul
              obtain rfl : us = [] := List.eq_nil_of_length_eq_zero hul
              clear hul
              simp only [List.take, List.drop, List.cons_append, List.nil_append]
              have z9 := BY.size
              cases sok with
              | false =>
                have gr9 := grownV gr BY (Go_refl W9 none) (fun j q => (by cases q))
                go_wp2
                go_roundw
                case rel => exact ⟨k + 1, Ns, by go_num, by omega, by unfold Hid; rw [goesTo, hga.out]; exact hM.out.trans (List.append_nil _).symm, by omega, oc.later BY (Nat.le_refl _), gr9, hob⟩
                case measure => simp [intOf]; omega
              | true =>
                obtain ⟨vY, rY, iY⟩ := own_view2 oY
                have zY := own_zero oY
                have NYl := GY.lt
                have GY' := GY
                obtain ⟨h1, h2, h3, h4⟩ := GY'
                obtain ⟨w1, hw1'⟩ : ∃ z, z = W9.alloc (Obj.cells #[.int .i64 (k : Int), .int .i64 sa, .int .i64 sb, .int .i64 sc, .slice adY sM.length capY] 43) := ⟨_, rfl⟩
                have k1 : Below W9.heap.size W9 w1 := by rw [hw1']; exact below_box _ _
                have kk1 : Below wr.heap.size wr w1 := BY.trans (k1.mono BY.size)
                have oc1 : (W9.alloc (Obj.cells #[.int .i64 (k : Int), .int .i64 sa, .int .i64 sb, .int .i64 sc, .slice adY sM.length capY] 43)).ownsRow (N + 1) 43 5 u9 Ns.length (ocells Ns) := by rw [← hw1']; exact (oc.later kk1 (Nat.le_refl _)).own
                have vY1 := vY.carry (w' := w1) (fun x e _ => k1.block _ (iY x e).2)
                have rY1 := rY.carry (w' := w1) (fun x e _ => k1.block _ (iY x e).2)
                have zz1 := k1.size
                go_wp2_with (first | (at_builtin; refine wpList_append_own_at _ rfl _ _ 33 rfl (N + 1) 43 i1 (.agg #[.int .i64 0, .int .i64 0, .int .i64 0, .int .i64 0, .slice none 0 0]) 5 56 Tryz.underlying33 hj hy0 hy1 hy2 rfl (by decide) _ _ _ rfl oc1 ⟨W9.heap.size, 0, none⟩ 1 1 [.int .i64 (k : Int), .int .i64 sa, .int .i64 sb, .int .i64 sc, .slice adY sM.length capY] rfl ?a30 ?a31 ?a32 ?a33 ?a34 ?a35 ?_) | go_in)
                try (case a30 => rfl)
                try (case a31 => exact cells5 W9 _ _ _ _ _ _)
                case a32 => first | exact ⟨rfl, rfl, rfl, rfl, rfl⟩ | (intro u hu; simp at hu; rcases hu with rfl | rfl | rfl | rfl | rfl <;> rfl)
                case a33 => unfold maxLen; omega
                case a34 => omega
                case a35 => first | omega | (simp; omega)
                intro v4 y4 o4 g4 _ e4
                rw [← hw1'] at g4
                have e4' : v4.ownBlock = u9.ownBlock ∨ v4.ownBlock = some w1.heap.size := by rw [hw1', show (W9.alloc (Obj.cells #[.int .i64 (k : Int), .int .i64 sa, .int .i64 sb, .int .i64 sc, .slice adY sM.length capY] 43)).heap.size = W9.heap.size + 1 by simp]; exact e4
                have oc4 := oc.push (B := 0) (m := ⟨(k : Int), sa, sb, sc, adY, capY, sM⟩) kk1 vY1 rY1 zY (fun x e _ => ⟨(iY x e).1, by have := (iY x e).2; omega⟩) (by omega) o4 g4 e4'
                have gr4 := grownV gr kk1 g4 hob.out
                have hob4 : Hid (∀ j, v4.ownBlock = some j → j = N + 1 ∨ x8.heap.size ≤ j) := fun j q => by
                  rcases e4' with r | r
                  · exact hob.out j (r ▸ q)
                  · rw [r] at q
                    have : w1.heap.size = j := by simpa using q
                    omega
                clear e4 e4' o4 g4 oc1 hw1' h1 h2 h3 h4
                go_wp2
                go_roundw
                case rel => exact ⟨k + 1, Ns ++ [⟨(k : Int), sa, sb, sc, adY, capY, sM⟩], by go_num, by omega, by unfold Hid; rw [goesTo, hga.out, List.map_append, hM.out]; rfl, by simp; omega, oc4, gr4, hob4⟩
                case measure => simp [intOf]; omega
            · have hkg2 : ((k : Int) != g1) = true := by simp [hkg]
              have hga : Hid (goesAt O D (i : Int) ⟨ra, rb, rc, rM, true⟩ true g1 k = []) := by unfold Hid goesAt; rw [if_neg (by omega), if_neg (by rw [hq.out]; decide), if_pos (by simp [hkg])]
              go_wp2
              go_roundw
              case rel => exact ⟨k + 1, Ns, by go_num, by omega, by unfold Hid; rw [goesTo, hga.out, List.append_nil]; exact hM.out, by omega, oc, gr, hob⟩
              case measure => simp [intOf]; omega
      · have hlt' : ¬ (k : Int) < (O.length : Int) := by omega
        have hk' : O.length = k := by omega
        have hM' : Hid (Ns.map Ob.d = goesTo O D (i : Int) ⟨ra, rb, rc, rM, true⟩ kb g1 O.length) := by unfold Hid; rw [hk']; exact hM.out
        clear hk' hk
        have NR := N8.same (gh N (by omega) (by omega))
        have CR := C8.same (gh (P + 1 + 1) (by omega) (by omega))
        have FR' : ∀ i, wr.frozen? ⟨P + 1 + 1, i, none⟩ = false := fun i => (World.frozen?_of_block (a := ⟨P + 1 + 1, i, none⟩) (gh (P + 1 + 1) (by omega) (by omega))).trans (F8 i)
        have hpT : Hid (pTab O D T (i : Int) a b c L = T1) := by
          unfold Hid pTab
          rw [hpI.out]
          exact (if_pos rfl).trans hT1.out
        have hpO : Hid (pOuts O D T (i : Int) a b c L = goesTo O D (i : Int) ⟨ra, rb, rc, rM, true⟩ kb g1 O.length) := by
          unfold Hid pOuts
          rw [hpI.out]
          refine (if_pos rfl).trans ?_
          show goesTo O D (i : Int) ⟨ra, rb, rc, rM, true⟩ ((whereR T ra rc).2 && (ra != 0)) (whereR T ra rc).1 O.length = _
          rw [hkn.out, hg1.out]
        obtain ⟨aL, kL, fp, rfl, OW, hfp⟩ := oc.done
        have NR' := NR
        obtain ⟨n1, n2, n3⟩ := NR'
        have CR' := CR
        obtain ⟨r1, r2, r3⟩ := CR'
        have f0 := FR' 0
        have f1 := FR' 1
        have f2 := FR' 2
        go_wp2
        obtain ⟨z, hz⟩ : ∃ z, z = ((wr.setCell ⟨P + 1 + 1, 0, none⟩ (.slice aO O.length kO)).setCell ⟨P + 1 + 1, 1, none⟩ (.slice aM D.length kM)).setCell ⟨P + 1 + 1, 2, none⟩ (.slice aT1 T1.length kT1) := ⟨_, rfl⟩
        have zh : ∀ j, j ≠ P + 1 + 1 → z.heap[j]? = wr.heap[j]? := fun j hj => by rw [hz]; exact heap_set3 hj
        have q1 : z.cell? ⟨P + 1 + 1, 0, none⟩ = some (.slice aO O.length kO) := by rw [hz, cell_set_ne (by omega), cell_set_ne (by omega)]; exact cell_set_same ⟨_, r1⟩
        have q2 : z.cell? ⟨P + 1 + 1, 1, none⟩ = some (.slice aM D.length kM) := by rw [hz, cell_set_ne (by omega)]; exact cell_set_same ⟨_, (cell_set_ne (by omega)).trans r2⟩
        have q3 : z.cell? ⟨P + 1 + 1, 2, none⟩ = some (.slice aT1 T1.length kT1) := by rw [hz]; exact cell_set_same ⟨_, (cell_set_ne (by omega)).trans ((cell_set_ne (by omega)).trans r3)⟩
        have zs : z.heap.size = wr.heap.size := by rw [hz]; simp
        have BZ : Below w.heap.size w z := by
          rw [hz]
          have BR : Below w.heap.size w wr := B8.grown gr (by omega) (fun j q => by have : N + 1 = j := Option.some.inj q
                                                                                    omega)
          exact ((BR.setCell (by show w.heap.size ≤ P + 1 + 1; omega) _).setCell (by show w.heap.size ≤ P + 1 + 1; omega) _).setCell (by show w.heap.size ≤ P + 1 + 1; omega) _
        rw [← hz]
        clear hz r1 r2 r3 n1 n2 n3 f0 f1 f2 X1 X2 X3
        have VZ := (V8.keep (w' := z) (fun j h1 h2 => (zh j (by omega)).trans (gh j (by omega) (by omega)))).wide (lo' := w.heap.size) (hi' := z.heap.size) (by omega) (by omega)
        have vTZ := vT8.carry (w' := z) (fun x e _ => (zh _ (by have := iT9 x e; omega)).trans (gh _ (by have := iT9 x e; omega) (by have := iT9 x e; omega)))
        have OZ := OW.view.carry (w' := z) (fun x e p => zh _ (by have := hfp _ (OW.rowIn x e p); omega)) (fun i hi x e p => zh _ (by have := hfp _ (OW.nestIn i hi x e p); omega))
        refine bodyPost_ret (v := .tuple #[.agg #[.slice aO O.length kO, .slice aM D.length kM, .slice aT1 T1.length kT1], .slice aL Ns.length kL]) (by simp only [results, Tryz.results9]; simp [go_sem, q1, q2, q3]) rfl ?_
        show ViewP _ _ _ _ _ _ _
        rw [hpT.out, hpO.out]
        exact ⟨aO, kO, aM, kM, aT1, kT1, aL, kL, Ns, rfl, ⟨VZ.vO, VZ.iO, VZ.vM, vTZ, fun x e _ => by have := iT9 x e; omega⟩, hM'.out, OZ, fun x e p => by have := hfp _ (OW.rowIn x e p); omega, fun i hi x e p => by have := hfp _ (OW.nestIn i hi x e p); omega, BZ⟩

end Go.Proofs.YtifndemkkaelaaaGreat
