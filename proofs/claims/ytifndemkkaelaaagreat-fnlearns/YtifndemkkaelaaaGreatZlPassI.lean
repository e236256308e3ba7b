/- impl.Pass, walked. -/
import Derived.Test.YtifndemkkaelaaaGreatRows
import Derived.WalkKit
import Derived.ProofKit
import Derived.OpenShut
import Derived.ShutString
import Derived.ChangeOld
import Derived.Below
import Derived.Deep.QuietTactic
import Derived.BigQuiet
import Derived.WalkSmall
import Derived.Laws.OwnMore
import Derived.WalkSpells
import Derived.WalkLawsBesides
import Derived.Laws.AppendOwnNone
import Derived.Laws.CopyOwn
import Derived.Maps.AppendAt
import Derived.Test.YtifndemkkaelaaaGreatZl23
import Derived.Test.YtifndemkkaelaaaGreatZl26
import Derived.Test.YtifndemkkaelaaaGreatZlCopy3
import Derived.Test.YtifndemkkaelaaaGreatZlCard3
import Derived.Test.YtifndemkkaelaaaGreatZl15
import Derived.Test.YtifndemkkaelaaaGreatZl21
import Derived.Test.YtifndemkkaelaaaGreatZl16
import Derived.Test.YtifndemkkaelaaaGreatZl1
namespace Go.Proofs.YtifndemkkaelaaaGreat
open Go.ChangeShapes Go.WideShapes Go.ChangeAt Go.RowKit
open Go.ChangeMaps (open_string shut_string)
set_option linter.unusedVariables false
set_option maxRecDepth 100000

def OwnP (w : World) (O : List Bool) (D : DL) (T : List Hd) (X : OL) (e : Ending) (w' : World) : Prop :=
  ∃ (aO : Option Addr) (kO : Nat) (aM : Option Addr) (kM : Nat) (aT : Option Addr) (kT : Nat) (aL : Option Addr) (kL : Nat) (Ns : List Ob) (fp : List Nat) (mid : Nat), e = .returned (.tuple #[.agg #[.slice aO O.length kO, .slice aM (List.length D) kM, .slice aT T.length kT], .slice aL Ns.length kL]) ∧ CdW w' w.heap.size mid aO O aM D aT T ∧ w.heap.size ≤ mid ∧ mid ≤ w'.heap.size ∧ Ns.map Ob.d = X ∧ ObW w' aL Ns fp ∧ (∀ x ∈ fp, mid ≤ x ∧ x < w'.heap.size) ∧ Below w.heap.size w w'
theorem ObW.none0 (w : World) : ObW w none [] [] :=
  ⟨⟨fun p => absurd p (by simp), fun i hi => absurd hi (by simp), fun i hi => absurd hi (by simp)⟩, fun p => absurd p (by simp), fun i hi => absurd hi (by simp), fun x e => (by cases e), fun i hi => absurd hi (by simp), fun i hi => absurd hi (by simp), fun i j _ hi => absurd hi (by simp)⟩
theorem ObW.carryP {w w' : World} {ad : Option Addr} {Ms : List Ob} {fp : List Nat} (h : ObW w ad Ms fp) (k : ∀ x ∈ fp, w'.heap[x]? = w.heap[x]?) : ObW w' ad Ms fp := by
  have e1 : ∀ x, ad = some x → 0 < Ms.length → w'.heap[x.block]? = w.heap[x.block]? := fun x e hp => k _ (h.rowIn x e hp)
  have e2 : ∀ i, i < Ms.length → ∀ x, (Ms.getD i Ob.nil).ad = some x → 0 < (Ms.getD i Ob.nil).L.length → w'.heap[x.block]? = w.heap[x.block]? := fun i hi x e hp => k _ (h.nestIn i hi x e hp)
  exact ⟨h.view.carry e1 e2, h.room.carry (fun x e hp => e1 x e (by omega)), fun i hi => (h.rooms i hi).carry (fun x e hp => e2 i hi x e hp), h.rowIn, h.nestIn, h.apart, h.aparts⟩
def SentOk : Prop := ∀ (adO : Option Addr) (cO : Nat) (O : List Bool) (adM : Option Addr) (cM : Nat) (D : DL) (adT : Option Addr) (cT : Nat) (T : List Hd) (i : Nat) (a b c : Int) (adL : Option Addr) (capL : Nat) (L : List Int) (lo hi P Q : Nat) (w : World),
  CdAt w P adO O.length cO adM D.length cM adT T.length cT → CdV w lo hi adO O adM D adT T → hi ≤ w.heap.size → cOk O D T = true → O.length + totD D + T.length ≤ 1048576 → i < O.length → FrameAt w Q a b c adL L.length capL → View w adL L.length (fun i => L.getD i 0) → L.length ≤ 1048576 →
  Calls Tryz.prog 43 #[.pointer (some ⟨P, 0, none⟩), .int .i64 (i : Int), .pointer (some ⟨Q, 0, none⟩)] w fun e w' => ∃ (aL : Option Addr) (kL : Nat) (Ns : List Ob) (fp : List Nat), e = .returned (.slice aL Ns.length kL) ∧ Ns.map Ob.d = goesTo O D (i : Int) ⟨a, b, c, L, true⟩ (whereR T a c).2 (whereR T a c).1 O.length ∧ ObW w' aL Ns fp ∧ (∀ x ∈ fp, w.heap.size ≤ x ∧ x < w'.heap.size) ∧ Below w.heap.size w w'
set_option maxRecDepth 100000 in
set_option maxHeartbeats 64000000 in
theorem passI (hS : SentOk) (adO : Option Addr) (cO : Nat) (O : List Bool) (adM : Option Addr) (cM : Nat) (D : DL) (adT : Option Addr) (cT : Nat) (T : List Hd) (p : Int) (a b c : Int) (adL : Option Addr) (capL : Nat) (L : List Int) (lo hi : Nat) (w : World) (I : CdV w lo hi adO O adM D adT T) (ht : hi ≤ w.heap.size) (hl : O.length + totD D + T.length ≤ 1048576) (hp : (Lit.int .i64 p).wf = true) (hvL : View w adL L.length (fun i => L.getD i 0)) (hlL : L.length ≤ 1048576) :
    Calls Tryz.prog 8 #[.agg #[.slice adO O.length cO, .slice adM D.length cM, .slice adT T.length cT], .int .i64 p, .agg #[.int .i64 a, .int .i64 b, .int .i64 c, .slice adL L.length capL]] w fun e w' => OwnP w O D (pTab O D T p a b c L) (pOuts O D T p a b c L) e w' := by
  have lO : O.length ≤ 1048576 := by omega
  have hpb := wf_bounds hp
  obtain ⟨x0, hx⟩ : ∃ x, x = ((w.alloc (Obj.cells #[.slice adO O.length cO, .slice adM D.length cM, .slice adT T.length cT] 28)).alloc (Obj.cells #[.int .i64 a, .int .i64 b, .int .i64 c, .slice adL L.length capL] 30)).alloc (Obj.cells #[.slice none 0 0, .slice none 0 0, .slice none 0 0] 28) := ⟨_, rfl⟩
  obtain ⟨P, hP⟩ : ∃ P, P = w.heap.size := ⟨_, rfl⟩
  have B0 : Below w.heap.size w x0 := by rw [hx]; exact (((Below.refl _ _).alloc (Nat.le_refl _) _).alloc (by simp) _).alloc (by simp; omega) _
  have A0 : CdAt x0 P adO O.length cO adM D.length cM adT T.length cT := by rw [hx, hP]; refine ⟨?_, ?_, ?_⟩ <;> simp [go_sem]
  have Q0 : FrameAt x0 (P + 1) a b c adL L.length capL := by rw [hx, hP]; refine ⟨?_, ?_, ?_, ?_⟩ <;> simp [go_sem]
  have C0 : CdAt x0 (P + 1 + 1) none 0 0 none 0 0 none 0 0 := by rw [hx, hP]; refine ⟨?_, ?_, ?_⟩ <;> simp [go_sem]
  have F0 : ∀ i, x0.frozen? ⟨P + 1 + 1, i, none⟩ = false := by intro i; rw [hx, hP]; simp [go_sem]
  have P1 : P + 1 + 1 < x0.heap.size := C0.lt
  have hPw : w.heap.size ≤ P := by omega
  have I0 := I.below B0 ht
  have ht0 : hi ≤ P := by omega
  have vL0 := hvL.carry (w' := x0) (fun x e q => B0.block _ (hvL.lt x e q))
  clear I hvL
  go_enter Tryz.func8, Tryz.ntmps8
  go_wp2_with fail
  go_at_call 39
  rw [← hx, ← hP]
  clear hx hP
  refine (copC adO cO O adM cM D adT cT T lo hi P x0 A0 I0 (by omega) hl).mono ?_
  rintro e x1 ⟨aO, kO, aM, kM, aT, kT, rfl, W1, k1⟩
  have s1 := k1.size
  have A1 := A0.below k1 (by omega)
  have Q1 := Q0.below k1 (by omega)
  have C1 := C0.below k1 (by omega)
  have F1 := fz_below F0 k1 (by omega)
  have I1 := I0.below k1 (by omega)
  have B1 := B0.trans (k1.mono B0.size)
  have vL1 := vL0.carry (w' := x1) (fun x e q => k1.block _ (vL0.lt x e q))
  obtain ⟨x2, hx2⟩ : ∃ y, y = x1.alloc (Obj.cells #[.slice aO O.length kO, .slice aM D.length kM, .slice aT T.length kT] 28) := ⟨_, rfl⟩
  obtain ⟨N, hN⟩ : ∃ N, N = x1.heap.size := ⟨_, rfl⟩
  have k2 : Below x1.heap.size x1 x2 := by rw [hx2]; exact below_box x1 _
  have N2 : CdAt x2 N aO O.length kO aM D.length kM aT T.length kT := by rw [hx2, hN]; refine ⟨?_, ?_, ?_⟩ <;> simp [go_sem]
  have G2 : ∀ i, x2.frozen? ⟨N, i, none⟩ = false := by intro i; rw [hx2, hN]; simp [go_sem]
  have hNl : x1.heap.size ≤ N := by omega
  have hN2 : N < x2.heap.size := N2.lt
  have s2 := k2.size
  have A2 := A1.below k2 (by omega)
  have Q2 := Q1.below k2 (by omega)
  have C2 := C1.below k2 (by omega)
  have F2 := fz_below F1 k2 (by omega)
  have I2 := I1.below k2 (by omega)
  have W2 := W1.below k2 (Nat.le_refl _)
  have B2 := B1.trans (k2.mono B1.size)
  have vL2 := vL1.carry (w' := x2) (fun x e q => k2.block _ (vL1.lt x e q))
  clear A0 A1 Q0 Q1 C0 C1 F0 F1 I0 I1 W1 B0 B1 k1 k2 vL0 vL1
  have lt2 : hi ≤ x2.heap.size := by omega
  go_wp2_with fail
  go_at_call 40
  rw [← hx2]
  rw [← hN]
  clear hN hx2
  refine (cardFits adO cO O adM cM D adT cT T lo hi P x2 A2 I2 lt2 hl).mono ?_
  rintro e x5 ⟨rfl, k3⟩
  have s3 := k3.size
  have A5 := A2.below k3 (by omega)
  have Q5 := Q2.below k3 (by omega)
  have C5 := C2.below k3 (by omega)
  have F5 := fz_below F2 k3 (by omega)
  have I5 := I2.below k3 (by omega)
  have N5 := N2.below k3 (by omega)
  have G5 := fz_below G2 k3 (by omega)
  have W5 := W2.below k3 (by omega)
  have B5 := B2.trans (k3.mono B2.size)
  have vL5 := vL2.carry (w' := x5) (fun x e q => k3.block _ (vL2.lt x e q))
  clear A2 Q2 C2 F2 I2 N2 G2 W2 B2 k3 vL2
  have h3 : ∀ (y : World) (j : Nat), j ≠ P + 1 + 1 → (((y.setCell ⟨P + 1 + 1, 0, none⟩ (.slice aO O.length kO)).setCell ⟨P + 1 + 1, 1, none⟩ (.slice aM D.length kM)).setCell ⟨P + 1 + 1, 2, none⟩ (.slice aT T.length kT)).heap[j]? = y.heap[j]? := fun y j hj => heap_set3 hj
  have back : ∀ y : World, Below x5.heap.size x5 y → ∃ z : World, z = ((y.setCell ⟨P + 1 + 1, 0, none⟩ (.slice aO O.length kO)).setCell ⟨P + 1 + 1, 1, none⟩ (.slice aM D.length kM)).setCell ⟨P + 1 + 1, 2, none⟩ (.slice aT T.length kT) ∧ z.cell? ⟨P + 1 + 1, 0, none⟩ = some (.slice aO O.length kO) ∧ z.cell? ⟨P + 1 + 1, 1, none⟩ = some (.slice aM D.length kM) ∧ z.cell? ⟨P + 1 + 1, 2, none⟩ = some (.slice aT T.length kT) ∧ OwnP w O D T [] (.returned (.tuple #[.agg #[.slice aO O.length kO, .slice aM (List.length D) kM, .slice aT T.length kT], .slice none 0 0])) z := fun y ky => by
    obtain ⟨c1, c2, c3⟩ := C5.below ky (by omega)
    have sy := ky.size
    have BY := B5.trans (ky.mono B5.size)
    refine ⟨_, rfl, ?_, ?_, ?_, aO, kO, aM, kM, aT, kT, none, 0, [], [], x1.heap.size, rfl, ?_, ?_, ?_, rfl, ObW.none0 _, fun x hx => (by cases hx), ?_⟩
    · rw [cell_set_ne (by omega), cell_set_ne (by omega)]; exact cell_set_same ⟨_, c1⟩
    · rw [cell_set_ne (by omega)]; exact cell_set_same ⟨_, (cell_set_ne (by omega)).trans c2⟩
    · exact cell_set_same ⟨_, (cell_set_ne (by omega)).trans ((cell_set_ne (by omega)).trans c3)⟩
    · exact ((W5.below ky (by omega)).keep (fun j h1 h2 => h3 y j (by omega))).wide (by omega) (Nat.le_refl _)
    · omega
    · simp; omega
    · exact ((BY.setCell (by show w.heap.size ≤ P + 1 + 1; omega) _).setCell (by show w.heap.size ≤ P + 1 + 1; omega) _).setCell (by show w.heap.size ≤ P + 1 + 1; omega) _
  have N5' := N5
  obtain ⟨n1, n2, n3⟩ := N5'
  have C5' := C5
  obtain ⟨r1, r2, r3⟩ := C5'
  have f0 := F5 0
  have f1 := F5 1
  have f2 := F5 2
  by_cases hC : cOk O D T = true
  rotate_left
  · have hC' : cOk O D T = false := by simpa using hC
    obtain ⟨hpT, hpO⟩ := p_no (O := O) (D := D) (T := T) (p := p) (a := a) (b := b) (c := c) (L := L) (by unfold pIn pGo; rw [hC']; rfl)
    have hpT : Hid _ := hpT
    have hpO : Hid _ := hpO
    rw [hC']
    clear hC hC'
    go_wp2
    obtain ⟨z, hz, q1, q2, q3, hD⟩ := back x5 (Below.refl _ _)
    rw [← hz]
    exact bodyPost_ret (v := .tuple #[.agg #[.slice aO O.length kO, .slice aM (List.length D) kM, .slice aT T.length kT], .slice none 0 0]) (by simp only [results, Tryz.results8]; simp [go_sem, q1, q2, q3]) rfl (by show OwnP _ _ _ _ _ _ _; rw [hpT.out, hpO.out]; exact hD)
  rw [hC]
  go_wp2_with fail
  go_at_call 41
  refine (hasP adO cO O adM cM D adT cT T P p x5 A5 lO).mono ?_
  rintro e y3 ⟨rfl, hy3⟩
  rw [hy3]
  clear hy3 y3
  have A5' := A5
  obtain ⟨X1, X2, X3⟩ := A5'
  by_cases hQ : 0 ≤ p ∧ p < (O.length : Int)
  rotate_left
  · have hQ' : decide (0 ≤ p ∧ p < (O.length : Int)) = false := decide_eq_false hQ
    obtain ⟨hpT, hpO⟩ := p_no (O := O) (D := D) (T := T) (p := p) (a := a) (b := b) (c := c) (L := L) (by unfold pIn pGo; rw [hC, hQ']; rfl)
    have hpT : Hid _ := hpT
    have hpO : Hid _ := hpO
    rw [hQ']
    clear hC hQ hQ'
    go_wp2
    obtain ⟨z, hz, q1, q2, q3, hD⟩ := back x5 (Below.refl _ _)
    rw [← hz]
    exact bodyPost_ret (v := .tuple #[.agg #[.slice aO O.length kO, .slice aM (List.length D) kM, .slice aT T.length kT], .slice none 0 0]) (by simp only [results, Tryz.results8]; simp [go_sem, q1, q2, q3]) rfl (by show OwnP _ _ _ _ _ _ _; rw [hpT.out, hpO.out]; exact hD)
  have hQ' : decide (0 ≤ p ∧ p < (O.length : Int)) = true := decide_eq_true hQ
  rw [hQ']
  obtain ⟨i, rfl⟩ : ∃ i : Nat, p = (i : Int) := ⟨p.toNat, by omega⟩
  have hi0 : i < O.length := by omega
  obtain ⟨bO, offO, eb, hcO⟩ := I5.vO (by omega)
  subst eb
  have hiO := I5.iO ⟨bO, offO, none⟩ rfl (by omega)
  have hiO' : lo ≤ bO ∧ bO < hi := hiO
  have hOY : ∀ k, k < O.length → ∀ Y, Below x5.heap.size x5 Y → Y.cell? ⟨bO, offO + k, none⟩ = some (.bool (O.getD k false)) := fun k hk Y hY => (hY.cell (p := ⟨bO, offO + k, none⟩) (by show bO < _; omega)).trans (hcO k hk)
  have hci := hOY i hi0 x5 (Below.refl _ _)
  obtain ⟨q, hq⟩ : ∃ q, O.getD i false = q := ⟨_, rfl⟩
  rw [hq] at hci
  have hgo : Hid (pGo O D T (i : Int) = q) := by unfold Hid pGo; rw [hC, hQ', Int.toNat_natCast, hq]; cases q <;> rfl
  clear hcO hiO hQ hQ'
  cases q with
  | false =>
    obtain ⟨hpT, hpO⟩ := p_no (O := O) (D := D) (T := T) (p := (i : Int)) (a := a) (b := b) (c := c) (L := L) (by unfold pIn; rw [hgo.out]; rfl)
    have hpT : Hid _ := hpT
    have hpO : Hid _ := hpO
    clear hC hq hgo
    go_wp2
    obtain ⟨z, hz, q1, q2, q3, hD⟩ := back x5 (Below.refl _ _)
    rw [← hz]
    exact bodyPost_ret (v := .tuple #[.agg #[.slice aO O.length kO, .slice aM (List.length D) kM, .slice aT T.length kT], .slice none 0 0]) (by simp only [results, Tryz.results8]; simp [go_sem, q1, q2, q3]) rfl (by show OwnP _ _ _ _ _ _ _; rw [hpT.out, hpO.out]; exact hD)
  | true =>
  obtain ⟨Ms, hD, vM, iM, jM⟩ := I5.vM
  have hlen : D.length = Ms.length := by rw [← hD, List.length_map]
  have hDO : Ms.length = O.length := by
    unfold cOk at hC
    simp only [Bool.and_eq_true, decide_eq_true_eq] at hC
    omega
  have hT12 : T.length ≤ 12 := by
    unfold cOk at hC
    simp only [Bool.and_eq_true] at hC
    exact (tokB_of hC.2.2.2.2).1
  have hget : ∀ k, D.getD k (0, []) = (Ms.getD k Mb.nil).d := fun k => by rw [← hD]; exact d_get Ms k
  have hts := tot_siz D
  have hmx : ∀ k, k < Ms.length → (Ms.getD k Mb.nil).L.length ≤ maxLen := fun k hk => by
    have := siz_max D (by omega) k (by omega)
    rw [hget k] at this
    exact this
  obtain ⟨bM, offM, eb, hrow⟩ := vM.row (by omega)
  subst eb
  have hbM := iM ⟨bM, offM, none⟩ rfl (by omega)
  have hbM' : lo ≤ bM ∧ bM < hi := hbM
  have hmYa : ∀ k, k < Ms.length → ∀ Y, Below x5.heap.size x5 Y → MbAt Y bM (offM + k * 2) (Ms.getD k Mb.nil) := fun k hk Y hY => (hrow k hk).same (hY.block _ (by omega))
  have hnYa : ∀ k, k < Ms.length → ∀ Y, Below x5.heap.size x5 Y → MbL Y (Ms.getD k Mb.nil) := fun k hk Y hY => ViewI.below (vM.nest k hk) hY (Nat.le_refl _)
  have hiM : i < Ms.length := by omega
  have hmY := hmYa i hiM
  have hnY := hnYa i hiM
  have hmk := hmx i hiM
  have hgi := hget i
  obtain ⟨m, hh⟩ : ∃ m, Ms.getD i Mb.nil = m := ⟨_, rfl⟩
  simp only [hh] at hmY hnY
  rw [hh] at hmk hgi
  unfold MbAt at hmY
  unfold MbL at hnY
  have hrl := insR_len m.o (fun i => m.L.getD i 0) m.L.length a b c L
  obtain ⟨r, hr⟩ : ∃ r, Hid (insR m.o (fun i => m.L.getD i 0) m.L.length a b c L = r) := ⟨_, rfl⟩
  have hpI : Hid (pIn O D T (i : Int) a b c L = r) := by
    unfold Hid pIn
    rw [hgo.out, if_pos rfl, Int.toNat_natCast, hgi, ← hr.out]
    rfl
  rw [hr.out] at hrl
  obtain ⟨ra, rb, rc, rM, rok⟩ := r
  simp only [] at hrl
  have hrm : rM.length ≤ 1048576 := by omega
  have hiD : i < D.length := by omega
  replace hlen : Hid (D.length = Ms.length) := hlen
  replace hDO : Hid (Ms.length = O.length) := hDO
  clear hh hrow hbM hts hq hgo hgi
  go_wp2_with fail
  clear X1 X2 X3 hci
  refine join_region (fun l l' W' => ∃ (NX : Nat) (adX : Option Addr) (capX : Nat) (us : List Value), us.length = 10 ∧ l' = l.take 9 ++ (.pointer (some ⟨NX, 0, none⟩) :: .bool rok :: (l.drop 11).take 17) ++ us ++ l.drop 38 ∧ FrameAt W' NX ra rb rc adX rM.length capX ∧ W'.ownsRow x5.heap.size 5 1 (.slice adX rM.length capX) rM.length (rM.map (Value.int .u8)) ∧ (∀ j, (Value.slice adX rM.length capX).ownBlock = some j → j ≠ NX) ∧ x5.heap.size ≤ NX ∧ Below x5.heap.size x5 W') ?_ ?_
  rotate_left
  · intro K2 hT
    refine wp_region_held (S := fun Y => Below x5.heap.size x5 Y) (by kernel_rfl) ?_
    change wpAnyH _ _ _ _ _ _ _ _ (World.drew _)
    have hb0 : Below x5.heap.size x5 x5.drew := (Below.refl _ _).drew
    obtain ⟨y0, hy0⟩ : ∃ z, z = x5.drew := ⟨_, rfl⟩
    rw [← hy0] at hb0 ⊢
    have z0 := hb0.size
    clear hy0
    refine takeW 0 29 (.pointer (some ⟨P, 1, none⟩)) rfl rfl (by kernel_rfl) (by kernel_rfl) (by kernel_rfl) (fun _ _ _ h => h) (by kernel_rfl) (by (intro w hSw; go_simp)) (by assumption) ?_
    simp only [List.set_cons_zero, List.set_cons_succ]
    refine takeW 1 30 (.slice (some ⟨bM, offM, none⟩) D.length cM) rfl rfl (by kernel_rfl) (by kernel_rfl) (by kernel_rfl) (fun _ _ _ h => h) (by kernel_rfl) (by (intro Y hSw; obtain ⟨X1, X2, X3⟩ := A5.below hSw (by omega); go_simp)) (by assumption) ?_
    simp only [List.set_cons_zero, List.set_cons_succ]
    refine takeW 2 31 (.int .i64 (i : Int)) rfl rfl (by kernel_rfl) (by kernel_rfl) (by kernel_rfl) (fun _ _ _ h => h) (by kernel_rfl) (by (intro w hSw; go_simp)) (by assumption) ?_
    simp only [List.set_cons_zero, List.set_cons_succ]
    refine takeW 3 32 (.pointer (some ⟨bM, offM + i * 2, none⟩)) rfl rfl (by kernel_rfl) (by kernel_rfl) (by kernel_rfl) (fun _ _ _ h => h) (by kernel_rfl) (by (intro Y hSw; go_simp; try omega)) (by assumption) ?_
    simp only [List.set_cons_zero, List.set_cons_succ]
    refine takeW 4 33 (.agg #[.int .i64 m.o, .slice m.ad m.L.length m.cap]) rfl rfl (by kernel_rfl) (by kernel_rfl) (by kernel_rfl) (fun _ _ _ h => h) (by kernel_rfl) (by (intro Y hSw; obtain ⟨X1, X2⟩ := hmY Y hSw; go_simp)) (by assumption) ?_
    simp only [List.set_cons_zero, List.set_cons_succ]
    refine takeW 5 34 (.agg #[.int .i64 a, .int .i64 b, .int .i64 c, .slice adL L.length capL]) rfl rfl (by kernel_rfl) (by kernel_rfl) (by kernel_rfl) (fun _ _ _ h => h) (by kernel_rfl) (by (intro Y hSw; obtain ⟨X1, X2, X3, X4⟩ := Q5.below hSw (by omega); go_simp)) (by assumption) ?_
    simp only [List.set_cons_zero, List.set_cons_succ]
    have hby0 := hb0
    refine wpAnyH_all (rs := [6, 10]) (by kernel_rfl) (by simp) ?_
    intro i hi; rcases (by simpa using hi : i = 6 ∨ i = 10) with rfl | rfl
    · refine wpOp_step rfl (fun K hK => ?_)
      rw [if_pos (by kernel_rfl)]
      go_simp
      go_at_call 19
      refine (insideI m.o m.ad m.L.length m.cap (fun i => m.L.getD i 0) a b c adL capL L y0 (hnY y0 hby0) hmk (vL5.carry (fun x e hp => hby0.block _ (vL5.lt x e hp))) hlL ).mono ?_
      rintro e y1 ⟨adX, capX, rfl, oX, ky1⟩
      rw [hr.out] at oX ⊢
      simp only [] at oX ⊢
      have hby1 : Below x5.heap.size x5 y1 := hby0.trans (ky1.mono hby0.size)
      have zy1 := ky1.size
      refine hK _ _ ⟨hby1, ?_⟩
      clear hK K hi
      refine takeW 7 28 (.tuple #[.agg #[.int .i64 ra, .int .i64 rb, .int .i64 rc, .slice adX rM.length capX], .bool rok]) rfl rfl (by kernel_rfl) (by kernel_rfl) (by kernel_rfl) (fun _ _ _ h => h) (by kernel_rfl) (by (intro w hSw; go_simp)) (by assumption) ?_
      simp only [List.set_cons_zero, List.set_cons_succ]
      refine takeW 8 36 (.agg #[.int .i64 ra, .int .i64 rb, .int .i64 rc, .slice adX rM.length capX]) rfl rfl (by kernel_rfl) (by kernel_rfl) (by kernel_rfl) (fun _ _ _ h => h) (by kernel_rfl) (by (intro w hSw; go_simp)) (by assumption) ?_
      simp only [List.set_cons_zero, List.set_cons_succ]
      refine takeW 9 37 (.bool rok) rfl rfl (by kernel_rfl) (by kernel_rfl) (by kernel_rfl) (fun _ _ _ h => h) (by kernel_rfl) (by (intro w hSw; go_simp)) (by assumption) ?_
      simp only [List.set_cons_zero, List.set_cons_succ]
      refine wpAnyH_all (rs := [10]) (by kernel_rfl) (by simp) ?_
      intro i hi; obtain rfl : i = 10 := by simpa using hi
      refine wpOp_step rfl (fun K hK => ?_)
      rw [if_pos (by kernel_rfl)]
      go_simp
      obtain ⟨NX, hNX⟩ : ∃ n, n = y1.heap.size := ⟨_, rfl⟩
      obtain ⟨y2, hy2⟩ : ∃ z, z = y1.alloc (Obj.cells #[.int .i64 0, .int .i64 0, .int .i64 0, .slice none 0 0] 30) := ⟨_, rfl⟩
      have ky2 : Below y1.heap.size y1 y2 := by rw [hy2]; exact below_box _ _
      have CX : FrameAt y2 NX 0 0 0 none 0 0 := by rw [hy2, hNX]; refine ⟨?_, ?_, ?_, ?_⟩ <;> simp [go_sem]
      have FX : ∀ i, y2.frozen? ⟨NX, i, none⟩ = false := by intro i; rw [hy2, hNX]; simp [go_sem]
      have tX := CX.lt
      have hNX' : y1.heap.size ≤ NX := by omega
      rw [← hNX, ← hy2]
      have hby2 : Below x5.heap.size x5 y2 := hby1.trans (ky2.mono hby1.size)
      have zy2 := ky2.size
      clear hy2 hNX
      have nX : ∀ j, (Value.slice adX rM.length capX).ownBlock = some j → j ≠ NX := fun j q => by have := (own_lt oX j q).2; omega
      have oX := own_below2 oX ky2 (Nat.le_refl _)
      refine hK _ _ ⟨hby2, ?_⟩
      clear hK K hi
      have c0 := CX
      obtain ⟨c0, c1, c2, c3⟩ := c0
      have f0 := FX 0
      have f1 := FX 1
      have f2 := FX 2
      have f3 := FX 3
      obtain ⟨yF, hyF⟩ : ∃ z, z = (((y2.setCell ⟨NX, 0, none⟩ (.int .i64 ra)).setCell ⟨NX, 1, none⟩ (.int .i64 rb)).setCell ⟨NX, 2, none⟩ (.int .i64 rc)).setCell ⟨NX, 3, none⟩ (.slice adX rM.length capX) := ⟨_, rfl⟩
      have hF : ∀ j, j ≠ NX → yF.heap[j]? = y2.heap[j]? := fun j hj => by rw [hyF, Below.heap_setCell _ _ _ _ hj, Below.heap_setCell _ _ _ _ hj, Below.heap_setCell _ _ _ _ hj, Below.heap_setCell _ _ _ _ hj]
      have GX : FrameAt yF NX ra rb rc adX rM.length capX := by rw [hyF]; exact frame_put CX rfl
      have BF : Below x5.heap.size x5 yF := by rw [hyF]; exact (((hby2.setCell (by show x5.heap.size ≤ NX; omega) _).setCell (by show x5.heap.size ≤ NX; omega) _).setCell (by show x5.heap.size ≤ NX; omega) _).setCell (by show x5.heap.size ≤ NX; omega) _
      have oF : yF.ownsRow x5.heap.size 5 1 (.slice adX rM.length capX) rM.length (rM.map (Value.int .u8)) := own_base (own_same oX (fun j q => hF j (nX j q))) (by omega)
      refine wpAnyH_all (rs := [11]) (by kernel_rfl) (by simp) ?_
      intro i hi; obtain rfl : i = 11 := by simpa using hi
      refine wpOp_step rfl (fun K hK => ?_)
      rw [if_pos (by kernel_rfl)]
      go_simp
      rw [← hyF]
      refine hK _ _ ⟨BF, ?_⟩
      clear hK K hi
      refine takeW 12 10 (.bool rok) rfl rfl (by kernel_rfl) (by kernel_rfl) (by kernel_rfl) (fun _ _ _ h => h) (by kernel_rfl) (by (intro w hSw; go_simp)) (by assumption) ?_
      simp only [List.set_cons_zero, List.set_cons_succ]
      refine wpAnyH_done (by kernel_rfl) ?_ _
      exact hT.out _ _ ⟨NX, adX, capX, [_, _, _, _, _, _, _, _, _, _], rfl, rfl, GX, oF, nX, by omega, BF⟩
    · refine wpOp_step rfl (fun K hK => ?_)
      rw [if_pos (by kernel_rfl)]
      go_simp
      obtain ⟨NX, hNX⟩ : ∃ n, n = y0.heap.size := ⟨_, rfl⟩
      obtain ⟨y1, hy1⟩ : ∃ z, z = y0.alloc (Obj.cells #[.int .i64 0, .int .i64 0, .int .i64 0, .slice none 0 0] 30) := ⟨_, rfl⟩
      have ky1 : Below y0.heap.size y0 y1 := by rw [hy1]; exact below_box _ _
      have CX : FrameAt y1 NX 0 0 0 none 0 0 := by rw [hy1, hNX]; refine ⟨?_, ?_, ?_, ?_⟩ <;> simp [go_sem]
      have FX : ∀ i, y1.frozen? ⟨NX, i, none⟩ = false := by intro i; rw [hy1, hNX]; simp [go_sem]
      have tX := CX.lt
      have hNX' : y0.heap.size ≤ NX := by omega
      rw [← hNX, ← hy1]
      have hby1 : Below x5.heap.size x5 y1 := hby0.trans (ky1.mono hby0.size)
      have zy1 := ky1.size
      clear hy1 hNX
      refine hK _ _ ⟨hby1, ?_⟩
      clear hK K hi
      refine wpAnyH_all (rs := [6]) (by kernel_rfl) (by simp) ?_
      intro i hi; obtain rfl : i = 6 := by simpa using hi
      refine wpOp_step rfl (fun K hK => ?_)
      rw [if_pos (by kernel_rfl)]
      go_simp
      go_at_call 19
      refine (insideI m.o m.ad m.L.length m.cap (fun i => m.L.getD i 0) a b c adL capL L y1 (hnY y1 hby1) hmk (vL5.carry (fun x e hp => hby1.block _ (vL5.lt x e hp))) hlL ).mono ?_
      rintro e y2 ⟨adX, capX, rfl, oX, ky2⟩
      rw [hr.out] at oX ⊢
      simp only [] at oX ⊢
      have hby2 : Below x5.heap.size x5 y2 := hby1.trans (ky2.mono hby1.size)
      have zy2 := ky2.size
      have nX : ∀ j, (Value.slice adX rM.length capX).ownBlock = some j → j ≠ NX := fun j q => by have := (own_lt oX j q).1; omega
      have CX := CX.below ky2 (by omega)
      have FX := fz_below FX ky2 (by omega)
      refine hK _ _ ⟨hby2, ?_⟩
      clear hK K hi
      refine takeW 7 28 (.tuple #[.agg #[.int .i64 ra, .int .i64 rb, .int .i64 rc, .slice adX rM.length capX], .bool rok]) rfl rfl (by kernel_rfl) (by kernel_rfl) (by kernel_rfl) (fun _ _ _ h => h) (by kernel_rfl) (by (intro w hSw; go_simp)) (by assumption) ?_
      simp only [List.set_cons_zero, List.set_cons_succ]
      refine takeW 8 36 (.agg #[.int .i64 ra, .int .i64 rb, .int .i64 rc, .slice adX rM.length capX]) rfl rfl (by kernel_rfl) (by kernel_rfl) (by kernel_rfl) (fun _ _ _ h => h) (by kernel_rfl) (by (intro w hSw; go_simp)) (by assumption) ?_
      simp only [List.set_cons_zero, List.set_cons_succ]
      refine takeW 9 37 (.bool rok) rfl rfl (by kernel_rfl) (by kernel_rfl) (by kernel_rfl) (fun _ _ _ h => h) (by kernel_rfl) (by (intro w hSw; go_simp)) (by assumption) ?_
      simp only [List.set_cons_zero, List.set_cons_succ]
      have c0 := CX
      obtain ⟨c0, c1, c2, c3⟩ := c0
      have f0 := FX 0
      have f1 := FX 1
      have f2 := FX 2
      have f3 := FX 3
      obtain ⟨yF, hyF⟩ : ∃ z, z = (((y2.setCell ⟨NX, 0, none⟩ (.int .i64 ra)).setCell ⟨NX, 1, none⟩ (.int .i64 rb)).setCell ⟨NX, 2, none⟩ (.int .i64 rc)).setCell ⟨NX, 3, none⟩ (.slice adX rM.length capX) := ⟨_, rfl⟩
      have hF : ∀ j, j ≠ NX → yF.heap[j]? = y2.heap[j]? := fun j hj => by rw [hyF, Below.heap_setCell _ _ _ _ hj, Below.heap_setCell _ _ _ _ hj, Below.heap_setCell _ _ _ _ hj, Below.heap_setCell _ _ _ _ hj]
      have GX : FrameAt yF NX ra rb rc adX rM.length capX := by rw [hyF]; exact frame_put CX rfl
      have BF : Below x5.heap.size x5 yF := by rw [hyF]; exact (((hby2.setCell (by show x5.heap.size ≤ NX; omega) _).setCell (by show x5.heap.size ≤ NX; omega) _).setCell (by show x5.heap.size ≤ NX; omega) _).setCell (by show x5.heap.size ≤ NX; omega) _
      have oF : yF.ownsRow x5.heap.size 5 1 (.slice adX rM.length capX) rM.length (rM.map (Value.int .u8)) := own_base (own_same oX (fun j q => hF j (nX j q))) (by omega)
      refine wpAnyH_all (rs := [11]) (by kernel_rfl) (by simp) ?_
      intro i hi; obtain rfl : i = 11 := by simpa using hi
      refine wpOp_step rfl (fun K hK => ?_)
      rw [if_pos (by kernel_rfl)]
      go_simp
      rw [← hyF]
      refine hK _ _ ⟨BF, ?_⟩
      clear hK K hi
      refine takeW 12 10 (.bool rok) rfl rfl (by kernel_rfl) (by kernel_rfl) (by kernel_rfl) (fun _ _ _ h => h) (by kernel_rfl) (by (intro w hSw; go_simp)) (by assumption) ?_
      simp only [List.set_cons_zero, List.set_cons_succ]
      refine wpAnyH_done (by kernel_rfl) ?_ _
      exact hT.out _ _ ⟨NX, adX, capX, [_, _, _, _, _, _, _, _, _, _], rfl, rfl, GX, oF, nX, by omega, BF⟩
  rintro l' W6 ⟨NX, adX, capX, us, hul, rfl, GX, oX, nX, hNX, BX⟩
  obtain ⟨u28, us, rfl⟩ : ∃ a b, us = a :: b := List.exists_cons_of_length_eq_add_one hul
  replace hul := Nat.succ.inj hul
  obtain ⟨u29, us, rfl⟩ : ∃ a b, us = a :: b := List.exists_cons_of_length_eq_add_one hul
  replace hul := Nat.succ.inj hul
  obtain ⟨u30, us, rfl⟩ : ∃ a b, us = a :: b := List.exists_cons_of_length_eq_add_one hul
  replace hul := Nat.succ.inj hul
  obtain ⟨u31, us, rfl⟩ : ∃ a b, us = a :: b := List.exists_cons_of_length_eq_add_one hul
  replace hul := Nat.succ.inj hul
  obtain ⟨u32, us, rfl⟩ : ∃ a b, us = a :: b := List.exists_cons_of_length_eq_add_one hul
  replace hul := Nat.succ.inj hul
  obtain ⟨u33, us, rfl⟩ : ∃ a b, us = a :: b := List.exists_cons_of_length_eq_add_one hul
  replace hul := Nat.succ.inj hul
  obtain ⟨u34, us, rfl⟩ : ∃ a b, us = a :: b := List.exists_cons_of_length_eq_add_one hul
  replace hul := Nat.succ.inj hul
  obtain ⟨u35, us, rfl⟩ : ∃ a b, us = a :: b := List.exists_cons_of_length_eq_add_one hul
  replace hul := Nat.succ.inj hul
  obtain ⟨u36, us, rfl⟩ : ∃ a b, us = a :: b := List.exists_cons_of_length_eq_add_one hul
  replace hul := Nat.succ.inj hul
  obtain ⟨u37, us, rfl⟩ : ∃ a b, us = a :: b := List.exists_cons_of_length_eq_add_one hul
  replace hul := Nat.succ.inj hul
  obtain rfl : us = [] := List.eq_nil_of_length_eq_zero hul
  clear hul
  simp only [List.take, List.drop, List.cons_append, List.nil_append]
  have s6 := BX.size
  have P5 := A5.lt
  have A6 := A5.below BX (by omega)
  have C6 := C5.below BX (by omega)
  have F6 := fz_below F5 BX (by omega)
  have N6 := N5.below BX (by omega)
  have G6 := fz_below G5 BX (by omega)
  have V6 := W5.below BX (by omega)
  have I6 := I5.below BX (by omega)
  have B6 := B5.trans (BX.mono B5.size)
  have NXl := GX.lt
  obtain ⟨vX, rX, iX⟩ := own_view2 oX
  clear n1 n2 n3 r1 r2 r3 f0 f1 f2
  obtain ⟨n1, n2, n3⟩ := N6
  obtain ⟨r1, r2, r3⟩ := C6
  have f0 := F6 0
  have f1 := F6 1
  have f2 := F6 2
  have hC' : Hid (cOk O D T = true) := hC
  have hTO : TOk T := by have h := hC; unfold cOk at h; simp only [Bool.and_eq_true] at h; exact tokB_of h.2.2.2.2
  clear hC
  cases rok with
  | false =>
    obtain ⟨hpT, hpO⟩ := p_no (O := O) (D := D) (T := T) (p := (i : Int)) (a := a) (b := b) (c := c) (L := L) (by rw [hpI.out])
    have hpT : Hid _ := hpT
    have hpO : Hid _ := hpO
    clear hpI
    go_wp2
    obtain ⟨z, hz, q1, q2, q3, hD'⟩ := back W6 BX
    rw [← hz]
    exact bodyPost_ret (v := .tuple #[.agg #[.slice aO O.length kO, .slice aM (List.length D) kM, .slice aT T.length kT], .slice none 0 0]) (by simp only [results, Tryz.results8]; simp [go_sem, q1, q2, q3]) rfl (by show OwnP _ _ _ _ _ _ _; rw [hpT.out, hpO.out]; exact hD')
  | true =>
  clear back
  have A6' := A6
  obtain ⟨X1, X2, X3⟩ := A6'
  have GX' := GX
  obtain ⟨j1, j2, j3, j4⟩ := GX'
  go_wp2_with fail
  go_at_call 42
  refine (hearIX adT cT T rb rc (i : Int) W6 I6.vT hTO (fun x e p => by have := I6.iT x e p; omega)).mono ?_
  rintro e x7 ⟨vv, rfl, oT, k7⟩
  obtain ⟨T1, hT1⟩ : ∃ T1, Hid (hearR T ⟨rb, rc, (i : Int), 20⟩ = T1) := ⟨_, rfl⟩
  rw [hT1.out] at oT
  obtain ⟨aT1, kT1, rfl, vT7, rT7, iT7⟩ := hown_view oT
  have s7 := k7.size
  have N7 : CdAt x7 N aO O.length kO aM D.length kM aT T.length kT := CdAt.below ⟨n1, n2, n3⟩ k7 (by omega)
  have G7 := fz_below G6 k7 (by omega)
  clear n1 n2 n3 r1 r2 r3 f0 f1 f2 j1 j2 j3 j4 X1 X2 X3
  obtain ⟨n1, n2, n3⟩ := N7
  have g2 := G7 2
  obtain ⟨x8, hx8⟩ : ∃ z, z = x7.setCell ⟨N, 2, none⟩ (.slice aT1 T1.length kT1) := ⟨_, rfl⟩
  have e8 : ∀ j, j ≠ N → x8.heap[j]? = x7.heap[j]? := fun j hj => by rw [hx8]; exact Below.heap_setCell _ _ _ _ hj
  have s8 : x7.heap.size ≤ x8.heap.size := by rw [hx8]; simp
  have s8' : x8.heap.size ≤ x7.heap.size := by rw [hx8]; simp
  have N8 : CdAt x8 N aO O.length kO aM D.length kM aT1 T1.length kT1 := by
    rw [hx8]
    exact ⟨(cell_set_ne (by omega)).trans n1, (cell_set_ne (by omega)).trans n2, cell_set_same ⟨_, n3⟩⟩
  have B8 : Below w.heap.size w x8 := by rw [hx8]; exact ((B6.trans (k7.mono B6.size)).setCell (by show w.heap.size ≤ N; omega) _)
  have k8 : ∀ j, j < W6.heap.size → j ≠ N → x8.heap[j]? = W6.heap[j]? := fun j h1 h2 => (e8 j h2).trans (k7.block j h1)
  have A8 := A6.same (k8 P (by omega) (by omega))
  have C8 : CdAt x8 (P + 1 + 1) none 0 0 none 0 0 none 0 0 := CdAt.same (C5.below BX (by omega)) (k8 (P + 1 + 1) (by omega) (by omega))
  have F8 : ∀ i, x8.frozen? ⟨P + 1 + 1, i, none⟩ = false := fun i => (World.frozen?_of_block (a := ⟨P + 1 + 1, i, none⟩) (k8 (P + 1 + 1) (by omega) (by omega))).trans (F6 i)
  have GX8 := GX.same (k8 NX (by omega) (by omega))
  have vX8 := vX.carry (w' := x8) (fun x e q => k8 _ (by have := iX x e; omega) (by have := iX x e; omega))
  have I8 := I6.keep (w' := x8) (fun j h1 h2 => k8 j (by omega) (by omega))
  have V8 : CdW x8 x0.heap.size x8.heap.size aO O aM D aT1 T1 := V6.retab (by omega) (by omega) (fun j h1 h2 => k8 j (by omega) (by omega)) (vT7.carry (fun x e q => e8 _ (by have := iT7 x e; omega))) (rT7.carry (fun x e q => e8 _ (by have := iT7 x e; omega))) (fun x e => by have := iT7 x e; omega)
  have hNP : P + 1 + 1 < N := by omega
  have hN8 : N < x8.heap.size := by omega
  have hNX8 : N < NX ∧ NX < x8.heap.size := by omega
  have iX8 : ∀ x, adX = some x → N < x.block ∧ x.block < x8.heap.size := fun x e => by have := iX x e; omega
  have hpT : pTab O D T (i : Int) a b c L = T1 := by
    unfold pTab
    rw [hpI.out]
    exact (if_pos rfl).trans hT1.out
  have hpO : pOuts O D T (i : Int) a b c L = goesTo O D (i : Int) ⟨ra, rb, rc, rM, true⟩ (whereR T ra rc).2 (whereR T ra rc).1 O.length := by
    unfold pOuts
    rw [hpI.out]
    refine (if_pos rfl).trans ?_
    show goesTo O D (i : Int) ⟨ra, rb, rc, rM, true⟩ ((whereR T ra rc).2 && (ra != 0)) (whereR T ra rc).1 O.length = _
    rw [where_known hTO]
  have fin : Hid (∀ (z : World) (aL : Option Addr) (kL : Nat) (Ns : List Ob) (fp : List Nat), (∀ j, j < x8.heap.size → j ≠ P + 1 + 1 → z.heap[j]? = x8.heap[j]?) → x8.heap.size ≤ z.heap.size → Ns.map Ob.d = goesTo O D (i : Int) ⟨ra, rb, rc, rM, true⟩ (whereR T ra rc).2 (whereR T ra rc).1 O.length → ObW z aL Ns fp → (∀ x ∈ fp, x8.heap.size ≤ x ∧ x < z.heap.size) → Below w.heap.size w z → OwnP w O D (pTab O D T (i : Int) a b c L) (pOuts O D T (i : Int) a b c L) (.returned (.tuple #[.agg #[.slice aO O.length kO, .slice aM (List.length D) kM, .slice aT1 T1.length kT1], .slice aL Ns.length kL])) z) := fun z aL kL Ns fp e sz hd OW hf BZ => by
    rw [hpT, hpO]
    exact ⟨aO, kO, aM, kM, aT1, kT1, aL, kL, Ns, fp, x8.heap.size, rfl, (V8.keep (fun j h1 h2 => e j (by omega) (by omega))).wide (by omega) (Nat.le_refl _), by omega, sz, hd, OW, hf, BZ⟩
  have call : ∀ y : World, (∀ j, j < x8.heap.size → j ≠ P + 1 + 1 → y.heap[j]? = x8.heap[j]?) → x8.heap.size ≤ y.heap.size → Calls Tryz.prog 43 #[.pointer (some ⟨P, 0, none⟩), .int .i64 (i : Int), .pointer (some ⟨NX, 0, none⟩)] y fun e w' => ∃ (aL : Option Addr) (kL : Nat) (Ns : List Ob) (fp : List Nat), e = .returned (.slice aL Ns.length kL) ∧ Hid (Ns.map Ob.d = goesTo O D (i : Int) ⟨ra, rb, rc, rM, true⟩ (whereR T ra rc).2 (whereR T ra rc).1 O.length) ∧ ObW w' aL Ns fp ∧ (∀ x ∈ fp, y.heap.size ≤ x ∧ x < w'.heap.size) ∧ Below y.heap.size y w' := fun y e sy =>
    hS (some ⟨bO, offO, none⟩) cO O (some ⟨bM, offM, none⟩) cM D adT cT T i ra rb rc adX capX rM lo hi P NX y (A8.same (e P (by omega) (by omega))) (I8.keep (fun j h1 h2 => e j (by omega) (by omega))) (by omega) hC'.out hl hi0 (GX8.same (e NX (by omega) (by omega))) (vX8.carry (fun x q _ => e _ (by have := iX8 x q; omega) (by have := iX8 x q; omega))) hrm
  clear hpT hpO hmYa hnYa hOY hmY hnY vL5 I5 I6 I8 A5 A6 A8 C5 Q5 F5 F6 N5 G5 G6 G7 W5 V6 V8 B5 BX B6 GX GX8 oX nX vX vX8 rX iX iX8 vT7 rT7 iT7 oT k7 k8 e8 hmk hpI hS
  go_wp2_with fail
  rw [← hx8]
  clear hx8 n1 n2 n3 g2
  refine wp_region_held (S := fun _ => True) (by kernel_rfl) ?_
  change wpAnyH _ _ _ _ _ _ _ _ (World.drew _)
  have hTr : True := trivial
  have kzz : Below x8.heap.size x8 x8.drew := (Below.refl _ _).drew
  obtain ⟨zz, hzz⟩ : ∃ y, y = x8.drew := ⟨_, rfl⟩
  rw [← hzz] at kzz ⊢
  clear hzz
  have szz := kzz.size
  have ezz : ∀ j, j < x8.heap.size → j ≠ P + 1 + 1 → zz.heap[j]? = x8.heap[j]? := fun j h1 _ => kzz.block j h1
  have Czz := C8.below kzz (by omega)
  have Fzz := fz_below F8 kzz (by omega)
  have bzz := B8.trans (kzz.mono B8.size)
  refine takeW 1 51 (.int .i64 (i : Int)) rfl rfl (by kernel_rfl) (by kernel_rfl) (by kernel_rfl) (fun _ _ _ h => h) (by kernel_rfl) (by (intro w hSw; go_simp)) (by assumption) ?_
  simp only [List.set_cons_zero, List.set_cons_succ]
  refine wpAnyH_all (rs := [0, 2]) (by kernel_rfl) (by simp) ?_
  intro i hi; rcases (by simpa using hi : i = 0 ∨ i = 2) with rfl | rfl
  · refine wpOp_step rfl (fun K hK => ?_)
    rw [if_pos (by kernel_rfl)]
    have NY : CdAt zz N aO O.length kO aM D.length kM aT1 T1.length kT1 := N8.same (ezz N (by omega) (by omega))
    obtain ⟨m1, m2, m3⟩ := NY
    go_simp
    clear m1 m2 m3
    refine hK _ _ ⟨trivial, ?_⟩
    clear hK K hi
    refine wpAnyH_all (rs := [2]) (by kernel_rfl) (by simp) ?_
    intro i hi; obtain rfl : i = 2 := by simpa using hi
    refine wpOp_step rfl (fun K hK => ?_)
    rw [if_pos (by kernel_rfl)]
    go_simp
    go_at_call 43
    refine (call zz ezz szz).mono ?_
    rintro e y1 ⟨aL, kL, Ns, fp, rfl, hd, OW, hf, ky1⟩
    have sy1 : x8.heap.size ≤ y1.heap.size := Nat.le_trans szz ky1.size
    have by1 : Below w.heap.size w y1 := bzz.trans (ky1.mono (by have := bzz.size; omega))
    refine hK _ _ ⟨trivial, ?_⟩
    clear hK K hi
    have ey1 : ∀ j, j < x8.heap.size → j ≠ P + 1 + 1 → y1.heap[j]? = x8.heap[j]? := fun j h1 h2 => (ky1.block j (by omega)).trans (ezz j h1 h2)
    have Cy1 := Czz.below ky1 (by omega)
    have Fy1 := fz_below Fzz ky1 (by omega)
    refine wpAnyH_all (rs := [3]) (by kernel_rfl) (by simp) ?_
    intro i hi; obtain rfl : i = 3 := by simpa using hi
    refine wpOp_step rfl (fun K hK => ?_)
    rw [if_pos (by kernel_rfl)]
    obtain ⟨m1, m2, m3⟩ := Cy1
    have g0 := Fy1 0
    have g1 := Fy1 1
    have g2 := Fy1 2
    go_simp
    obtain ⟨y2, hy2⟩ : ∃ z, z = ((y1.setCell ⟨P + 1 + 1, 0, none⟩ (.slice aO O.length kO)).setCell ⟨P + 1 + 1, 1, none⟩ (.slice aM D.length kM)).setCell ⟨P + 1 + 1, 2, none⟩ (.slice aT1 T1.length kT1) := ⟨_, rfl⟩
    have h3y2 : ∀ j, j ≠ P + 1 + 1 → y2.heap[j]? = y1.heap[j]? := fun j hj => by rw [hy2]; exact heap_set3 hj
    have q1 : y2.cell? ⟨P + 1 + 1, 0, none⟩ = some (.slice aO O.length kO) := by rw [hy2, cell_set_ne (by omega), cell_set_ne (by omega)]; exact cell_set_same ⟨_, m1⟩
    have q2 : y2.cell? ⟨P + 1 + 1, 1, none⟩ = some (.slice aM D.length kM) := by rw [hy2, cell_set_ne (by omega)]; exact cell_set_same ⟨_, (cell_set_ne (by omega)).trans m2⟩
    have q3 : y2.cell? ⟨P + 1 + 1, 2, none⟩ = some (.slice aT1 T1.length kT1) := by rw [hy2]; exact cell_set_same ⟨_, (cell_set_ne (by omega)).trans ((cell_set_ne (by omega)).trans m3)⟩
    have sy2 : x8.heap.size ≤ y2.heap.size := by rw [hy2]; simp; omega
    have ty2 : y2.heap.size = y1.heap.size := by rw [hy2]; simp
    have by2 : Below w.heap.size w y2 := by rw [hy2]; exact ((by1.setCell (by show w.heap.size ≤ P + 1 + 1; omega) _).setCell (by show w.heap.size ≤ P + 1 + 1; omega) _).setCell (by show w.heap.size ≤ P + 1 + 1; omega) _
    rw [← hy2]
    clear hy2 m1 m2 m3 g0 g1 g2
    refine hK _ _ ⟨trivial, ?_⟩
    clear hK K hi
    refine takeW 4 7 (.slice aL Ns.length kL) rfl rfl (by kernel_rfl) (by kernel_rfl) (by kernel_rfl) (fun _ _ _ h => h) (by kernel_rfl) (by (intro w hSw; go_simp)) (by assumption) ?_
    simp only [List.set_cons_zero, List.set_cons_succ]
    refine wpAnyH_done (by kernel_rfl) ?_ _
    go_wp2
    exact bodyPost_ret (v := .tuple #[.agg #[.slice aO O.length kO, .slice aM (List.length D) kM, .slice aT1 T1.length kT1], .slice aL Ns.length kL]) (by simp only [results, Tryz.results8]; simp [go_sem, q1, q2, q3]) rfl (fin.out y2 aL kL Ns fp (fun j h1 h2 => (h3y2 j h2).trans (ey1 j h1 h2)) sy2 hd.out (OW.carryP (fun x hx => h3y2 x (by have := hf x hx; omega))) (fun x hx => by have := hf x hx; omega) by2)
  · refine wpOp_step rfl (fun K hK => ?_)
    rw [if_pos (by kernel_rfl)]
    go_simp
    go_at_call 43
    refine (call zz ezz szz).mono ?_
    rintro e y1 ⟨aL, kL, Ns, fp, rfl, hd, OW, hf, ky1⟩
    have sy1 : x8.heap.size ≤ y1.heap.size := Nat.le_trans szz ky1.size
    have by1 : Below w.heap.size w y1 := bzz.trans (ky1.mono (by have := bzz.size; omega))
    refine hK _ _ ⟨trivial, ?_⟩
    clear hK K hi
    have ey1 : ∀ j, j < x8.heap.size → j ≠ P + 1 + 1 → y1.heap[j]? = x8.heap[j]? := fun j h1 h2 => (ky1.block j (by omega)).trans (ezz j h1 h2)
    have Cy1 := Czz.below ky1 (by omega)
    have Fy1 := fz_below Fzz ky1 (by omega)
    refine wpAnyH_all (rs := [0]) (by kernel_rfl) (by simp) ?_
    intro i hi; obtain rfl : i = 0 := by simpa using hi
    refine wpOp_step rfl (fun K hK => ?_)
    rw [if_pos (by kernel_rfl)]
    have NY : CdAt y1 N aO O.length kO aM D.length kM aT1 T1.length kT1 := N8.same (ey1 N (by omega) (by omega))
    obtain ⟨m1, m2, m3⟩ := NY
    go_simp
    clear m1 m2 m3
    refine hK _ _ ⟨trivial, ?_⟩
    clear hK K hi
    refine wpAnyH_all (rs := [3]) (by kernel_rfl) (by simp) ?_
    intro i hi; obtain rfl : i = 3 := by simpa using hi
    refine wpOp_step rfl (fun K hK => ?_)
    rw [if_pos (by kernel_rfl)]
    obtain ⟨m1, m2, m3⟩ := Cy1
    have g0 := Fy1 0
    have g1 := Fy1 1
    have g2 := Fy1 2
    go_simp
    obtain ⟨y2, hy2⟩ : ∃ z, z = ((y1.setCell ⟨P + 1 + 1, 0, none⟩ (.slice aO O.length kO)).setCell ⟨P + 1 + 1, 1, none⟩ (.slice aM D.length kM)).setCell ⟨P + 1 + 1, 2, none⟩ (.slice aT1 T1.length kT1) := ⟨_, rfl⟩
    have h3y2 : ∀ j, j ≠ P + 1 + 1 → y2.heap[j]? = y1.heap[j]? := fun j hj => by rw [hy2]; exact heap_set3 hj
    have q1 : y2.cell? ⟨P + 1 + 1, 0, none⟩ = some (.slice aO O.length kO) := by rw [hy2, cell_set_ne (by omega), cell_set_ne (by omega)]; exact cell_set_same ⟨_, m1⟩
    have q2 : y2.cell? ⟨P + 1 + 1, 1, none⟩ = some (.slice aM D.length kM) := by rw [hy2, cell_set_ne (by omega)]; exact cell_set_same ⟨_, (cell_set_ne (by omega)).trans m2⟩
    have q3 : y2.cell? ⟨P + 1 + 1, 2, none⟩ = some (.slice aT1 T1.length kT1) := by rw [hy2]; exact cell_set_same ⟨_, (cell_set_ne (by omega)).trans ((cell_set_ne (by omega)).trans m3)⟩
    have sy2 : x8.heap.size ≤ y2.heap.size := by rw [hy2]; simp; omega
    have ty2 : y2.heap.size = y1.heap.size := by rw [hy2]; simp
    have by2 : Below w.heap.size w y2 := by rw [hy2]; exact ((by1.setCell (by show w.heap.size ≤ P + 1 + 1; omega) _).setCell (by show w.heap.size ≤ P + 1 + 1; omega) _).setCell (by show w.heap.size ≤ P + 1 + 1; omega) _
    rw [← hy2]
    clear hy2 m1 m2 m3 g0 g1 g2
    refine hK _ _ ⟨trivial, ?_⟩
    clear hK K hi
    refine takeW 4 7 (.slice aL Ns.length kL) rfl rfl (by kernel_rfl) (by kernel_rfl) (by kernel_rfl) (fun _ _ _ h => h) (by kernel_rfl) (by (intro w hSw; go_simp)) (by assumption) ?_
    simp only [List.set_cons_zero, List.set_cons_succ]
    refine wpAnyH_done (by kernel_rfl) ?_ _
    go_wp2
    exact bodyPost_ret (v := .tuple #[.agg #[.slice aO O.length kO, .slice aM (List.length D) kM, .slice aT1 T1.length kT1], .slice aL Ns.length kL]) (by simp only [results, Tryz.results8]; simp [go_sem, q1, q2, q3]) rfl (fin.out y2 aL kL Ns fp (fun j h1 h2 => (h3y2 j h2).trans (ey1 j h1 h2)) sy2 hd.out (OW.carryP (fun x hx => h3y2 x (by have := hf x hx; omega))) (fun x hx => by have := hf x hx; omega) by2)

end Go.Proofs.YtifndemkkaelaaaGreat
