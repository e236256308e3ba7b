/- For every slice of bytes the call of FnFlushed returns true: a gate of a card that is drawn of it, turned and turned again, knows nobody there, and others as before (a slice of more than 1048576 bytes is answered true at once). No condition. -/
import Derived.Test.YtifndemkkaelaaaRows
import Derived.Test.YtifndemkkaelaaaGateI
import Derived.Test.YtifndemkkaelaaaDrawG
import Derived.Test.YtifndemkkaelaaaSame5
import Derived.Test.YtifndemkkaelaaaFlushPre
import Derived.Test.YtifndemkkaelaaaTakes
import Derived.WalkSpells
import Derived.WalkLawsBesides
import Derived.WalkKit
import Derived.Below
import Derived.ChangeOld
import Derived.WalkSmall
import Derived.ProofKit
import Derived.OpenShut
import Derived.ShutString
import Derived.BigQuiet
namespace Go.Proofs.Ytifndemkkaelaaa.fnFlushed
open Go.ChangeShapes Go.WideShapes Go.ChangeAt Go.RowKit
set_option linter.unusedVariables false

theorem own : ownKnob Try.prog.godebug = none := by kernel_rfl
theorem laidOut : laidOutB Try.prog = true := by kernel_rfl

/-- What is known of a code that comes in. -/
structure CodeIn (w : World) (ad : Option Addr) (len : Nat) (f : Nat → Int) : Prop where
  lm : len ≤ maxLen
  hv : View w ad len f
  hB : ∀ x, ad = some x → 0 < len → x.block < w.heap.size
  hf : ∀ i, 0 ≤ f i ∧ f i ≤ 255
set_option maxRecDepth 100000 in
theorem codeIn_open {H : Type} {enc : TypeId × Value → H} {w : World} {r : Reach} {b0 : Nat} {v : Value} {d : DataW H} {p : List MemPlace} (hv : Value.okWide Try.prog w r b0 22 v) (h : DataW.Trod enc Try.prog w 0 (fun _ => true) true 22 v d p) :
    ∃ ad len cap f, v = .slice ad len cap ∧ CodeIn w ad len f := by
  obtain ⟨n, hn⟩ := h
  obtain ⟨a0, len0, cap0, rfl⟩ := okWide_slice (P := Try.prog) (t := 22) (e := 5) Try.underlying22 hv
  have hcell0 : ∀ x, (Value.slice a0 len0 cap0).cells.toList = [x] → Value.slice a0 len0 cap0 = x := fun x h => by simpa [Value.cells] using h
  rcases open_ints Try.underlying22 Try.underlying5 (by kernel_rfl) hn with ⟨hcs, _⟩ | ⟨x, l, cp, zs, hcs, _, hl, hm, hz, _, hcell, hwz⟩
  · exact ⟨none, 0, 0, fun _ => 0, hcell0 _ hcs, by unfold maxLen; omega, fun h => absurd h (by omega), fun a h => by simp at h, fun i => by simp⟩
  · simp at hz
    refine ⟨some x, l, cp, fun i => zs.getD i 0, hcell0 _ hcs, by omega, fun hp => ?_, fun a h hp => ?_, fun i => ?_⟩
    · obtain ⟨b, off, rfl, hc⟩ := ints_at hcell (by omega)
      exact ⟨b, off, rfl, fun i hi => hc i (by omega)⟩
    · obtain rfl : x = a := by simpa using h
      have hc := hcell 0 (by omega)
      simpa [Addr.add] using World.block_lt_of_cell? w _ hc
    · by_cases hi : i < zs.length
      · have := bounds_u8 (hwz (zs.getD i 0) (by simp [List.getD, hi]))
        exact this
      · simp [List.getD, List.getElem?_eq_none (by omega : zs.length ≤ i)]
theorem wf_of_bounds {n : Int} (h0 : -9223372036854775808 ≤ n) (h1 : n ≤ 9223372036854775807) : (Lit.int .i64 n).wf = true := by
  simp [Lit.wf, IntKind.min, IntKind.max, IntKind.signed, IntKind.bits]
  omega
set_option maxRecDepth 100000 in
set_option maxHeartbeats 16000000 in
theorem walk (ad0 : Option Addr) (len0 cap0 : Nat) (f0 : Nat → Int) (w : World) (I0 : CodeIn w ad0 len0 f0) :
    Calls Try.prog 3 #[.slice ad0 len0 cap0] w fun e w' => e = .returned (.bool true) ∧ Below w.heap.size w w' := by
  by_cases hbig : (1048576 : Int) < (len0 : Int)
  · go_enter Try.func3, Try.ntmps3
    go_wp2_with fail
    go_at_call 6
    refine (bigYes ad0 len0 cap0 w hbig).mono ?_
    rintro e w1 ⟨rfl, rfl⟩
    go_wp2
    go_ret
    exact ⟨rfl, Below.refl _ _⟩
  have hl0 : len0 ≤ 1048576 := by omega
  have hCd : Code0 w ad0 len0 f0 := ⟨I0.hv, I0.hB, hl0, I0.hf⟩
  clear hbig
  go_enter Try.func3, Try.ntmps3
  go_wp2_with fail
  go_at_call 6
  refine (bigNo ad0 len0 cap0 w hl0).mono ?_
  rintro e x0 ⟨rfl, hx0⟩
  have hCd0 : Code0 x0 ad0 len0 f0 := by rw [hx0]; exact hCd
  have BW : Below w.heap.size w x0 := by rw [hx0]; exact Below.refl _ _
  clear hx0 hCd I0 hl0
  go_wp2_with fail
  go_at_call 7
  refine (drawG ad0 len0 cap0 f0 x0 hCd0).mono ?_
  rintro e x1 ⟨aO, O, kO, aM, D, kM, aT, T, kT, p, on, rfl, V1, k1, hO, hD, hT, hp0, hp1, _, _⟩
  have s1 := k1.size
  have B1 := BW.trans (k1.mono BW.size)
  have hsz : O.length + totD D + T.length ≤ 1048576 := by omega
  have hpw : (Lit.int .i64 p).wf = true := wf_of_bounds (by omega) (by omega)
  obtain ⟨x2, hx2⟩ : ∃ y, y = x1.alloc (Obj.cells #[.slice aO O.length kO, .slice aM D.length kM, .slice aT T.length kT] 28) := ⟨_, rfl⟩
  obtain ⟨N, hN⟩ : ∃ N, N = x1.heap.size := ⟨_, rfl⟩
  have k2 : Below x1.heap.size x1 x2 := by rw [hx2]; exact below_box x1 _
  have A2 : CdAt x2 N aO O.length kO aM D.length kM aT T.length kT := by rw [hx2, hN]; exact CdAt.box _ _ _ _ _ _ _ _ _ _ _
  have hNl : x1.heap.size ≤ N := by omega
  have hN2 : N < x2.heap.size := A2.lt
  have s2 := k2.size
  have V2 := V1.below k2 (Nat.le_refl _)
  have B2 := B1.trans (k2.mono B1.size)
  clear V1 B1 BW hCd0 k1 k2
  go_wp2_with fail
  go_at_call 8
  rw [← hx2]
  rw [← hN]
  clear hx2 hN
  refine (cardOkI aO kO O aM kM D aT kT T x0.heap.size x1.heap.size x2 V2 (by omega) hsz).mono ?_
  rintro e x3 ⟨rfl, k3⟩
  have s3 := k3.size
  have A3 := A2.below k3 (by omega)
  have V3 := V2.below k3 (by omega)
  have B3 := B2.trans (k3.mono B2.size)
  clear A2 V2 B2 k3
  by_cases hC : cOk O D T = true
  rotate_left
  · have hC' : cOk O D T = false := by simpa using hC
    have hg : gTurn O D T p on = false := by unfold gTurn; rw [hC']; rfl
    have hgO : Hid (gO O D T p on = O) := if_neg (by rw [hg]; simp)
    have hgT : Hid (gT O D T p on = T) := if_neg (by rw [hg]; simp)
    rw [hC']
    clear hC hC' hg
    go_wp2_with fail
    refine wp_region_held (S := fun Y => Below x3.heap.size x3 Y) (by kernel_rfl) ?_
    change wpAnyH _ _ _ _ _ _ _ _ (World.drew _)
    have hb0 : Below x3.heap.size x3 x3.drew := (Below.refl _ _).drew
    refine takeW 0 29 (.agg #[.slice aO O.length kO, .slice aM (List.length D) kM, .slice aT T.length kT]) rfl rfl (by kernel_rfl) (by kernel_rfl) (by kernel_rfl) (fun _ _ _ h => h) (by kernel_rfl) (by (intro Y hSw; obtain ⟨X1, X2, X3⟩ := A3.below hSw (by omega); go_simp)) (by assumption) ?_
    simp only [List.set_cons_zero, List.set_cons_succ]
    refine takeW 1 30 (.int .i64 p) rfl rfl (by kernel_rfl) (by kernel_rfl) (by kernel_rfl) (fun _ _ _ h => h) (by kernel_rfl) (by (intro w hSw; go_simp)) (by assumption) ?_
    simp only [List.set_cons_zero, List.set_cons_succ]
    refine takeW 2 31 (.bool on) rfl rfl (by kernel_rfl) (by kernel_rfl) (by kernel_rfl) (fun _ _ _ h => h) (by kernel_rfl) (by (intro w hSw; go_simp)) (by assumption) ?_
    simp only [List.set_cons_zero, List.set_cons_succ]
    refine takeW 4 33 (.agg #[.slice aO O.length kO, .slice aM (List.length D) kM, .slice aT T.length kT]) rfl rfl (by kernel_rfl) (by kernel_rfl) (by kernel_rfl) (fun _ _ _ h => h) (by kernel_rfl) (by (intro Y hSw; obtain ⟨X1, X2, X3⟩ := A3.below hSw (by omega); go_simp)) (by assumption) ?_
    simp only [List.set_cons_zero, List.set_cons_succ]
    refine wpAnyH_all (rs := [3]) (by kernel_rfl) (by simp) ?_
    intro i hi; obtain rfl : i = 3 := by simpa using hi
    refine wpOp_step rfl (fun K hK => ?_)
    rw [if_pos (by kernel_rfl)]
    go_simp
    go_at_call 10
    refine (gateI aO kO O aM kM D aT kT T p on x0.heap.size x1.heap.size x3.drew (V3.below hb0 (by omega)) (by show x1.heap.size ≤ x3.heap.size; omega) hsz hpw).mono ?_
    intro e y1 hq
    rw [hgO.out, hgT.out] at hq
    obtain ⟨aq1, aq2, aq3, aq4, aq5, aq6, rfl, Wq, kq⟩ := hq
    have hb1 : Below x3.heap.size x3 y1 := hb0.trans (kq.mono hb0.size)
    refine hK _ _ ⟨hb1, ?_⟩
    clear hK K hi
    refine wpAnyH_all (rs := [5]) (by kernel_rfl) (by simp) ?_
    intro i hi; obtain rfl : i = 5 := by simpa using hi
    refine wpOp_step rfl (fun K hK => ?_)
    rw [if_pos (by kernel_rfl)]
    go_simp
    go_at_call 9
    refine (sameC aq1 aq2 O aq3 aq4 D aq5 aq6 T aO kO aM kM aT kT x3.heap.size y1.heap.size x0.heap.size x1.heap.size y1 Wq.view (V3.below hb1 (by omega)) hsz).mono ?_
    rintro e y2 ⟨rfl, kq2⟩
    have hb2 : Below x3.heap.size x3 y2 := hb1.trans (kq2.mono hb1.size)
    refine hK _ _ ⟨hb2, ?_⟩
    clear hK K hi
    refine takeW 6 2 (.bool true) rfl rfl (by kernel_rfl) (by kernel_rfl) (by kernel_rfl) (fun _ _ _ h => h) (by kernel_rfl) (by (intro w hSw; go_simp)) (by assumption) ?_
    simp only [List.set_cons_zero, List.set_cons_succ]
    refine wpAnyH_done (by kernel_rfl) ?_ _
    go_wp2
    go_ret
    exact ⟨rfl, B3.trans (hb2.mono B3.size)⟩
  rw [hC]
  have A3' := A3
  obtain ⟨X1, X2, X3⟩ := A3'
  by_cases hp : p < 0
  · have hg : gTurn O D T p on = false := by unfold gTurn; rw [decide_eq_false (p := 0 ≤ p ∧ p < (O.length : Int)) (by omega)]; simp
    have hgO : Hid (gO O D T p on = O) := if_neg (by rw [hg]; simp)
    have hgT : Hid (gT O D T p on = T) := if_neg (by rw [hg]; simp)
    clear hC hg
    go_wp2_with fail
    clear X1 X2 X3
    refine wp_region_held (S := fun Y => Below x3.heap.size x3 Y) (by kernel_rfl) ?_
    change wpAnyH _ _ _ _ _ _ _ _ (World.drew _)
    have hb0 : Below x3.heap.size x3 x3.drew := (Below.refl _ _).drew
    refine takeW 0 29 (.agg #[.slice aO O.length kO, .slice aM (List.length D) kM, .slice aT T.length kT]) rfl rfl (by kernel_rfl) (by kernel_rfl) (by kernel_rfl) (fun _ _ _ h => h) (by kernel_rfl) (by (intro Y hSw; obtain ⟨X1, X2, X3⟩ := A3.below hSw (by omega); go_simp)) (by assumption) ?_
    simp only [List.set_cons_zero, List.set_cons_succ]
    refine takeW 1 30 (.int .i64 p) rfl rfl (by kernel_rfl) (by kernel_rfl) (by kernel_rfl) (fun _ _ _ h => h) (by kernel_rfl) (by (intro w hSw; go_simp)) (by assumption) ?_
    simp only [List.set_cons_zero, List.set_cons_succ]
    refine takeW 2 31 (.bool on) rfl rfl (by kernel_rfl) (by kernel_rfl) (by kernel_rfl) (fun _ _ _ h => h) (by kernel_rfl) (by (intro w hSw; go_simp)) (by assumption) ?_
    simp only [List.set_cons_zero, List.set_cons_succ]
    refine takeW 4 33 (.agg #[.slice aO O.length kO, .slice aM (List.length D) kM, .slice aT T.length kT]) rfl rfl (by kernel_rfl) (by kernel_rfl) (by kernel_rfl) (fun _ _ _ h => h) (by kernel_rfl) (by (intro Y hSw; obtain ⟨X1, X2, X3⟩ := A3.below hSw (by omega); go_simp)) (by assumption) ?_
    simp only [List.set_cons_zero, List.set_cons_succ]
    refine wpAnyH_all (rs := [3]) (by kernel_rfl) (by simp) ?_
    intro i hi; obtain rfl : i = 3 := by simpa using hi
    refine wpOp_step rfl (fun K hK => ?_)
    rw [if_pos (by kernel_rfl)]
    go_simp
    go_at_call 10
    refine (gateI aO kO O aM kM D aT kT T p on x0.heap.size x1.heap.size x3.drew (V3.below hb0 (by omega)) (by show x1.heap.size ≤ x3.heap.size; omega) hsz hpw).mono ?_
    intro e y1 hq
    rw [hgO.out, hgT.out] at hq
    obtain ⟨aq1, aq2, aq3, aq4, aq5, aq6, rfl, Wq, kq⟩ := hq
    have hb1 : Below x3.heap.size x3 y1 := hb0.trans (kq.mono hb0.size)
    refine hK _ _ ⟨hb1, ?_⟩
    clear hK K hi
    refine wpAnyH_all (rs := [5]) (by kernel_rfl) (by simp) ?_
    intro i hi; obtain rfl : i = 5 := by simpa using hi
    refine wpOp_step rfl (fun K hK => ?_)
    rw [if_pos (by kernel_rfl)]
    go_simp
    go_at_call 9
    refine (sameC aq1 aq2 O aq3 aq4 D aq5 aq6 T aO kO aM kM aT kT x3.heap.size y1.heap.size x0.heap.size x1.heap.size y1 Wq.view (V3.below hb1 (by omega)) hsz).mono ?_
    rintro e y2 ⟨rfl, kq2⟩
    have hb2 : Below x3.heap.size x3 y2 := hb1.trans (kq2.mono hb1.size)
    refine hK _ _ ⟨hb2, ?_⟩
    clear hK K hi
    refine takeW 6 2 (.bool true) rfl rfl (by kernel_rfl) (by kernel_rfl) (by kernel_rfl) (fun _ _ _ h => h) (by kernel_rfl) (by (intro w hSw; go_simp)) (by assumption) ?_
    simp only [List.set_cons_zero, List.set_cons_succ]
    refine wpAnyH_done (by kernel_rfl) ?_ _
    go_wp2
    go_ret
    exact ⟨rfl, B3.trans (hb2.mono B3.size)⟩
  have hpd : decide (p < 0) = false := decide_eq_false hp
  by_cases hpl : (O.length : Int) ≤ p
  · have hg : gTurn O D T p on = false := by unfold gTurn; rw [decide_eq_false (p := 0 ≤ p ∧ p < (O.length : Int)) (by omega)]; simp
    have hgO : Hid (gO O D T p on = O) := if_neg (by rw [hg]; simp)
    have hgT : Hid (gT O D T p on = T) := if_neg (by rw [hg]; simp)
    have hpd2 : decide ((O.length : Int) ≤ p) = true := decide_eq_true hpl
    clear hC hg hp
    go_wp2_with fail
    clear X1 X2 X3
    refine wp_region_held (S := fun Y => Below x3.heap.size x3 Y) (by kernel_rfl) ?_
    change wpAnyH _ _ _ _ _ _ _ _ (World.drew _)
    have hb0 : Below x3.heap.size x3 x3.drew := (Below.refl _ _).drew
    refine takeW 0 29 (.agg #[.slice aO O.length kO, .slice aM (List.length D) kM, .slice aT T.length kT]) rfl rfl (by kernel_rfl) (by kernel_rfl) (by kernel_rfl) (fun _ _ _ h => h) (by kernel_rfl) (by (intro Y hSw; obtain ⟨X1, X2, X3⟩ := A3.below hSw (by omega); go_simp)) (by assumption) ?_
    simp only [List.set_cons_zero, List.set_cons_succ]
    refine takeW 1 30 (.int .i64 p) rfl rfl (by kernel_rfl) (by kernel_rfl) (by kernel_rfl) (fun _ _ _ h => h) (by kernel_rfl) (by (intro w hSw; go_simp)) (by assumption) ?_
    simp only [List.set_cons_zero, List.set_cons_succ]
    refine takeW 2 31 (.bool on) rfl rfl (by kernel_rfl) (by kernel_rfl) (by kernel_rfl) (fun _ _ _ h => h) (by kernel_rfl) (by (intro w hSw; go_simp)) (by assumption) ?_
    simp only [List.set_cons_zero, List.set_cons_succ]
    refine takeW 4 33 (.agg #[.slice aO O.length kO, .slice aM (List.length D) kM, .slice aT T.length kT]) rfl rfl (by kernel_rfl) (by kernel_rfl) (by kernel_rfl) (fun _ _ _ h => h) (by kernel_rfl) (by (intro Y hSw; obtain ⟨X1, X2, X3⟩ := A3.below hSw (by omega); go_simp)) (by assumption) ?_
    simp only [List.set_cons_zero, List.set_cons_succ]
    refine wpAnyH_all (rs := [3]) (by kernel_rfl) (by simp) ?_
    intro i hi; obtain rfl : i = 3 := by simpa using hi
    refine wpOp_step rfl (fun K hK => ?_)
    rw [if_pos (by kernel_rfl)]
    go_simp
    go_at_call 10
    refine (gateI aO kO O aM kM D aT kT T p on x0.heap.size x1.heap.size x3.drew (V3.below hb0 (by omega)) (by show x1.heap.size ≤ x3.heap.size; omega) hsz hpw).mono ?_
    intro e y1 hq
    rw [hgO.out, hgT.out] at hq
    obtain ⟨aq1, aq2, aq3, aq4, aq5, aq6, rfl, Wq, kq⟩ := hq
    have hb1 : Below x3.heap.size x3 y1 := hb0.trans (kq.mono hb0.size)
    refine hK _ _ ⟨hb1, ?_⟩
    clear hK K hi
    refine wpAnyH_all (rs := [5]) (by kernel_rfl) (by simp) ?_
    intro i hi; obtain rfl : i = 5 := by simpa using hi
    refine wpOp_step rfl (fun K hK => ?_)
    rw [if_pos (by kernel_rfl)]
    go_simp
    go_at_call 9
    refine (sameC aq1 aq2 O aq3 aq4 D aq5 aq6 T aO kO aM kM aT kT x3.heap.size y1.heap.size x0.heap.size x1.heap.size y1 Wq.view (V3.below hb1 (by omega)) hsz).mono ?_
    rintro e y2 ⟨rfl, kq2⟩
    have hb2 : Below x3.heap.size x3 y2 := hb1.trans (kq2.mono hb1.size)
    refine hK _ _ ⟨hb2, ?_⟩
    clear hK K hi
    refine takeW 6 2 (.bool true) rfl rfl (by kernel_rfl) (by kernel_rfl) (by kernel_rfl) (fun _ _ _ h => h) (by kernel_rfl) (by (intro w hSw; go_simp)) (by assumption) ?_
    simp only [List.set_cons_zero, List.set_cons_succ]
    refine wpAnyH_done (by kernel_rfl) ?_ _
    go_wp2
    go_ret
    exact ⟨rfl, B3.trans (hb2.mono B3.size)⟩
  have hpd2 : decide ((O.length : Int) ≤ p) = false := decide_eq_false hpl
  obtain ⟨i, rfl⟩ : ∃ i : Nat, p = (i : Int) := ⟨p.toNat, by omega⟩
  have hi0 : i < O.length := by omega
  obtain ⟨b, off, eb, hc⟩ := V3.vO (by omega)
  subst eb
  have hbl := V3.iO ⟨b, off, none⟩ rfl (by omega)
  have hbl' : x0.heap.size ≤ b ∧ b < x1.heap.size := hbl
  have hci : x3.cell? ⟨b, off + i, none⟩ = some (.bool (O.getD i false)) := hc i hi0
  obtain ⟨q, hq⟩ : ∃ q, O.getD i false = q := ⟨_, rfl⟩
  obtain ⟨fl1, fl2, fl3, fl4, fl5⟩ := flush hC hi0 hq
  rw [hq] at hci
  have hcq : ∀ Y, Below x3.heap.size x3 Y → Y.cell? ⟨b, off + i, none⟩ = some (.bool q) := fun Y hY => (hY.cell (p := ⟨b, off + i, none⟩) (by show b < _; omega)).trans hci
  have fl1 : Hid (gO O D T (i : Int) (!q) = O.set i (!q)) := fl1
  have fl2 : Hid (gT O D T (i : Int) (!q) = forgot (i : Int) T) := fl2
  have fl3 : Hid (gO (O.set i (!q)) D (forgot (i : Int) T) (i : Int) q = O) := fl3
  have fl4 : Hid (gT (O.set i (!q)) D (forgot (i : Int) T) (i : Int) q = forgot (i : Int) T) := fl4
  have fl5 : Hid (cOk O D (forgot (i : Int) T) = true) := fl5
  obtain ⟨O1, hO1⟩ : ∃ x, Hid (O.set i (!q) = x) := ⟨_, rfl⟩
  obtain ⟨T1, hT1⟩ : ∃ x, Hid (forgot (i : Int) T = x) := ⟨_, rfl⟩
  have hl1 : Hid (O1.length = O.length) := by unfold Hid; rw [← hO1.out]; exact List.length_set ..
  have hl2 : T1.length ≤ T.length := by rw [← hT1.out]; exact forgot_len _ _
  rw [hO1.out] at fl1 fl3 fl4
  rw [hT1.out] at fl2 fl3 fl4 fl5
  have hpd3 : decide (O.length ≤ i) = false := decide_eq_false (by omega)
  clear hc hC hq hbl hp hpl hci
  go_wp2_with fail
  clear X1 X2 X3
  refine join_region5 (fun l l' W' => ∃ (N6 : Nat) (ar1 : Option Addr) (ar2 : Nat) (ar3 : Option Addr) (ar4 : Nat) (ar5 : Option Addr) (ar6 : Nat) (lor hir : Nat) (us : List Value), us.length = 16 ∧ l' = l.take 6 ++ (.pointer (some ⟨N6, 0, none⟩) :: (l.drop 7).take 28) ++ us ++ l.drop 51 ∧ CdAt W' N6 ar1 O.length ar2 ar3 D.length ar4 ar5 T1.length ar6 ∧ CdV W' lor hir ar1 O ar3 D ar5 T1 ∧ hir ≤ W'.heap.size ∧ N6 < W'.heap.size ∧ Below x3.heap.size x3 W') ?_ ?_
  rotate_left
  · intro K2 hT
    refine wp_region_held (S := fun Y => Below x3.heap.size x3 Y) (by kernel_rfl) ?_
    change wpAnyH _ _ _ _ _ _ _ _ (World.drew _)
    have hbz0 : Below x3.heap.size x3 x3.drew := (Below.refl _ _).drew
    obtain ⟨z0, hz0⟩ : ∃ z, z = x3.drew := ⟨_, rfl⟩
    rw [← hz0] at hbz0 ⊢
    have sz0 := hbz0.size
    clear hz0
    refine takeW 0 35 (.agg #[.slice (some ⟨b, off, none⟩) O.length kO, .slice aM (List.length D) kM, .slice aT T.length kT]) rfl rfl (by kernel_rfl) (by kernel_rfl) (by kernel_rfl) (fun _ _ _ h => h) (by kernel_rfl) (by (intro Y hSw; obtain ⟨X1, X2, X3⟩ := A3.below hSw (by omega); go_simp)) (by assumption) ?_
    simp only [List.set_cons_zero, List.set_cons_succ]
    refine takeW 1 36 (.int .i64 (i : Int)) rfl rfl (by kernel_rfl) (by kernel_rfl) (by kernel_rfl) (fun _ _ _ h => h) (by kernel_rfl) (by (intro w hSw; go_simp)) (by assumption) ?_
    simp only [List.set_cons_zero, List.set_cons_succ]
    refine takeW 2 37 (.pointer (some ⟨N, 0, none⟩)) rfl rfl (by kernel_rfl) (by kernel_rfl) (by kernel_rfl) (fun _ _ _ h => h) (by kernel_rfl) (by (intro w hSw; go_simp)) (by assumption) ?_
    simp only [List.set_cons_zero, List.set_cons_succ]
    refine takeW 3 38 (.slice (some ⟨b, off, none⟩) O.length kO) rfl rfl (by kernel_rfl) (by kernel_rfl) (by kernel_rfl) (fun _ _ _ h => h) (by kernel_rfl) (by (intro Y hSw; obtain ⟨X1, X2, X3⟩ := A3.below hSw (by omega); go_simp)) (by assumption) ?_
    simp only [List.set_cons_zero, List.set_cons_succ]
    refine takeW 4 39 (.int .i64 (i : Int)) rfl rfl (by kernel_rfl) (by kernel_rfl) (by kernel_rfl) (fun _ _ _ h => h) (by kernel_rfl) (by (intro w hSw; go_simp)) (by assumption) ?_
    simp only [List.set_cons_zero, List.set_cons_succ]
    refine takeW 5 40 (.pointer (some ⟨b, off + i, none⟩)) rfl rfl (by kernel_rfl) (by kernel_rfl) (by kernel_rfl) (fun _ _ _ h => h) (by kernel_rfl) (by (intro Y hSw; go_simp; try omega)) (by assumption) ?_
    simp only [List.set_cons_zero, List.set_cons_succ]
    refine takeW 6 41 (.bool q) rfl rfl (by kernel_rfl) (by kernel_rfl) (by kernel_rfl) (fun _ _ _ h => h) (by kernel_rfl) (by (intro Y hSw; have hcc := hcq Y hSw; go_simp)) (by assumption) ?_
    simp only [List.set_cons_zero, List.set_cons_succ]
    refine takeW 7 42 (.bool (!q)) rfl rfl (by kernel_rfl) (by kernel_rfl) (by kernel_rfl) (fun _ _ _ h => h) (by kernel_rfl) (by (intro w hSw; go_simp)) (by assumption) ?_
    simp only [List.set_cons_zero, List.set_cons_succ]
    refine takeW 9 44 (.int .i64 (i : Int)) rfl rfl (by kernel_rfl) (by kernel_rfl) (by kernel_rfl) (fun _ _ _ h => h) (by kernel_rfl) (by (intro w hSw; go_simp)) (by assumption) ?_
    simp only [List.set_cons_zero, List.set_cons_succ]
    refine takeW 10 45 (.pointer (some ⟨N, 0, none⟩)) rfl rfl (by kernel_rfl) (by kernel_rfl) (by kernel_rfl) (fun _ _ _ h => h) (by kernel_rfl) (by (intro w hSw; go_simp)) (by assumption) ?_
    simp only [List.set_cons_zero, List.set_cons_succ]
    refine takeW 11 46 (.slice (some ⟨b, off, none⟩) O.length kO) rfl rfl (by kernel_rfl) (by kernel_rfl) (by kernel_rfl) (fun _ _ _ h => h) (by kernel_rfl) (by (intro Y hSw; obtain ⟨X1, X2, X3⟩ := A3.below hSw (by omega); go_simp)) (by assumption) ?_
    simp only [List.set_cons_zero, List.set_cons_succ]
    refine takeW 12 47 (.int .i64 (i : Int)) rfl rfl (by kernel_rfl) (by kernel_rfl) (by kernel_rfl) (fun _ _ _ h => h) (by kernel_rfl) (by (intro w hSw; go_simp)) (by assumption) ?_
    simp only [List.set_cons_zero, List.set_cons_succ]
    refine takeW 13 48 (.pointer (some ⟨b, off + i, none⟩)) rfl rfl (by kernel_rfl) (by kernel_rfl) (by kernel_rfl) (fun _ _ _ h => h) (by kernel_rfl) (by (intro Y hSw; go_simp; try omega)) (by assumption) ?_
    simp only [List.set_cons_zero, List.set_cons_succ]
    refine takeW 14 49 (.bool q) rfl rfl (by kernel_rfl) (by kernel_rfl) (by kernel_rfl) (fun _ _ _ h => h) (by kernel_rfl) (by (intro Y hSw; have hcc := hcq Y hSw; go_simp)) (by assumption) ?_
    simp only [List.set_cons_zero, List.set_cons_succ]
    refine wpAnyH_all (rs := [8, 16]) (by kernel_rfl) (by simp) ?_
    intro i hi; rcases (by simpa using hi : i = 8 ∨ i = 16) with rfl | rfl
    · refine wpOp_step rfl (fun K hK => ?_)
      rw [if_pos (by kernel_rfl)]
      go_simp
      go_at_call 10
      refine (gateI (some ⟨b, off, none⟩) kO O aM kM D aT kT T (i : Int) (!q) x0.heap.size x1.heap.size z0 (V3.below hbz0 (by omega)) (by omega) hsz hpw).mono ?_
      intro e v1 hq
      rw [fl1.out, fl2.out] at hq
      obtain ⟨ap1, ap2, ap3, ap4, ap5, ap6, rfl, Wp, kqv1⟩ := hq
      have Vp := Wp.view
      obtain ⟨lop, hlop⟩ : ∃ n, n = z0.heap.size := ⟨_, rfl⟩
      obtain ⟨hip, hhip⟩ : ∃ n, n = v1.heap.size := ⟨_, rfl⟩
      rw [← hlop, ← hhip] at Vp
      have hbv1 : Below x3.heap.size x3 v1 := hbz0.trans (kqv1.mono hbz0.size)
      have sv1 := kqv1.size
      skip
      refine hK _ _ ⟨hbv1, ?_⟩
      clear hK K hi
      refine wpAnyH_all (rs := [15, 16]) (by kernel_rfl) (by simp) ?_
      intro i hi; rcases (by simpa using hi : i = 15 ∨ i = 16) with rfl | rfl
      · refine wpOp_step rfl (fun K hK => ?_)
        rw [if_pos (by kernel_rfl)]
        go_simp
        go_at_call 10
        refine (gateI ap1 ap2 O1 ap3 ap4 D ap5 ap6 T1 (i : Int) q lop hip v1 Vp (by omega) (by rw [hl1.out]; omega) hpw).mono ?_
        intro e v2 hq
        rw [fl3.out, fl4.out] at hq
        obtain ⟨ar1, ar2, ar3, ar4, ar5, ar6, rfl, Wr, kqv2⟩ := hq
        have Vr := Wr.view
        obtain ⟨lor, hlor⟩ : ∃ n, n = v1.heap.size := ⟨_, rfl⟩
        obtain ⟨hir, hhir⟩ : ∃ n, n = v2.heap.size := ⟨_, rfl⟩
        rw [← hlor, ← hhir] at Vr
        have hbv2 : Below x3.heap.size x3 v2 := hbv1.trans (kqv2.mono hbv1.size)
        have sv2 := kqv2.size
        refine hK _ _ ⟨hbv2, ?_⟩
        clear hK K hi
        refine wpAnyH_all (rs := [16]) (by kernel_rfl) (by simp) ?_
        intro i hi; obtain rfl : i = 16 := by simpa using hi
        refine wpOp_step rfl (fun K hK => ?_)
        rw [if_pos (by kernel_rfl)]
        go_simp
        obtain ⟨N6, hN6⟩ : ∃ n, n = v2.heap.size := ⟨_, rfl⟩
        obtain ⟨v3, hv3⟩ : ∃ z, z = v2.alloc (Obj.cells #[.slice none 0 0, .slice none 0 0, .slice none 0 0] 28) := ⟨_, rfl⟩
        have kqv3 : Below v2.heap.size v2 v3 := by rw [hv3]; exact below_box _ _
        have C16 : CdAt v3 N6 none 0 0 none 0 0 none 0 0 := by rw [hv3, hN6]; exact CdAt.box _ _ _ _ _ _ _ _ _ _ _
        have F16 : ∀ i, v3.frozen? ⟨N6, i, none⟩ = false := by intro i; rw [hv3, hN6]; simp [go_sem]
        have t16 := C16.lt
        rw [← hN6, ← hv3]
        have hN6' : v2.heap.size ≤ N6 := by omega
        have hbv3 : Below x3.heap.size x3 v3 := hbv2.trans (kqv3.mono hbv2.size)
        have sv3 := kqv3.size
        have Vr := Vr.below kqv3 (by omega)
        clear hv3 hN6
        refine hK _ _ ⟨hbv3, ?_⟩
        clear hK K hi
        obtain ⟨c1, c2, c3⟩ := C16
        have f0 := F16 0
        have f1 := F16 1
        have f2 := F16 2
        obtain ⟨yF, hyF⟩ : ∃ z, z = ((v3.setCell ⟨N6, 0, none⟩ (.slice ar1 O.length ar2)).setCell ⟨N6, 1, none⟩ (.slice ar3 D.length ar4)).setCell ⟨N6, 2, none⟩ (.slice ar5 T1.length ar6) := ⟨_, rfl⟩
        have hF : ∀ j, j ≠ N6 → yF.heap[j]? = v3.heap[j]? := fun j hj => by rw [hyF]; exact heap_set3 hj
        have CF : CdAt yF N6 ar1 O.length ar2 ar3 D.length ar4 ar5 T1.length ar6 := by
          rw [hyF]; refine ⟨?_, ?_, ?_⟩
          · rw [cell_set_ne (by omega), cell_set_ne (by omega)]; exact cell_set_same ⟨_, c1⟩
          · rw [cell_set_ne (by omega)]; exact cell_set_same ⟨_, (cell_set_ne (by omega)).trans c2⟩
          · exact cell_set_same ⟨_, (cell_set_ne (by omega)).trans ((cell_set_ne (by omega)).trans c3)⟩
        have BF : Below x3.heap.size x3 yF := by rw [hyF]; exact ((hbv3.setCell (by show x3.heap.size ≤ N6; omega) _).setCell (by show x3.heap.size ≤ N6; omega) _).setCell (by show x3.heap.size ≤ N6; omega) _
        have VF : CdV yF lor hir ar1 O ar3 D ar5 T1 := Vr.keep (fun j h1 h2 => hF j (by omega))
        have sF : yF.heap.size = v3.heap.size := by rw [hyF]; simp
        refine wpAnyH_all (rs := [17]) (by kernel_rfl) (by simp) ?_
        intro i hi; obtain rfl : i = 17 := by simpa using hi
        refine wpOp_step rfl (fun K hK => ?_)
        rw [if_pos (by kernel_rfl)]
        go_simp
        rw [← hyF]
        refine hK _ _ ⟨BF, ?_⟩
        clear hK K hi
        refine wpAnyH_done (by kernel_rfl) ?_ _
        exact hT.out _ _ ⟨N6, ar1, ar2, ar3, ar4, ar5, ar6, lor, hir, [_, _, _, _, _, _, _, _, _, _, _, _, _, _, _, _], rfl, rfl, CF, VF, by omega, by omega, BF⟩
      · refine wpOp_step rfl (fun K hK => ?_)
        rw [if_pos (by kernel_rfl)]
        go_simp
        obtain ⟨N6, hN6⟩ : ∃ n, n = v1.heap.size := ⟨_, rfl⟩
        obtain ⟨v4, hv4⟩ : ∃ z, z = v1.alloc (Obj.cells #[.slice none 0 0, .slice none 0 0, .slice none 0 0] 28) := ⟨_, rfl⟩
        have kqv4 : Below v1.heap.size v1 v4 := by rw [hv4]; exact below_box _ _
        have C16 : CdAt v4 N6 none 0 0 none 0 0 none 0 0 := by rw [hv4, hN6]; exact CdAt.box _ _ _ _ _ _ _ _ _ _ _
        have F16 : ∀ i, v4.frozen? ⟨N6, i, none⟩ = false := by intro i; rw [hv4, hN6]; simp [go_sem]
        have t16 := C16.lt
        rw [← hN6, ← hv4]
        have hN6' : v1.heap.size ≤ N6 := by omega
        have hbv4 : Below x3.heap.size x3 v4 := hbv1.trans (kqv4.mono hbv1.size)
        have sv4 := kqv4.size
        have Vp := Vp.below kqv4 (by omega)
        clear hv4 hN6
        refine hK _ _ ⟨hbv4, ?_⟩
        clear hK K hi
        refine wpAnyH_all (rs := [15]) (by kernel_rfl) (by simp) ?_
        intro i hi; obtain rfl : i = 15 := by simpa using hi
        refine wpOp_step rfl (fun K hK => ?_)
        rw [if_pos (by kernel_rfl)]
        go_simp
        go_at_call 10
        refine (gateI ap1 ap2 O1 ap3 ap4 D ap5 ap6 T1 (i : Int) q lop hip v4 Vp (by omega) (by rw [hl1.out]; omega) hpw).mono ?_
        intro e v5 hq
        rw [fl3.out, fl4.out] at hq
        obtain ⟨ar1, ar2, ar3, ar4, ar5, ar6, rfl, Wr, kqv5⟩ := hq
        have Vr := Wr.view
        obtain ⟨lor, hlor⟩ : ∃ n, n = v4.heap.size := ⟨_, rfl⟩
        obtain ⟨hir, hhir⟩ : ∃ n, n = v5.heap.size := ⟨_, rfl⟩
        rw [← hlor, ← hhir] at Vr
        have hbv5 : Below x3.heap.size x3 v5 := hbv4.trans (kqv5.mono hbv4.size)
        have sv5 := kqv5.size
        have C16 := C16.below kqv5 (by omega)
        have F16 := fz_below F16 kqv5 (by omega)
        refine hK _ _ ⟨hbv5, ?_⟩
        clear hK K hi
        obtain ⟨c1, c2, c3⟩ := C16
        have f0 := F16 0
        have f1 := F16 1
        have f2 := F16 2
        obtain ⟨yF, hyF⟩ : ∃ z, z = ((v5.setCell ⟨N6, 0, none⟩ (.slice ar1 O.length ar2)).setCell ⟨N6, 1, none⟩ (.slice ar3 D.length ar4)).setCell ⟨N6, 2, none⟩ (.slice ar5 T1.length ar6) := ⟨_, rfl⟩
        have hF : ∀ j, j ≠ N6 → yF.heap[j]? = v5.heap[j]? := fun j hj => by rw [hyF]; exact heap_set3 hj
        have CF : CdAt yF N6 ar1 O.length ar2 ar3 D.length ar4 ar5 T1.length ar6 := by
          rw [hyF]; refine ⟨?_, ?_, ?_⟩
          · rw [cell_set_ne (by omega), cell_set_ne (by omega)]; exact cell_set_same ⟨_, c1⟩
          · rw [cell_set_ne (by omega)]; exact cell_set_same ⟨_, (cell_set_ne (by omega)).trans c2⟩
          · exact cell_set_same ⟨_, (cell_set_ne (by omega)).trans ((cell_set_ne (by omega)).trans c3)⟩
        have BF : Below x3.heap.size x3 yF := by rw [hyF]; exact ((hbv5.setCell (by show x3.heap.size ≤ N6; omega) _).setCell (by show x3.heap.size ≤ N6; omega) _).setCell (by show x3.heap.size ≤ N6; omega) _
        have VF : CdV yF lor hir ar1 O ar3 D ar5 T1 := Vr.keep (fun j h1 h2 => hF j (by omega))
        have sF : yF.heap.size = v5.heap.size := by rw [hyF]; simp
        refine wpAnyH_all (rs := [17]) (by kernel_rfl) (by simp) ?_
        intro i hi; obtain rfl : i = 17 := by simpa using hi
        refine wpOp_step rfl (fun K hK => ?_)
        rw [if_pos (by kernel_rfl)]
        go_simp
        rw [← hyF]
        refine hK _ _ ⟨BF, ?_⟩
        clear hK K hi
        refine wpAnyH_done (by kernel_rfl) ?_ _
        exact hT.out _ _ ⟨N6, ar1, ar2, ar3, ar4, ar5, ar6, lor, hir, [_, _, _, _, _, _, _, _, _, _, _, _, _, _, _, _], rfl, rfl, CF, VF, by omega, by omega, BF⟩
    · refine wpOp_step rfl (fun K hK => ?_)
      rw [if_pos (by kernel_rfl)]
      go_simp
      obtain ⟨N6, hN6⟩ : ∃ n, n = z0.heap.size := ⟨_, rfl⟩
      obtain ⟨v6, hv6⟩ : ∃ z, z = z0.alloc (Obj.cells #[.slice none 0 0, .slice none 0 0, .slice none 0 0] 28) := ⟨_, rfl⟩
      have kqv6 : Below z0.heap.size z0 v6 := by rw [hv6]; exact below_box _ _
      have C16 : CdAt v6 N6 none 0 0 none 0 0 none 0 0 := by rw [hv6, hN6]; exact CdAt.box _ _ _ _ _ _ _ _ _ _ _
      have F16 : ∀ i, v6.frozen? ⟨N6, i, none⟩ = false := by intro i; rw [hv6, hN6]; simp [go_sem]
      have t16 := C16.lt
      rw [← hN6, ← hv6]
      have hN6' : z0.heap.size ≤ N6 := by omega
      have hbv6 : Below x3.heap.size x3 v6 := hbz0.trans (kqv6.mono hbz0.size)
      have sv6 := kqv6.size
      clear hv6 hN6
      refine hK _ _ ⟨hbv6, ?_⟩
      clear hK K hi
      refine wpAnyH_all (rs := [8]) (by kernel_rfl) (by simp) ?_
      intro i hi; obtain rfl : i = 8 := by simpa using hi
      refine wpOp_step rfl (fun K hK => ?_)
      rw [if_pos (by kernel_rfl)]
      go_simp
      go_at_call 10
      refine (gateI (some ⟨b, off, none⟩) kO O aM kM D aT kT T (i : Int) (!q) x0.heap.size x1.heap.size v6 (V3.below hbv6 (by omega)) (by omega) hsz hpw).mono ?_
      intro e v7 hq
      rw [fl1.out, fl2.out] at hq
      obtain ⟨ap1, ap2, ap3, ap4, ap5, ap6, rfl, Wp, kqv7⟩ := hq
      have Vp := Wp.view
      obtain ⟨lop, hlop⟩ : ∃ n, n = v6.heap.size := ⟨_, rfl⟩
      obtain ⟨hip, hhip⟩ : ∃ n, n = v7.heap.size := ⟨_, rfl⟩
      rw [← hlop, ← hhip] at Vp
      have hbv7 : Below x3.heap.size x3 v7 := hbv6.trans (kqv7.mono hbv6.size)
      have sv7 := kqv7.size
      have C16 := C16.below kqv7 (by omega)
      have F16 := fz_below F16 kqv7 (by omega)
      skip
      refine hK _ _ ⟨hbv7, ?_⟩
      clear hK K hi
      refine wpAnyH_all (rs := [15]) (by kernel_rfl) (by simp) ?_
      intro i hi; obtain rfl : i = 15 := by simpa using hi
      refine wpOp_step rfl (fun K hK => ?_)
      rw [if_pos (by kernel_rfl)]
      go_simp
      go_at_call 10
      refine (gateI ap1 ap2 O1 ap3 ap4 D ap5 ap6 T1 (i : Int) q lop hip v7 Vp (by omega) (by rw [hl1.out]; omega) hpw).mono ?_
      intro e v8 hq
      rw [fl3.out, fl4.out] at hq
      obtain ⟨ar1, ar2, ar3, ar4, ar5, ar6, rfl, Wr, kqv8⟩ := hq
      have Vr := Wr.view
      obtain ⟨lor, hlor⟩ : ∃ n, n = v7.heap.size := ⟨_, rfl⟩
      obtain ⟨hir, hhir⟩ : ∃ n, n = v8.heap.size := ⟨_, rfl⟩
      rw [← hlor, ← hhir] at Vr
      have hbv8 : Below x3.heap.size x3 v8 := hbv7.trans (kqv8.mono hbv7.size)
      have sv8 := kqv8.size
      have C16 := C16.below kqv8 (by omega)
      have F16 := fz_below F16 kqv8 (by omega)
      refine hK _ _ ⟨hbv8, ?_⟩
      clear hK K hi
      obtain ⟨c1, c2, c3⟩ := C16
      have f0 := F16 0
      have f1 := F16 1
      have f2 := F16 2
      obtain ⟨yF, hyF⟩ : ∃ z, z = ((v8.setCell ⟨N6, 0, none⟩ (.slice ar1 O.length ar2)).setCell ⟨N6, 1, none⟩ (.slice ar3 D.length ar4)).setCell ⟨N6, 2, none⟩ (.slice ar5 T1.length ar6) := ⟨_, rfl⟩
      have hF : ∀ j, j ≠ N6 → yF.heap[j]? = v8.heap[j]? := fun j hj => by rw [hyF]; exact heap_set3 hj
      have CF : CdAt yF N6 ar1 O.length ar2 ar3 D.length ar4 ar5 T1.length ar6 := by
        rw [hyF]; refine ⟨?_, ?_, ?_⟩
        · rw [cell_set_ne (by omega), cell_set_ne (by omega)]; exact cell_set_same ⟨_, c1⟩
        · rw [cell_set_ne (by omega)]; exact cell_set_same ⟨_, (cell_set_ne (by omega)).trans c2⟩
        · exact cell_set_same ⟨_, (cell_set_ne (by omega)).trans ((cell_set_ne (by omega)).trans c3)⟩
      have BF : Below x3.heap.size x3 yF := by rw [hyF]; exact ((hbv8.setCell (by show x3.heap.size ≤ N6; omega) _).setCell (by show x3.heap.size ≤ N6; omega) _).setCell (by show x3.heap.size ≤ N6; omega) _
      have VF : CdV yF lor hir ar1 O ar3 D ar5 T1 := Vr.keep (fun j h1 h2 => hF j (by omega))
      have sF : yF.heap.size = v8.heap.size := by rw [hyF]; simp
      refine wpAnyH_all (rs := [17]) (by kernel_rfl) (by simp) ?_
      intro i hi; obtain rfl : i = 17 := by simpa using hi
      refine wpOp_step rfl (fun K hK => ?_)
      rw [if_pos (by kernel_rfl)]
      go_simp
      rw [← hyF]
      refine hK _ _ ⟨BF, ?_⟩
      clear hK K hi
      refine wpAnyH_done (by kernel_rfl) ?_ _
      exact hT.out _ _ ⟨N6, ar1, ar2, ar3, ar4, ar5, ar6, lor, hir, [_, _, _, _, _, _, _, _, _, _, _, _, _, _, _, _], rfl, rfl, CF, VF, by omega, by omega, BF⟩
  rintro l' W7 ⟨N6, ar1, ar2, ar3, ar4, ar5, ar6, lor, hir, us, hul, rfl, C7, VR7, hh1, hh2, BF⟩
  obtain ⟨u35, us, rfl⟩ : ∃ a b, us = a :: b := List.exists_cons_of_length_eq_add_one hul
  replace hul := Nat.succ.inj hul
  obtain ⟨u36, us, rfl⟩ : ∃ a b, us = a :: b := List.exists_cons_of_length_eq_add_one hul
  replace hul := Nat.succ.inj hul
  obtain ⟨u37, us, rfl⟩ : ∃ a b, us = a :: b := List.exists_cons_of_length_eq_add_one hul
  replace hul := Nat.succ.inj hul
  obtain ⟨u38, us, rfl⟩ : ∃ a b, us = a :: b := List.exists_cons_of_length_eq_add_one hul
  replace hul := Nat.succ.inj hul
  obtain ⟨u39, us, rfl⟩ : ∃ a b, us = a :: b := List.exists_cons_of_length_eq_add_one hul
  replace hul := Nat.succ.inj hul
  obtain ⟨u40, us, rfl⟩ : ∃ a b, us = a :: b := List.exists_cons_of_length_eq_add_one hul
  replace hul := Nat.succ.inj hul
  obtain ⟨u41, us, rfl⟩ : ∃ a b, us = a :: b := List.exists_cons_of_length_eq_add_one hul
  replace hul := Nat.succ.inj hul
  obtain ⟨u42, us, rfl⟩ : ∃ a b, us = a :: b := List.exists_cons_of_length_eq_add_one hul
  replace hul := Nat.succ.inj hul
  obtain ⟨u43, us, rfl⟩ : ∃ a b, us = a :: b := List.exists_cons_of_length_eq_add_one hul
  replace hul := Nat.succ.inj hul
  obtain ⟨u44, us, rfl⟩ : ∃ a b, us = a :: b := List.exists_cons_of_length_eq_add_one hul
  replace hul := Nat.succ.inj hul
  obtain ⟨u45, us, rfl⟩ : ∃ a b, us = a :: b := List.exists_cons_of_length_eq_add_one hul
  replace hul := Nat.succ.inj hul
  obtain ⟨u46, us, rfl⟩ : ∃ a b, us = a :: b := List.exists_cons_of_length_eq_add_one hul
  replace hul := Nat.succ.inj hul
  obtain ⟨u47, us, rfl⟩ : ∃ a b, us = a :: b := List.exists_cons_of_length_eq_add_one hul
  replace hul := Nat.succ.inj hul
  obtain ⟨u48, us, rfl⟩ : ∃ a b, us = a :: b := List.exists_cons_of_length_eq_add_one hul
  replace hul := Nat.succ.inj hul
  obtain ⟨u49, us, rfl⟩ : ∃ a b, us = a :: b := List.exists_cons_of_length_eq_add_one hul
  replace hul := Nat.succ.inj hul
  obtain ⟨u50, us, rfl⟩ : ∃ a b, us = a :: b := List.exists_cons_of_length_eq_add_one hul
  replace hul := Nat.succ.inj hul
  obtain rfl : us = [] := List.eq_nil_of_length_eq_zero hul
  clear hul
  simp only [List.take, List.drop, List.cons_append, List.nil_append]
  have sF := BF.size
  have A7 := A3.below BF (by omega)
  have V7 := V3.below BF (by omega)
  have B7 := B3.trans (BF.mono B3.size)
  clear A3 V3 B3 BF hcq
  go_wp2_with fail
  refine wp_region_held (S := fun Y => Below W7.heap.size W7 Y) (by kernel_rfl) ?_
  change wpAnyH _ _ _ _ _ _ _ _ (World.drew _)
  have hb0 : Below W7.heap.size W7 W7.drew := (Below.refl _ _).drew
  refine takeW 0 51 (.pointer (some ⟨N6, 2, none⟩)) rfl rfl (by kernel_rfl) (by kernel_rfl) (by kernel_rfl) (fun _ _ _ h => h) (by kernel_rfl) (by (intro w hSw; go_simp)) (by assumption) ?_
  simp only [List.set_cons_zero, List.set_cons_succ]
  refine takeW 1 52 (.slice ar5 T1.length ar6) rfl rfl (by kernel_rfl) (by kernel_rfl) (by kernel_rfl) (fun _ _ _ h => h) (by kernel_rfl) (by (intro Y hSw; obtain ⟨X1, X2, X3⟩ := C7.below hSw (by omega); go_simp)) (by assumption) ?_
  simp only [List.set_cons_zero, List.set_cons_succ]
  refine takeW 2 53 (.pointer (some ⟨N, 2, none⟩)) rfl rfl (by kernel_rfl) (by kernel_rfl) (by kernel_rfl) (fun _ _ _ h => h) (by kernel_rfl) (by (intro w hSw; go_simp)) (by assumption) ?_
  simp only [List.set_cons_zero, List.set_cons_succ]
  refine takeW 3 54 (.slice aT T.length kT) rfl rfl (by kernel_rfl) (by kernel_rfl) (by kernel_rfl) (fun _ _ _ h => h) (by kernel_rfl) (by (intro Y hSw; obtain ⟨X1, X2, X3⟩ := A7.below hSw (by omega); go_simp)) (by assumption) ?_
  simp only [List.set_cons_zero, List.set_cons_succ]
  refine takeW 4 55 (.int .i64 (i : Int)) rfl rfl (by kernel_rfl) (by kernel_rfl) (by kernel_rfl) (fun _ _ _ h => h) (by kernel_rfl) (by (intro w hSw; go_simp)) (by assumption) ?_
  simp only [List.set_cons_zero, List.set_cons_succ]
  refine wpAnyH_all (rs := [5]) (by kernel_rfl) (by simp) ?_
  intro i hi; obtain rfl : i = 5 := by simpa using hi
  refine wpOp_step rfl (fun K hK => ?_)
  rw [if_pos (by kernel_rfl)]
  go_simp
  go_at_call 12
  refine (forgI aT kT T (i : Int) W7.drew (V7.vT.carry (fun x e p => hb0.block _ (by have := V7.iT x e p; omega))) (by omega) (fun x e p => by have := V7.iT x e p; have := hb0.size; show x.block < _; omega)).mono ?_
  intro e y1 hq
  rw [hT1.out] at hq
  obtain ⟨⟨af1, af2, rfl, vf, _, bf⟩, kz1⟩ := hq
  have hb1 : Below W7.heap.size W7 y1 := hb0.trans (kz1.mono hb0.size)
  refine hK _ _ ⟨hb1, ?_⟩
  clear hK K hi
  refine wpAnyH_all (rs := [6]) (by kernel_rfl) (by simp) ?_
  intro i hi; obtain rfl : i = 6 := by simpa using hi
  refine wpOp_step rfl (fun K hK => ?_)
  rw [if_pos (by kernel_rfl)]
  go_simp
  go_at_call 11
  refine (sameHd ar5 af1 ar6 af2 T1 y1 (VR7.vT.carry (fun x e p => hb1.block _ (by have := VR7.iT x e p; omega))) vf (by omega)).mono ?_
  rintro e y2 ⟨rfl, nn2, hy2⟩
  have kz2 : Below y1.heap.size y1 y2 := by rw [hy2]; exact below_drewN' (Below.refl _ _) _
  clear hy2
  have hb2 : Below W7.heap.size W7 y2 := hb1.trans (kz2.mono hb1.size)
  refine hK _ _ ⟨hb2, ?_⟩
  clear hK K hi
  refine takeW 7 58 (.bool true) rfl rfl (by kernel_rfl) (by kernel_rfl) (by kernel_rfl) (fun _ _ _ h => h) (by kernel_rfl) (by (intro w hSw; go_simp)) (by assumption) ?_
  simp only [List.set_cons_zero, List.set_cons_succ]
  refine takeW 8 59 (.pointer (some ⟨N6, 0, none⟩)) rfl rfl (by kernel_rfl) (by kernel_rfl) (by kernel_rfl) (fun _ _ _ h => h) (by kernel_rfl) (by (intro w hSw; go_simp)) (by assumption) ?_
  simp only [List.set_cons_zero, List.set_cons_succ]
  refine takeW 9 60 (.slice ar1 O.length ar2) rfl rfl (by kernel_rfl) (by kernel_rfl) (by kernel_rfl) (fun _ _ _ h => h) (by kernel_rfl) (by (intro Y hSw; obtain ⟨X1, X2, X3⟩ := C7.below hSw (by omega); go_simp)) (by assumption) ?_
  simp only [List.set_cons_zero, List.set_cons_succ]
  refine takeW 10 61 (.pointer (some ⟨N, 0, none⟩)) rfl rfl (by kernel_rfl) (by kernel_rfl) (by kernel_rfl) (fun _ _ _ h => h) (by kernel_rfl) (by (intro w hSw; go_simp)) (by assumption) ?_
  simp only [List.set_cons_zero, List.set_cons_succ]
  refine takeW 11 62 (.slice (some ⟨b, off, none⟩) O.length kO) rfl rfl (by kernel_rfl) (by kernel_rfl) (by kernel_rfl) (fun _ _ _ h => h) (by kernel_rfl) (by (intro Y hSw; obtain ⟨X1, X2, X3⟩ := A7.below hSw (by omega); go_simp)) (by assumption) ?_
  simp only [List.set_cons_zero, List.set_cons_succ]
  refine wpAnyH_all (rs := [12]) (by kernel_rfl) (by simp) ?_
  intro i hi; obtain rfl : i = 12 := by simpa using hi
  refine wpOp_step rfl (fun K hK => ?_)
  rw [if_pos (by kernel_rfl)]
  go_simp
  go_at_call 13
  refine (sameFl ar1 (some ⟨b, off, none⟩) O.length ar2 kO (fun i => O.getD i false) y2 (VR7.vO.carry (fun x e p => hb2.block _ (by have := VR7.iO x e p; omega))) (V7.vO.carry (fun x e p => hb2.block _ (by have := V7.iO x e p; omega))) (by omega)).mono ?_
  rintro e y3 ⟨rfl, nn3, hy3⟩
  have kz3 : Below y2.heap.size y2 y3 := by rw [hy3]; exact below_drewN' (Below.refl _ _) _
  clear hy3
  have hb3 : Below W7.heap.size W7 y3 := hb2.trans (kz3.mono hb2.size)
  refine hK _ _ ⟨hb3, ?_⟩
  clear hK K hi
  refine takeW 13 64 (.bool true) rfl rfl (by kernel_rfl) (by kernel_rfl) (by kernel_rfl) (fun _ _ _ h => h) (by kernel_rfl) (by (intro w hSw; go_simp)) (by assumption) ?_
  simp only [List.set_cons_zero, List.set_cons_succ]
  refine takeW 14 65 (.bool true) rfl rfl (by kernel_rfl) (by kernel_rfl) (by kernel_rfl) (fun _ _ _ h => h) (by kernel_rfl) (by (intro w hSw; go_simp)) (by assumption) ?_
  simp only [List.set_cons_zero, List.set_cons_succ]
  refine takeW 15 66 (.agg #[.slice ar1 O.length ar2, .slice ar3 (List.length D) ar4, .slice ar5 T1.length ar6]) rfl rfl (by kernel_rfl) (by kernel_rfl) (by kernel_rfl) (fun _ _ _ h => h) (by kernel_rfl) (by (intro Y hSw; obtain ⟨X1, X2, X3⟩ := C7.below hSw (by omega); go_simp)) (by assumption) ?_
  simp only [List.set_cons_zero, List.set_cons_succ]
  refine wpAnyH_all (rs := [16]) (by kernel_rfl) (by simp) ?_
  intro i hi; obtain rfl : i = 16 := by simpa using hi
  refine wpOp_step rfl (fun K hK => ?_)
  rw [if_pos (by kernel_rfl)]
  go_simp
  go_at_call 8
  refine (cardOkI ar1 ar2 O ar3 ar4 D ar5 ar6 T1 lor hir y3 (VR7.below hb3 (by omega)) (by have := hb3.size; omega) (by omega)).mono ?_
  rintro e y4 ⟨rfl, kz4⟩
  rw [fl5.out]
  have hb4 : Below W7.heap.size W7 y4 := hb3.trans (kz4.mono hb3.size)
  refine hK _ _ ⟨hb4, ?_⟩
  clear hK K hi
  refine takeW 17 68 (.bool true) rfl rfl (by kernel_rfl) (by kernel_rfl) (by kernel_rfl) (fun _ _ _ h => h) (by kernel_rfl) (by (intro w hSw; go_simp)) (by assumption) ?_
  simp only [List.set_cons_zero, List.set_cons_succ]
  refine takeW 18 2 (.bool true) rfl rfl (by kernel_rfl) (by kernel_rfl) (by kernel_rfl) (fun _ _ _ h => h) (by kernel_rfl) (by (intro w hSw; go_simp)) (by assumption) ?_
  simp only [List.set_cons_zero, List.set_cons_succ]
  refine wpAnyH_done (by kernel_rfl) ?_ _
  go_wp2
  go_ret
  exact ⟨rfl, B7.trans (hb4.mono B7.size)⟩


set_option maxRecDepth 100000 in
theorem lifted (os : Os) (started : os.Started) (H : Type) (enc : TypeId × Value → H) :
    ReturnsInHanded {} Try.checked os 3 .any (Rows.fnFlushedSpec.pre6 enc Try.prog Try.f3 Rows.fnFlushedRow.domain false) (Rows.fnFlushedSpec.post enc Try.prog Try.f3 false true false false) := by
  refine returnsInHanded_of_change (C := Try.checked) own started (by kernel_rfl) Try.func3
    (ChangeSpec.witness6 (enc := enc) (C := Try.checked) false ⟨#[], #[.slice none 0 0], []⟩ 8 (by kernel_rfl) (by kernel_rfl) (by kernel_rfl) (by kernel_rfl)) ?_
  intro W base args ds gs before hval0 hW hcnd _
  have hval : ∀ (j : Nat) t v, Try.f3.params[j]? = some t → args[j]? = some v → Value.okWide Try.prog W .any base t v := hval0
  have hW' := hW
  obtain ⟨p, q, hA0, hV, rfl, hfz, hnd⟩ := hW
  have hA : DataW.TrodAll enc Try.prog W 0 (fun _ => true) true Try.f3.params.toList args.toList ds p := hA0
  rw [Try.params3] at hA hval
  obtain ⟨v0, vs0, d0, ds0, p0, q0, hargs, rfl, rfl, h0, r0⟩ := trodAll_cons hA
  obtain ⟨rfl, rfl, rfl⟩ := trodAll_nil r0
  obtain rfl : args = #[v0] := by cases args; simp_all
  obtain ⟨rfl, rfl⟩ := trodVars_none hV
  obtain ⟨ad0, len0, cap0, f0, rfl, I0⟩ := codeIn_open (hval 0 22 v0 rfl rfl) h0
  have lt0 : ∀ x ∈ p0, x.block < W.heap.size := by obtain ⟨m, hm⟩ := h0; exact DataW.trod_lt m _ _ _ hm
  clear hA0 hval0
  refine (walk ad0 len0 cap0 f0 W I0).mono fun e W' ⟨he, bel⟩ => ?_
  subst he
  exact ⟨_, rfl, _, _, _, [], _, [], hW', trodAll_mk1 (shut_bool Try.underlying4 _), (trodAll_cons_mk (Below.trod laidOut (by kernel_rfl) (of_decide_eq_true (by kernel_rfl)) h0 bel lt0) trodAll_mk0), rfl, bel.frame _, fun h => by cases h⟩

theorem over : Rows.fnFlushedRow.holds Try.pinned (OpenSpec.ofChange Rows.fnFlushedSpec) :=
  OpenClaim.holds_of_wide 3 Try.f3 rfl rfl rfl rfl rfl rfl rfl ⟨rfl, rfl, rfl, rfl, rfl⟩ rfl rfl rfl rfl rfl (by kernel_rfl) Try.func3 (by kernel_rfl)
    (of_decide_eq_true (by kernel_rfl)) (by unfold Func.isWrapper; first | (rw [if_pos (by decide +kernel)]; kernel_rfl) | (rw [if_neg (by decide +kernel)]; exact ⟨rfl, rfl⟩))
    (fun os started H enc _ => lifted os started H enc)

theorem proved : Rows.FnFlushedSaid := over
end Go.Proofs.Ytifndemkkaelaaa.fnFlushed
namespace Go.Proofs.Ytifndemkkaelaaa
theorem flushed_holds : Rows.FnFlushedSaid := fnFlushed.proved
#print axioms flushed_holds
end Go.Proofs.Ytifndemkkaelaaa
