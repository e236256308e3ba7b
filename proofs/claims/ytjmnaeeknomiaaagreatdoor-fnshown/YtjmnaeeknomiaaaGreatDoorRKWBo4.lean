import Derived.Test.YtjmnaeeknomiaaaGreatDoorRKWBo2
namespace Go.Proofs.YtjmnaeeknomiaaaGreatDoor
open Go.ChangeShapes Go.WideShapes Go.ChangeAt Go.RowKit
open Go.ChangeMaps (open_string shut_string)
set_option linter.unusedVariables false
set_option maxRecDepth 100000
set_option maxHeartbeats 32000000
set_option linter.unusedSimpArgs false
open Go.Proofs.Tryz
attribute [local go_sem] ji ja ic
theorem Im (id n : Int) (ad : Option Addr) (cap : Nat) (X : List Ik) (i : Int) (w : World) (hv : AI AW w ad X) (hl : X.length ≤ 1048576) (hcp : X.length ≤ cap) :
  Calls prog 160 #[ji id, ji n, .slice ad X.length cap, ji i] w fun e w' => ∃ a c, e = .returned (.slice a (ET id n X i).length c) ∧ AA Aw 8 41 w.heap.size w' (.slice a (ET id n X i).length c) (ET id n X i) ∧ Bw w w' := by
 have hB := hv.lt Av (by omega);by_cases h0 : 0 ≤ i ∧ i ≤ (X.length : Int) - 1
 ·
  obtain ⟨k, rfl⟩ : ∃ k : Nat, i = (k : Int) := ⟨i.toNat, by omega⟩;have hk : k < X.length := by omega
  have d0 : decide (0 ≤ (k : Int) ∧ (k : Int) ≤ (X.length : Int) - 1) = true := decide_eq_true h0;obtain ⟨b, off, rfl, _⟩ := hv (by omega);obtain ⟨x, hh⟩ : ∃ x, X.getD k Ik.nil = x := ⟨_, rfl⟩;have hck : CJ w b (off + k * 8) x := by
   rw [← hh];exact FU (hv.at_ Av Ik.nil hk)
  have hcB : b < w.heap.size := hB (ja b off) rfl (by omega);have hvT := hv.take k;have hkl : (X.take k).length = k := by rw [List.length_take]; omega
  have hS : ET id n X (k : Int) = Cn (Bp id n) (EW id n (X.take k)) x := by unfold ET; rw [KO _ _ X Ik.nil hk, hh]; rfl
  have hMl := KS id n (X.take k);obtain ⟨I, hI⟩ : ∃ v, Bp id n = v := ⟨_, rfl⟩;obtain ⟨M, hM⟩ : ∃ v, EW id n (X.take k) = v := ⟨_, rfl⟩;obtain ⟨D, hD⟩ : ∃ v, ET id n X (k : Int) = v := ⟨_, rfl⟩;rw [hI, hM, hD] at hS;rw [hM] at hMl;rw [hD];obtain ⟨N, hN⟩ : ∃ v, CG I M x = v := ⟨_, rfl⟩;replace hS := hS.symm;clear hh hD;replace hS : Hid _ := hS;replace hI : Hid _ := hI;replace hM : Hid _ := hM;replace hN : Hid _ := hN;replace hkl : Hid _ := hkl;go_enter func160, ntmps160
  go_wp2_with fail
  go_at_call 66
  refine (BE (k : Int) 0 ((X.length : Int) - 1) w).mono ?_;rintro e w_ ⟨rfl, hw_⟩;rw [d0, hw_];clear d0 h0 hw_;go_upto_region 3 with fail
  refine An (fun Y => Bw w Y) fun u0 hb0 => ?_
  refine tw 0 19 (ji id) ?_;refine tw 1 20 (ji n) ?_;refine tw 2 21 (.slice (some (ja b off)) X.length cap) ?_;refine tw 3 22 (ji (k : Int)) ?_;refine tw 4 23 (.slice (some (ja b off)) k cap) ?_ (hy := by intro w hSw; go_simp; intro h_; omega);refine tw 6 25 (.slice (some (ja b off)) X.length cap) ?_;refine tw 7 26 (ji (k : Int)) ?_;refine tw 8 27 (.pointer (some ⟨b, off + k * 8, none⟩)) ?_;refine tw 9 28 (.agg (ic x)) ?_ (hy := by intro Y hSw; have X := (hck.below hSw hcB).all; go_simp);refine wpAnyH_all (rs := [5, 14]) (by kernel_rfl) (by simp) ?_;intro i hi; rcases (by simpa using hi : i = 5 ∨ i = 14) with rfl | rfl
  ·
   refine wpOp_step rfl (fun K hK => ?_);rw [if_pos (by kernel_rfl)];go_simp
   go_at_call 171
   refine (show Calls _ _ _ _ _ by have h_ := It id n (some (ja b off)) cap (X.take k) u0 (hvT.below hb0 (fun a e _ => by cases e; exact hcB)) (by rw [hkl.out]; omega); rw [hkl.out] at h_; exact h_).mono ?_;rintro e u1 ⟨a1, c1, rfl, O1, kq⟩;rw [hM.out] at O1 ⊢;rw [hI.out];have hb1 := AG hb0 kq;clear kq;refine hK _ _ ⟨hb1, ?_⟩;clear hK K hi;refine wpAnyH_all (rs := [10, 14]) (by kernel_rfl) (by simp) ?_;intro i hi; rcases (by simpa using hi : i = 10 ∨ i = 14) with rfl | rfl
   focus
    refine wpOp_step rfl (fun K hK => ?_);rw [if_pos (by kernel_rfl)];go_simp
    go_at_call 54
    refine (FG I a1 c1 M x u1 O1.view.2 (by omega) O1.capn).mono ?_;have bb : w.heap.size ≤ u1.heap.size := hb1.size;rintro e u2 ⟨a2, c2, o2, d2, rfl, O2, Q2, _, kq⟩;rw [hN.out] at O2 ⊢;rw [hS.out] at Q2 ⊢;have O1 := O1.later kq;have hb2 := AG hb1 kq;clear kq;refine hK _ _ ⟨hb2, ?_⟩;clear hK K hi;refine tw 11 18 (.tuple #[.agg #[ji I, .slice a2 N.length c2], .slice o2 D.length d2]) ?_;refine tw 12 30 (.agg #[ji I, .slice a2 N.length c2]) ?_;refine tw 13 31 (.slice o2 D.length d2) ?_;refine wpAnyH_all (rs := [14]) (by kernel_rfl) (by simp) ?_;intro i hi; obtain rfl : i = 14 := by simpa using hi
    refine wpOp_step rfl (fun K hK => ?_);rw [if_pos (by kernel_rfl)];go_simp
    obtain ⟨u3, hy, kq⟩ := AM u2 (Obj.cells #[ji 0, .slice none 0 0] 51);have jO1 : ∀ g_, (Value.slice a1 M.length c1).ownBlock = some g_ → g_ ≠ u2.heap.size := fun g_ e => by have h1 := (O1.lt g_ e).2; omega
    have jO2 : ∀ g_, (Value.slice a2 N.length c2).ownBlock = some g_ → g_ ≠ u2.heap.size := fun g_ e => by have h1 := (O2.lt g_ e).2; omega
    have jQ2 : ∀ g_, (Value.slice o2 D.length d2).ownBlock = some g_ → g_ ≠ u2.heap.size := fun g_ e => by have h1 := (Q2.lt g_ e).2; omega
    have O1 := O1.later kq;have O2 := O2.later kq;have Q2 := Q2.later kq;have FP : AR u3 u2.heap.size 0 (.slice none 0 0) := by rw [hy]; exact AR.new u2 _ _ _
    have pa : w.heap.size ≤ u2.heap.size := hb2.size;have hb3 := AG hb2 kq;rw [← hy];clear hy kq;refine hK _ _ ⟨hb3, ?_⟩;clear hK K hi;refine wpAnyH_all (rs := [15]) (by kernel_rfl) (by simp) ?_;intro i hi; obtain rfl : i = 15 := by simpa using hi
    refine wpOp_step rfl (fun K hK => ?_);rw [if_pos (by kernel_rfl)];have FQ := FP;obtain ⟨⟨t0, t1⟩, tf⟩ := FP;go_simp
    clear t0 t1 tf;obtain ⟨uf, huf⟩ := AC ((u3.setCell (ja u2.heap.size 0) (ji I)).setCell (ja u2.heap.size 1) (.slice a2 N.length c2));have FE : AR uf (u2.heap.size) I (.slice a2 N.length c2) := by rw [huf]; exact FQ.put _ _
    have hbf : Bw w uf := by rw [huf]; exact (hb3.setCell (p := (ja u2.heap.size 0)) pa _).setCell (p := (ja u2.heap.size 1)) pa _
    have O1 := O1.keep (w' := uf) (fun g_ e => by rw [huf, AE (by show g_ ≠ u2.heap.size; exact jO1 g_ e), AE (by show g_ ≠ u2.heap.size; exact jO1 g_ e)]);have O2 := O2.keep (w' := uf) (fun g_ e => by rw [huf, AE (by show g_ ≠ u2.heap.size; exact jO2 g_ e), AE (by show g_ ≠ u2.heap.size; exact jO2 g_ e)]);have Q2 := Q2.keep (w' := uf) (fun g_ e => by rw [huf, AE (by show g_ ≠ u2.heap.size; exact jQ2 g_ e), AE (by show g_ ≠ u2.heap.size; exact jQ2 g_ e)])
   rotate_left;focus
    refine wpOp_step rfl (fun K hK => ?_);rw [if_pos (by kernel_rfl)];go_simp
    obtain ⟨u2, hy, kq⟩ := AM u1 (Obj.cells #[ji 0, .slice none 0 0] 51);have jO1 : ∀ g_, (Value.slice a1 M.length c1).ownBlock = some g_ → g_ ≠ u1.heap.size := fun g_ e => by have h1 := (O1.lt g_ e).2; omega
    have O1 := O1.later kq;have FP : AR u2 u1.heap.size 0 (.slice none 0 0) := by rw [hy]; exact AR.new u1 _ _ _
    have pa : w.heap.size ≤ u1.heap.size := hb1.size;have hb2 := AG hb1 kq;rw [← hy];clear hy kq;refine hK _ _ ⟨hb2, ?_⟩;clear hK K hi;refine wpAnyH_all (rs := [10]) (by kernel_rfl) (by simp) ?_;intro i hi; obtain rfl : i = 10 := by simpa using hi
    refine wpOp_step rfl (fun K hK => ?_);rw [if_pos (by kernel_rfl)];go_simp
    go_at_call 54
    refine (FG I a1 c1 M x u2 O1.view.2 (by omega) O1.capn).mono ?_;have bb : w.heap.size ≤ u2.heap.size := hb2.size;rintro e u3 ⟨a2, c2, o2, d2, rfl, O2, Q2, _, kq⟩;rw [hN.out] at O2 ⊢;rw [hS.out] at Q2 ⊢;have jO2 : ∀ g_, (Value.slice a2 N.length c2).ownBlock = some g_ → g_ ≠ u1.heap.size := fun g_ e => by have h1 := (O2.lt g_ e).1; have h2 := FP.lt; omega
    have jQ2 : ∀ g_, (Value.slice o2 D.length d2).ownBlock = some g_ → g_ ≠ u1.heap.size := fun g_ e => by have h1 := (Q2.lt g_ e).1; have h2 := FP.lt; omega
    have O1 := O1.later kq;have FP := FP.below kq FP.lt;have hb3 := AG hb2 kq;clear kq;refine hK _ _ ⟨hb3, ?_⟩;clear hK K hi;refine tw 11 18 (.tuple #[.agg #[ji I, .slice a2 N.length c2], .slice o2 D.length d2]) ?_;refine tw 12 30 (.agg #[ji I, .slice a2 N.length c2]) ?_;refine tw 13 31 (.slice o2 D.length d2) ?_;refine wpAnyH_all (rs := [15]) (by kernel_rfl) (by simp) ?_;intro i hi; obtain rfl : i = 15 := by simpa using hi
    refine wpOp_step rfl (fun K hK => ?_);rw [if_pos (by kernel_rfl)];have FQ := FP;obtain ⟨⟨t0, t1⟩, tf⟩ := FP;go_simp
    clear t0 t1 tf;obtain ⟨uf, huf⟩ := AC ((u3.setCell (ja u1.heap.size 0) (ji I)).setCell (ja u1.heap.size 1) (.slice a2 N.length c2));have FE : AR uf (u1.heap.size) I (.slice a2 N.length c2) := by rw [huf]; exact FQ.put _ _
    have hbf : Bw w uf := by rw [huf]; exact (hb3.setCell (p := (ja u1.heap.size 0)) pa _).setCell (p := (ja u1.heap.size 1)) pa _
    have O1 := O1.keep (w' := uf) (fun g_ e => by rw [huf, AE (by show g_ ≠ u1.heap.size; exact jO1 g_ e), AE (by show g_ ≠ u1.heap.size; exact jO1 g_ e)]);have O2 := O2.keep (w' := uf) (fun g_ e => by rw [huf, AE (by show g_ ≠ u1.heap.size; exact jO2 g_ e), AE (by show g_ ≠ u1.heap.size; exact jO2 g_ e)]);have Q2 := Q2.keep (w' := uf) (fun g_ e => by rw [huf, AE (by show g_ ≠ u1.heap.size; exact jQ2 g_ e), AE (by show g_ ≠ u1.heap.size; exact jQ2 g_ e)])
   rotate_left;all_goals
    rw [← huf];clear huf FQ;refine hK _ _ ⟨hbf, ?_⟩;clear hK K hi;refine tw 16 10 (.slice o2 D.length d2) ?_;refine Ag ?_;have QZ := Q2.base bb;go_wp2
    go_ret
    exact ⟨o2, d2, rfl, QZ, hbf⟩
  refine wpOp_step rfl (fun K hK => ?_);rw [if_pos (by kernel_rfl)];go_simp
  obtain ⟨u1, hy, kq⟩ := AM u0 (Obj.cells #[ji 0, .slice none 0 0] 51);have FP : AR u1 u0.heap.size 0 (.slice none 0 0) := by rw [hy]; exact AR.new u0 _ _ _
  have pa : w.heap.size ≤ u0.heap.size := hb0.size;have hb1 := AG hb0 kq;rw [← hy];clear hy kq;refine hK _ _ ⟨hb1, ?_⟩;clear hK K hi;refine wpAnyH_all (rs := [5]) (by kernel_rfl) (by simp) ?_;intro i hi; obtain rfl : i = 5 := by simpa using hi
  refine wpOp_step rfl (fun K hK => ?_);rw [if_pos (by kernel_rfl)];go_simp
  go_at_call 171
  refine (show Calls _ _ _ _ _ by have h_ := It id n (some (ja b off)) cap (X.take k) u1 (hvT.below hb1 (fun a e _ => by cases e; exact hcB)) (by rw [hkl.out]; omega); rw [hkl.out] at h_; exact h_).mono ?_;rintro e u2 ⟨a1, c1, rfl, O1, kq⟩;rw [hM.out] at O1 ⊢;rw [hI.out];have jO1 : ∀ g_, (Value.slice a1 M.length c1).ownBlock = some g_ → g_ ≠ u0.heap.size := fun g_ e => by have h1 := (O1.lt g_ e).1; have h2 := FP.lt; omega
  have FP := FP.below kq FP.lt;have hb2 := AG hb1 kq;clear kq;refine hK _ _ ⟨hb2, ?_⟩;clear hK K hi;refine wpAnyH_all (rs := [10]) (by kernel_rfl) (by simp) ?_;intro i hi; obtain rfl : i = 10 := by simpa using hi
  refine wpOp_step rfl (fun K hK => ?_);rw [if_pos (by kernel_rfl)];go_simp
  go_at_call 54
  refine (FG I a1 c1 M x u2 O1.view.2 (by omega) O1.capn).mono ?_;have bb : w.heap.size ≤ u2.heap.size := hb2.size;rintro e u3 ⟨a2, c2, o2, d2, rfl, O2, Q2, _, kq⟩;rw [hN.out] at O2 ⊢;rw [hS.out] at Q2 ⊢;have jO2 : ∀ g_, (Value.slice a2 N.length c2).ownBlock = some g_ → g_ ≠ u0.heap.size := fun g_ e => by have h1 := (O2.lt g_ e).1; have h2 := FP.lt; omega
  have jQ2 : ∀ g_, (Value.slice o2 D.length d2).ownBlock = some g_ → g_ ≠ u0.heap.size := fun g_ e => by have h1 := (Q2.lt g_ e).1; have h2 := FP.lt; omega
  have O1 := O1.later kq;have FP := FP.below kq FP.lt;have hb3 := AG hb2 kq;clear kq;refine hK _ _ ⟨hb3, ?_⟩;clear hK K hi;refine tw 11 18 (.tuple #[.agg #[ji I, .slice a2 N.length c2], .slice o2 D.length d2]) ?_;refine tw 12 30 (.agg #[ji I, .slice a2 N.length c2]) ?_;refine tw 13 31 (.slice o2 D.length d2) ?_;refine wpAnyH_all (rs := [15]) (by kernel_rfl) (by simp) ?_;intro i hi; obtain rfl : i = 15 := by simpa using hi
  refine wpOp_step rfl (fun K hK => ?_);rw [if_pos (by kernel_rfl)];have FQ := FP;obtain ⟨⟨t0, t1⟩, tf⟩ := FP;go_simp
  clear t0 t1 tf;obtain ⟨uf, huf⟩ := AC ((u3.setCell (ja u0.heap.size 0) (ji I)).setCell (ja u0.heap.size 1) (.slice a2 N.length c2));have FE : AR uf (u0.heap.size) I (.slice a2 N.length c2) := by rw [huf]; exact FQ.put _ _
  have hbf : Bw w uf := by rw [huf]; exact (hb3.setCell (p := (ja u0.heap.size 0)) pa _).setCell (p := (ja u0.heap.size 1)) pa _
  have O1 := O1.keep (w' := uf) (fun g_ e => by rw [huf, AE (by show g_ ≠ u0.heap.size; exact jO1 g_ e), AE (by show g_ ≠ u0.heap.size; exact jO1 g_ e)]);have O2 := O2.keep (w' := uf) (fun g_ e => by rw [huf, AE (by show g_ ≠ u0.heap.size; exact jO2 g_ e), AE (by show g_ ≠ u0.heap.size; exact jO2 g_ e)]);have Q2 := Q2.keep (w' := uf) (fun g_ e => by rw [huf, AE (by show g_ ≠ u0.heap.size; exact jQ2 g_ e), AE (by show g_ ≠ u0.heap.size; exact jQ2 g_ e)]);rw [← huf];clear huf FQ;refine hK _ _ ⟨hbf, ?_⟩;clear hK K hi;refine tw 16 10 (.slice o2 D.length d2) ?_;refine Ag ?_;have QZ := Q2.base bb;go_wp2
  go_ret
  exact ⟨o2, d2, rfl, QZ, hbf⟩
 have d0 : decide (0 ≤ i ∧ i ≤ (X.length : Int) - 1) = false := decide_eq_false h0;have hD : ET id n X i = [] := by unfold ET EI; rw [if_neg (by omega)]
 rw [hD];clear hD;have O0 : AA Aw 8 41 w.heap.size (w.alloc (Obj.cells #[] 41)) (.slice (some (ja w.heap.size 0)) 0 0) ([] : List Ou) := AA.empty w;have B0 := Ax (w := w) (Obj.cells #[] 41);go_enter func160, ntmps160
 go_wp2_with fail
 go_at_call 66
 refine (BE i 0 ((X.length : Int) - 1) w).mono ?_;rintro e w_ ⟨rfl, hw_⟩;rw [d0, hw_];clear d0 h0 hw_;go_wp2
 go_ret
 exact ⟨_, _, rfl, O0, B0⟩
end Go.Proofs.YtjmnaeeknomiaaaGreatDoor
