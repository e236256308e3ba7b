/- spec.l5Copy, walked. -/
import Derived.Test.YtifndemkkaelaaaGreatRows
import Derived.WalkKit
import Derived.ProofKit
import Derived.OpenShut
import Derived.ShutString
import Derived.ChangeOld
import Derived.Below
import Derived.Deep.QuietTactic
import Derived.BigQuiet
import Derived.WalkSmall
import Derived.Laws.OwnMore
import Derived.WalkSpells
import Derived.WalkLawsBesides
import Derived.Laws.AppendOwnNone
import Derived.Laws.CopyOwn
import Derived.Maps.AppendAt
import Derived.Test.YtifndemkkaelaaaGreatZlCopy3a
import Derived.Test.YtifndemkkaelaaaGreatZl1
namespace Go.Proofs.YtifndemkkaelaaaGreat
open Go.ChangeShapes Go.WideShapes Go.ChangeAt Go.RowKit
open Go.ChangeMaps (open_string shut_string)
set_option linter.unusedVariables false
set_option maxRecDepth 100000

theorem mown_slice {w : World} {base E k n : Nat} {v : Value} {xs : List Value} (h : w.ownsRow base E k v n xs) : ∃ a c, v = .slice a n c := by
  rcases h.2 with ⟨rfl, h0⟩ | ⟨g, cap, cur, rfl, _⟩
  · exact ⟨none, 0, by rw [h0]⟩
  · exact ⟨_, _, rfl⟩
set_option maxRecDepth 100000 in
set_option maxHeartbeats 16000000 in
theorem l5Copy (adO : Option Addr) (cO : Nat) (O : List Bool) (adM : Option Addr) (cM : Nat) (D : DL) (adT : Option Addr) (cT : Nat) (T : List Hd) (lo hi : Nat) (w : World) (I : CdV w lo hi adO O adM D adT T) (ht : hi ≤ w.heap.size) (hl : O.length + totD D + T.length ≤ 1048576) (zO : adO = none → cO = 0) (zT : adT = none → cT = 0) :
    Calls Tryz.prog 44 #[.agg #[.slice adO O.length cO, .slice adM D.length cM, .slice adT T.length cT]] w fun e w' => OwnC w O D T e w' := by
  obtain ⟨i1, hj, hy0, hy1, hy2⟩ := info_parts Tryz.info50'
  obtain ⟨Ms, rfl, vM, iM, jM⟩ := I.vM
  rw [tot_siz, ← lTo_siz, List.length_map] at hl
  rw [List.length_map]
  have lO : O.length ≤ 1048576 := by omega
  have lM : Ms.length ≤ 1048576 := by omega
  have lTT : T.length ≤ 1048576 := by omega
  have lMs : ∀ i, i < Ms.length → (Ms.getD i Mb.nil).L.length ≤ 1048576 := fun i hi => Nat.le_trans (getL_le Ms hi) (by omega)
  obtain ⟨x0, hx⟩ : ∃ x, x = (w.alloc (Obj.cells #[.slice adO O.length cO, .slice adM Ms.length cM, .slice adT T.length cT] 28)).alloc (Obj.cells #[.slice none 0 0, .slice none 0 0, .slice none 0 0] 28) := ⟨_, rfl⟩
  obtain ⟨P, hP⟩ : ∃ P, P = w.heap.size := ⟨_, rfl⟩
  have B0 : Below w.heap.size w x0 := by rw [hx]; exact ((Below.refl _ _).alloc (Nat.le_refl _) _).alloc (by simp) _
  have A0 : CdAt x0 P adO O.length cO adM Ms.length cM adT T.length cT := by rw [hx, hP]; refine ⟨?_, ?_, ?_⟩ <;> simp [go_sem]
  have C0 : CdAt x0 (P + 1) none 0 0 none 0 0 none 0 0 := by rw [hx, hP]; refine ⟨?_, ?_, ?_⟩ <;> simp [go_sem]
  have F0 : ∀ i, x0.frozen? ⟨P + 1, i, none⟩ = false := by intro i; rw [hx, hP]; simp [go_sem]
  have P0 : P < x0.heap.size := A0.lt
  have P1 : P + 1 < x0.heap.size := C0.lt
  have hPw : w.heap.size ≤ P := by omega
  have vO := I.vO.below B0 (Nat.le_refl _)
  have vT := I.vT.carry (w' := x0) (fun x e p => B0.block _ (by have := I.iT x e p; omega))
  have lT : ∀ x, adT = some x → 0 < T.length → x.block < x0.heap.size := fun a e p => by have := I.iT a e p; have := B0.size; omega
  have vM := vM.below B0 (Nat.le_refl _)
  clear I iM jM hl
  go_enter Tryz.func44, Tryz.ntmps44
  go_wp2_with fail
  rw [← hx, ← hP]
  clear hx hP
  refine join_region (fun l l' W' => ∃ (N9 : Nat) (aO : Option Addr) (kO : Nat) (aT : Option Addr) (kT : Nat) (base : Nat) (us : List Value), us.length = 9 ∧ l' = l.take 3 ++ (.pointer (some ⟨N9, 0, none⟩) :: (l.drop 4).take 1) ++ us ++ l.drop 14 ∧ L5L x0 base N9 aO O kO none 0 0 aT T kT (.slice none 0 0) [] W') ?_ ?_
  rotate_left
  · intro K2 hT
    refine wp_region_held (S := fun Y => Below x0.heap.size x0 Y) (by kernel_rfl) ?_
    change wpAnyH _ _ _ _ _ _ _ _ (World.drew _)
    have hb0 : Below x0.heap.size x0 x0.drew := (Below.refl _ _).drew
    have LA : L5 x0 none none none x0.drew := ⟨hb0, fun _ _ e => (by cases e), fun _ _ e => (by cases e), fun _ e => (by cases e), fun _ _ _ _ _ e => (by cases e), fun _ _ _ e => (by cases e), fun _ _ _ e => (by cases e)⟩
    obtain ⟨y0, hy0⟩ : ∃ y, y = x0.drew := ⟨_, rfl⟩
    rw [← hy0] at hb0 LA ⊢
    clear hy0
    refine takeW 1 6 (.pointer (some ⟨P, 0, none⟩)) rfl rfl (by kernel_rfl) (by kernel_rfl) (by kernel_rfl) (fun _ _ _ h => h) (by kernel_rfl) (by (intro w hSw; go_simp)) (by assumption) ?_
    simp only [List.set_cons_zero, List.set_cons_succ]
    refine takeW 2 7 (.slice adO O.length cO) rfl rfl (by kernel_rfl) (by kernel_rfl) (by kernel_rfl) (fun _ _ _ h => h) (by kernel_rfl) (by (intro Y hSw; obtain ⟨X1, X2, X3⟩ := A0.below hSw P0; go_simp)) (by assumption) ?_
    simp only [List.set_cons_zero, List.set_cons_succ]
    refine takeW 5 10 (.pointer (some ⟨P, 2, none⟩)) rfl rfl (by kernel_rfl) (by kernel_rfl) (by kernel_rfl) (fun _ _ _ h => h) (by kernel_rfl) (by (intro w hSw; go_simp)) (by assumption) ?_
    simp only [List.set_cons_zero, List.set_cons_succ]
    refine takeW 6 11 (.slice adT T.length cT) rfl rfl (by kernel_rfl) (by kernel_rfl) (by kernel_rfl) (fun _ _ _ h => h) (by kernel_rfl) (by (intro Y hSw; obtain ⟨X1, X2, X3⟩ := A0.below hSw P0; go_simp)) (by assumption) ?_
    simp only [List.set_cons_zero, List.set_cons_succ]
    refine wpAnyH_all (rs := [0, 4, 9]) (by kernel_rfl) (by simp) ?_
    intro i hi; rcases (by simpa using hi : i = 0 ∨ i = 4 ∨ i = 9) with rfl | rfl | rfl
    · refine wpOp_step rfl (fun K hK => ?_)
      rw [if_pos (by kernel_rfl)]
      go_simp
      have L1 := LA.op0
      obtain ⟨N0, hN0⟩ : ∃ n, n = y0.heap.size := ⟨_, rfl⟩
      obtain ⟨y1, hy1⟩ : ∃ z, z = y0.alloc (.cells #[] 4) := ⟨_, rfl⟩
      rw [← hN0, ← hy1] at L1
      rw [← hN0, ← hy1]
      clear hN0 hy1
      refine hK _ _ ⟨L1.bel, ?_⟩
      clear hK K hi
      refine wpAnyH_all (rs := [3, 4, 9]) (by kernel_rfl) (by simp) ?_
      intro i hi; rcases (by simpa using hi : i = 3 ∨ i = 4 ∨ i = 9) with rfl | rfl | rfl
      · refine wpOp_step rfl (fun K hK => ?_)
        rw [if_pos (by kernel_rfl)]
        refine app_bools 8 _ _ rfl rfl x0.heap.size (.slice (some ⟨N0, 0, none⟩) 0 0) rfl (L1.b _ _ rfl) adO cO O rfl (vO.below L1.bel (Nat.le_refl _)) zO lO L1.bel.size ?_
        intro v3 y2 o3 g3 e3
        have L2 := L1.op3 o3 g3 e3
        obtain ⟨_, aO, kO, rfl, _, _, _⟩ := own_viewB o3
        clear o3 g3 e3
        refine hK _ _ ⟨L2.bel, ?_⟩
        clear hK K hi
        simp only [List.set_cons_zero, List.set_cons_succ]
        refine wpAnyH_all (rs := [4, 9]) (by kernel_rfl) (by simp) ?_
        intro i hi; rcases (by simpa using hi : i = 4 ∨ i = 9) with rfl | rfl
        · refine wpOp_step rfl (fun K hK => ?_)
          rw [if_pos (by kernel_rfl)]
          go_simp
          have L3 := L2.op4
          obtain ⟨N4, hN4⟩ : ∃ n, n = y2.heap.size := ⟨_, rfl⟩
          obtain ⟨y3, hy3⟩ : ∃ z, z = y2.alloc (.cells #[] 97) := ⟨_, rfl⟩
          rw [← hN4, ← hy3] at L3
          rw [← hN4, ← hy3]
          clear hN4 hy3
          refine hK _ _ ⟨L3.bel, ?_⟩
          clear hK K hi
          refine wpAnyH_all (rs := [7, 9]) (by kernel_rfl) (by simp) ?_
          intro i hi; rcases (by simpa using hi : i = 7 ∨ i = 9) with rfl | rfl
          · refine wpOp_step rfl (fun K hK => ?_)
            rw [if_pos (by kernel_rfl)]
            refine app_heards 12 _ _ rfl rfl x0.heap.size (.slice (some ⟨N4, 0, none⟩) 0 0) rfl (L3.h _ _ rfl) adT cT T rfl (vT.carry (fun x e p => L3.bel.block _ (lT x e p))) zT lTT L3.bel.size ?_
            intro v7 y4 o7 g7 e7
            have L4 := L3.op7 o7 g7 e7
            obtain ⟨aT, kT, rfl, _, _, _⟩ := hown_view (show HOwn _ _ _ T from o7)
            clear o7 g7 e7
            refine hK _ _ ⟨L4.bel, ?_⟩
            clear hK K hi
            simp only [List.set_cons_zero, List.set_cons_succ]
            have hbS := L4.bel
            refine takeW 8 13 (.agg #[.slice aO O.length kO, .slice none 0 0, .slice aT T.length kT]) rfl rfl (by kernel_rfl) (by kernel_rfl) (by kernel_rfl) (fun _ _ _ h => h) (by kernel_rfl) (by (intro w hSw; go_simp)) (by assumption) ?_
            simp only [List.set_cons_zero, List.set_cons_succ]
            refine wpAnyH_all (rs := [9]) (by kernel_rfl) (by simp) ?_
            intro i hi; obtain rfl : i = 9 := by simpa using hi
            refine wpOp_step rfl (fun K hK => ?_)
            rw [if_pos (by kernel_rfl)]
            go_simp
            have L5 := L4.op9
            obtain ⟨N9, hN9⟩ : ∃ n, n = y4.heap.size := ⟨_, rfl⟩
            obtain ⟨y5, hy5⟩ : ∃ z, z = y4.alloc (.cells #[.slice none 0 0, .slice none 0 0, .slice none 0 0] 28) := ⟨_, rfl⟩
            rw [← hN9, ← hy5] at L5
            rw [← hN9, ← hy5]
            clear hN9 hy5
            refine hK _ _ ⟨L5.bel, ?_⟩
            clear hK K hi
            have hbS := L5.bel
            have F := L5.fill
            obtain ⟨c, f, hn⟩ := L5.c _ rfl
            obtain ⟨c1, c2, c3⟩ := c
            have f0 := f 0
            have f1 := f 1
            have f2 := f 2
            refine wpAnyH_all (rs := [10]) (by kernel_rfl) (by simp) ?_
            intro i hi; obtain rfl : i = 10 := by simpa using hi
            refine wpOp_step rfl (fun K hK => ?_)
            rw [if_pos (by kernel_rfl)]
            go_simp
            refine hK _ _ ⟨F.bel, ?_⟩
            clear hK K hi
            refine wpAnyH_done (by kernel_rfl) ?_ _
            exact hT.out _ _ ⟨_, aO, kO, aT, kT, _, [_, _, _, _, _, _, _, _, _], rfl, rfl, F⟩
          · refine wpOp_step rfl (fun K hK => ?_)
            rw [if_pos (by kernel_rfl)]
            go_simp
            have L6 := L3.op9
            obtain ⟨N9, hN9⟩ : ∃ n, n = y3.heap.size := ⟨_, rfl⟩
            obtain ⟨y6, hy6⟩ : ∃ z, z = y3.alloc (.cells #[.slice none 0 0, .slice none 0 0, .slice none 0 0] 28) := ⟨_, rfl⟩
            rw [← hN9, ← hy6] at L6
            rw [← hN9, ← hy6]
            clear hN9 hy6
            refine hK _ _ ⟨L6.bel, ?_⟩
            clear hK K hi
            refine wpAnyH_all (rs := [7]) (by kernel_rfl) (by simp) ?_
            intro i hi; obtain rfl : i = 7 := by simpa using hi
            refine wpOp_step rfl (fun K hK => ?_)
            rw [if_pos (by kernel_rfl)]
            refine app_heards 12 _ _ rfl rfl x0.heap.size (.slice (some ⟨N4, 0, none⟩) 0 0) rfl (L6.h _ _ rfl) adT cT T rfl (vT.carry (fun x e p => L6.bel.block _ (lT x e p))) zT lTT L6.bel.size ?_
            intro v7 y7 o7 g7 e7
            have L7 := L6.op7 o7 g7 e7
            obtain ⟨aT, kT, rfl, _, _, _⟩ := hown_view (show HOwn _ _ _ T from o7)
            clear o7 g7 e7
            refine hK _ _ ⟨L7.bel, ?_⟩
            clear hK K hi
            simp only [List.set_cons_zero, List.set_cons_succ]
            have hbS := L7.bel
            refine takeW 8 13 (.agg #[.slice aO O.length kO, .slice none 0 0, .slice aT T.length kT]) rfl rfl (by kernel_rfl) (by kernel_rfl) (by kernel_rfl) (fun _ _ _ h => h) (by kernel_rfl) (by (intro w hSw; go_simp)) (by assumption) ?_
            simp only [List.set_cons_zero, List.set_cons_succ]
            have hbS := L7.bel
            have F := L7.fill
            obtain ⟨c, f, hn⟩ := L7.c _ rfl
            obtain ⟨c1, c2, c3⟩ := c
            have f0 := f 0
            have f1 := f 1
            have f2 := f 2
            refine wpAnyH_all (rs := [10]) (by kernel_rfl) (by simp) ?_
            intro i hi; obtain rfl : i = 10 := by simpa using hi
            refine wpOp_step rfl (fun K hK => ?_)
            rw [if_pos (by kernel_rfl)]
            go_simp
            refine hK _ _ ⟨F.bel, ?_⟩
            clear hK K hi
            refine wpAnyH_done (by kernel_rfl) ?_ _
            exact hT.out _ _ ⟨_, aO, kO, aT, kT, _, [_, _, _, _, _, _, _, _, _], rfl, rfl, F⟩
        · refine wpOp_step rfl (fun K hK => ?_)
          rw [if_pos (by kernel_rfl)]
          go_simp
          have L8 := L2.op9
          obtain ⟨N9, hN9⟩ : ∃ n, n = y2.heap.size := ⟨_, rfl⟩
          obtain ⟨y8, hy8⟩ : ∃ z, z = y2.alloc (.cells #[.slice none 0 0, .slice none 0 0, .slice none 0 0] 28) := ⟨_, rfl⟩
          rw [← hN9, ← hy8] at L8
          rw [← hN9, ← hy8]
          clear hN9 hy8
          refine hK _ _ ⟨L8.bel, ?_⟩
          clear hK K hi
          refine wpAnyH_all (rs := [4]) (by kernel_rfl) (by simp) ?_
          intro i hi; obtain rfl : i = 4 := by simpa using hi
          refine wpOp_step rfl (fun K hK => ?_)
          rw [if_pos (by kernel_rfl)]
          go_simp
          have L9 := L8.op4
          obtain ⟨N4, hN4⟩ : ∃ n, n = y8.heap.size := ⟨_, rfl⟩
          obtain ⟨y9, hy9⟩ : ∃ z, z = y8.alloc (.cells #[] 97) := ⟨_, rfl⟩
          rw [← hN4, ← hy9] at L9
          rw [← hN4, ← hy9]
          clear hN4 hy9
          refine hK _ _ ⟨L9.bel, ?_⟩
          clear hK K hi
          refine wpAnyH_all (rs := [7]) (by kernel_rfl) (by simp) ?_
          intro i hi; obtain rfl : i = 7 := by simpa using hi
          refine wpOp_step rfl (fun K hK => ?_)
          rw [if_pos (by kernel_rfl)]
          refine app_heards 12 _ _ rfl rfl x0.heap.size (.slice (some ⟨N4, 0, none⟩) 0 0) rfl (L9.h _ _ rfl) adT cT T rfl (vT.carry (fun x e p => L9.bel.block _ (lT x e p))) zT lTT L9.bel.size ?_
          intro v7 y10 o7 g7 e7
          have L10 := L9.op7 o7 g7 e7
          obtain ⟨aT, kT, rfl, _, _, _⟩ := hown_view (show HOwn _ _ _ T from o7)
          clear o7 g7 e7
          refine hK _ _ ⟨L10.bel, ?_⟩
          clear hK K hi
          simp only [List.set_cons_zero, List.set_cons_succ]
          have hbS := L10.bel
          refine takeW 8 13 (.agg #[.slice aO O.length kO, .slice none 0 0, .slice aT T.length kT]) rfl rfl (by kernel_rfl) (by kernel_rfl) (by kernel_rfl) (fun _ _ _ h => h) (by kernel_rfl) (by (intro w hSw; go_simp)) (by assumption) ?_
          simp only [List.set_cons_zero, List.set_cons_succ]
          have hbS := L10.bel
          have F := L10.fill
          obtain ⟨c, f, hn⟩ := L10.c _ rfl
          obtain ⟨c1, c2, c3⟩ := c
          have f0 := f 0
          have f1 := f 1
          have f2 := f 2
          refine wpAnyH_all (rs := [10]) (by kernel_rfl) (by simp) ?_
          intro i hi; obtain rfl : i = 10 := by simpa using hi
          refine wpOp_step rfl (fun K hK => ?_)
          rw [if_pos (by kernel_rfl)]
          go_simp
          refine hK _ _ ⟨F.bel, ?_⟩
          clear hK K hi
          refine wpAnyH_done (by kernel_rfl) ?_ _
          exact hT.out _ _ ⟨_, aO, kO, aT, kT, _, [_, _, _, _, _, _, _, _, _], rfl, rfl, F⟩
      · refine wpOp_step rfl (fun K hK => ?_)
        rw [if_pos (by kernel_rfl)]
        go_simp
        have L11 := L1.op4
        obtain ⟨N4, hN4⟩ : ∃ n, n = y1.heap.size := ⟨_, rfl⟩
        obtain ⟨y11, hy11⟩ : ∃ z, z = y1.alloc (.cells #[] 97) := ⟨_, rfl⟩
        rw [← hN4, ← hy11] at L11
        rw [← hN4, ← hy11]
        clear hN4 hy11
        refine hK _ _ ⟨L11.bel, ?_⟩
        clear hK K hi
        refine wpAnyH_all (rs := [3, 9]) (by kernel_rfl) (by simp) ?_
        intro i hi; rcases (by simpa using hi : i = 3 ∨ i = 9) with rfl | rfl
        · refine wpOp_step rfl (fun K hK => ?_)
          rw [if_pos (by kernel_rfl)]
          refine app_bools 8 _ _ rfl rfl x0.heap.size (.slice (some ⟨N0, 0, none⟩) 0 0) rfl (L11.b _ _ rfl) adO cO O rfl (vO.below L11.bel (Nat.le_refl _)) zO lO L11.bel.size ?_
          intro v3 y12 o3 g3 e3
          have L12 := L11.op3 o3 g3 e3
          obtain ⟨_, aO, kO, rfl, _, _, _⟩ := own_viewB o3
          clear o3 g3 e3
          refine hK _ _ ⟨L12.bel, ?_⟩
          clear hK K hi
          simp only [List.set_cons_zero, List.set_cons_succ]
          refine wpAnyH_all (rs := [7, 9]) (by kernel_rfl) (by simp) ?_
          intro i hi; rcases (by simpa using hi : i = 7 ∨ i = 9) with rfl | rfl
          · refine wpOp_step rfl (fun K hK => ?_)
            rw [if_pos (by kernel_rfl)]
            refine app_heards 12 _ _ rfl rfl x0.heap.size (.slice (some ⟨N4, 0, none⟩) 0 0) rfl (L12.h _ _ rfl) adT cT T rfl (vT.carry (fun x e p => L12.bel.block _ (lT x e p))) zT lTT L12.bel.size ?_
            intro v7 y13 o7 g7 e7
            have L13 := L12.op7 o7 g7 e7
            obtain ⟨aT, kT, rfl, _, _, _⟩ := hown_view (show HOwn _ _ _ T from o7)
            clear o7 g7 e7
            refine hK _ _ ⟨L13.bel, ?_⟩
            clear hK K hi
            simp only [List.set_cons_zero, List.set_cons_succ]
            have hbS := L13.bel
            refine takeW 8 13 (.agg #[.slice aO O.length kO, .slice none 0 0, .slice aT T.length kT]) rfl rfl (by kernel_rfl) (by kernel_rfl) (by kernel_rfl) (fun _ _ _ h => h) (by kernel_rfl) (by (intro w hSw; go_simp)) (by assumption) ?_
            simp only [List.set_cons_zero, List.set_cons_succ]
            refine wpAnyH_all (rs := [9]) (by kernel_rfl) (by simp) ?_
            intro i hi; obtain rfl : i = 9 := by simpa using hi
            refine wpOp_step rfl (fun K hK => ?_)
            rw [if_pos (by kernel_rfl)]
            go_simp
            have L14 := L13.op9
            obtain ⟨N9, hN9⟩ : ∃ n, n = y13.heap.size := ⟨_, rfl⟩
            obtain ⟨y14, hy14⟩ : ∃ z, z = y13.alloc (.cells #[.slice none 0 0, .slice none 0 0, .slice none 0 0] 28) := ⟨_, rfl⟩
            rw [← hN9, ← hy14] at L14
            rw [← hN9, ← hy14]
            clear hN9 hy14
            refine hK _ _ ⟨L14.bel, ?_⟩
            clear hK K hi
            have hbS := L14.bel
            have F := L14.fill
            obtain ⟨c, f, hn⟩ := L14.c _ rfl
            obtain ⟨c1, c2, c3⟩ := c
            have f0 := f 0
            have f1 := f 1
            have f2 := f 2
            refine wpAnyH_all (rs := [10]) (by kernel_rfl) (by simp) ?_
            intro i hi; obtain rfl : i = 10 := by simpa using hi
            refine wpOp_step rfl (fun K hK => ?_)
            rw [if_pos (by kernel_rfl)]
            go_simp
            refine hK _ _ ⟨F.bel, ?_⟩
            clear hK K hi
            refine wpAnyH_done (by kernel_rfl) ?_ _
            exact hT.out _ _ ⟨_, aO, kO, aT, kT, _, [_, _, _, _, _, _, _, _, _], rfl, rfl, F⟩
          · refine wpOp_step rfl (fun K hK => ?_)
            rw [if_pos (by kernel_rfl)]
            go_simp
            have L15 := L12.op9
            obtain ⟨N9, hN9⟩ : ∃ n, n = y12.heap.size := ⟨_, rfl⟩
            obtain ⟨y15, hy15⟩ : ∃ z, z = y12.alloc (.cells #[.slice none 0 0, .slice none 0 0, .slice none 0 0] 28) := ⟨_, rfl⟩
            rw [← hN9, ← hy15] at L15
            rw [← hN9, ← hy15]
            clear hN9 hy15
            refine hK _ _ ⟨L15.bel, ?_⟩
            clear hK K hi
            refine wpAnyH_all (rs := [7]) (by kernel_rfl) (by simp) ?_
            intro i hi; obtain rfl : i = 7 := by simpa using hi
            refine wpOp_step rfl (fun K hK => ?_)
            rw [if_pos (by kernel_rfl)]
            refine app_heards 12 _ _ rfl rfl x0.heap.size (.slice (some ⟨N4, 0, none⟩) 0 0) rfl (L15.h _ _ rfl) adT cT T rfl (vT.carry (fun x e p => L15.bel.block _ (lT x e p))) zT lTT L15.bel.size ?_
            intro v7 y16 o7 g7 e7
            have L16 := L15.op7 o7 g7 e7
            obtain ⟨aT, kT, rfl, _, _, _⟩ := hown_view (show HOwn _ _ _ T from o7)
            clear o7 g7 e7
            refine hK _ _ ⟨L16.bel, ?_⟩
            clear hK K hi
            simp only [List.set_cons_zero, List.set_cons_succ]
            have hbS := L16.bel
            refine takeW 8 13 (.agg #[.slice aO O.length kO, .slice none 0 0, .slice aT T.length kT]) rfl rfl (by kernel_rfl) (by kernel_rfl) (by kernel_rfl) (fun _ _ _ h => h) (by kernel_rfl) (by (intro w hSw; go_simp)) (by assumption) ?_
            simp only [List.set_cons_zero, List.set_cons_succ]
            have hbS := L16.bel
            have F := L16.fill
            obtain ⟨c, f, hn⟩ := L16.c _ rfl
            obtain ⟨c1, c2, c3⟩ := c
            have f0 := f 0
            have f1 := f 1
            have f2 := f 2
            refine wpAnyH_all (rs := [10]) (by kernel_rfl) (by simp) ?_
            intro i hi; obtain rfl : i = 10 := by simpa using hi
            refine wpOp_step rfl (fun K hK => ?_)
            rw [if_pos (by kernel_rfl)]
            go_simp
            refine hK _ _ ⟨F.bel, ?_⟩
            clear hK K hi
            refine wpAnyH_done (by kernel_rfl) ?_ _
            exact hT.out _ _ ⟨_, aO, kO, aT, kT, _, [_, _, _, _, _, _, _, _, _], rfl, rfl, F⟩
        · refine wpOp_step rfl (fun K hK => ?_)
          rw [if_pos (by kernel_rfl)]
          go_simp
          have L17 := L11.op9
          obtain ⟨N9, hN9⟩ : ∃ n, n = y11.heap.size := ⟨_, rfl⟩
          obtain ⟨y17, hy17⟩ : ∃ z, z = y11.alloc (.cells #[.slice none 0 0, .slice none 0 0, .slice none 0 0] 28) := ⟨_, rfl⟩
          rw [← hN9, ← hy17] at L17
          rw [← hN9, ← hy17]
          clear hN9 hy17
          refine hK _ _ ⟨L17.bel, ?_⟩
          clear hK K hi
          refine wpAnyH_all (rs := [3]) (by kernel_rfl) (by simp) ?_
          intro i hi; obtain rfl : i = 3 := by simpa using hi
          refine wpOp_step rfl (fun K hK => ?_)
          rw [if_pos (by kernel_rfl)]
          refine app_bools 8 _ _ rfl rfl x0.heap.size (.slice (some ⟨N0, 0, none⟩) 0 0) rfl (L17.b _ _ rfl) adO cO O rfl (vO.below L17.bel (Nat.le_refl _)) zO lO L17.bel.size ?_
          intro v3 y18 o3 g3 e3
          have L18 := L17.op3 o3 g3 e3
          obtain ⟨_, aO, kO, rfl, _, _, _⟩ := own_viewB o3
          clear o3 g3 e3
          refine hK _ _ ⟨L18.bel, ?_⟩
          clear hK K hi
          simp only [List.set_cons_zero, List.set_cons_succ]
          refine wpAnyH_all (rs := [7]) (by kernel_rfl) (by simp) ?_
          intro i hi; obtain rfl : i = 7 := by simpa using hi
          refine wpOp_step rfl (fun K hK => ?_)
          rw [if_pos (by kernel_rfl)]
          refine app_heards 12 _ _ rfl rfl x0.heap.size (.slice (some ⟨N4, 0, none⟩) 0 0) rfl (L18.h _ _ rfl) adT cT T rfl (vT.carry (fun x e p => L18.bel.block _ (lT x e p))) zT lTT L18.bel.size ?_
          intro v7 y19 o7 g7 e7
          have L19 := L18.op7 o7 g7 e7
          obtain ⟨aT, kT, rfl, _, _, _⟩ := hown_view (show HOwn _ _ _ T from o7)
          clear o7 g7 e7
          refine hK _ _ ⟨L19.bel, ?_⟩
          clear hK K hi
          simp only [List.set_cons_zero, List.set_cons_succ]
          have hbS := L19.bel
          refine takeW 8 13 (.agg #[.slice aO O.length kO, .slice none 0 0, .slice aT T.length kT]) rfl rfl (by kernel_rfl) (by kernel_rfl) (by kernel_rfl) (fun _ _ _ h => h) (by kernel_rfl) (by (intro w hSw; go_simp)) (by assumption) ?_
          simp only [List.set_cons_zero, List.set_cons_succ]
          have hbS := L19.bel
          have F := L19.fill
          obtain ⟨c, f, hn⟩ := L19.c _ rfl
          obtain ⟨c1, c2, c3⟩ := c
          have f0 := f 0
          have f1 := f 1
          have f2 := f 2
          refine wpAnyH_all (rs := [10]) (by kernel_rfl) (by simp) ?_
          intro i hi; obtain rfl : i = 10 := by simpa using hi
          refine wpOp_step rfl (fun K hK => ?_)
          rw [if_pos (by kernel_rfl)]
          go_simp
          refine hK _ _ ⟨F.bel, ?_⟩
          clear hK K hi
          refine wpAnyH_done (by kernel_rfl) ?_ _
          exact hT.out _ _ ⟨_, aO, kO, aT, kT, _, [_, _, _, _, _, _, _, _, _], rfl, rfl, F⟩
      · refine wpOp_step rfl (fun K hK => ?_)
        rw [if_pos (by kernel_rfl)]
        go_simp
        have L20 := L1.op9
        obtain ⟨N9, hN9⟩ : ∃ n, n = y1.heap.size := ⟨_, rfl⟩
        obtain ⟨y20, hy20⟩ : ∃ z, z = y1.alloc (.cells #[.slice none 0 0, .slice none 0 0, .slice none 0 0] 28) := ⟨_, rfl⟩
        rw [← hN9, ← hy20] at L20
        rw [← hN9, ← hy20]
        clear hN9 hy20
        refine hK _ _ ⟨L20.bel, ?_⟩
        clear hK K hi
        refine wpAnyH_all (rs := [3, 4]) (by kernel_rfl) (by simp) ?_
        intro i hi; rcases (by simpa using hi : i = 3 ∨ i = 4) with rfl | rfl
        · refine wpOp_step rfl (fun K hK => ?_)
          rw [if_pos (by kernel_rfl)]
          refine app_bools 8 _ _ rfl rfl x0.heap.size (.slice (some ⟨N0, 0, none⟩) 0 0) rfl (L20.b _ _ rfl) adO cO O rfl (vO.below L20.bel (Nat.le_refl _)) zO lO L20.bel.size ?_
          intro v3 y21 o3 g3 e3
          have L21 := L20.op3 o3 g3 e3
          obtain ⟨_, aO, kO, rfl, _, _, _⟩ := own_viewB o3
          clear o3 g3 e3
          refine hK _ _ ⟨L21.bel, ?_⟩
          clear hK K hi
          simp only [List.set_cons_zero, List.set_cons_succ]
          refine wpAnyH_all (rs := [4]) (by kernel_rfl) (by simp) ?_
          intro i hi; obtain rfl : i = 4 := by simpa using hi
          refine wpOp_step rfl (fun K hK => ?_)
          rw [if_pos (by kernel_rfl)]
          go_simp
          have L22 := L21.op4
          obtain ⟨N4, hN4⟩ : ∃ n, n = y21.heap.size := ⟨_, rfl⟩
          obtain ⟨y22, hy22⟩ : ∃ z, z = y21.alloc (.cells #[] 97) := ⟨_, rfl⟩
          rw [← hN4, ← hy22] at L22
          rw [← hN4, ← hy22]
          clear hN4 hy22
          refine hK _ _ ⟨L22.bel, ?_⟩
          clear hK K hi
          refine wpAnyH_all (rs := [7]) (by kernel_rfl) (by simp) ?_
          intro i hi; obtain rfl : i = 7 := by simpa using hi
          refine wpOp_step rfl (fun K hK => ?_)
          rw [if_pos (by kernel_rfl)]
          refine app_heards 12 _ _ rfl rfl x0.heap.size (.slice (some ⟨N4, 0, none⟩) 0 0) rfl (L22.h _ _ rfl) adT cT T rfl (vT.carry (fun x e p => L22.bel.block _ (lT x e p))) zT lTT L22.bel.size ?_
          intro v7 y23 o7 g7 e7
          have L23 := L22.op7 o7 g7 e7
          obtain ⟨aT, kT, rfl, _, _, _⟩ := hown_view (show HOwn _ _ _ T from o7)
          clear o7 g7 e7
          refine hK _ _ ⟨L23.bel, ?_⟩
          clear hK K hi
          simp only [List.set_cons_zero, List.set_cons_succ]
          have hbS := L23.bel
          refine takeW 8 13 (.agg #[.slice aO O.length kO, .slice none 0 0, .slice aT T.length kT]) rfl rfl (by kernel_rfl) (by kernel_rfl) (by kernel_rfl) (fun _ _ _ h => h) (by kernel_rfl) (by (intro w hSw; go_simp)) (by assumption) ?_
          simp only [List.set_cons_zero, List.set_cons_succ]
          have hbS := L23.bel
          have F := L23.fill
          obtain ⟨c, f, hn⟩ := L23.c _ rfl
          obtain ⟨c1, c2, c3⟩ := c
          have f0 := f 0
          have f1 := f 1
          have f2 := f 2
          refine wpAnyH_all (rs := [10]) (by kernel_rfl) (by simp) ?_
          intro i hi; obtain rfl : i = 10 := by simpa using hi
          refine wpOp_step rfl (fun K hK => ?_)
          rw [if_pos (by kernel_rfl)]
          go_simp
          refine hK _ _ ⟨F.bel, ?_⟩
          clear hK K hi
          refine wpAnyH_done (by kernel_rfl) ?_ _
          exact hT.out _ _ ⟨_, aO, kO, aT, kT, _, [_, _, _, _, _, _, _, _, _], rfl, rfl, F⟩
        · refine wpOp_step rfl (fun K hK => ?_)
          rw [if_pos (by kernel_rfl)]
          go_simp
          have L24 := L20.op4
          obtain ⟨N4, hN4⟩ : ∃ n, n = y20.heap.size := ⟨_, rfl⟩
          obtain ⟨y24, hy24⟩ : ∃ z, z = y20.alloc (.cells #[] 97) := ⟨_, rfl⟩
          rw [← hN4, ← hy24] at L24
          rw [← hN4, ← hy24]
          clear hN4 hy24
          refine hK _ _ ⟨L24.bel, ?_⟩
          clear hK K hi
          refine wpAnyH_all (rs := [3]) (by kernel_rfl) (by simp) ?_
          intro i hi; obtain rfl : i = 3 := by simpa using hi
          refine wpOp_step rfl (fun K hK => ?_)
          rw [if_pos (by kernel_rfl)]
          refine app_bools 8 _ _ rfl rfl x0.heap.size (.slice (some ⟨N0, 0, none⟩) 0 0) rfl (L24.b _ _ rfl) adO cO O rfl (vO.below L24.bel (Nat.le_refl _)) zO lO L24.bel.size ?_
          intro v3 y25 o3 g3 e3
          have L25 := L24.op3 o3 g3 e3
          obtain ⟨_, aO, kO, rfl, _, _, _⟩ := own_viewB o3
          clear o3 g3 e3
          refine hK _ _ ⟨L25.bel, ?_⟩
          clear hK K hi
          simp only [List.set_cons_zero, List.set_cons_succ]
          refine wpAnyH_all (rs := [7]) (by kernel_rfl) (by simp) ?_
          intro i hi; obtain rfl : i = 7 := by simpa using hi
          refine wpOp_step rfl (fun K hK => ?_)
          rw [if_pos (by kernel_rfl)]
          refine app_heards 12 _ _ rfl rfl x0.heap.size (.slice (some ⟨N4, 0, none⟩) 0 0) rfl (L25.h _ _ rfl) adT cT T rfl (vT.carry (fun x e p => L25.bel.block _ (lT x e p))) zT lTT L25.bel.size ?_
          intro v7 y26 o7 g7 e7
          have L26 := L25.op7 o7 g7 e7
          obtain ⟨aT, kT, rfl, _, _, _⟩ := hown_view (show HOwn _ _ _ T from o7)
          clear o7 g7 e7
          refine hK _ _ ⟨L26.bel, ?_⟩
          clear hK K hi
          simp only [List.set_cons_zero, List.set_cons_succ]
          have hbS := L26.bel
          refine takeW 8 13 (.agg #[.slice aO O.length kO, .slice none 0 0, .slice aT T.length kT]) rfl rfl (by kernel_rfl) (by kernel_rfl) (by kernel_rfl) (fun _ _ _ h => h) (by kernel_rfl) (by (intro w hSw; go_simp)) (by assumption) ?_
          simp only [List.set_cons_zero, List.set_cons_succ]
          have hbS := L26.bel
          have F := L26.fill
          obtain ⟨c, f, hn⟩ := L26.c _ rfl
          obtain ⟨c1, c2, c3⟩ := c
          have f0 := f 0
          have f1 := f 1
          have f2 := f 2
          refine wpAnyH_all (rs := [10]) (by kernel_rfl) (by simp) ?_
          intro i hi; obtain rfl : i = 10 := by simpa using hi
          refine wpOp_step rfl (fun K hK => ?_)
          rw [if_pos (by kernel_rfl)]
          go_simp
          refine hK _ _ ⟨F.bel, ?_⟩
          clear hK K hi
          refine wpAnyH_done (by kernel_rfl) ?_ _
          exact hT.out _ _ ⟨_, aO, kO, aT, kT, _, [_, _, _, _, _, _, _, _, _], rfl, rfl, F⟩
    · refine wpOp_step rfl (fun K hK => ?_)
      rw [if_pos (by kernel_rfl)]
      go_simp
      have L27 := LA.op4
      obtain ⟨N4, hN4⟩ : ∃ n, n = y0.heap.size := ⟨_, rfl⟩
      obtain ⟨y27, hy27⟩ : ∃ z, z = y0.alloc (.cells #[] 97) := ⟨_, rfl⟩
      rw [← hN4, ← hy27] at L27
      rw [← hN4, ← hy27]
      clear hN4 hy27
      refine hK _ _ ⟨L27.bel, ?_⟩
      clear hK K hi
      refine wpAnyH_all (rs := [0, 9]) (by kernel_rfl) (by simp) ?_
      intro i hi; rcases (by simpa using hi : i = 0 ∨ i = 9) with rfl | rfl
      · refine wpOp_step rfl (fun K hK => ?_)
        rw [if_pos (by kernel_rfl)]
        go_simp
        have L28 := L27.op0
        obtain ⟨N0, hN0⟩ : ∃ n, n = y27.heap.size := ⟨_, rfl⟩
        obtain ⟨y28, hy28⟩ : ∃ z, z = y27.alloc (.cells #[] 4) := ⟨_, rfl⟩
        rw [← hN0, ← hy28] at L28
        rw [← hN0, ← hy28]
        clear hN0 hy28
        refine hK _ _ ⟨L28.bel, ?_⟩
        clear hK K hi
        refine wpAnyH_all (rs := [3, 9]) (by kernel_rfl) (by simp) ?_
        intro i hi; rcases (by simpa using hi : i = 3 ∨ i = 9) with rfl | rfl
        · refine wpOp_step rfl (fun K hK => ?_)
          rw [if_pos (by kernel_rfl)]
          refine app_bools 8 _ _ rfl rfl x0.heap.size (.slice (some ⟨N0, 0, none⟩) 0 0) rfl (L28.b _ _ rfl) adO cO O rfl (vO.below L28.bel (Nat.le_refl _)) zO lO L28.bel.size ?_
          intro v3 y29 o3 g3 e3
          have L29 := L28.op3 o3 g3 e3
          obtain ⟨_, aO, kO, rfl, _, _, _⟩ := own_viewB o3
          clear o3 g3 e3
          refine hK _ _ ⟨L29.bel, ?_⟩
          clear hK K hi
          simp only [List.set_cons_zero, List.set_cons_succ]
          refine wpAnyH_all (rs := [7, 9]) (by kernel_rfl) (by simp) ?_
          intro i hi; rcases (by simpa using hi : i = 7 ∨ i = 9) with rfl | rfl
          · refine wpOp_step rfl (fun K hK => ?_)
            rw [if_pos (by kernel_rfl)]
            refine app_heards 12 _ _ rfl rfl x0.heap.size (.slice (some ⟨N4, 0, none⟩) 0 0) rfl (L29.h _ _ rfl) adT cT T rfl (vT.carry (fun x e p => L29.bel.block _ (lT x e p))) zT lTT L29.bel.size ?_
            intro v7 y30 o7 g7 e7
            have L30 := L29.op7 o7 g7 e7
            obtain ⟨aT, kT, rfl, _, _, _⟩ := hown_view (show HOwn _ _ _ T from o7)
            clear o7 g7 e7
            refine hK _ _ ⟨L30.bel, ?_⟩
            clear hK K hi
            simp only [List.set_cons_zero, List.set_cons_succ]
            have hbS := L30.bel
            refine takeW 8 13 (.agg #[.slice aO O.length kO, .slice none 0 0, .slice aT T.length kT]) rfl rfl (by kernel_rfl) (by kernel_rfl) (by kernel_rfl) (fun _ _ _ h => h) (by kernel_rfl) (by (intro w hSw; go_simp)) (by assumption) ?_
            simp only [List.set_cons_zero, List.set_cons_succ]
            refine wpAnyH_all (rs := [9]) (by kernel_rfl) (by simp) ?_
            intro i hi; obtain rfl : i = 9 := by simpa using hi
            refine wpOp_step rfl (fun K hK => ?_)
            rw [if_pos (by kernel_rfl)]
            go_simp
            have L31 := L30.op9
            obtain ⟨N9, hN9⟩ : ∃ n, n = y30.heap.size := ⟨_, rfl⟩
            obtain ⟨y31, hy31⟩ : ∃ z, z = y30.alloc (.cells #[.slice none 0 0, .slice none 0 0, .slice none 0 0] 28) := ⟨_, rfl⟩
            rw [← hN9, ← hy31] at L31
            rw [← hN9, ← hy31]
            clear hN9 hy31
            refine hK _ _ ⟨L31.bel, ?_⟩
            clear hK K hi
            have hbS := L31.bel
            have F := L31.fill
            obtain ⟨c, f, hn⟩ := L31.c _ rfl
            obtain ⟨c1, c2, c3⟩ := c
            have f0 := f 0
            have f1 := f 1
            have f2 := f 2
            refine wpAnyH_all (rs := [10]) (by kernel_rfl) (by simp) ?_
            intro i hi; obtain rfl : i = 10 := by simpa using hi
            refine wpOp_step rfl (fun K hK => ?_)
            rw [if_pos (by kernel_rfl)]
            go_simp
            refine hK _ _ ⟨F.bel, ?_⟩
            clear hK K hi
            refine wpAnyH_done (by kernel_rfl) ?_ _
            exact hT.out _ _ ⟨_, aO, kO, aT, kT, _, [_, _, _, _, _, _, _, _, _], rfl, rfl, F⟩
          · refine wpOp_step rfl (fun K hK => ?_)
            rw [if_pos (by kernel_rfl)]
            go_simp
            have L32 := L29.op9
            obtain ⟨N9, hN9⟩ : ∃ n, n = y29.heap.size := ⟨_, rfl⟩
            obtain ⟨y32, hy32⟩ : ∃ z, z = y29.alloc (.cells #[.slice none 0 0, .slice none 0 0, .slice none 0 0] 28) := ⟨_, rfl⟩
            rw [← hN9, ← hy32] at L32
            rw [← hN9, ← hy32]
            clear hN9 hy32
            refine hK _ _ ⟨L32.bel, ?_⟩
            clear hK K hi
            refine wpAnyH_all (rs := [7]) (by kernel_rfl) (by simp) ?_
            intro i hi; obtain rfl : i = 7 := by simpa using hi
            refine wpOp_step rfl (fun K hK => ?_)
            rw [if_pos (by kernel_rfl)]
            refine app_heards 12 _ _ rfl rfl x0.heap.size (.slice (some ⟨N4, 0, none⟩) 0 0) rfl (L32.h _ _ rfl) adT cT T rfl (vT.carry (fun x e p => L32.bel.block _ (lT x e p))) zT lTT L32.bel.size ?_
            intro v7 y33 o7 g7 e7
            have L33 := L32.op7 o7 g7 e7
            obtain ⟨aT, kT, rfl, _, _, _⟩ := hown_view (show HOwn _ _ _ T from o7)
            clear o7 g7 e7
            refine hK _ _ ⟨L33.bel, ?_⟩
            clear hK K hi
            simp only [List.set_cons_zero, List.set_cons_succ]
            have hbS := L33.bel
            refine takeW 8 13 (.agg #[.slice aO O.length kO, .slice none 0 0, .slice aT T.length kT]) rfl rfl (by kernel_rfl) (by kernel_rfl) (by kernel_rfl) (fun _ _ _ h => h) (by kernel_rfl) (by (intro w hSw; go_simp)) (by assumption) ?_
            simp only [List.set_cons_zero, List.set_cons_succ]
            have hbS := L33.bel
            have F := L33.fill
            obtain ⟨c, f, hn⟩ := L33.c _ rfl
            obtain ⟨c1, c2, c3⟩ := c
            have f0 := f 0
            have f1 := f 1
            have f2 := f 2
            refine wpAnyH_all (rs := [10]) (by kernel_rfl) (by simp) ?_
            intro i hi; obtain rfl : i = 10 := by simpa using hi
            refine wpOp_step rfl (fun K hK => ?_)
            rw [if_pos (by kernel_rfl)]
            go_simp
            refine hK _ _ ⟨F.bel, ?_⟩
            clear hK K hi
            refine wpAnyH_done (by kernel_rfl) ?_ _
            exact hT.out _ _ ⟨_, aO, kO, aT, kT, _, [_, _, _, _, _, _, _, _, _], rfl, rfl, F⟩
        · refine wpOp_step rfl (fun K hK => ?_)
          rw [if_pos (by kernel_rfl)]
          go_simp
          have L34 := L28.op9
          obtain ⟨N9, hN9⟩ : ∃ n, n = y28.heap.size := ⟨_, rfl⟩
          obtain ⟨y34, hy34⟩ : ∃ z, z = y28.alloc (.cells #[.slice none 0 0, .slice none 0 0, .slice none 0 0] 28) := ⟨_, rfl⟩
          rw [← hN9, ← hy34] at L34
          rw [← hN9, ← hy34]
          clear hN9 hy34
          refine hK _ _ ⟨L34.bel, ?_⟩
          clear hK K hi
          refine wpAnyH_all (rs := [3]) (by kernel_rfl) (by simp) ?_
          intro i hi; obtain rfl : i = 3 := by simpa using hi
          refine wpOp_step rfl (fun K hK => ?_)
          rw [if_pos (by kernel_rfl)]
          refine app_bools 8 _ _ rfl rfl x0.heap.size (.slice (some ⟨N0, 0, none⟩) 0 0) rfl (L34.b _ _ rfl) adO cO O rfl (vO.below L34.bel (Nat.le_refl _)) zO lO L34.bel.size ?_
          intro v3 y35 o3 g3 e3
          have L35 := L34.op3 o3 g3 e3
          obtain ⟨_, aO, kO, rfl, _, _, _⟩ := own_viewB o3
          clear o3 g3 e3
          refine hK _ _ ⟨L35.bel, ?_⟩
          clear hK K hi
          simp only [List.set_cons_zero, List.set_cons_succ]
          refine wpAnyH_all (rs := [7]) (by kernel_rfl) (by simp) ?_
          intro i hi; obtain rfl : i = 7 := by simpa using hi
          refine wpOp_step rfl (fun K hK => ?_)
          rw [if_pos (by kernel_rfl)]
          refine app_heards 12 _ _ rfl rfl x0.heap.size (.slice (some ⟨N4, 0, none⟩) 0 0) rfl (L35.h _ _ rfl) adT cT T rfl (vT.carry (fun x e p => L35.bel.block _ (lT x e p))) zT lTT L35.bel.size ?_
          intro v7 y36 o7 g7 e7
          have L36 := L35.op7 o7 g7 e7
          obtain ⟨aT, kT, rfl, _, _, _⟩ := hown_view (show HOwn _ _ _ T from o7)
          clear o7 g7 e7
          refine hK _ _ ⟨L36.bel, ?_⟩
          clear hK K hi
          simp only [List.set_cons_zero, List.set_cons_succ]
          have hbS := L36.bel
          refine takeW 8 13 (.agg #[.slice aO O.length kO, .slice none 0 0, .slice aT T.length kT]) rfl rfl (by kernel_rfl) (by kernel_rfl) (by kernel_rfl) (fun _ _ _ h => h) (by kernel_rfl) (by (intro w hSw; go_simp)) (by assumption) ?_
          simp only [List.set_cons_zero, List.set_cons_succ]
          have hbS := L36.bel
          have F := L36.fill
          obtain ⟨c, f, hn⟩ := L36.c _ rfl
          obtain ⟨c1, c2, c3⟩ := c
          have f0 := f 0
          have f1 := f 1
          have f2 := f 2
          refine wpAnyH_all (rs := [10]) (by kernel_rfl) (by simp) ?_
          intro i hi; obtain rfl : i = 10 := by simpa using hi
          refine wpOp_step rfl (fun K hK => ?_)
          rw [if_pos (by kernel_rfl)]
          go_simp
          refine hK _ _ ⟨F.bel, ?_⟩
          clear hK K hi
          refine wpAnyH_done (by kernel_rfl) ?_ _
          exact hT.out _ _ ⟨_, aO, kO, aT, kT, _, [_, _, _, _, _, _, _, _, _], rfl, rfl, F⟩
      · refine wpOp_step rfl (fun K hK => ?_)
        rw [if_pos (by kernel_rfl)]
        go_simp
        have L37 := L27.op9
        obtain ⟨N9, hN9⟩ : ∃ n, n = y27.heap.size := ⟨_, rfl⟩
        obtain ⟨y37, hy37⟩ : ∃ z, z = y27.alloc (.cells #[.slice none 0 0, .slice none 0 0, .slice none 0 0] 28) := ⟨_, rfl⟩
        rw [← hN9, ← hy37] at L37
        rw [← hN9, ← hy37]
        clear hN9 hy37
        refine hK _ _ ⟨L37.bel, ?_⟩
        clear hK K hi
        refine wpAnyH_all (rs := [0]) (by kernel_rfl) (by simp) ?_
        intro i hi; obtain rfl : i = 0 := by simpa using hi
        refine wpOp_step rfl (fun K hK => ?_)
        rw [if_pos (by kernel_rfl)]
        go_simp
        have L38 := L37.op0
        obtain ⟨N0, hN0⟩ : ∃ n, n = y37.heap.size := ⟨_, rfl⟩
        obtain ⟨y38, hy38⟩ : ∃ z, z = y37.alloc (.cells #[] 4) := ⟨_, rfl⟩
        rw [← hN0, ← hy38] at L38
        rw [← hN0, ← hy38]
        clear hN0 hy38
        refine hK _ _ ⟨L38.bel, ?_⟩
        clear hK K hi
        refine wpAnyH_all (rs := [3]) (by kernel_rfl) (by simp) ?_
        intro i hi; obtain rfl : i = 3 := by simpa using hi
        refine wpOp_step rfl (fun K hK => ?_)
        rw [if_pos (by kernel_rfl)]
        refine app_bools 8 _ _ rfl rfl x0.heap.size (.slice (some ⟨N0, 0, none⟩) 0 0) rfl (L38.b _ _ rfl) adO cO O rfl (vO.below L38.bel (Nat.le_refl _)) zO lO L38.bel.size ?_
        intro v3 y39 o3 g3 e3
        have L39 := L38.op3 o3 g3 e3
        obtain ⟨_, aO, kO, rfl, _, _, _⟩ := own_viewB o3
        clear o3 g3 e3
        refine hK _ _ ⟨L39.bel, ?_⟩
        clear hK K hi
        simp only [List.set_cons_zero, List.set_cons_succ]
        refine wpAnyH_all (rs := [7]) (by kernel_rfl) (by simp) ?_
        intro i hi; obtain rfl : i = 7 := by simpa using hi
        refine wpOp_step rfl (fun K hK => ?_)
        rw [if_pos (by kernel_rfl)]
        refine app_heards 12 _ _ rfl rfl x0.heap.size (.slice (some ⟨N4, 0, none⟩) 0 0) rfl (L39.h _ _ rfl) adT cT T rfl (vT.carry (fun x e p => L39.bel.block _ (lT x e p))) zT lTT L39.bel.size ?_
        intro v7 y40 o7 g7 e7
        have L40 := L39.op7 o7 g7 e7
        obtain ⟨aT, kT, rfl, _, _, _⟩ := hown_view (show HOwn _ _ _ T from o7)
        clear o7 g7 e7
        refine hK _ _ ⟨L40.bel, ?_⟩
        clear hK K hi
        simp only [List.set_cons_zero, List.set_cons_succ]
        have hbS := L40.bel
        refine takeW 8 13 (.agg #[.slice aO O.length kO, .slice none 0 0, .slice aT T.length kT]) rfl rfl (by kernel_rfl) (by kernel_rfl) (by kernel_rfl) (fun _ _ _ h => h) (by kernel_rfl) (by (intro w hSw; go_simp)) (by assumption) ?_
        simp only [List.set_cons_zero, List.set_cons_succ]
        have hbS := L40.bel
        have F := L40.fill
        obtain ⟨c, f, hn⟩ := L40.c _ rfl
        obtain ⟨c1, c2, c3⟩ := c
        have f0 := f 0
        have f1 := f 1
        have f2 := f 2
        refine wpAnyH_all (rs := [10]) (by kernel_rfl) (by simp) ?_
        intro i hi; obtain rfl : i = 10 := by simpa using hi
        refine wpOp_step rfl (fun K hK => ?_)
        rw [if_pos (by kernel_rfl)]
        go_simp
        refine hK _ _ ⟨F.bel, ?_⟩
        clear hK K hi
        refine wpAnyH_done (by kernel_rfl) ?_ _
        exact hT.out _ _ ⟨_, aO, kO, aT, kT, _, [_, _, _, _, _, _, _, _, _], rfl, rfl, F⟩
    · refine wpOp_step rfl (fun K hK => ?_)
      rw [if_pos (by kernel_rfl)]
      go_simp
      have L41 := LA.op9
      obtain ⟨N9, hN9⟩ : ∃ n, n = y0.heap.size := ⟨_, rfl⟩
      obtain ⟨y41, hy41⟩ : ∃ z, z = y0.alloc (.cells #[.slice none 0 0, .slice none 0 0, .slice none 0 0] 28) := ⟨_, rfl⟩
      rw [← hN9, ← hy41] at L41
      rw [← hN9, ← hy41]
      clear hN9 hy41
      refine hK _ _ ⟨L41.bel, ?_⟩
      clear hK K hi
      refine wpAnyH_all (rs := [0, 4]) (by kernel_rfl) (by simp) ?_
      intro i hi; rcases (by simpa using hi : i = 0 ∨ i = 4) with rfl | rfl
      · refine wpOp_step rfl (fun K hK => ?_)
        rw [if_pos (by kernel_rfl)]
        go_simp
        have L42 := L41.op0
        obtain ⟨N0, hN0⟩ : ∃ n, n = y41.heap.size := ⟨_, rfl⟩
        obtain ⟨y42, hy42⟩ : ∃ z, z = y41.alloc (.cells #[] 4) := ⟨_, rfl⟩
        rw [← hN0, ← hy42] at L42
        rw [← hN0, ← hy42]
        clear hN0 hy42
        refine hK _ _ ⟨L42.bel, ?_⟩
        clear hK K hi
        refine wpAnyH_all (rs := [3, 4]) (by kernel_rfl) (by simp) ?_
        intro i hi; rcases (by simpa using hi : i = 3 ∨ i = 4) with rfl | rfl
        · refine wpOp_step rfl (fun K hK => ?_)
          rw [if_pos (by kernel_rfl)]
          refine app_bools 8 _ _ rfl rfl x0.heap.size (.slice (some ⟨N0, 0, none⟩) 0 0) rfl (L42.b _ _ rfl) adO cO O rfl (vO.below L42.bel (Nat.le_refl _)) zO lO L42.bel.size ?_
          intro v3 y43 o3 g3 e3
          have L43 := L42.op3 o3 g3 e3
          obtain ⟨_, aO, kO, rfl, _, _, _⟩ := own_viewB o3
          clear o3 g3 e3
          refine hK _ _ ⟨L43.bel, ?_⟩
          clear hK K hi
          simp only [List.set_cons_zero, List.set_cons_succ]
          refine wpAnyH_all (rs := [4]) (by kernel_rfl) (by simp) ?_
          intro i hi; obtain rfl : i = 4 := by simpa using hi
          refine wpOp_step rfl (fun K hK => ?_)
          rw [if_pos (by kernel_rfl)]
          go_simp
          have L44 := L43.op4
          obtain ⟨N4, hN4⟩ : ∃ n, n = y43.heap.size := ⟨_, rfl⟩
          obtain ⟨y44, hy44⟩ : ∃ z, z = y43.alloc (.cells #[] 97) := ⟨_, rfl⟩
          rw [← hN4, ← hy44] at L44
          rw [← hN4, ← hy44]
          clear hN4 hy44
          refine hK _ _ ⟨L44.bel, ?_⟩
          clear hK K hi
          refine wpAnyH_all (rs := [7]) (by kernel_rfl) (by simp) ?_
          intro i hi; obtain rfl : i = 7 := by simpa using hi
          refine wpOp_step rfl (fun K hK => ?_)
          rw [if_pos (by kernel_rfl)]
          refine app_heards 12 _ _ rfl rfl x0.heap.size (.slice (some ⟨N4, 0, none⟩) 0 0) rfl (L44.h _ _ rfl) adT cT T rfl (vT.carry (fun x e p => L44.bel.block _ (lT x e p))) zT lTT L44.bel.size ?_
          intro v7 y45 o7 g7 e7
          have L45 := L44.op7 o7 g7 e7
          obtain ⟨aT, kT, rfl, _, _, _⟩ := hown_view (show HOwn _ _ _ T from o7)
          clear o7 g7 e7
          refine hK _ _ ⟨L45.bel, ?_⟩
          clear hK K hi
          simp only [List.set_cons_zero, List.set_cons_succ]
          have hbS := L45.bel
          refine takeW 8 13 (.agg #[.slice aO O.length kO, .slice none 0 0, .slice aT T.length kT]) rfl rfl (by kernel_rfl) (by kernel_rfl) (by kernel_rfl) (fun _ _ _ h => h) (by kernel_rfl) (by (intro w hSw; go_simp)) (by assumption) ?_
          simp only [List.set_cons_zero, List.set_cons_succ]
          have hbS := L45.bel
          have F := L45.fill
          obtain ⟨c, f, hn⟩ := L45.c _ rfl
          obtain ⟨c1, c2, c3⟩ := c
          have f0 := f 0
          have f1 := f 1
          have f2 := f 2
          refine wpAnyH_all (rs := [10]) (by kernel_rfl) (by simp) ?_
          intro i hi; obtain rfl : i = 10 := by simpa using hi
          refine wpOp_step rfl (fun K hK => ?_)
          rw [if_pos (by kernel_rfl)]
          go_simp
          refine hK _ _ ⟨F.bel, ?_⟩
          clear hK K hi
          refine wpAnyH_done (by kernel_rfl) ?_ _
          exact hT.out _ _ ⟨_, aO, kO, aT, kT, _, [_, _, _, _, _, _, _, _, _], rfl, rfl, F⟩
        · refine wpOp_step rfl (fun K hK => ?_)
          rw [if_pos (by kernel_rfl)]
          go_simp
          have L46 := L42.op4
          obtain ⟨N4, hN4⟩ : ∃ n, n = y42.heap.size := ⟨_, rfl⟩
          obtain ⟨y46, hy46⟩ : ∃ z, z = y42.alloc (.cells #[] 97) := ⟨_, rfl⟩
          rw [← hN4, ← hy46] at L46
          rw [← hN4, ← hy46]
          clear hN4 hy46
          refine hK _ _ ⟨L46.bel, ?_⟩
          clear hK K hi
          refine wpAnyH_all (rs := [3]) (by kernel_rfl) (by simp) ?_
          intro i hi; obtain rfl : i = 3 := by simpa using hi
          refine wpOp_step rfl (fun K hK => ?_)
          rw [if_pos (by kernel_rfl)]
          refine app_bools 8 _ _ rfl rfl x0.heap.size (.slice (some ⟨N0, 0, none⟩) 0 0) rfl (L46.b _ _ rfl) adO cO O rfl (vO.below L46.bel (Nat.le_refl _)) zO lO L46.bel.size ?_
          intro v3 y47 o3 g3 e3
          have L47 := L46.op3 o3 g3 e3
          obtain ⟨_, aO, kO, rfl, _, _, _⟩ := own_viewB o3
          clear o3 g3 e3
          refine hK _ _ ⟨L47.bel, ?_⟩
          clear hK K hi
          simp only [List.set_cons_zero, List.set_cons_succ]
          refine wpAnyH_all (rs := [7]) (by kernel_rfl) (by simp) ?_
          intro i hi; obtain rfl : i = 7 := by simpa using hi
          refine wpOp_step rfl (fun K hK => ?_)
          rw [if_pos (by kernel_rfl)]
          refine app_heards 12 _ _ rfl rfl x0.heap.size (.slice (some ⟨N4, 0, none⟩) 0 0) rfl (L47.h _ _ rfl) adT cT T rfl (vT.carry (fun x e p => L47.bel.block _ (lT x e p))) zT lTT L47.bel.size ?_
          intro v7 y48 o7 g7 e7
          have L48 := L47.op7 o7 g7 e7
          obtain ⟨aT, kT, rfl, _, _, _⟩ := hown_view (show HOwn _ _ _ T from o7)
          clear o7 g7 e7
          refine hK _ _ ⟨L48.bel, ?_⟩
          clear hK K hi
          simp only [List.set_cons_zero, List.set_cons_succ]
          have hbS := L48.bel
          refine takeW 8 13 (.agg #[.slice aO O.length kO, .slice none 0 0, .slice aT T.length kT]) rfl rfl (by kernel_rfl) (by kernel_rfl) (by kernel_rfl) (fun _ _ _ h => h) (by kernel_rfl) (by (intro w hSw; go_simp)) (by assumption) ?_
          simp only [List.set_cons_zero, List.set_cons_succ]
          have hbS := L48.bel
          have F := L48.fill
          obtain ⟨c, f, hn⟩ := L48.c _ rfl
          obtain ⟨c1, c2, c3⟩ := c
          have f0 := f 0
          have f1 := f 1
          have f2 := f 2
          refine wpAnyH_all (rs := [10]) (by kernel_rfl) (by simp) ?_
          intro i hi; obtain rfl : i = 10 := by simpa using hi
          refine wpOp_step rfl (fun K hK => ?_)
          rw [if_pos (by kernel_rfl)]
          go_simp
          refine hK _ _ ⟨F.bel, ?_⟩
          clear hK K hi
          refine wpAnyH_done (by kernel_rfl) ?_ _
          exact hT.out _ _ ⟨_, aO, kO, aT, kT, _, [_, _, _, _, _, _, _, _, _], rfl, rfl, F⟩
      · refine wpOp_step rfl (fun K hK => ?_)
        rw [if_pos (by kernel_rfl)]
        go_simp
        have L49 := L41.op4
        obtain ⟨N4, hN4⟩ : ∃ n, n = y41.heap.size := ⟨_, rfl⟩
        obtain ⟨y49, hy49⟩ : ∃ z, z = y41.alloc (.cells #[] 97) := ⟨_, rfl⟩
        rw [← hN4, ← hy49] at L49
        rw [← hN4, ← hy49]
        clear hN4 hy49
        refine hK _ _ ⟨L49.bel, ?_⟩
        clear hK K hi
        refine wpAnyH_all (rs := [0]) (by kernel_rfl) (by simp) ?_
        intro i hi; obtain rfl : i = 0 := by simpa using hi
        refine wpOp_step rfl (fun K hK => ?_)
        rw [if_pos (by kernel_rfl)]
        go_simp
        have L50 := L49.op0
        obtain ⟨N0, hN0⟩ : ∃ n, n = y49.heap.size := ⟨_, rfl⟩
        obtain ⟨y50, hy50⟩ : ∃ z, z = y49.alloc (.cells #[] 4) := ⟨_, rfl⟩
        rw [← hN0, ← hy50] at L50
        rw [← hN0, ← hy50]
        clear hN0 hy50
        refine hK _ _ ⟨L50.bel, ?_⟩
        clear hK K hi
        refine wpAnyH_all (rs := [3]) (by kernel_rfl) (by simp) ?_
        intro i hi; obtain rfl : i = 3 := by simpa using hi
        refine wpOp_step rfl (fun K hK => ?_)
        rw [if_pos (by kernel_rfl)]
        refine app_bools 8 _ _ rfl rfl x0.heap.size (.slice (some ⟨N0, 0, none⟩) 0 0) rfl (L50.b _ _ rfl) adO cO O rfl (vO.below L50.bel (Nat.le_refl _)) zO lO L50.bel.size ?_
        intro v3 y51 o3 g3 e3
        have L51 := L50.op3 o3 g3 e3
        obtain ⟨_, aO, kO, rfl, _, _, _⟩ := own_viewB o3
        clear o3 g3 e3
        refine hK _ _ ⟨L51.bel, ?_⟩
        clear hK K hi
        simp only [List.set_cons_zero, List.set_cons_succ]
        refine wpAnyH_all (rs := [7]) (by kernel_rfl) (by simp) ?_
        intro i hi; obtain rfl : i = 7 := by simpa using hi
        refine wpOp_step rfl (fun K hK => ?_)
        rw [if_pos (by kernel_rfl)]
        refine app_heards 12 _ _ rfl rfl x0.heap.size (.slice (some ⟨N4, 0, none⟩) 0 0) rfl (L51.h _ _ rfl) adT cT T rfl (vT.carry (fun x e p => L51.bel.block _ (lT x e p))) zT lTT L51.bel.size ?_
        intro v7 y52 o7 g7 e7
        have L52 := L51.op7 o7 g7 e7
        obtain ⟨aT, kT, rfl, _, _, _⟩ := hown_view (show HOwn _ _ _ T from o7)
        clear o7 g7 e7
        refine hK _ _ ⟨L52.bel, ?_⟩
        clear hK K hi
        simp only [List.set_cons_zero, List.set_cons_succ]
        have hbS := L52.bel
        refine takeW 8 13 (.agg #[.slice aO O.length kO, .slice none 0 0, .slice aT T.length kT]) rfl rfl (by kernel_rfl) (by kernel_rfl) (by kernel_rfl) (fun _ _ _ h => h) (by kernel_rfl) (by (intro w hSw; go_simp)) (by assumption) ?_
        simp only [List.set_cons_zero, List.set_cons_succ]
        have hbS := L52.bel
        have F := L52.fill
        obtain ⟨c, f, hn⟩ := L52.c _ rfl
        obtain ⟨c1, c2, c3⟩ := c
        have f0 := f 0
        have f1 := f 1
        have f2 := f 2
        refine wpAnyH_all (rs := [10]) (by kernel_rfl) (by simp) ?_
        intro i hi; obtain rfl : i = 10 := by simpa using hi
        refine wpOp_step rfl (fun K hK => ?_)
        rw [if_pos (by kernel_rfl)]
        go_simp
        refine hK _ _ ⟨F.bel, ?_⟩
        clear hK K hi
        refine wpAnyH_done (by kernel_rfl) ?_ _
        exact hT.out _ _ ⟨_, aO, kO, aT, kT, _, [_, _, _, _, _, _, _, _, _], rfl, rfl, F⟩
  rintro l' W1 ⟨N9, aO, kO, aT, kT, base, us, hul, rfl, L1⟩
  obtain ⟨u5, us, rfl⟩ : ∃ a b, us = a :: b := List.exists_cons_of_length_eq_add_one hul
  replace hul := Nat.succ.inj hul
  obtain ⟨u6, us, rfl⟩ : ∃ a b, us = a :: b := List.exists_cons_of_length_eq_add_one hul
  replace hul := Nat.succ.inj hul
  obtain ⟨u7, us, rfl⟩ : ∃ a b, us = a :: b := List.exists_cons_of_length_eq_add_one hul
  replace hul := Nat.succ.inj hul
  obtain ⟨u8, us, rfl⟩ : ∃ a b, us = a :: b := List.exists_cons_of_length_eq_add_one hul
  replace hul := Nat.succ.inj hul
  obtain ⟨u9, us, rfl⟩ : ∃ a b, us = a :: b := List.exists_cons_of_length_eq_add_one hul
  replace hul := Nat.succ.inj hul
  obtain ⟨u10, us, rfl⟩ : ∃ a b, us = a :: b := List.exists_cons_of_length_eq_add_one hul
  replace hul := Nat.succ.inj hul
  obtain ⟨u11, us, rfl⟩ : ∃ a b, us = a :: b := List.exists_cons_of_length_eq_add_one hul
  replace hul := Nat.succ.inj hul
  obtain ⟨u12, us, rfl⟩ : ∃ a b, us = a :: b := List.exists_cons_of_length_eq_add_one hul
  replace hul := Nat.succ.inj hul
  obtain ⟨u13, us, rfl⟩ : ∃ a b, us = a :: b := List.exists_cons_of_length_eq_add_one hul
  replace hul := Nat.succ.inj hul
  obtain rfl : us = [] := List.eq_nil_of_length_eq_zero hul
  clear hul
  simp only [List.take, List.drop, List.cons_append, List.nil_append]
  go_wp2
  go_loopw [4] (fun i wr => ∃ (k : Nat) (Ns : List Mb) (aM : Option Addr) (kM : Nat), i = .int .i64 (k : Int) ∧ k ≤ Ms.length ∧ Hid (Ns.map Mb.d = (Ms.take k).map Mb.d) ∧ L5L x0 base N9 aO O kO aM Ns.length kM aT T kT (.slice aM Ns.length kM) Ns wr) (fun i _ => Ms.length - (intOf i).toNat)
  case atStart => exact ⟨0, [], none, 0, rfl, Nat.zero_le _, rfl, L1⟩
  case round =>
    obtain ⟨k, Ns, aM, kM, rfl, hk, hN, LL⟩ := hrel
    clear L1
    have hAr := A0.below LL.bel P0
    obtain ⟨C1, C2, C3⟩ := hAr
    by_cases hlt : k < Ms.length
    · obtain ⟨b, off, rfl, hc⟩ := vM.row (by omega)
      have hcY : ∀ Y, Below x0.heap.size x0 Y → MbAt Y b (off + k * 2) (Ms.getD k Mb.nil) := fun Y hY => (hc k hlt).same (hY.block _ (vM.lt ⟨b, off, none⟩ rfl (by omega)))
      have hnk := ViewI.below (vM.nest k hlt) LL.bel (Nat.le_refl _)
      have hmn := vM.nil0 k hlt
      have hlk := lMs k hlt
      have hNl : Ns.length ≤ 1048576 := by have := congrArg List.length hN.out; simp at this; omega
      have stp := fun m' => takeM_step (Ns := Ns) (m' := m') hlt rfl
      obtain ⟨m, hh⟩ : ∃ m, Ms.getD k Mb.nil = m := ⟨_, rfl⟩
      rw [hh] at hnk hlk hmn
      simp only [hh] at stp hcY
      unfold MbAt at hcY
      clear hc hh lMs
      go_wp2_with fail
      clear C1 C2 C3
      refine wp_region_held (S := fun Y => Below x0.heap.size x0 Y) (by kernel_rfl) ?_
      change wpAnyH _ _ _ _ _ _ _ _ (World.drew _)
      have L0 := LL.drew
      have hb0 := L0.bel
      obtain ⟨yy, hyy⟩ : ∃ y, y = wr.drew := ⟨_, rfl⟩
      have Byy : Below wr.heap.size wr yy := by rw [hyy]; exact (Below.refl _ _).drew
      rw [← hyy] at hb0 ⊢
      clear L0 hyy
      refine takeW 0 21 (.pointer (some ⟨N9, 1, none⟩)) rfl rfl (by kernel_rfl) (by kernel_rfl) (by kernel_rfl) (fun _ _ _ h => h) (by kernel_rfl) (by (intro w hSw; go_simp)) (by assumption) ?_
      simp only [List.set_cons_zero, List.set_cons_succ]
      refine takeW 2 23 (.pointer (some ⟨P, 1, none⟩)) rfl rfl (by kernel_rfl) (by kernel_rfl) (by kernel_rfl) (fun _ _ _ h => h) (by kernel_rfl) (by (intro w hSw; go_simp)) (by assumption) ?_
      simp only [List.set_cons_zero, List.set_cons_succ]
      refine takeW 3 24 (.slice (some ⟨b, off, none⟩) Ms.length cM) rfl rfl (by kernel_rfl) (by kernel_rfl) (by kernel_rfl) (fun _ _ _ h => h) (by kernel_rfl) (by (intro Y hSw; obtain ⟨X1, X2, X3⟩ := A0.below hSw P0; go_simp)) (by assumption) ?_
      simp only [List.set_cons_zero, List.set_cons_succ]
      refine takeW 4 25 (.int .i64 (k : Int)) rfl rfl (by kernel_rfl) (by kernel_rfl) (by kernel_rfl) (fun _ _ _ h => h) (by kernel_rfl) (by (intro w hSw; go_simp)) (by assumption) ?_
      simp only [List.set_cons_zero, List.set_cons_succ]
      refine takeW 5 26 (.pointer (some ⟨b, off + k * 2, none⟩)) rfl rfl (by kernel_rfl) (by kernel_rfl) (by kernel_rfl) (fun _ _ _ h => h) (by kernel_rfl) (by (intro Y hSw; go_simp; try omega)) (by assumption) ?_
      simp only [List.set_cons_zero, List.set_cons_succ]
      refine takeW 6 27 (.pointer (some ⟨b, off + k * 2, none⟩)) rfl rfl (by kernel_rfl) (by kernel_rfl) (by kernel_rfl) (fun _ _ _ h => h) (by kernel_rfl) (by (intro w hSw; go_simp)) (by assumption) ?_
      simp only [List.set_cons_zero, List.set_cons_succ]
      refine takeW 7 28 (.int .i64 m.o) rfl rfl (by kernel_rfl) (by kernel_rfl) (by kernel_rfl) (fun _ _ _ h => h) (by kernel_rfl) (by (intro Y hSw; obtain ⟨X1, X2⟩ := hcY Y hSw; go_simp)) (by assumption) ?_
      simp only [List.set_cons_zero, List.set_cons_succ]
      refine takeW 9 30 (.pointer (some ⟨P, 1, none⟩)) rfl rfl (by kernel_rfl) (by kernel_rfl) (by kernel_rfl) (fun _ _ _ h => h) (by kernel_rfl) (by (intro w hSw; go_simp)) (by assumption) ?_
      simp only [List.set_cons_zero, List.set_cons_succ]
      refine takeW 10 31 (.slice (some ⟨b, off, none⟩) Ms.length cM) rfl rfl (by kernel_rfl) (by kernel_rfl) (by kernel_rfl) (fun _ _ _ h => h) (by kernel_rfl) (by (intro Y hSw; obtain ⟨X1, X2, X3⟩ := A0.below hSw P0; go_simp)) (by assumption) ?_
      simp only [List.set_cons_zero, List.set_cons_succ]
      refine takeW 11 32 (.int .i64 (k : Int)) rfl rfl (by kernel_rfl) (by kernel_rfl) (by kernel_rfl) (fun _ _ _ h => h) (by kernel_rfl) (by (intro w hSw; go_simp)) (by assumption) ?_
      simp only [List.set_cons_zero, List.set_cons_succ]
      refine takeW 12 33 (.pointer (some ⟨b, off + k * 2, none⟩)) rfl rfl (by kernel_rfl) (by kernel_rfl) (by kernel_rfl) (fun _ _ _ h => h) (by kernel_rfl) (by (intro Y hSw; go_simp; try omega)) (by assumption) ?_
      simp only [List.set_cons_zero, List.set_cons_succ]
      refine takeW 13 34 (.pointer (some ⟨b, off + k * 2 + 1, none⟩)) rfl rfl (by kernel_rfl) (by kernel_rfl) (by kernel_rfl) (fun _ _ _ h => h) (by kernel_rfl) (by (intro w hSw; go_simp)) (by assumption) ?_
      simp only [List.set_cons_zero, List.set_cons_succ]
      refine takeW 14 35 (.slice m.ad m.L.length m.cap) rfl rfl (by kernel_rfl) (by kernel_rfl) (by kernel_rfl) (fun _ _ _ h => h) (by kernel_rfl) (by (intro Y hSw; obtain ⟨X1, X2⟩ := hcY Y hSw; go_simp)) (by assumption) ?_
      simp only [List.set_cons_zero, List.set_cons_succ]
      have L0 := LL
      have Ly := LL.later Byy
      refine wpAnyH_all (rs := [1, 8]) (by kernel_rfl) (by simp) ?_
      intro i hi; rcases (by simpa using hi : i = 1 ∨ i = 8) with rfl | rfl
      · refine wpOp_step rfl (fun K hK => ?_)
        rw [if_pos (by kernel_rfl)]
        have hq := Ly.at9.2.1
        go_simp
        clear hq
        refine hK _ _ ⟨Ly.bel, ?_⟩
        clear hK K hi
        refine wpAnyH_all (rs := [8]) (by kernel_rfl) (by simp) ?_
        intro i hi; obtain rfl : i = 8 := by simpa using hi
        refine wpOp_step rfl (fun K hK => ?_)
        rw [if_pos (by kernel_rfl)]
        go_simp
        obtain ⟨N8, hN8⟩ : ∃ n, n = yy.heap.size := ⟨_, rfl⟩
        obtain ⟨y54, hy54⟩ : ∃ z, z = yy.alloc (.cells #[] 3) := ⟨_, rfl⟩
        have jy54 : Below yy.heap.size yy y54 := by rw [hy54]; exact below_box _ _
        have E8 : y54.ownsRow wr.heap.size 3 1 (.slice (some ⟨N8, 0, none⟩) 0 0) 0 [] := by rw [hy54, hN8]; exact own_base' (row_empty yy 3 1) Byy.size
        rw [← hN8, ← hy54]
        clear hN8 hy54
        have L54 := Ly.later jy54
        have By54 : Below wr.heap.size wr y54 := Byy.trans (jy54.mono Byy.size)
        refine hK _ _ ⟨L54.bel, ?_⟩
        clear hK K hi
        refine wpAnyH_all (rs := [15]) (by kernel_rfl) (by simp) ?_
        intro i hi; obtain rfl : i = 15 := by simpa using hi
        refine wpOp_step rfl (fun K hK => ?_)
        rw [if_pos (by kernel_rfl)]
        refine app_ints 36 _ _ rfl rfl wr.heap.size (.slice (some ⟨N8, 0, none⟩) 0 0) rfl E8 m.ad m.cap m.L rfl (ViewI.below hnk By54 (Nat.le_refl _)) hmn hlk By54.size ?_
        intro v15 y55 o15 g15 e15
        have jw : Below wr.heap.size y54 y55 := grown_below2 g15 (fun j e => (own_lt E8 j e).1) By54.size
        have By55 : Below wr.heap.size wr y55 := By54.trans jw
        have L55 := L0.later By55
        obtain ⟨_, a15, k15, rfl, V15, R15, b15, z15⟩ := own_viewN o15
        have i15 : ∀ x, a15 = some x → wr.heap.size ≤ x.block ∧ x.block < y55.heap.size := fun x h => ⟨(b15 x h).1, (b15 x h).2.1⟩
        clear o15 g15 e15 b15 jw
        refine hK _ _ ⟨L55.bel, ?_⟩
        clear hK K hi
        simp only [List.set_cons_zero, List.set_cons_succ]
        have hbS := L55.bel
        refine takeW 16 37 (.agg #[.int .i64 m.o, .slice a15 m.L.length k15]) rfl rfl (by kernel_rfl) (by kernel_rfl) (by kernel_rfl) (fun _ _ _ h => h) (by kernel_rfl) (by (intro w hSw; go_simp)) (by assumption) ?_
        simp only [List.set_cons_zero, List.set_cons_succ]
        refine wpAnyH_all (rs := [17]) (by kernel_rfl) (by simp) ?_
        intro i hi; obtain rfl : i = 17 := by simpa using hi
        refine wpOp_step rfl (fun K hK => ?_)
        rw [if_pos (by kernel_rfl)]
        go_simp
        obtain ⟨N17, hN17⟩ : ∃ n, n = y55.heap.size := ⟨_, rfl⟩
        obtain ⟨y56, hy56⟩ : ∃ z, z = y55.alloc (Obj.cells #[.int .i64 m.o, .slice a15 m.L.length k15] 50) := ⟨_, rfl⟩
        have jy56 : Below y55.heap.size y55 y56 := by rw [hy56]; exact below_box _ _
        have C17 : ∀ j u, ([.int .i64 m.o, .slice a15 m.L.length k15] : List Value)[j]? = some u → y56.cell? ((⟨N17, 0, none⟩ : Addr).add j) = some u := by rw [hy56, hN17]; exact cells2 y55 _ _ _
        rw [← hN17, ← hy56]
        clear hN17 hy56
        have L56 := L55.later jy56
        have By56 : Below wr.heap.size wr y56 := By55.trans (jy56.mono By55.size)
        have V15 := ViewI.below V15 jy56 (Nat.le_refl _)
        have R15 := R15.carry (w' := y56) (fun x h _ => jy56.block _ (i15 x h).2)
        have i15 : ∀ x, a15 = some x → wr.heap.size ≤ x.block ∧ x.block < y56.heap.size := fun x h => ⟨(i15 x h).1, by have := (i15 x h).2; have := jy56.size; omega⟩
        refine hK _ _ ⟨L56.bel, ?_⟩
        clear hK K hi
        refine wpAnyH_all (rs := [18]) (by kernel_rfl) (by simp) ?_
        intro i hi; obtain rfl : i = 18 := by simpa using hi
        refine wpOp_step rfl (fun K hK => ?_)
        rw [if_pos (by kernel_rfl)]
        refine app_atL 39 _ _ 25 rfl rfl base 50 i1 (.agg #[.int .i64 0, .slice none 0 0]) 2 32 Tryz.underlying25 hj hy0 hy1 hy2 rfl (by decide) (.slice aM Ns.length kM) Ns.length (mcells Ns) rfl L56.mc.own ⟨N17, 0, none⟩ 1 1 [.int .i64 m.o, .slice a15 m.L.length k15] rfl rfl C17 (fun u hu => by simp at hu; rcases hu with rfl | rfl <;> rfl) (by unfold maxLen; omega) (by omega) L56.bs ?_
        intro v18 y57 o18 g18 e18
        have L57 := L0.push (m := ⟨m.o, a15, k15, m.L⟩) By56 V15 R15 z15 (fun x h _ => i15 x h) o18 g18 e18
        obtain ⟨a18, k18, rfl⟩ := mown_slice o18
        clear o18 g18 e18
        refine hK _ _ ⟨L57.bel, ?_⟩
        clear hK K hi
        simp only [List.set_cons_zero, List.set_cons_succ]
        have hbS := L57.bel
        refine takeW 19 40 (.pointer (some ⟨N9, 1, none⟩)) rfl rfl (by kernel_rfl) (by kernel_rfl) (by kernel_rfl) (fun _ _ _ h => h) (by kernel_rfl) (by (intro w hSw; go_simp)) (by assumption) ?_
        simp only [List.set_cons_zero, List.set_cons_succ]
        have LS := L57.store a18 (Ns.length + 1) k18
        have hq := L57.at9.2.1
        have fq := L57.fz 1
        refine wpAnyH_all (rs := [20]) (by kernel_rfl) (by simp) ?_
        intro i hi; obtain rfl : i = 20 := by simpa using hi
        refine wpOp_step rfl (fun K hK => ?_)
        rw [if_pos (by kernel_rfl)]
        go_simp
        clear hq fq
        refine hK _ _ ⟨LS.bel, ?_⟩
        clear hK K hi
        refine wpAnyH_done (by kernel_rfl) ?_ _
        go_wp2
        go_roundw
        case rel => exact ⟨k + 1, _, _, _, by go_num, by omega, stp ⟨m.o, a15, k15, m.L⟩ rfl hN.out, by simpa using LS⟩
        case measure => simp [intOf]; omega
      · refine wpOp_step rfl (fun K hK => ?_)
        rw [if_pos (by kernel_rfl)]
        go_simp
        obtain ⟨N8, hN8⟩ : ∃ n, n = yy.heap.size := ⟨_, rfl⟩
        obtain ⟨y58, hy58⟩ : ∃ z, z = yy.alloc (.cells #[] 3) := ⟨_, rfl⟩
        have jy58 : Below yy.heap.size yy y58 := by rw [hy58]; exact below_box _ _
        have E8 : y58.ownsRow wr.heap.size 3 1 (.slice (some ⟨N8, 0, none⟩) 0 0) 0 [] := by rw [hy58, hN8]; exact own_base' (row_empty yy 3 1) Byy.size
        rw [← hN8, ← hy58]
        clear hN8 hy58
        have L58 := Ly.later jy58
        have By58 : Below wr.heap.size wr y58 := Byy.trans (jy58.mono Byy.size)
        refine hK _ _ ⟨L58.bel, ?_⟩
        clear hK K hi
        refine wpAnyH_all (rs := [1, 15]) (by kernel_rfl) (by simp) ?_
        intro i hi; rcases (by simpa using hi : i = 1 ∨ i = 15) with rfl | rfl
        · refine wpOp_step rfl (fun K hK => ?_)
          rw [if_pos (by kernel_rfl)]
          have hq := L58.at9.2.1
          go_simp
          clear hq
          refine hK _ _ ⟨L58.bel, ?_⟩
          clear hK K hi
          refine wpAnyH_all (rs := [15]) (by kernel_rfl) (by simp) ?_
          intro i hi; obtain rfl : i = 15 := by simpa using hi
          refine wpOp_step rfl (fun K hK => ?_)
          rw [if_pos (by kernel_rfl)]
          refine app_ints 36 _ _ rfl rfl wr.heap.size (.slice (some ⟨N8, 0, none⟩) 0 0) rfl E8 m.ad m.cap m.L rfl (ViewI.below hnk By58 (Nat.le_refl _)) hmn hlk By58.size ?_
          intro v15 y60 o15 g15 e15
          have jw : Below wr.heap.size y58 y60 := grown_below2 g15 (fun j e => (own_lt E8 j e).1) By58.size
          have By60 : Below wr.heap.size wr y60 := By58.trans jw
          have L60 := L0.later By60
          obtain ⟨_, a15, k15, rfl, V15, R15, b15, z15⟩ := own_viewN o15
          have i15 : ∀ x, a15 = some x → wr.heap.size ≤ x.block ∧ x.block < y60.heap.size := fun x h => ⟨(b15 x h).1, (b15 x h).2.1⟩
          clear o15 g15 e15 b15 jw
          refine hK _ _ ⟨L60.bel, ?_⟩
          clear hK K hi
          simp only [List.set_cons_zero, List.set_cons_succ]
          have hbS := L60.bel
          refine takeW 16 37 (.agg #[.int .i64 m.o, .slice a15 m.L.length k15]) rfl rfl (by kernel_rfl) (by kernel_rfl) (by kernel_rfl) (fun _ _ _ h => h) (by kernel_rfl) (by (intro w hSw; go_simp)) (by assumption) ?_
          simp only [List.set_cons_zero, List.set_cons_succ]
          refine wpAnyH_all (rs := [17]) (by kernel_rfl) (by simp) ?_
          intro i hi; obtain rfl : i = 17 := by simpa using hi
          refine wpOp_step rfl (fun K hK => ?_)
          rw [if_pos (by kernel_rfl)]
          go_simp
          obtain ⟨N17, hN17⟩ : ∃ n, n = y60.heap.size := ⟨_, rfl⟩
          obtain ⟨y61, hy61⟩ : ∃ z, z = y60.alloc (Obj.cells #[.int .i64 m.o, .slice a15 m.L.length k15] 50) := ⟨_, rfl⟩
          have jy61 : Below y60.heap.size y60 y61 := by rw [hy61]; exact below_box _ _
          have C17 : ∀ j u, ([.int .i64 m.o, .slice a15 m.L.length k15] : List Value)[j]? = some u → y61.cell? ((⟨N17, 0, none⟩ : Addr).add j) = some u := by rw [hy61, hN17]; exact cells2 y60 _ _ _
          rw [← hN17, ← hy61]
          clear hN17 hy61
          have L61 := L60.later jy61
          have By61 : Below wr.heap.size wr y61 := By60.trans (jy61.mono By60.size)
          have V15 := ViewI.below V15 jy61 (Nat.le_refl _)
          have R15 := R15.carry (w' := y61) (fun x h _ => jy61.block _ (i15 x h).2)
          have i15 : ∀ x, a15 = some x → wr.heap.size ≤ x.block ∧ x.block < y61.heap.size := fun x h => ⟨(i15 x h).1, by have := (i15 x h).2; have := jy61.size; omega⟩
          refine hK _ _ ⟨L61.bel, ?_⟩
          clear hK K hi
          refine wpAnyH_all (rs := [18]) (by kernel_rfl) (by simp) ?_
          intro i hi; obtain rfl : i = 18 := by simpa using hi
          refine wpOp_step rfl (fun K hK => ?_)
          rw [if_pos (by kernel_rfl)]
          refine app_atL 39 _ _ 25 rfl rfl base 50 i1 (.agg #[.int .i64 0, .slice none 0 0]) 2 32 Tryz.underlying25 hj hy0 hy1 hy2 rfl (by decide) (.slice aM Ns.length kM) Ns.length (mcells Ns) rfl L61.mc.own ⟨N17, 0, none⟩ 1 1 [.int .i64 m.o, .slice a15 m.L.length k15] rfl rfl C17 (fun u hu => by simp at hu; rcases hu with rfl | rfl <;> rfl) (by unfold maxLen; omega) (by omega) L61.bs ?_
          intro v18 y62 o18 g18 e18
          have L62 := L0.push (m := ⟨m.o, a15, k15, m.L⟩) By61 V15 R15 z15 (fun x h _ => i15 x h) o18 g18 e18
          obtain ⟨a18, k18, rfl⟩ := mown_slice o18
          clear o18 g18 e18
          refine hK _ _ ⟨L62.bel, ?_⟩
          clear hK K hi
          simp only [List.set_cons_zero, List.set_cons_succ]
          have hbS := L62.bel
          refine takeW 19 40 (.pointer (some ⟨N9, 1, none⟩)) rfl rfl (by kernel_rfl) (by kernel_rfl) (by kernel_rfl) (fun _ _ _ h => h) (by kernel_rfl) (by (intro w hSw; go_simp)) (by assumption) ?_
          simp only [List.set_cons_zero, List.set_cons_succ]
          have LS := L62.store a18 (Ns.length + 1) k18
          have hq := L62.at9.2.1
          have fq := L62.fz 1
          refine wpAnyH_all (rs := [20]) (by kernel_rfl) (by simp) ?_
          intro i hi; obtain rfl : i = 20 := by simpa using hi
          refine wpOp_step rfl (fun K hK => ?_)
          rw [if_pos (by kernel_rfl)]
          go_simp
          clear hq fq
          refine hK _ _ ⟨LS.bel, ?_⟩
          clear hK K hi
          refine wpAnyH_done (by kernel_rfl) ?_ _
          go_wp2
          go_roundw
          case rel => exact ⟨k + 1, _, _, _, by go_num, by omega, stp ⟨m.o, a15, k15, m.L⟩ rfl hN.out, by simpa using LS⟩
          case measure => simp [intOf]; omega
        · refine wpOp_step rfl (fun K hK => ?_)
          rw [if_pos (by kernel_rfl)]
          refine app_ints 36 _ _ rfl rfl wr.heap.size (.slice (some ⟨N8, 0, none⟩) 0 0) rfl E8 m.ad m.cap m.L rfl (ViewI.below hnk By58 (Nat.le_refl _)) hmn hlk By58.size ?_
          intro v15 y63 o15 g15 e15
          have jw : Below wr.heap.size y58 y63 := grown_below2 g15 (fun j e => (own_lt E8 j e).1) By58.size
          have By63 : Below wr.heap.size wr y63 := By58.trans jw
          have L63 := L0.later By63
          obtain ⟨_, a15, k15, rfl, V15, R15, b15, z15⟩ := own_viewN o15
          have i15 : ∀ x, a15 = some x → wr.heap.size ≤ x.block ∧ x.block < y63.heap.size := fun x h => ⟨(b15 x h).1, (b15 x h).2.1⟩
          clear o15 g15 e15 b15 jw
          refine hK _ _ ⟨L63.bel, ?_⟩
          clear hK K hi
          simp only [List.set_cons_zero, List.set_cons_succ]
          have hbS := L63.bel
          refine takeW 16 37 (.agg #[.int .i64 m.o, .slice a15 m.L.length k15]) rfl rfl (by kernel_rfl) (by kernel_rfl) (by kernel_rfl) (fun _ _ _ h => h) (by kernel_rfl) (by (intro w hSw; go_simp)) (by assumption) ?_
          simp only [List.set_cons_zero, List.set_cons_succ]
          refine wpAnyH_all (rs := [1, 17]) (by kernel_rfl) (by simp) ?_
          intro i hi; rcases (by simpa using hi : i = 1 ∨ i = 17) with rfl | rfl
          · refine wpOp_step rfl (fun K hK => ?_)
            rw [if_pos (by kernel_rfl)]
            have hq := L63.at9.2.1
            go_simp
            clear hq
            refine hK _ _ ⟨L63.bel, ?_⟩
            clear hK K hi
            refine wpAnyH_all (rs := [17]) (by kernel_rfl) (by simp) ?_
            intro i hi; obtain rfl : i = 17 := by simpa using hi
            refine wpOp_step rfl (fun K hK => ?_)
            rw [if_pos (by kernel_rfl)]
            go_simp
            obtain ⟨N17, hN17⟩ : ∃ n, n = y63.heap.size := ⟨_, rfl⟩
            obtain ⟨y65, hy65⟩ : ∃ z, z = y63.alloc (Obj.cells #[.int .i64 m.o, .slice a15 m.L.length k15] 50) := ⟨_, rfl⟩
            have jy65 : Below y63.heap.size y63 y65 := by rw [hy65]; exact below_box _ _
            have C17 : ∀ j u, ([.int .i64 m.o, .slice a15 m.L.length k15] : List Value)[j]? = some u → y65.cell? ((⟨N17, 0, none⟩ : Addr).add j) = some u := by rw [hy65, hN17]; exact cells2 y63 _ _ _
            rw [← hN17, ← hy65]
            clear hN17 hy65
            have L65 := L63.later jy65
            have By65 : Below wr.heap.size wr y65 := By63.trans (jy65.mono By63.size)
            have V15 := ViewI.below V15 jy65 (Nat.le_refl _)
            have R15 := R15.carry (w' := y65) (fun x h _ => jy65.block _ (i15 x h).2)
            have i15 : ∀ x, a15 = some x → wr.heap.size ≤ x.block ∧ x.block < y65.heap.size := fun x h => ⟨(i15 x h).1, by have := (i15 x h).2; have := jy65.size; omega⟩
            refine hK _ _ ⟨L65.bel, ?_⟩
            clear hK K hi
            refine wpAnyH_all (rs := [18]) (by kernel_rfl) (by simp) ?_
            intro i hi; obtain rfl : i = 18 := by simpa using hi
            refine wpOp_step rfl (fun K hK => ?_)
            rw [if_pos (by kernel_rfl)]
            refine app_atL 39 _ _ 25 rfl rfl base 50 i1 (.agg #[.int .i64 0, .slice none 0 0]) 2 32 Tryz.underlying25 hj hy0 hy1 hy2 rfl (by decide) (.slice aM Ns.length kM) Ns.length (mcells Ns) rfl L65.mc.own ⟨N17, 0, none⟩ 1 1 [.int .i64 m.o, .slice a15 m.L.length k15] rfl rfl C17 (fun u hu => by simp at hu; rcases hu with rfl | rfl <;> rfl) (by unfold maxLen; omega) (by omega) L65.bs ?_
            intro v18 y66 o18 g18 e18
            have L66 := L0.push (m := ⟨m.o, a15, k15, m.L⟩) By65 V15 R15 z15 (fun x h _ => i15 x h) o18 g18 e18
            obtain ⟨a18, k18, rfl⟩ := mown_slice o18
            clear o18 g18 e18
            refine hK _ _ ⟨L66.bel, ?_⟩
            clear hK K hi
            simp only [List.set_cons_zero, List.set_cons_succ]
            have hbS := L66.bel
            refine takeW 19 40 (.pointer (some ⟨N9, 1, none⟩)) rfl rfl (by kernel_rfl) (by kernel_rfl) (by kernel_rfl) (fun _ _ _ h => h) (by kernel_rfl) (by (intro w hSw; go_simp)) (by assumption) ?_
            simp only [List.set_cons_zero, List.set_cons_succ]
            have LS := L66.store a18 (Ns.length + 1) k18
            have hq := L66.at9.2.1
            have fq := L66.fz 1
            refine wpAnyH_all (rs := [20]) (by kernel_rfl) (by simp) ?_
            intro i hi; obtain rfl : i = 20 := by simpa using hi
            refine wpOp_step rfl (fun K hK => ?_)
            rw [if_pos (by kernel_rfl)]
            go_simp
            clear hq fq
            refine hK _ _ ⟨LS.bel, ?_⟩
            clear hK K hi
            refine wpAnyH_done (by kernel_rfl) ?_ _
            go_wp2
            go_roundw
            case rel => exact ⟨k + 1, _, _, _, by go_num, by omega, stp ⟨m.o, a15, k15, m.L⟩ rfl hN.out, by simpa using LS⟩
            case measure => simp [intOf]; omega
          · refine wpOp_step rfl (fun K hK => ?_)
            rw [if_pos (by kernel_rfl)]
            go_simp
            obtain ⟨N17, hN17⟩ : ∃ n, n = y63.heap.size := ⟨_, rfl⟩
            obtain ⟨y67, hy67⟩ : ∃ z, z = y63.alloc (Obj.cells #[.int .i64 m.o, .slice a15 m.L.length k15] 50) := ⟨_, rfl⟩
            have jy67 : Below y63.heap.size y63 y67 := by rw [hy67]; exact below_box _ _
            have C17 : ∀ j u, ([.int .i64 m.o, .slice a15 m.L.length k15] : List Value)[j]? = some u → y67.cell? ((⟨N17, 0, none⟩ : Addr).add j) = some u := by rw [hy67, hN17]; exact cells2 y63 _ _ _
            rw [← hN17, ← hy67]
            clear hN17 hy67
            have L67 := L63.later jy67
            have By67 : Below wr.heap.size wr y67 := By63.trans (jy67.mono By63.size)
            have V15 := ViewI.below V15 jy67 (Nat.le_refl _)
            have R15 := R15.carry (w' := y67) (fun x h _ => jy67.block _ (i15 x h).2)
            have i15 : ∀ x, a15 = some x → wr.heap.size ≤ x.block ∧ x.block < y67.heap.size := fun x h => ⟨(i15 x h).1, by have := (i15 x h).2; have := jy67.size; omega⟩
            refine hK _ _ ⟨L67.bel, ?_⟩
            clear hK K hi
            refine wpAnyH_all (rs := [1]) (by kernel_rfl) (by simp) ?_
            intro i hi; obtain rfl : i = 1 := by simpa using hi
            refine wpOp_step rfl (fun K hK => ?_)
            rw [if_pos (by kernel_rfl)]
            have hq := L67.at9.2.1
            go_simp
            clear hq
            refine hK _ _ ⟨L67.bel, ?_⟩
            clear hK K hi
            refine wpAnyH_all (rs := [18]) (by kernel_rfl) (by simp) ?_
            intro i hi; obtain rfl : i = 18 := by simpa using hi
            refine wpOp_step rfl (fun K hK => ?_)
            rw [if_pos (by kernel_rfl)]
            refine app_atL 39 _ _ 25 rfl rfl base 50 i1 (.agg #[.int .i64 0, .slice none 0 0]) 2 32 Tryz.underlying25 hj hy0 hy1 hy2 rfl (by decide) (.slice aM Ns.length kM) Ns.length (mcells Ns) rfl L67.mc.own ⟨N17, 0, none⟩ 1 1 [.int .i64 m.o, .slice a15 m.L.length k15] rfl rfl C17 (fun u hu => by simp at hu; rcases hu with rfl | rfl <;> rfl) (by unfold maxLen; omega) (by omega) L67.bs ?_
            intro v18 y69 o18 g18 e18
            have L69 := L0.push (m := ⟨m.o, a15, k15, m.L⟩) By67 V15 R15 z15 (fun x h _ => i15 x h) o18 g18 e18
            obtain ⟨a18, k18, rfl⟩ := mown_slice o18
            clear o18 g18 e18
            refine hK _ _ ⟨L69.bel, ?_⟩
            clear hK K hi
            simp only [List.set_cons_zero, List.set_cons_succ]
            have hbS := L69.bel
            refine takeW 19 40 (.pointer (some ⟨N9, 1, none⟩)) rfl rfl (by kernel_rfl) (by kernel_rfl) (by kernel_rfl) (fun _ _ _ h => h) (by kernel_rfl) (by (intro w hSw; go_simp)) (by assumption) ?_
            simp only [List.set_cons_zero, List.set_cons_succ]
            have LS := L69.store a18 (Ns.length + 1) k18
            have hq := L69.at9.2.1
            have fq := L69.fz 1
            refine wpAnyH_all (rs := [20]) (by kernel_rfl) (by simp) ?_
            intro i hi; obtain rfl : i = 20 := by simpa using hi
            refine wpOp_step rfl (fun K hK => ?_)
            rw [if_pos (by kernel_rfl)]
            go_simp
            clear hq fq
            refine hK _ _ ⟨LS.bel, ?_⟩
            clear hK K hi
            refine wpAnyH_done (by kernel_rfl) ?_ _
            go_wp2
            go_roundw
            case rel => exact ⟨k + 1, _, _, _, by go_num, by omega, stp ⟨m.o, a15, k15, m.L⟩ rfl hN.out, by simpa using LS⟩
            case measure => simp [intOf]; omega
    · obtain rfl : k = Ms.length := by omega
      have hN' := hN.out
      rw [List.take_length] at hN'
      have hNl : Ns.length = Ms.length := by have := congrArg List.length hN'; simpa using this
      have hNM := LL.mc.done
      obtain ⟨ad, cap, fp, e, w2, f2⟩ := hNM
      cases e
      rw [hNl] at LL
      have D9 := LL.at9
      obtain ⟨d1, d2, d3⟩ := D9
      have hNr := C0.below LL.bel P1
      obtain ⟨r1, r2, r3⟩ := hNr
      have g := fz_below F0 LL.bel P1
      have g0 := g 0
      have g1 := g 1
      have g2 := g 2
      have hn9 := LL.n9
      go_wp2
      obtain ⟨z, hz⟩ : ∃ z, z = ((wr.setCell ⟨P + 1, 0, none⟩ (.slice aO O.length kO)).setCell ⟨P + 1, 1, none⟩ (.slice aM Ms.length kM)).setCell ⟨P + 1, 2, none⟩ (.slice aT T.length kT) := ⟨_, rfl⟩
      have q1 : z.cell? ⟨P + 1, 0, none⟩ = some (.slice aO O.length kO) := by rw [hz, cell_set_ne (by omega), cell_set_ne (by omega)]; exact cell_set_same ⟨_, r1⟩
      have q2 : z.cell? ⟨P + 1, 1, none⟩ = some (.slice aM Ms.length kM) := by rw [hz, cell_set_ne (by omega)]; exact cell_set_same ⟨_, (cell_set_ne (by omega)).trans r2⟩
      have q3 : z.cell? ⟨P + 1, 2, none⟩ = some (.slice aT T.length kT) := by rw [hz]; exact cell_set_same ⟨_, (cell_set_ne (by omega)).trans ((cell_set_ne (by omega)).trans r3)⟩
      have zh : ∀ j, j ≠ P + 1 → z.heap[j]? = wr.heap[j]? := fun j hj => by rw [hz]; exact heap_set3 hj
      have zs : z.heap.size = wr.heap.size := by rw [hz]; simp
      have BZ : Below w.heap.size w z := by rw [hz]; exact (((B0.trans (LL.bel.mono B0.size)).setCell (by show w.heap.size ≤ P + 1; omega) _).setCell (by show w.heap.size ≤ P + 1; omega) _).setCell (by show w.heap.size ≤ P + 1; omega) _
      rw [← hz]
      clear hz r1 r2 r3 g0 g1 g2 d1 d2 d3
      refine bodyPost_ret (v := .agg #[.slice aO O.length kO, .slice aM Ms.length kM, .slice aT T.length kT]) (by simp [results, Tryz.results44, go_sem, q1, q2, q3]) rfl ?_
      have bb := LL.bs
      have iO := LL.iO
      have iT := LL.iT
      have sx := B0.size
      refine ⟨aO, kO, aM, kM, aT, kT, by rw [List.length_map], ⟨LL.vO.carry (fun x e _ => zh _ (by have := iO x e; omega)), LL.rO.carry (fun x e _ => zh _ (by have := iO x e; omega)), fun x e _ => by have := iO x e; omega, ⟨Ns, fp, hN', w2.keep (fun x hx => zh x (by have := f2 x hx; omega)), fun x hx => by have := f2 x hx; omega, fun x e _ hx => by have := f2 _ hx; have := iO x e; omega, fun x e _ hx => by have := f2 _ hx; have := iT x e; omega⟩, LL.vT.carry (fun x e _ => zh _ (by have := iT x e; omega)), LL.rT.carry (fun x e _ => zh _ (by have := iT x e; omega)), fun x e _ => by have := iT x e; omega, fun x y e f _ _ => LL.apart x y e f⟩, BZ⟩

end Go.Proofs.YtifndemkkaelaaaGreat
