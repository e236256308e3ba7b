/- FnSameLog, proved: at every code who has the drawn log makes the same bridge of it, all at once and from any of its beginnings on, and says the same; the program answers as the specification; no condition. -/
import Derived.Test.YtghmmcenjdbfgaaRows
import Derived.Test.YtghmmcenjdbfgaaZl
import Derived.Test.YtghmmcenjdbfgaaTakes
import Derived.Deep.Cut
import Derived.Laws.StructEq
import Derived.WalkKit
import Derived.Below
import Derived.ChangeOld
import Derived.WalkSmall
import Derived.ProofKit
import Derived.OpenShut
import Derived.ShutString
import Derived.BigQuiet
namespace Go.Proofs.Ytghmmcenjdbfgaa.fnSameLog
open Go.ChangeShapes Go.WideShapes Go.ChangeAt Go.RowKit
set_option linter.unusedVariables false

theorem own : ownKnob Try.prog.godebug = none := by kernel_rfl
theorem laidOut : laidOutB Try.prog = true := by kernel_rfl

set_option maxHeartbeats 32000000 in
set_option maxRecDepth 100000 in
theorem walk (ad0 : Option Addr) (len0 cap0 : Nat) (f0 : Nat → Int) (w : World) (I0 : CodeIn w ad0 len0 f0) :
    Calls Try.prog 4 #[.slice ad0 len0 cap0] w fun e w' => e = .returned (.bool true) ∧ Below w.heap.size w w' := by
  obtain ⟨lm, hv, hB, hf⟩ := I0
  by_cases hbig : 1048576 < len0
  · have hbig' : (1048576 : Int) < (len0 : Int) := by omega
    go_enter Try.func4, Try.ntmps4
    go_wp2_with fail
    go_at_call 9
    refine (bigYes ad0 len0 cap0 w hbig').mono ?_
    rintro e w1 ⟨rfl, h1⟩
    rw [h1]
    clear h1 w1 hbig
    go_wp2
    go_ret
    exact ⟨rfl, Below.refl _ _⟩
  have hC : Code0 w ad0 len0 f0 := ⟨hv, hB, by omega, hf⟩
  go_enter Try.func4, Try.ntmps4
  go_wp2_with fail
  go_at_call 9
  refine (bigNo ad0 len0 cap0 w (by omega)).mono ?_
  rintro e w1 ⟨rfl, h1⟩
  rw [h1]
  clear h1 w1 hbig hv hB hf lm
  have BW : Below w.heap.size w w := Below.refl _ _
  have sw := BW.size
  go_wp2_with fail
  go_at_call 16
  refine (drawBO ad0 len0 cap0 f0 w (hC.later BW (Nat.le_refl _))).mono ?_
  rintro e wd1 ⟨id, n, g, c, X, rfl, hX, OX, kq⟩
  have swd1 := kq.size
  have BW := BW.trans (kq.mono BW.size)
  clear kq
  have iOX : ∀ g_, (Value.slice (some ⟨g, 0, none⟩) X.length c).ownBlock = some g_ → w.heap.size ≤ g_ ∧ g_ < wd1.heap.size := fun g_ e => OX.lt g_ e
  have hcp := OX.cap
  obtain ⟨I, hI⟩ : ∃ v, newI id n = v := ⟨_, rfl⟩
  obtain ⟨D, hD⟩ : ∃ v, ofR id n X = v := ⟨_, rfl⟩
  have hD4 : D.length ≤ 4 := by rw [← hD]; exact ofR_len id n X
  replace hI : Hid _ := hI
  replace hD : Hid _ := hD
  go_wp2_with fail
  go_at_call 17
  refine (bofI id n (some ⟨g, 0, none⟩) c X wd1 OX.view.2 (by omega)).mono ?_
  rintro e wd2 ⟨aB, cB, rfl, OB, kq⟩
  have swd2 := kq.size
  have OX := OX.later kq
  have BW := BW.trans (kq.mono BW.size)
  clear kq
  rw [hD.out] at OB ⊢
  rw [hI.out]
  have iOB : ∀ g, (Value.slice aB D.length cB).ownBlock = some g → wd1.heap.size ≤ g ∧ g < wd2.heap.size := fun g e => OB.lt g e
  obtain ⟨wd3, hwd3⟩ : ∃ y_, y_ = wd2.alloc (Obj.cells #[.int .i64 I, .slice aB D.length cB] 26) := ⟨_, rfl⟩
  have AB : BrAt wd3 wd2.heap.size I (.slice aB D.length cB) := by rw [hwd3]; exact BrAt.new wd2 _ _ _
  have kq : Below wd2.heap.size wd2 wd3 := by rw [hwd3]; exact below_new _
  have lwd3 := AB.lt
  have swd3 := kq.size
  have OX := OX.later kq
  have OB := OB.later kq
  have BW := BW.trans (kq.mono BW.size)
  clear kq
  go_upto_region 5 with fail
  rw [← hwd3]
  clear hwd3
  refine wp_region_held (S := fun Y => Below wd3.heap.size wd3 Y) (by kernel_rfl) ?_
  change wpAnyH _ _ _ _ _ _ _ _ (World.drew _)
  have hb0 : Below wd3.heap.size wd3 wd3.drew := (Below.refl _ _).drew
  obtain ⟨u0, hy0⟩ : ∃ y_, y_ = wd3.drew := ⟨_, rfl⟩
  rw [← hy0] at hb0 ⊢
  clear hy0
  refine takeW 0 34 (.agg #[.int .i64 I, .slice aB D.length cB]) rfl rfl (by kernel_rfl) (by kernel_rfl) (by kernel_rfl) (fun _ _ _ h => h) (by kernel_rfl) (by (intro Y hSw; obtain ⟨X0_, X1_⟩ := AB.below hSw AB.lt; go_simp)) (by assumption) ?_
  simp only [List.set_cons_zero, List.set_cons_succ]
  refine takeW 1 35 (.int .i64 id) rfl rfl (by kernel_rfl) (by kernel_rfl) (by kernel_rfl) (fun _ _ _ h => h) (by kernel_rfl) (by (intro w hSw; go_simp)) (by assumption) ?_
  simp only [List.set_cons_zero, List.set_cons_succ]
  refine takeW 2 36 (.int .i64 n) rfl rfl (by kernel_rfl) (by kernel_rfl) (by kernel_rfl) (fun _ _ _ h => h) (by kernel_rfl) (by (intro w hSw; go_simp)) (by assumption) ?_
  simp only [List.set_cons_zero, List.set_cons_succ]
  refine takeW 3 37 (.slice (some ⟨g, 0, none⟩) X.length c) rfl rfl (by kernel_rfl) (by kernel_rfl) (by kernel_rfl) (fun _ _ _ h => h) (by kernel_rfl) (by (intro w hSw; go_simp)) (by assumption) ?_
  simp only [List.set_cons_zero, List.set_cons_succ]
  refine wpAnyH_all (rs := [4]) (by kernel_rfl) (by simp) ?_
  intro i hi; obtain rfl : i = 4 := by simpa using hi
  refine wpOp_step rfl (fun Kz hKz => ?_)
  rw [if_pos (by kernel_rfl)]
  go_simp
  go_at_call 18
  refine (bofS id n (some ⟨g, 0, none⟩) c X u0 (OX.later hb0).view.2 (by omega)).mono ?_
  rintro e u1 ⟨aS, cS, rfl, OS, kq⟩
  rw [hD.out] at OS ⊢
  rw [hI.out]
  have hb1 : Below wd3.heap.size wd3 u1 := hb0.trans (kq.mono hb0.size)
  clear kq
  refine hKz _ _ ⟨hb1, ?_⟩
  clear hKz Kz hi
  refine wpAnyH_all (rs := [5]) (by kernel_rfl) (by simp) ?_
  intro i hi; obtain rfl : i = 5 := by simpa using hi
  refine wpOp_step rfl (fun Kz hKz => ?_)
  rw [if_pos (by kernel_rfl)]
  go_simp
  go_at_call 13
  refine (brSame I aB aS cB cS D u1 (OB.later hb1).view.2 OS.view.2 (by omega)).mono ?_
  rintro e u2 ⟨rfl, kq⟩
  have hb2 : Below wd3.heap.size wd3 u2 := hb1.trans (kq.mono hb1.size)
  clear kq OS
  refine hKz _ _ ⟨hb2, ?_⟩
  clear hKz Kz hi
  refine takeW 6 40 (.bool false) rfl rfl (by kernel_rfl) (by kernel_rfl) (by kernel_rfl) (fun _ _ _ h => h) (by kernel_rfl) (by (intro w hSw; go_simp)) (by assumption) ?_
  simp only [List.set_cons_zero, List.set_cons_succ]
  refine wpAnyH_done (by kernel_rfl) ?_ _
  have su2 := hb2.size
  have OX := OX.later hb2
  have OB := OB.later hb2
  have AB := AB.below hb2 AB.lt
  have BW := BW.trans (hb2.mono BW.size)
  clear hb2
  clear hb0 hb1
  go_wp2_with fail
  go_at_call 19
  refine (atIs ad0 len0 cap0 f0 u2 (hC.later BW (Nat.le_refl _))).mono ?_
  rintro e wd4 ⟨v, rfl, v0, v1, hw_⟩
  have kq : Below u2.heap.size u2 wd4 := by rw [hw_]; exact Below.refl _ _
  clear hw_
  have swd4 := kq.size
  have OX := OX.later kq
  have OB := OB.later kq
  have AB := AB.below kq AB.lt
  have BW := BW.trans (kq.mono BW.size)
  clear kq
  obtain ⟨kk, hkk⟩ : ∃ kk : Nat, v.tmod ((X.length : Int) + 1) = (kk : Int) := ⟨(v.tmod ((X.length : Int) + 1)).toNat, by have := Int.tmod_nonneg ((X.length : Int) + 1) v0; omega⟩
  have hkX : kk ≤ X.length := by have := Int.tmod_lt_of_pos v (show 0 < (X.length : Int) + 1 by omega); omega
  have hkc : ¬ (c < kk) := by omega
  have hne0 : ¬ ((X.length : Int) + 1 = 0) := by omega
  have hkl : Hid ((X.take kk).length = kk) := by unfold Hid; rw [List.length_take]; omega
  obtain ⟨M, hM⟩ : ∃ v, ofR id n (X.take kk) = v := ⟨_, rfl⟩
  have hM4 : M.length ≤ 4 := by rw [← hM]; exact ofR_len id n _
  replace hM : Hid _ := hM
  go_wp2_with fail
  go_at_call 17
  refine (show Calls _ _ _ _ _ by have h_ := bofI id n (some ⟨g, 0, none⟩) c (X.take kk) wd4 (OX.view.2.take kk) (by rw [hkl.out]; omega); rw [hkl.out] at h_; exact h_).mono ?_
  rintro e wd5 ⟨aK, cK, rfl, OK, kq⟩
  rw [hM.out] at OK ⊢
  rw [hI.out]
  have swd5 := kq.size
  have OX := OX.later kq
  have OB := OB.later kq
  have AB := AB.below kq AB.lt
  have BW := BW.trans (kq.mono BW.size)
  clear kq
  have iOK : ∀ g, (Value.slice aK M.length cK).ownBlock = some g → wd4.heap.size ≤ g ∧ g < wd5.heap.size := fun g e => OK.lt g e
  have lAB := AB.lt
  have lOB : ∀ g', (Value.slice aB D.length cB).ownBlock = some g' → g' < wd5.heap.size := fun g' e => (OB.lt g' e).2
  have lOX : g < wd5.heap.size := (OX.lt g rfl).2
  have lOK : ∀ g', (Value.slice aK M.length cK).ownBlock = some g' → g' < wd5.heap.size := fun g' e => (OK.lt g' e).2
  have BWz := BW.size
  clear hkk hkc hne0 v0 v1
  obtain ⟨wd6, hwd6⟩ : ∃ y_, y_ = wd5.alloc (Obj.cells #[.int .i64 I, .slice aK M.length cK] 26) := ⟨_, rfl⟩
  have AK : BBox wd6 wd5.heap.size I (.slice aK M.length cK) := by rw [hwd6]; exact BBox.new wd5 _ _ _
  have kq : Below wd5.heap.size wd5 wd6 := by rw [hwd6]; exact below_new _
  have lwd6 := AK.lt
  have swd6 := kq.size
  have OX := OX.later kq
  have OB := OB.later kq
  have AB := AB.below kq AB.lt
  have OK := OK.later kq
  have BW := BW.trans (kq.mono BW.size)
  clear kq
  go_upto_region 9 with fail
  rw [← hwd6]
  clear hwd6
  obtain ⟨p, hp⟩ : ∃ p, p = wd5.heap.size := ⟨_, rfl⟩
  rw [← hp] at AK lAB lOB lOX lOK BWz lwd6 ⊢
  clear hp
  have oK : FOwn ptEnc 11 43 w.heap.size wd6 (.slice aK M.length cK) M := OK.base (by omega)
  have jK : ∀ g', (Value.slice aK M.length cK).ownBlock = some g' → g' ≠ p := fun g' e => by have := lOK g' e; omega
  clear OK iOK lOK
  go_wp2
  go_loopw [9] (fun i wr => ∃ (k : Nat) (a_ : Option Addr) (c_ : Nat) (M_ : List Pt), kk ≤ k ∧ k ≤ X.length ∧ i = .int .i64 (k : Int) ∧ ofR id n (X.take k) = M_ ∧ BBox wr p I (.slice a_ M_.length c_) ∧ FOwn ptEnc 11 43 w.heap.size wr (.slice a_ M_.length c_) M_ ∧ (∀ g', (Value.slice a_ M_.length c_).ownBlock = some g' → g' ≠ p) ∧ Below p wd6 wr) (fun i _ => X.length - (intOf i).toNat)
  case atStart => exact ⟨kk, aK, cK, M, Nat.le_refl _, hkX, rfl, hM.out, AK, oK, jK, Below.refl _ _⟩
  case round =>
    clear AK oK jK hM hM4 hkl
    obtain ⟨k, a, c2, M, hkk, hkX, rfl, hM, AK, oK, jK, K⟩ := hrel
    have hM4 : M.length ≤ 4 := by rw [← hM]; exact ofR_len id n _
    have xO := OX.below K (fun g' e => by cases e; exact lOX)
    have ks := K.size
    have bw := BW.trans (K.mono (by omega))
    by_cases hlt : k < X.length
    · obtain ⟨x, hx⟩ : ∃ x, X.getD k Ik.nil = x := ⟨_, rfl⟩
      have hS : sayR id n X (k : Int) = reactO I M x := by
        unfold sayR
        rw [sayL_at _ _ X Ik.nil hlt, hx, hI.out, ← hM]
        unfold ofR
        rw [hI.out]
      have hst : ofR id n (X.take (k + 1)) = reactL I M x := by
        unfold ofR
        rw [ofL_step _ _ X Ik.nil hlt, hx, hI.out, ← hM]
        unfold ofR
        rw [hI.out]
      obtain ⟨M2, hM2⟩ : ∃ v, reactL I M x = v := ⟨_, rfl⟩
      obtain ⟨OO, hOO⟩ : ∃ v, reactO I M x = v := ⟨_, rfl⟩
      rw [hM2] at hst
      rw [hOO] at hS
      have hO8 : OO.length ≤ 8 := by rw [← hOO]; exact reactO_len I M x
      replace hM : Hid _ := hM
      replace hM2 : Hid _ := hM2
      replace hOO : Hid _ := hOO
      replace hS : Hid _ := hS
      replace hst : Hid _ := hst
      have hck : ∀ Y, Below wr.heap.size wr Y → IkAtO Y g (k * 8) x := fun Y hY => by rw [← hx]; have := ikAtO_of ((xO.later hY).view.2.at_ ikEnc_len Ik.nil hlt); rwa [Nat.zero_add] at this
      clear hx
      go_upto_region 12 with fail
      refine join_region (fun l l' W' => ∃ (P : Nat) (a2 : Option Addr) (d2 : Nat) (o2 : Option Addr) (e2 : Nat) (us : List Value), us.length = 9 ∧ l' = l.take 10 ++ (.pointer (some ⟨P, 0, none⟩) :: (.slice o2 OO.length e2) :: (l.drop 12).take 48) ++ us ++ l.drop 69 ∧ BBox W' P I (.slice a2 M2.length d2) ∧ FOwn ptEnc 11 43 wr.heap.size W' (.slice a2 M2.length d2) M2 ∧ FOwn ouEnc 8 38 wr.heap.size W' (.slice o2 OO.length e2) OO ∧ (∀ g_, (Value.slice a2 M2.length d2).ownBlock = some g_ → g_ ≠ P) ∧ wr.heap.size ≤ P ∧ Below wr.heap.size wr W') ?_ ?_
      rotate_left
      · intro K2 hT3
        refine wp_region_held (S := fun Y => Below wr.heap.size wr Y) (by kernel_rfl) ?_
        change wpAnyH _ _ _ _ _ _ _ _ (World.drew _)
        have hb0 : Below wr.heap.size wr wr.drew := (Below.refl _ _).drew
        obtain ⟨u0, hy0⟩ : ∃ y_, y_ = wr.drew := ⟨_, rfl⟩
        rw [← hy0] at hb0 ⊢
        clear hy0
        refine takeW 0 61 (.agg #[.int .i64 I, .slice a M.length c2]) rfl rfl (by kernel_rfl) (by kernel_rfl) (by kernel_rfl) (fun _ _ _ h => h) (by kernel_rfl) (by (intro Y hSw; obtain ⟨⟨X0_, X1_⟩, _⟩ := AK.below hSw AK.lt; go_simp)) (by assumption) ?_
        simp only [List.set_cons_zero, List.set_cons_succ]
        refine takeW 1 62 (.slice (some ⟨g, 0, none⟩) X.length c) rfl rfl (by kernel_rfl) (by kernel_rfl) (by kernel_rfl) (fun _ _ _ h => h) (by kernel_rfl) (by (intro w hSw; go_simp)) (by assumption) ?_
        simp only [List.set_cons_zero, List.set_cons_succ]
        refine takeW 2 63 (.int .i64 (k : Int)) rfl rfl (by kernel_rfl) (by kernel_rfl) (by kernel_rfl) (fun _ _ _ h => h) (by kernel_rfl) (by (intro w hSw; go_simp)) (by assumption) ?_
        simp only [List.set_cons_zero, List.set_cons_succ]
        refine takeW 3 64 (.pointer (some ⟨g, k * 8, none⟩)) rfl rfl (by kernel_rfl) (by kernel_rfl) (by kernel_rfl) (fun _ _ _ h => h) (by kernel_rfl) (by (intro Y hSw; go_simp; try omega)) (by assumption) ?_
        simp only [List.set_cons_zero, List.set_cons_succ]
        refine takeW 4 65 (.agg #[.int .i64 x.k, .int .i64 x.q, .int .i64 x.r, .int .i64 x.c, .int .i64 x.b, .int .i64 x.p, .int .i64 x.h, .bool x.up]) rfl rfl (by kernel_rfl) (by kernel_rfl) (by kernel_rfl) (fun _ _ _ h => h) (by kernel_rfl) (by (intro Y hSw; obtain ⟨X0_, X1_, X2_, X3_, X4_, X5_, X6_, X7_⟩ := hck Y hSw; go_simp)) (by assumption) ?_
        simp only [List.set_cons_zero, List.set_cons_succ]
        refine wpAnyH_all (rs := [5, 9]) (by kernel_rfl) (by simp) ?_
        intro i hi; rcases (by simpa using hi : i = 5 ∨ i = 9) with rfl | rfl
        · refine wpOp_step rfl (fun K hK => ?_)
          rw [if_pos (by kernel_rfl)]
          go_simp
          go_at_call 11
          refine (reactI I a c2 M x u0 (oK.later hb0).view.2 (by omega) oK.capn).mono ?_
          have bb : wr.heap.size ≤ u0.heap.size := hb0.size
          rintro e u1 ⟨a2, d2, o2, e2, rfl, O2, Q2, _, kq⟩
          rw [hM2.out] at O2 ⊢
          rw [hOO.out] at Q2 ⊢
          have hb1 : Below wr.heap.size wr u1 := hb0.trans (kq.mono hb0.size)
          clear kq
          refine hK _ _ ⟨hb1, ?_⟩
          clear hK K hi
          refine takeW 6 60 (.tuple #[.agg #[.int .i64 I, .slice a2 M2.length d2], .slice o2 OO.length e2]) rfl rfl (by kernel_rfl) (by kernel_rfl) (by kernel_rfl) (fun _ _ _ h => h) (by kernel_rfl) (by (intro w hSw; go_simp)) (by assumption) ?_
          simp only [List.set_cons_zero, List.set_cons_succ]
          refine takeW 7 67 (.agg #[.int .i64 I, .slice a2 M2.length d2]) rfl rfl (by kernel_rfl) (by kernel_rfl) (by kernel_rfl) (fun _ _ _ h => h) (by kernel_rfl) (by (intro w hSw; go_simp)) (by assumption) ?_
          simp only [List.set_cons_zero, List.set_cons_succ]
          refine takeW 8 68 (.slice o2 OO.length e2) rfl rfl (by kernel_rfl) (by kernel_rfl) (by kernel_rfl) (fun _ _ _ h => h) (by kernel_rfl) (by (intro w hSw; go_simp)) (by assumption) ?_
          simp only [List.set_cons_zero, List.set_cons_succ]
          refine wpAnyH_all (rs := [9]) (by kernel_rfl) (by simp) ?_
          intro i hi; obtain rfl : i = 9 := by simpa using hi
          refine wpOp_step rfl (fun K hK => ?_)
          rw [if_pos (by kernel_rfl)]
          go_simp
          obtain ⟨u2, hy⟩ : ∃ y_, y_ = u1.alloc (Obj.cells #[.int .i64 0, .slice none 0 0] 26) := ⟨_, rfl⟩
          have kq : Below u1.heap.size u1 u2 := by rw [hy]; exact below_new _
          have jO2 : ∀ g_, (Value.slice a2 M2.length d2).ownBlock = some g_ → g_ ≠ u1.heap.size := fun g_ e => by have h1 := (O2.lt g_ e).2; omega
          have jQ2 : ∀ g_, (Value.slice o2 OO.length e2).ownBlock = some g_ → g_ ≠ u1.heap.size := fun g_ e => by have h1 := (Q2.lt g_ e).2; omega
          have O2 := O2.later kq
          have Q2 := Q2.later kq
          have FP : BBox u2 u1.heap.size 0 (.slice none 0 0) := by rw [hy]; exact BBox.new u1 _ _ _
          have pa : wr.heap.size ≤ u1.heap.size := hb1.size
          have hb2 : Below wr.heap.size wr u2 := hb1.trans (kq.mono hb1.size)
          rw [← hy]
          clear hy kq
          refine hK _ _ ⟨hb2, ?_⟩
          clear hK K hi
          refine wpAnyH_all (rs := [10]) (by kernel_rfl) (by simp) ?_
          intro i hi; obtain rfl : i = 10 := by simpa using hi
          refine wpOp_step rfl (fun K hK => ?_)
          rw [if_pos (by kernel_rfl)]
          have FQ := FP
          obtain ⟨⟨t0, t1⟩, tf⟩ := FP
          go_simp
          clear t0 t1 tf
          obtain ⟨uf, huf⟩ : ∃ y_, y_ = (u2.setCell ⟨u1.heap.size, 0, none⟩ (.int .i64 I)).setCell ⟨u1.heap.size, 1, none⟩ (.slice a2 M2.length d2) := ⟨_, rfl⟩
          have FE : BBox uf (u1.heap.size) I (.slice a2 M2.length d2) := by rw [huf]; exact FQ.put _ _
          have hbf : Below wr.heap.size wr uf := by rw [huf]; exact (hb2.setCell (p := ⟨u1.heap.size, 0, none⟩) pa _).setCell (p := ⟨u1.heap.size, 1, none⟩) pa _
          have O2 := O2.keep (w' := uf) (fun g_ e => by rw [huf, Below.heap_setCell _ _ _ _ (by show g_ ≠ u1.heap.size; exact jO2 g_ e), Below.heap_setCell _ _ _ _ (by show g_ ≠ u1.heap.size; exact jO2 g_ e)])
          have Q2 := Q2.keep (w' := uf) (fun g_ e => by rw [huf, Below.heap_setCell _ _ _ _ (by show g_ ≠ u1.heap.size; exact jQ2 g_ e), Below.heap_setCell _ _ _ _ (by show g_ ≠ u1.heap.size; exact jQ2 g_ e)])
          rw [← huf]
          clear huf FQ
          refine hK _ _ ⟨hbf, ?_⟩
          clear hK K hi
          refine takeW 11 11 (.slice o2 OO.length e2) rfl rfl (by kernel_rfl) (by kernel_rfl) (by kernel_rfl) (fun _ _ _ h => h) (by kernel_rfl) (by (intro w hSw; go_simp)) (by assumption) ?_
          simp only [List.set_cons_zero, List.set_cons_succ]
          refine wpAnyH_done (by kernel_rfl) ?_ _
          exact hT3.out _ _ ⟨u1.heap.size, a2, d2, o2, e2, [(.tuple #[.agg #[.int .i64 I, .slice a2 M2.length d2], .slice o2 OO.length e2]), (.agg #[.int .i64 I, .slice a M.length c2]), (.slice (some ⟨g, 0, none⟩) X.length c), (.int .i64 (k : Int)), (.pointer (some ⟨g, k * 8, none⟩)), (.agg #[.int .i64 x.k, .int .i64 x.q, .int .i64 x.r, .int .i64 x.c, .int .i64 x.b, .int .i64 x.p, .int .i64 x.h, .bool x.up]), (.tuple #[.agg #[.int .i64 I, .slice a2 M2.length d2], .slice o2 OO.length e2]), (.agg #[.int .i64 I, .slice a2 M2.length d2]), (.slice o2 OO.length e2)], rfl, by kernel_rfl, FE, O2.base bb, Q2.base bb, jO2, pa, hbf⟩
        · refine wpOp_step rfl (fun K hK => ?_)
          rw [if_pos (by kernel_rfl)]
          go_simp
          obtain ⟨u1, hy⟩ : ∃ y_, y_ = u0.alloc (Obj.cells #[.int .i64 0, .slice none 0 0] 26) := ⟨_, rfl⟩
          have kq : Below u0.heap.size u0 u1 := by rw [hy]; exact below_new _
          have FP : BBox u1 u0.heap.size 0 (.slice none 0 0) := by rw [hy]; exact BBox.new u0 _ _ _
          have pa : wr.heap.size ≤ u0.heap.size := hb0.size
          have hb1 : Below wr.heap.size wr u1 := hb0.trans (kq.mono hb0.size)
          rw [← hy]
          clear hy kq
          refine hK _ _ ⟨hb1, ?_⟩
          clear hK K hi
          refine wpAnyH_all (rs := [5]) (by kernel_rfl) (by simp) ?_
          intro i hi; obtain rfl : i = 5 := by simpa using hi
          refine wpOp_step rfl (fun K hK => ?_)
          rw [if_pos (by kernel_rfl)]
          go_simp
          go_at_call 11
          refine (reactI I a c2 M x u1 (oK.later hb1).view.2 (by omega) oK.capn).mono ?_
          have bb : wr.heap.size ≤ u1.heap.size := hb1.size
          rintro e u2 ⟨a2, d2, o2, e2, rfl, O2, Q2, _, kq⟩
          rw [hM2.out] at O2 ⊢
          rw [hOO.out] at Q2 ⊢
          have jO2 : ∀ g_, (Value.slice a2 M2.length d2).ownBlock = some g_ → g_ ≠ u0.heap.size := fun g_ e => by have h1 := (O2.lt g_ e).1; have h2 := FP.lt; omega
          have jQ2 : ∀ g_, (Value.slice o2 OO.length e2).ownBlock = some g_ → g_ ≠ u0.heap.size := fun g_ e => by have h1 := (Q2.lt g_ e).1; have h2 := FP.lt; omega
          have FP := FP.below kq FP.lt
          have hb2 : Below wr.heap.size wr u2 := hb1.trans (kq.mono hb1.size)
          clear kq
          refine hK _ _ ⟨hb2, ?_⟩
          clear hK K hi
          refine takeW 6 60 (.tuple #[.agg #[.int .i64 I, .slice a2 M2.length d2], .slice o2 OO.length e2]) rfl rfl (by kernel_rfl) (by kernel_rfl) (by kernel_rfl) (fun _ _ _ h => h) (by kernel_rfl) (by (intro w hSw; go_simp)) (by assumption) ?_
          simp only [List.set_cons_zero, List.set_cons_succ]
          refine takeW 7 67 (.agg #[.int .i64 I, .slice a2 M2.length d2]) rfl rfl (by kernel_rfl) (by kernel_rfl) (by kernel_rfl) (fun _ _ _ h => h) (by kernel_rfl) (by (intro w hSw; go_simp)) (by assumption) ?_
          simp only [List.set_cons_zero, List.set_cons_succ]
          refine takeW 8 68 (.slice o2 OO.length e2) rfl rfl (by kernel_rfl) (by kernel_rfl) (by kernel_rfl) (fun _ _ _ h => h) (by kernel_rfl) (by (intro w hSw; go_simp)) (by assumption) ?_
          simp only [List.set_cons_zero, List.set_cons_succ]
          refine wpAnyH_all (rs := [10]) (by kernel_rfl) (by simp) ?_
          intro i hi; obtain rfl : i = 10 := by simpa using hi
          refine wpOp_step rfl (fun K hK => ?_)
          rw [if_pos (by kernel_rfl)]
          have FQ := FP
          obtain ⟨⟨t0, t1⟩, tf⟩ := FP
          go_simp
          clear t0 t1 tf
          obtain ⟨uf, huf⟩ : ∃ y_, y_ = (u2.setCell ⟨u0.heap.size, 0, none⟩ (.int .i64 I)).setCell ⟨u0.heap.size, 1, none⟩ (.slice a2 M2.length d2) := ⟨_, rfl⟩
          have FE : BBox uf (u0.heap.size) I (.slice a2 M2.length d2) := by rw [huf]; exact FQ.put _ _
          have hbf : Below wr.heap.size wr uf := by rw [huf]; exact (hb2.setCell (p := ⟨u0.heap.size, 0, none⟩) pa _).setCell (p := ⟨u0.heap.size, 1, none⟩) pa _
          have O2 := O2.keep (w' := uf) (fun g_ e => by rw [huf, Below.heap_setCell _ _ _ _ (by show g_ ≠ u0.heap.size; exact jO2 g_ e), Below.heap_setCell _ _ _ _ (by show g_ ≠ u0.heap.size; exact jO2 g_ e)])
          have Q2 := Q2.keep (w' := uf) (fun g_ e => by rw [huf, Below.heap_setCell _ _ _ _ (by show g_ ≠ u0.heap.size; exact jQ2 g_ e), Below.heap_setCell _ _ _ _ (by show g_ ≠ u0.heap.size; exact jQ2 g_ e)])
          rw [← huf]
          clear huf FQ
          refine hK _ _ ⟨hbf, ?_⟩
          clear hK K hi
          refine takeW 11 11 (.slice o2 OO.length e2) rfl rfl (by kernel_rfl) (by kernel_rfl) (by kernel_rfl) (fun _ _ _ h => h) (by kernel_rfl) (by (intro w hSw; go_simp)) (by assumption) ?_
          simp only [List.set_cons_zero, List.set_cons_succ]
          refine wpAnyH_done (by kernel_rfl) ?_ _
          exact hT3.out _ _ ⟨u0.heap.size, a2, d2, o2, e2, [(.tuple #[.agg #[.int .i64 I, .slice a2 M2.length d2], .slice o2 OO.length e2]), (.agg #[.int .i64 I, .slice a M.length c2]), (.slice (some ⟨g, 0, none⟩) X.length c), (.int .i64 (k : Int)), (.pointer (some ⟨g, k * 8, none⟩)), (.agg #[.int .i64 x.k, .int .i64 x.q, .int .i64 x.r, .int .i64 x.c, .int .i64 x.b, .int .i64 x.p, .int .i64 x.h, .bool x.up]), (.tuple #[.agg #[.int .i64 I, .slice a2 M2.length d2], .slice o2 OO.length e2]), (.agg #[.int .i64 I, .slice a2 M2.length d2]), (.slice o2 OO.length e2)], rfl, by kernel_rfl, FE, O2.base bb, Q2.base bb, jO2, pa, hbf⟩
      rintro l' v1 ⟨P, a2, d2, o2, e2, us, hul, rfl, FE, O2, Q2, jO2, pP, k1⟩
      obtain ⟨u60, us, rfl⟩ : ∃ a b, us = a :: b := List.exists_cons_of_length_eq_add_one hul
      replace hul := Nat.succ.inj hul
      obtain ⟨u61, us, rfl⟩ : ∃ a b, us = a :: b := List.exists_cons_of_length_eq_add_one hul
      replace hul := Nat.succ.inj hul
      obtain ⟨u62, us, rfl⟩ : ∃ a b, us = a :: b := List.exists_cons_of_length_eq_add_one hul
      replace hul := Nat.succ.inj hul
      obtain ⟨u63, us, rfl⟩ : ∃ a b, us = a :: b := List.exists_cons_of_length_eq_add_one hul
      replace hul := Nat.succ.inj hul
      obtain ⟨u64, us, rfl⟩ : ∃ a b, us = a :: b := List.exists_cons_of_length_eq_add_one hul
      replace hul := Nat.succ.inj hul
      obtain ⟨u65, us, rfl⟩ : ∃ a b, us = a :: b := List.exists_cons_of_length_eq_add_one hul
      replace hul := Nat.succ.inj hul
      obtain ⟨u66, us, rfl⟩ : ∃ a b, us = a :: b := List.exists_cons_of_length_eq_add_one hul
      replace hul := Nat.succ.inj hul
      obtain ⟨u67, us, rfl⟩ : ∃ a b, us = a :: b := List.exists_cons_of_length_eq_add_one hul
      replace hul := Nat.succ.inj hul
      obtain ⟨u68, us, rfl⟩ : ∃ a b, us = a :: b := List.exists_cons_of_length_eq_add_one hul
      replace hul := Nat.succ.inj hul
      obtain rfl : us = [] := List.eq_nil_of_length_eq_zero hul
      clear hul
      simp only [List.take, List.drop, List.cons_append, List.nil_append]
      have lp := AK.lt
      have AK := AK.below k1 AK.lt
      have xO := xO.later k1
      have lP := FE.lt
      have s1 := k1.size
      have K1 := K.trans (k1.mono (by omega))
      clear oK jK hck k1 K
      go_wp2_with fail
      go_at_call 20
      refine (sayI id n (some ⟨g, 0, none⟩) c X (k : Int) v1 xO.view.2 (by omega) hcp).mono ?_
      rintro e v2 ⟨a3, d3, rfl, Q3, k2⟩
      rw [hS.out] at Q3 ⊢
      have AK := AK.below k2 AK.lt
      have FE := FE.below k2 FE.lt
      have O2 := O2.later k2
      have Q2 := Q2.later k2
      have K2 := K1.trans (k2.mono (by omega))
      have s2 := k2.size
      clear k2 K1 xO
      go_wp2
      go_loopw [13] (fun i wr => ∃ j : Nat, j ≤ OO.length ∧ i = .int .i64 (j : Int) ∧ Below v2.heap.size v2 wr) (fun i _ => OO.length - (intOf i).toNat)
      case atStart => exact ⟨0, Nat.zero_le _, rfl, Below.refl _ _⟩
      case round =>
        clear bw
        obtain ⟨j, hj, rfl, KI⟩ := hrel
        have qA := (Q2.later KI).view.2
        have qC := (Q3.later KI).view.2
        rename_i _
        by_cases hlt2 : j < OO.length
        · obtain ⟨ba, oa, rfl, _⟩ := qA (by omega)
          obtain ⟨bc, oc, rfl, _⟩ := qC (by omega)
          obtain ⟨o, ho⟩ : ∃ o, OO.getD j Ou.nil = o := ⟨_, rfl⟩
          have hA : ∀ Y, Below wr.heap.size wr Y → OuAtO Y ba (oa + j * 8) o := fun Y hY => by rw [← ho]; exact ouAtO_of ((qA.below hY (qA.lt ouEnc_len (by omega))).at_ ouEnc_len Ou.nil hlt2)
          have hC' : ∀ Y, Below wr.heap.size wr Y → OuAtO Y bc (oc + j * 8) o := fun Y hY => by rw [← ho]; exact ouAtO_of ((qC.below hY (qC.lt ouEnc_len (by omega))).at_ ouEnc_len Ou.nil hlt2)
          clear ho
          go_upto_region 19 with fail
          refine wp_region_held (S := fun Y => Below wr.heap.size wr Y) (by kernel_rfl) ?_
          change wpAnyH _ _ _ _ _ _ _ _ (World.drew _)
          have hb0 : Below wr.heap.size wr wr.drew := (Below.refl _ _).drew
          obtain ⟨u0, hy0⟩ : ∃ y_, y_ = wr.drew := ⟨_, rfl⟩
          rw [← hy0] at hb0 ⊢
          clear hy0
          refine takeW 0 85 (.slice (some ⟨ba, oa, none⟩) OO.length e2) rfl rfl (by kernel_rfl) (by kernel_rfl) (by kernel_rfl) (fun _ _ _ h => h) (by kernel_rfl) (by (intro w hSw; go_simp)) (by assumption) ?_
          simp only [List.set_cons_zero, List.set_cons_succ]
          refine takeW 1 86 (.int .i64 (j : Int)) rfl rfl (by kernel_rfl) (by kernel_rfl) (by kernel_rfl) (fun _ _ _ h => h) (by kernel_rfl) (by (intro w hSw; go_simp)) (by assumption) ?_
          simp only [List.set_cons_zero, List.set_cons_succ]
          refine takeW 2 87 (.pointer (some ⟨ba, oa + j * 8, none⟩)) rfl rfl (by kernel_rfl) (by kernel_rfl) (by kernel_rfl) (fun _ _ _ h => h) (by kernel_rfl) (by (intro Y hSw; go_simp; try omega)) (by assumption) ?_
          simp only [List.set_cons_zero, List.set_cons_succ]
          refine takeW 3 88 (.agg #[.int .i64 o.k, .int .i64 o.pt, .int .i64 o.r, .int .i64 o.c, .int .i64 o.b, .int .i64 o.p, .int .i64 o.h, .bool o.on]) rfl rfl (by kernel_rfl) (by kernel_rfl) (by kernel_rfl) (fun _ _ _ h => h) (by kernel_rfl) (by (intro Y hSw; obtain ⟨X0, X1, X2, X3, X4, X5, X6, X7⟩ := hA Y hSw; go_simp)) (by assumption) ?_
          simp only [List.set_cons_zero, List.set_cons_succ]
          refine takeW 4 89 (.slice (some ⟨bc, oc, none⟩) OO.length d3) rfl rfl (by kernel_rfl) (by kernel_rfl) (by kernel_rfl) (fun _ _ _ h => h) (by kernel_rfl) (by (intro w hSw; go_simp)) (by assumption) ?_
          simp only [List.set_cons_zero, List.set_cons_succ]
          refine takeW 5 90 (.int .i64 (j : Int)) rfl rfl (by kernel_rfl) (by kernel_rfl) (by kernel_rfl) (fun _ _ _ h => h) (by kernel_rfl) (by (intro w hSw; go_simp)) (by assumption) ?_
          simp only [List.set_cons_zero, List.set_cons_succ]
          refine takeW 6 91 (.pointer (some ⟨bc, oc + j * 8, none⟩)) rfl rfl (by kernel_rfl) (by kernel_rfl) (by kernel_rfl) (fun _ _ _ h => h) (by kernel_rfl) (by (intro Y hSw; go_simp; try omega)) (by assumption) ?_
          simp only [List.set_cons_zero, List.set_cons_succ]
          refine takeW 7 92 (.agg #[.int .i64 o.k, .int .i64 o.pt, .int .i64 o.r, .int .i64 o.c, .int .i64 o.b, .int .i64 o.p, .int .i64 o.h, .bool o.on]) rfl rfl (by kernel_rfl) (by kernel_rfl) (by kernel_rfl) (fun _ _ _ h => h) (by kernel_rfl) (by (intro Y hSw; obtain ⟨X0, X1, X2, X3, X4, X5, X6, X7⟩ := hC' Y hSw; go_simp)) (by assumption) ?_
          simp only [List.set_cons_zero, List.set_cons_succ]
          refine takeW 8 93 (.bool false) rfl rfl (by kernel_rfl) (by kernel_rfl) (by kernel_rfl) (fun _ _ _ h => h) (by kernel_rfl) (by (intro Y hSw; go_simp)) (by assumption) ?_
          simp only [List.set_cons_zero, List.set_cons_succ]
          refine wpAnyH_done (by kernel_rfl) ?_ _
          go_wp2
          go_roundw
          case rel => exact ⟨j + 1, by omega, by go_num, KI.trans (hb0.mono KI.size)⟩
          case measure => simp [intOf]; omega
        · obtain rfl : j = OO.length := by omega
          clear qA qC Q2 Q3 hlt2 hj
          have si := KI.size
          have AK := AK.below KI AK.lt
          have FE := FE.below KI FE.lt
          have O2 := O2.later KI
          have K3 := K2.trans (KI.mono (by omega))
          have PE := AK.put I (.slice a2 M2.length d2)
          have lo2 := O2.lt
          have O9 : FOwn ptEnc 11 43 w.heap.size ((wr.setCell ⟨p, 0, none⟩ (.int .i64 I)).setCell ⟨p, 1, none⟩ (.slice a2 M2.length d2)) (.slice a2 M2.length d2) M2 := (O2.base (by omega)).keep (fun g' e => AK.put1 I _ g' (by have := lo2 g' e; omega))
          have K9 : Below p wd6 ((wr.setCell ⟨p, 0, none⟩ (.int .i64 I)).setCell ⟨p, 1, none⟩ (.slice a2 M2.length d2)) := (K3.setCell (p := ⟨p, 0, none⟩) (Nat.le_refl _) _).setCell (p := ⟨p, 1, none⟩) (Nat.le_refl _) _
          have j9 : ∀ g', (Value.slice a2 M2.length d2).ownBlock = some g' → g' ≠ p := fun g' e => by have := lo2 g' e; omega
          clear O2 K3 K2 lo2
          obtain ⟨⟨r0, r1⟩, rf⟩ := FE
          obtain ⟨⟨q0, q1⟩, qf⟩ := AK
          have g0 := qf 0
          have g1 := qf 1
          clear rf qf
          go_wp2
          go_roundw
          case rel => show ∃ (k : Nat) (a_ : Option Addr) (c_ : Nat) (M_ : List Pt), kk ≤ k ∧ k ≤ X.length ∧ _ = Value.int .i64 (k : Int) ∧ ofR id n (X.take k) = M_ ∧ BBox _ p I (.slice a_ M_.length c_) ∧ FOwn ptEnc 11 43 w.heap.size _ (.slice a_ M_.length c_) M_ ∧ (∀ g', (Value.slice a_ M_.length c_).ownBlock = some g' → g' ≠ p) ∧ Below p wd6 _; exact ⟨k + 1, a2, d2, M2, by omega, by omega, by go_num, hst.out, PE, O9, j9, K9⟩
          case measure => simp [intOf]; omega
    · obtain rfl : k = X.length := by omega
      rw [List.take_length] at hM
      obtain rfl : D = M := hD.out.symm.trans hM
      clear hM hlt hkX hkk hM4
      have AB := AB.below K lAB
      have OB := OB.below K lOB
      have AK : BrAt wr p I (.slice a D.length c2) := AK.at_
      clear K xO OX iOX hcp lOB lOX
      have BW := bw
      clear bw
      have lK := AK.lt
      have lo := oK.lt
      have iOB : ∀ g', (Value.slice aB D.length cB).ownBlock = some g' → g' < wr.heap.size := fun g' e => (OB.lt g' e).2
      go_wp2_with fail
      go_at_call 21
      refine (drawSa ad0 len0 cap0 f0 wr (hC.later BW (Nat.le_refl _))).mono ?_
      rintro e wd7 ⟨id2, n2, g2, c3, X2, i2, rfl, hX2, OX2, kq⟩
      have swd7 := kq.size
      have AB := AB.below kq AB.lt
      have AK := AK.below kq AK.lt
      have OB := OB.later kq
      have oK := oK.later kq
      have BW := BW.trans (kq.mono BW.size)
      clear kq
      have hcp2 := OX2.cap
      obtain ⟨E, hE⟩ : ∃ v, sayR id2 n2 X2 i2 = v := ⟨_, rfl⟩
      have hE8 : E.length ≤ 8 := by rw [← hE]; exact sayR_len id2 n2 X2 i2
      replace hE : Hid _ := hE
      go_wp2_with fail
      go_at_call 20
      refine (sayI id2 n2 (some ⟨g2, 0, none⟩) c3 X2 i2 wd7 OX2.view.2 (by omega) hcp2).mono ?_
      rintro e wd8 ⟨a5, d5, rfl, Q5, kq⟩
      have swd8 := kq.size
      have AB := AB.below kq AB.lt
      have AK := AK.below kq AK.lt
      have OB := OB.later kq
      have oK := oK.later kq
      have OX2 := OX2.later kq
      have BW := BW.trans (kq.mono BW.size)
      clear kq
      rw [hE.out] at Q5 ⊢
      go_wp2_with fail
      go_at_call 22
      refine (sayS id2 n2 (some ⟨g2, 0, none⟩) c3 X2 i2 wd8 OX2.view.2 (by omega) hcp2).mono ?_
      rintro e wd9 ⟨a6, d6, rfl, Q6, kq⟩
      have swd9 := kq.size
      have AB := AB.below kq AB.lt
      have AK := AK.below kq AK.lt
      have OB := OB.later kq
      have oK := oK.later kq
      have OX2 := OX2.later kq
      have Q5 := Q5.later kq
      have BW := BW.trans (kq.mono BW.size)
      clear kq
      rw [hE.out] at Q6 ⊢
      clear OX2 hcp2
      go_wp2
      go_loopw [20] (fun i wr => ∃ j : Nat, j ≤ E.length ∧ i = .int .i64 (j : Int) ∧ Below wd9.heap.size wd9 wr) (fun i _ => E.length - (intOf i).toNat)
      case atStart => exact ⟨0, Nat.zero_le _, rfl, Below.refl _ _⟩
      case round =>
        obtain ⟨j, hj, rfl, KI⟩ := hrel
        have qA := (Q5.later KI).view.2
        have qC := (Q6.later KI).view.2
        by_cases hlt : j < E.length
        · obtain ⟨ba, oa, rfl, _⟩ := qA (by omega)
          obtain ⟨bc, oc, rfl, _⟩ := qC (by omega)
          obtain ⟨o, ho⟩ : ∃ o, E.getD j Ou.nil = o := ⟨_, rfl⟩
          have hA : ∀ Y, Below wr.heap.size wr Y → OuAtO Y ba (oa + j * 8) o := fun Y hY => by rw [← ho]; exact ouAtO_of ((qA.below hY (qA.lt ouEnc_len (by omega))).at_ ouEnc_len Ou.nil hlt)
          have hC' : ∀ Y, Below wr.heap.size wr Y → OuAtO Y bc (oc + j * 8) o := fun Y hY => by rw [← ho]; exact ouAtO_of ((qC.below hY (qC.lt ouEnc_len (by omega))).at_ ouEnc_len Ou.nil hlt)
          clear ho
          go_upto_region 29 with fail
          refine wp_region_held (S := fun Y => Below wr.heap.size wr Y) (by kernel_rfl) ?_
          change wpAnyH _ _ _ _ _ _ _ _ (World.drew _)
          have hb0 : Below wr.heap.size wr wr.drew := (Below.refl _ _).drew
          obtain ⟨u0, hy0⟩ : ∃ y_, y_ = wr.drew := ⟨_, rfl⟩
          rw [← hy0] at hb0 ⊢
          clear hy0
          refine takeW 0 123 (.slice (some ⟨ba, oa, none⟩) E.length d5) rfl rfl (by kernel_rfl) (by kernel_rfl) (by kernel_rfl) (fun _ _ _ h => h) (by kernel_rfl) (by (intro w hSw; go_simp)) (by assumption) ?_
          simp only [List.set_cons_zero, List.set_cons_succ]
          refine takeW 1 124 (.int .i64 (j : Int)) rfl rfl (by kernel_rfl) (by kernel_rfl) (by kernel_rfl) (fun _ _ _ h => h) (by kernel_rfl) (by (intro w hSw; go_simp)) (by assumption) ?_
          simp only [List.set_cons_zero, List.set_cons_succ]
          refine takeW 2 125 (.pointer (some ⟨ba, oa + j * 8, none⟩)) rfl rfl (by kernel_rfl) (by kernel_rfl) (by kernel_rfl) (fun _ _ _ h => h) (by kernel_rfl) (by (intro Y hSw; go_simp; try omega)) (by assumption) ?_
          simp only [List.set_cons_zero, List.set_cons_succ]
          refine takeW 3 126 (.agg #[.int .i64 o.k, .int .i64 o.pt, .int .i64 o.r, .int .i64 o.c, .int .i64 o.b, .int .i64 o.p, .int .i64 o.h, .bool o.on]) rfl rfl (by kernel_rfl) (by kernel_rfl) (by kernel_rfl) (fun _ _ _ h => h) (by kernel_rfl) (by (intro Y hSw; obtain ⟨X0, X1, X2, X3, X4, X5, X6, X7⟩ := hA Y hSw; go_simp)) (by assumption) ?_
          simp only [List.set_cons_zero, List.set_cons_succ]
          refine takeW 4 127 (.slice (some ⟨bc, oc, none⟩) E.length d6) rfl rfl (by kernel_rfl) (by kernel_rfl) (by kernel_rfl) (fun _ _ _ h => h) (by kernel_rfl) (by (intro w hSw; go_simp)) (by assumption) ?_
          simp only [List.set_cons_zero, List.set_cons_succ]
          refine takeW 5 128 (.int .i64 (j : Int)) rfl rfl (by kernel_rfl) (by kernel_rfl) (by kernel_rfl) (fun _ _ _ h => h) (by kernel_rfl) (by (intro w hSw; go_simp)) (by assumption) ?_
          simp only [List.set_cons_zero, List.set_cons_succ]
          refine takeW 6 129 (.pointer (some ⟨bc, oc + j * 8, none⟩)) rfl rfl (by kernel_rfl) (by kernel_rfl) (by kernel_rfl) (fun _ _ _ h => h) (by kernel_rfl) (by (intro Y hSw; go_simp; try omega)) (by assumption) ?_
          simp only [List.set_cons_zero, List.set_cons_succ]
          refine takeW 7 130 (.agg #[.int .i64 o.k, .int .i64 o.pt, .int .i64 o.r, .int .i64 o.c, .int .i64 o.b, .int .i64 o.p, .int .i64 o.h, .bool o.on]) rfl rfl (by kernel_rfl) (by kernel_rfl) (by kernel_rfl) (fun _ _ _ h => h) (by kernel_rfl) (by (intro Y hSw; obtain ⟨X0, X1, X2, X3, X4, X5, X6, X7⟩ := hC' Y hSw; go_simp)) (by assumption) ?_
          simp only [List.set_cons_zero, List.set_cons_succ]
          refine takeW 8 131 (.bool false) rfl rfl (by kernel_rfl) (by kernel_rfl) (by kernel_rfl) (fun _ _ _ h => h) (by kernel_rfl) (by (intro Y hSw; go_simp)) (by assumption) ?_
          simp only [List.set_cons_zero, List.set_cons_succ]
          refine wpAnyH_done (by kernel_rfl) ?_ _
          go_wp2
          go_roundw
          case rel => exact ⟨j + 1, by omega, by go_num, KI.trans (hb0.mono KI.size)⟩
          case measure => simp [intOf]; omega
        · obtain rfl : j = E.length := by omega
          clear qA qC Q5 Q6 hlt hj
          have swr := KI.size
          have AB := AB.below KI AB.lt
          have AK := AK.below KI AK.lt
          have OB := OB.later KI
          have oK := oK.later KI
          have BW := BW.trans (KI.mono BW.size)
          clear KI
          go_wp2_with fail
          go_at_call 23
          refine (drawGa ad0 len0 cap0 f0 wr (hC.later BW (Nat.le_refl _))).mono ?_
          rintro e wd10 ⟨ig, ag, cg, Lg, rfl, hLg, OG, kq⟩
          have swd10 := kq.size
          have AB := AB.below kq AB.lt
          have AK := AK.below kq AK.lt
          have OB := OB.later kq
          have oK := oK.later kq
          have BW := BW.trans (kq.mono BW.size)
          clear kq
          obtain ⟨wd11, hwd11⟩ : ∃ y_, y_ = wd10.alloc (Obj.cells #[.int .i64 ig, .slice ag Lg.length cg] 26) := ⟨_, rfl⟩
          have AG : BrAt wd11 wd10.heap.size ig (.slice ag Lg.length cg) := by rw [hwd11]; exact BrAt.new wd10 _ _ _
          have kq : Below wd10.heap.size wd10 wd11 := by rw [hwd11]; exact below_new _
          have lwd11 := AG.lt
          have swd11 := kq.size
          have AB := AB.below kq AB.lt
          have AK := AK.below kq AK.lt
          have OB := OB.later kq
          have oK := oK.later kq
          have OG := OG.later kq
          have BW := BW.trans (kq.mono BW.size)
          clear kq
          go_upto_region 32 with fail
          rw [← hwd11]
          clear hwd11
          refine wp_region_held (S := fun Y => Below wd11.heap.size wd11 Y) (by kernel_rfl) ?_
          change wpAnyH _ _ _ _ _ _ _ _ (World.drew _)
          have hb0 : Below wd11.heap.size wd11 wd11.drew := (Below.refl _ _).drew
          obtain ⟨u0, hy0⟩ : ∃ y_, y_ = wd11.drew := ⟨_, rfl⟩
          rw [← hy0] at hb0 ⊢
          clear hy0
          refine takeW 0 134 (.agg #[.int .i64 I, .slice a D.length c2]) rfl rfl (by kernel_rfl) (by kernel_rfl) (by kernel_rfl) (fun _ _ _ h => h) (by kernel_rfl) (by (intro Y hSw; obtain ⟨X0_, X1_⟩ := AK.below hSw AK.lt; go_simp)) (by assumption) ?_
          simp only [List.set_cons_zero, List.set_cons_succ]
          refine takeW 1 135 (.agg #[.int .i64 I, .slice aB D.length cB]) rfl rfl (by kernel_rfl) (by kernel_rfl) (by kernel_rfl) (fun _ _ _ h => h) (by kernel_rfl) (by (intro Y hSw; obtain ⟨X0_, X1_⟩ := AB.below hSw AB.lt; go_simp)) (by assumption) ?_
          simp only [List.set_cons_zero, List.set_cons_succ]
          refine wpAnyH_all (rs := [2]) (by kernel_rfl) (by simp) ?_
          intro i hi; obtain rfl : i = 2 := by simpa using hi
          refine wpOp_step rfl (fun Kz hKz => ?_)
          rw [if_pos (by kernel_rfl)]
          go_simp
          go_at_call 13
          refine (brSame I a aB c2 cB D u0 (oK.later hb0).view.2 (OB.later hb0).view.2 (by omega)).mono ?_
          rintro e u1 ⟨rfl, kq⟩
          have hb1 : Below wd11.heap.size wd11 u1 := hb0.trans (kq.mono hb0.size)
          clear kq
          refine hKz _ _ ⟨hb1, ?_⟩
          clear hKz Kz hi
          refine takeW 3 137 (.bool true) rfl rfl (by kernel_rfl) (by kernel_rfl) (by kernel_rfl) (fun _ _ _ h => h) (by kernel_rfl) (by (intro w hSw; go_simp)) (by assumption) ?_
          simp only [List.set_cons_zero, List.set_cons_succ]
          refine takeW 4 138 (.agg #[.int .i64 ig, .slice ag Lg.length cg]) rfl rfl (by kernel_rfl) (by kernel_rfl) (by kernel_rfl) (fun _ _ _ h => h) (by kernel_rfl) (by (intro Y hSw; obtain ⟨X0_, X1_⟩ := AG.below hSw AG.lt; go_simp)) (by assumption) ?_
          simp only [List.set_cons_zero, List.set_cons_succ]
          refine takeW 6 140 (.agg #[.int .i64 ig, .slice ag Lg.length cg]) rfl rfl (by kernel_rfl) (by kernel_rfl) (by kernel_rfl) (fun _ _ _ h => h) (by kernel_rfl) (by (intro Y hSw; obtain ⟨X0_, X1_⟩ := AG.below hSw AG.lt; go_simp)) (by assumption) ?_
          simp only [List.set_cons_zero, List.set_cons_succ]
          refine wpAnyH_all (rs := [5]) (by kernel_rfl) (by simp) ?_
          intro i hi; obtain rfl : i = 5 := by simpa using hi
          refine wpOp_step rfl (fun Kz hKz => ?_)
          rw [if_pos (by kernel_rfl)]
          go_simp
          go_at_call 15
          refine (gatesI12r ig ag cg Lg u1 (OG.later hb1).view.2 (by omega)).mono ?_
          rintro e u2 ⟨a7, d7, rfl, O7, kq⟩
          have hb2 : Below wd11.heap.size wd11 u2 := hb1.trans (kq.mono hb1.size)
          clear kq
          refine hKz _ _ ⟨hb2, ?_⟩
          clear hKz Kz hi
          refine wpAnyH_all (rs := [7]) (by kernel_rfl) (by simp) ?_
          intro i hi; obtain rfl : i = 7 := by simpa using hi
          refine wpOp_step rfl (fun Kz hKz => ?_)
          rw [if_pos (by kernel_rfl)]
          go_simp
          go_at_call 25
          refine (gatesS12r ig ag cg Lg u2 (OG.later hb2).view.2 (by omega)).mono ?_
          rintro e u3 ⟨a8, d8, rfl, O8, kq⟩
          have O7 := O7.later kq
          have hb3 : Below wd11.heap.size wd11 u3 := hb2.trans (kq.mono hb2.size)
          clear kq
          refine hKz _ _ ⟨hb3, ?_⟩
          clear hKz Kz hi
          have v7 := O7.view.2.toB
          have v8 := O8.view.2.toB
          rw [gatesR_len] at v7 v8
          refine wpAnyH_all (rs := [8]) (by kernel_rfl) (by simp) ?_
          intro i hi; obtain rfl : i = 8 := by simpa using hi
          refine wpOp_step rfl (fun Kz hKz => ?_)
          rw [if_pos (by kernel_rfl)]
          go_simp
          go_at_call 24
          refine (sameFl a7 a8 Lg.length d7 d8 _ u3 v7 v8 (by omega)).mono ?_
          rintro e u4 ⟨rfl, m_, hw_⟩
          have kq : Below u3.heap.size u3 u4 := by rw [hw_]; exact ⟨rfl, rfl, rfl, Nat.le_refl _, fun _ _ => rfl⟩
          clear hw_
          have hb4 : Below wd11.heap.size wd11 u4 := hb3.trans (kq.mono hb3.size)
          clear kq
          refine hKz _ _ ⟨hb4, ?_⟩
          clear hKz Kz hi
          refine takeW 9 143 (.bool true) rfl rfl (by kernel_rfl) (by kernel_rfl) (by kernel_rfl) (fun _ _ _ h => h) (by kernel_rfl) (by (intro w hSw; go_simp)) (by assumption) ?_
          simp only [List.set_cons_zero, List.set_cons_succ]
          refine takeW 10 2 (.bool true) rfl rfl (by kernel_rfl) (by kernel_rfl) (by kernel_rfl) (fun _ _ _ h => h) (by kernel_rfl) (by (intro w hSw; go_simp)) (by assumption) ?_
          simp only [List.set_cons_zero, List.set_cons_succ]
          refine wpAnyH_done (by kernel_rfl) ?_ _
          have BZ := BW.trans (hb4.mono BW.size)
          go_wp2
          go_ret
          exact ⟨rfl, BZ⟩


set_option maxRecDepth 100000 in
theorem lifted (os : Os) (started : os.Started) (H : Type) (enc : TypeId × Value → H) :
    ReturnsInHanded {} Try.checked os 4 .any (Rows.fnSameLogSpec.pre6 enc Try.prog Try.f4 Rows.fnSameLogRow.domain false) (Rows.fnSameLogSpec.post enc Try.prog Try.f4 false true false false) := by
  refine returnsInHanded_of_change (C := Try.checked) own started (by kernel_rfl) Try.func4
    (ChangeSpec.witness6 (enc := enc) (C := Try.checked) false ⟨#[], #[.slice none 0 0], []⟩ 8 (by kernel_rfl) (by kernel_rfl) (by kernel_rfl) (by kernel_rfl)) ?_
  intro W base args ds gs before hval0 hW hcnd _
  have hval : ∀ (j : Nat) t v, Try.f4.params[j]? = some t → args[j]? = some v → Value.okWide Try.prog W .any base t v := hval0
  have hW' := hW
  obtain ⟨p, q, hA0, hV, rfl, hfz, hnd⟩ := hW
  have hA : DataW.TrodAll enc Try.prog W 0 (fun _ => true) true Try.f4.params.toList args.toList ds p := hA0
  rw [Try.params4] at hA hval
  obtain ⟨v0, vs0, d0, ds0, p0, q0, hargs, rfl, rfl, h0, r0⟩ := trodAll_cons hA
  obtain ⟨rfl, rfl, rfl⟩ := trodAll_nil r0
  obtain rfl : args = #[v0] := by cases args; simp_all
  obtain ⟨rfl, rfl⟩ := trodVars_none hV
  obtain ⟨ad0, len0, cap0, f0, rfl, I0⟩ := codeIn_open (hval 0 22 v0 rfl rfl) h0
  have lt0 : ∀ x ∈ p0, x.block < W.heap.size := by obtain ⟨m, hm⟩ := h0; exact DataW.trod_lt m _ _ _ hm
  clear hA0 hval0
  refine (walk ad0 len0 cap0 f0 W I0).mono fun e W' ⟨he, bel⟩ => ?_
  subst he
  exact ⟨_, rfl, _, _, _, [], _, [], hW', trodAll_mk1 (shut_bool Try.underlying4 _), (trodAll_cons_mk (Below.trod laidOut (by kernel_rfl) (of_decide_eq_true (by kernel_rfl)) h0 bel lt0) trodAll_mk0), rfl, bel.frame _, fun h => by cases h⟩

theorem over : Rows.fnSameLogRow.holds Try.pinned (OpenSpec.ofChange Rows.fnSameLogSpec) :=
  OpenClaim.holds_of_wide 4 Try.f4 rfl rfl rfl rfl rfl rfl rfl ⟨rfl, rfl, rfl, rfl, rfl⟩ rfl rfl rfl rfl rfl (by kernel_rfl) Try.func4 (by kernel_rfl)
    (of_decide_eq_true (by kernel_rfl)) (by unfold Func.isWrapper; first | (rw [if_pos (by decide +kernel)]; kernel_rfl) | (rw [if_neg (by decide +kernel)]; exact ⟨rfl, rfl⟩))
    (fun os started H enc _ => lifted os started H enc)

theorem proved : Rows.FnSameLogSaid := over
end Go.Proofs.Ytghmmcenjdbfgaa.fnSameLog
namespace Go.Proofs.Ytghmmcenjdbfgaa
theorem sameLog_holds : Rows.FnSameLogSaid := fnSameLog.proved
#print axioms sameLog_holds
end Go.Proofs.Ytghmmcenjdbfgaa
