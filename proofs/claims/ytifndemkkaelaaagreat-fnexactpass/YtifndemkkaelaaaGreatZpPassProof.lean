/- For every card, port and frame the call of FnExactPass returns true: impl.Pass answers as spec.Pass (the card, and what goes out), writes into no argument, keeps nothing of one, and its answer owns its memory, behind another call too (lists of more than 1048576 values together are answered true at once). No condition. -/
import Derived.Test.YtifndemkkaelaaaGreatRows
import Derived.Test.YtifndemkkaelaaaGreatZpPassS
import Derived.Test.YtifndemkkaelaaaGreatZpSent
import Derived.Test.YtifndemkkaelaaaGreatZp46
import Derived.Test.YtifndemkkaelaaaGreatZp2
import Derived.WalkSpells
import Derived.WalkLawsBesides
import Derived.WalkKit
import Derived.Below
import Derived.ChangeOld
import Derived.WalkSmall
import Derived.ProofKit
import Derived.OpenShut
import Derived.ShutString
import Derived.BigQuiet
namespace Go.Proofs.YtifndemkkaelaaaGreat.fnExactPass
open Go.ChangeShapes Go.WideShapes Go.ChangeAt Go.RowKit
set_option linter.unusedVariables false
set_option maxRecDepth 100000

theorem own : ownKnob Tryz.prog.godebug = none := by kernel_rfl
theorem laidOut : laidOutB Tryz.prog = true := by kernel_rfl

set_option maxRecDepth 100000 in
theorem intIn_open {H : Type} {enc : TypeId × Value → H} {w : World} {r : Reach} {b0 : Nat} {v : Value} {d : DataW H} {p : List MemPlace} (hv : Value.okWide Tryz.prog w r b0 3 v) (h : DataW.Trod enc Tryz.prog w 0 (fun _ => true) true 3 v d p) : ∃ n : Int, v = .int .i64 n ∧ (Lit.int .i64 n).wf = true := by
  obtain ⟨n, rfl, _, _, I⟩ := open_int Tryz.underlying3 hv h
  exact ⟨n, rfl, I⟩
set_option maxRecDepth 100000 in
theorem boolIn_open {H : Type} {enc : TypeId × Value → H} {w : World} {r : Reach} {b0 : Nat} {v : Value} {d : DataW H} {p : List MemPlace} (hv : Value.okWide Tryz.prog w r b0 4 v) (h : DataW.Trod enc Tryz.prog w 0 (fun _ => true) true 4 v d p) : ∃ b : Bool, v = .bool b ∧ True := by
  obtain ⟨b, rfl, _, _⟩ := open_bool Tryz.underlying4 hv h
  exact ⟨b, rfl, trivial⟩
set_option maxRecDepth 100000 in
set_option maxHeartbeats 64000000 in
theorem walk (adO0 : Option Addr) (cO0 : Nat) (O0 : List Bool) (adM0 : Option Addr) (cM0 : Nat) (D0 : DL) (adT0 : Option Addr) (cT0 : Nat) (T0 : List Hd) (n1 : Int) (a2 b2 c2 : Int) (ad2 : Option Addr) (len2 cap2 : Nat) (f2 : Nat → Int) (w : World) (I0 : CardI w adO0 O0 adM0 D0 adT0 T0) (I1 : (Lit.int .i64 n1).wf = true) (I2 : FrameIn w a2 b2 c2 ad2 len2 cap2 f2) :
    Calls Tryz.prog 5 #[.agg #[.slice adO0 O0.length cO0, .slice adM0 D0.length cM0, .slice adT0 T0.length cT0], .int .i64 n1, .agg #[.int .i64 a2, .int .i64 b2, .int .i64 c2, .slice ad2 len2 cap2]] w fun e w' => e = .returned (.bool true) ∧ Below w.heap.size w w' := by
  obtain ⟨_, _, _, lm, hvF, _, hfF⟩ := I2
  obtain ⟨L, hLe, vL, _⟩ := view_list hvF hfF
  subst hLe
  clear hvF hfF
  obtain ⟨x0, hx⟩ : ∃ x, x = (w.alloc (Obj.cells #[.slice adO0 O0.length cO0, .slice adM0 D0.length cM0, .slice adT0 T0.length cT0] 56)).alloc (Obj.cells #[.int .i64 a2, .int .i64 b2, .int .i64 c2, .slice ad2 L.length cap2] 57) := ⟨_, rfl⟩
  have BW : Below w.heap.size w x0 := by rw [hx]; exact ((Below.refl _ _).alloc (Nat.le_refl _) _).alloc (by simp) _
  have A0 : CdAt x0 w.heap.size adO0 O0.length cO0 adM0 D0.length cM0 adT0 T0.length cT0 := by rw [hx]; refine ⟨?_, ?_, ?_⟩ <;> simp [go_sem]
  have F0 : FrameAt x0 (w.heap.size + 1) a2 b2 c2 ad2 L.length cap2 := by rw [hx]; refine ⟨?_, ?_, ?_, ?_⟩ <;> simp [go_sem]
  have tx0 : w.heap.size + 1 < x0.heap.size := F0.lt
  have V0 := I0.view
  have V0 := V0.below BW (Nat.le_refl _)
  go_enter Tryz.func5, Tryz.ntmps5
  go_wp2_with fail
  go_at_call 21
  rw [← hx]
  clear hx
  refine (szCD adO0 cO0 O0 adM0 cM0 D0 adT0 cT0 T0 x0 (I0.later BW)).mono ?_
  rintro e x1 ⟨⟨r, rfl, r1, r2, hsz⟩, k1⟩
  have sx1 := k1.size
  have A0 := A0.below k1 (by omega)
  have F0 := F0.below k1 (by omega)
  have V0 := V0.below k1 (by omega)
  have BW := BW.trans (k1.mono BW.size)
  clear k1
  by_cases hr : r < 0
  · go_wp2
    go_ret
    exact ⟨rfl, BW⟩
  have hsz := hsz (by omega)
  have F0' := F0
  obtain ⟨X1, X2, X3, X4⟩ := F0'
  have hr0 : 0 ≤ r := by omega
  go_wp2_with fail
  go_at_call 22
  clear X1 X2 X3 X4
  refine (szF a2 b2 c2 ad2 L.length cap2 r x1 (by omega) (by omega) lm).mono ?_
  rintro e x2 ⟨rfl, k2⟩
  have sx2 := k2.size
  have A0 := A0.below k2 (by omega)
  have F0 := F0.below k2 (by omega)
  have V0 := V0.below k2 (by omega)
  have BW := BW.trans (k2.mono BW.size)
  clear k2
  by_cases hLr : (L.length : Int) ≤ r
  rotate_left
  · rw [if_neg hLr]
    go_wp2
    go_ret
    exact ⟨rfl, BW⟩
  rw [if_pos hLr]
  have hLr2 : 0 ≤ r - (L.length : Int) := by omega
  have hlL : L.length ≤ 1048576 := by omega
  have hgl := pTab_size (p := n1) (a := a2) (b := b2) (c := c2) (L := L) hsz
  have hfew := pOuts_few O0 D0 T0 n1 a2 b2 c2 L
  obtain ⟨T1, hT1⟩ : ∃ x, Hid (pTab O0 D0 T0 n1 a2 b2 c2 L = x) := ⟨_, rfl⟩
  obtain ⟨XO, hXO⟩ : ∃ x, Hid (pOuts O0 D0 T0 n1 a2 b2 c2 L = x) := ⟨_, rfl⟩
  rw [hT1.out] at hgl
  rw [hXO.out] at hfew
  obtain ⟨t0, ht0⟩ : ∃ t : Int, Hid ((O0.length : Int) + (totD D0 : Int) + 4 * (T0.length : Int) = t) := ⟨_, rfl⟩
  have ht00 : 0 ≤ t0 := by rw [← ht0.out]; omega
  have ht01 : t0 ≤ 9000000 := by rw [← ht0.out]; omega
  obtain ⟨tt, htt⟩ : ∃ t : Int, Hid ((O0.length : Int) + (totD D0 : Int) + 4 * (T1.length : Int) = t) := ⟨_, rfl⟩
  have htt0 : 0 ≤ tt := by rw [← htt.out]; omega
  have htt1 : tt ≤ 9000000 := by rw [← htt.out]; omega
  go_wp2_with fail
  refine join_region8 (fun l l' W' => ∃ (NB : Nat) (gOa : Option Addr) (gOk : Nat) (gMa : Option Addr) (gMk : Nat) (gTa : Option Addr) (gTk : Nat) (aL : Option Addr) (kL : Nat) (Ns : List Ob) (us : List Value), us.length = 9 ∧ l' = l.take 8 ++ (.pointer (some ⟨NB, 0, none⟩) :: .slice aL Ns.length kL :: (l.drop 10).take 19) ++ us ++ l.drop 38 ∧ CdAt W' NB gOa O0.length gOk gMa D0.length gMk gTa T1.length gTk ∧ CdV W' x2.heap.size W'.heap.size gOa O0 gMa D0 gTa T1 ∧ Hid (Ns.map Ob.d = XO) ∧ ObI W' x2.heap.size W'.heap.size aL Ns ∧ x2.heap.size ≤ NB ∧ NB < W'.heap.size ∧ Below x2.heap.size x2 W') ?_ ?_
  rotate_left
  · intro K2 hT
    refine wp_region_held (S := fun Y => Below x2.heap.size x2 Y) (by kernel_rfl) ?_
    change wpAnyH _ _ _ _ _ _ _ _ (World.drew _)
    have hby0 : Below x2.heap.size x2 x2.drew := (Below.refl _ _).drew
    obtain ⟨y0, hy0⟩ : ∃ z, z = x2.drew := ⟨_, rfl⟩
    rw [← hy0] at hby0 ⊢
    have zy0 := hby0.size
    clear hy0
    refine takeW 0 30 (.agg #[.slice adO0 O0.length cO0, .slice adM0 D0.length cM0, .slice adT0 T0.length cT0]) rfl rfl (by kernel_rfl) (by kernel_rfl) (by kernel_rfl) (fun _ _ _ h => h) (by kernel_rfl) (by (intro Y hSw; obtain ⟨X1, X2, X3⟩ := A0.below hSw (by omega); go_simp)) (by assumption) ?_
    simp only [List.set_cons_zero, List.set_cons_succ]
    refine takeW 2 32 (.int .i64 n1) rfl rfl (by kernel_rfl) (by kernel_rfl) (by kernel_rfl) (fun _ _ _ h => h) (by kernel_rfl) (by (intro w hSw; go_simp)) (by assumption) ?_
    simp only [List.set_cons_zero, List.set_cons_succ]
    refine takeW 3 33 (.agg #[.int .i64 a2, .int .i64 b2, .int .i64 c2, .slice ad2 L.length cap2]) rfl rfl (by kernel_rfl) (by kernel_rfl) (by kernel_rfl) (fun _ _ _ h => h) (by kernel_rfl) (by (intro Y hSw; obtain ⟨X1, X2, X3, X4⟩ := F0.below hSw (by omega); go_simp)) (by assumption) ?_
    simp only [List.set_cons_zero, List.set_cons_succ]
    refine wpAnyH_all (rs := [1, 9]) (by kernel_rfl) (by simp) ?_
    intro i hi; rcases (by simpa using hi : i = 1 ∨ i = 9) with rfl | rfl
    · refine wpOp_step rfl (fun K hK => ?_)
      rw [if_pos (by kernel_rfl)]
      go_simp
      go_at_call 23
      refine (toCS adO0 cO0 O0 adM0 cM0 D0 adT0 cT0 T0 0 w.heap.size y0 (V0.below hby0 (by omega)) (by omega) hsz).mono ?_
      rintro e y1 ⟨bO, bM, bT, rfl, Wc, ky1⟩
      have zy1 := ky1.size
      have hby1 : Below x2.heap.size x2 y1 := hby0.trans (ky1.mono hby0.size)
      obtain ⟨lo1, hlo1⟩ : ∃ n, n = y0.heap.size := ⟨_, rfl⟩
      obtain ⟨hi1, hhi1⟩ : ∃ n, n = y1.heap.size := ⟨_, rfl⟩
      rw [← hlo1, ← hhi1] at Wc
      have hlo1' : x2.heap.size ≤ lo1 := by omega
      have hhi1' : hi1 ≤ y1.heap.size := by omega
      have hlh1 : lo1 ≤ hi1 := by omega
      clear hlo1 hhi1
      refine hK _ _ ⟨hby1, ?_⟩
      clear hK K hi
      refine wpAnyH_all (rs := [4, 9]) (by kernel_rfl) (by simp) ?_
      intro i hi; rcases (by simpa using hi : i = 4 ∨ i = 9) with rfl | rfl
      · refine wpOp_step rfl (fun K hK => ?_)
        rw [if_pos (by kernel_rfl)]
        go_simp
        go_at_call 24
        refine (toFI a2 b2 c2 ad2 cap2 L y1 (vL.carry (fun x e p => (BW.trans (hby1.mono BW.size)).block _ (vL.lt x e p))) hlL).mono ?_
        rintro e y2 ⟨NF, rfl, nF1, nF2, FI, ky2⟩
        have zy2 := ky2.size
        have hby2 : Below x2.heap.size x2 y2 := hby1.trans (ky2.mono hby1.size)
        have Wc := Wc.below ky2 (by omega)
        obtain ⟨lo4, hlo4⟩ : ∃ n, n = y1.heap.size := ⟨_, rfl⟩
        obtain ⟨hi4, hhi4⟩ : ∃ n, n = y2.heap.size := ⟨_, rfl⟩
        rw [← hlo4, ← hhi4] at FI
        have hhi4' : hi4 ≤ y2.heap.size := by omega
        clear hlo4 hhi4
        refine hK _ _ ⟨hby2, ?_⟩
        clear hK K hi
        refine wpAnyH_all (rs := [5, 9]) (by kernel_rfl) (by simp) ?_
        intro i hi; rcases (by simpa using hi : i = 5 ∨ i = 9) with rfl | rfl
        · refine wpOp_step rfl (fun K hK => ?_)
          rw [if_pos (by kernel_rfl)]
          go_simp
          go_at_call 9
          refine (passS (some ⟨bO, 0, none⟩) O0.length O0 (some ⟨bM, 0, none⟩) D0.length D0 (some ⟨bT, 0, none⟩) T0.length T0 n1 a2 b2 c2 (some ⟨NF, 0, none⟩) L.length L lo1 hi1 y2 Wc.view (by omega) hsz I1 (fun h => by cases h) (fun h => by cases h) FI.v hlL (fun h => by cases h)).mono ?_
          intro e y3 hq
          rw [hT1.out, hXO.out] at hq
          obtain ⟨gOa, gOk, gMa, gMk, gTa, gTk, aL, kL, Ns, rfl, cV, hd, ov, oR, oN, ky3⟩ := hq
          have oV : ObI y3 y2.heap.size y3.heap.size aL Ns := ⟨ov, oR, oN⟩
          clear ov oR oN
          have zy3 := ky3.size
          have hby3 : Below x2.heap.size x2 y3 := hby2.trans (ky3.mono hby2.size)
          replace hd : Hid _ := hd
          obtain ⟨lo5, hlo5⟩ : ∃ n, n = y2.heap.size := ⟨_, rfl⟩
          obtain ⟨hi5, hhi5⟩ : ∃ n, n = y3.heap.size := ⟨_, rfl⟩
          rw [← hlo5, ← hhi5] at cV oV
          have hlo5' : x2.heap.size ≤ lo5 := by omega
          have hhi5' : hi5 ≤ y3.heap.size := by omega
          clear hlo5
          have hhi5'' : y3.heap.size ≤ hi5 := by omega
          clear hhi5
          refine hK _ _ ⟨hby3, ?_⟩
          clear hK K hi
          refine takeW 6 29 (.tuple #[.agg #[.slice gOa O0.length gOk, .slice gMa D0.length gMk, .slice gTa T1.length gTk], .slice aL Ns.length kL]) rfl rfl (by kernel_rfl) (by kernel_rfl) (by kernel_rfl) (fun _ _ _ h => h) (by kernel_rfl) (by (intro w hSw; go_simp)) (by assumption) ?_
          simp only [List.set_cons_zero, List.set_cons_succ]
          refine takeW 7 36 (.agg #[.slice gOa O0.length gOk, .slice gMa D0.length gMk, .slice gTa T1.length gTk]) rfl rfl (by kernel_rfl) (by kernel_rfl) (by kernel_rfl) (fun _ _ _ h => h) (by kernel_rfl) (by (intro w hSw; go_simp)) (by assumption) ?_
          simp only [List.set_cons_zero, List.set_cons_succ]
          refine takeW 8 37 (.slice aL Ns.length kL) rfl rfl (by kernel_rfl) (by kernel_rfl) (by kernel_rfl) (fun _ _ _ h => h) (by kernel_rfl) (by (intro w hSw; go_simp)) (by assumption) ?_
          simp only [List.set_cons_zero, List.set_cons_succ]
          refine wpAnyH_all (rs := [9]) (by kernel_rfl) (by simp) ?_
          intro i hi; obtain rfl : i = 9 := by simpa using hi
          refine wpOp_step rfl (fun K hK => ?_)
          rw [if_pos (by kernel_rfl)]
          go_simp
          obtain ⟨NB, hNB⟩ : ∃ n, n = y3.heap.size := ⟨_, rfl⟩
          obtain ⟨y4, hy4⟩ : ∃ z, z = y3.alloc (Obj.cells #[.slice none 0 0, .slice none 0 0, .slice none 0 0] 28) := ⟨_, rfl⟩
          have ky4 : Below y3.heap.size y3 y4 := by rw [hy4]; exact below_box _ _
          have CX : CdAt y4 NB none 0 0 none 0 0 none 0 0 := by rw [hy4, hNB]; exact CdAt.box _ _ _ _ _ _ _ _ _ _ _
          have FX : ∀ i, y4.frozen? ⟨NB, i, none⟩ = false := by intro i; rw [hy4, hNB]; simp [go_sem]
          have tX := CX.lt
          have wNB : x2.heap.size ≤ NB := by omega
          have zy4 := ky4.size
          have hby4 : Below x2.heap.size x2 y4 := hby3.trans (ky4.mono hby3.size)
          have cV := cV.below ky4 (by omega)
          have oV := oV.below ky4 (by omega)
          have nB5 : NB < lo5 ∨ hi5 ≤ NB := by omega
          rw [← hNB, ← hy4]
          clear hy4 hNB
          refine hK _ _ ⟨hby4, ?_⟩
          clear hK K hi
          obtain ⟨c0, c1, c2'⟩ := CX
          have CX : CdAt y4 NB none 0 0 none 0 0 none 0 0 := ⟨c0, c1, c2'⟩
          have f0 := FX 0
          have f1 := FX 1
          have f2' := FX 2
          obtain ⟨yF, hyF⟩ : ∃ z, z = ((y4.setCell ⟨NB, 0, none⟩ (.slice gOa O0.length gOk)).setCell ⟨NB, 1, none⟩ (.slice gMa D0.length gMk)).setCell ⟨NB, 2, none⟩ (.slice gTa T1.length gTk) := ⟨_, rfl⟩
          have hF : ∀ j, j ≠ NB → yF.heap[j]? = y4.heap[j]? := fun j hj => by rw [hyF]; exact heap_set3 hj
          have GX : CdAt yF NB gOa O0.length gOk gMa D0.length gMk gTa T1.length gTk := by rw [hyF]; exact ⟨(cell_set_ne (by omega)).trans ((cell_set_ne (by omega)).trans (cell_set_same ⟨_, c0⟩)), (cell_set_ne (by omega)).trans (cell_set_same ⟨_, (cell_set_ne (by omega)).trans c1⟩), cell_set_same ⟨_, (cell_set_ne (by omega)).trans ((cell_set_ne (by omega)).trans c2')⟩⟩
          have sF : y4.heap.size ≤ yF.heap.size := by rw [hyF]; simp
          have BF : Below x2.heap.size x2 yF := by rw [hyF]; exact ((hby4.setCell (by show x2.heap.size ≤ NB; omega) _).setCell (by show x2.heap.size ≤ NB; omega) _).setCell (by show x2.heap.size ≤ NB; omega) _
          have cF : CdV yF x2.heap.size yF.heap.size gOa O0 gMa D0 gTa T1 := (cV.keep (w' := yF) (fun j h1 h2 => hF j (by omega))).wide (by omega) (by omega)
          have oF : ObI yF x2.heap.size yF.heap.size aL Ns := (oV.keep (w' := yF) (fun j h1 h2 => hF j (by omega))).wide (by omega) (by omega)
          refine wpAnyH_all (rs := [10]) (by kernel_rfl) (by simp) ?_
          intro i hi; obtain rfl : i = 10 := by simpa using hi
          refine wpOp_step rfl (fun K hK => ?_)
          rw [if_pos (by kernel_rfl)]
          go_simp
          rw [← hyF]
          refine hK _ _ ⟨BF, ?_⟩
          clear hK K hi
          refine takeW 11 9 (.slice aL Ns.length kL) rfl rfl (by kernel_rfl) (by kernel_rfl) (by kernel_rfl) (fun _ _ _ h => h) (by kernel_rfl) (by (intro w hSw; go_simp)) (by assumption) ?_
          simp only [List.set_cons_zero, List.set_cons_succ]
          refine wpAnyH_done (by kernel_rfl) ?_ _
          exact hT.out _ _ ⟨NB, gOa, gOk, gMa, gMk, gTa, gTk, aL, kL, Ns, [_, _, _, _, _, _, _, _, _], rfl, rfl, GX, cF, hd, oF, wNB, GX.lt, BF⟩
        · refine wpOp_step rfl (fun K hK => ?_)
          rw [if_pos (by kernel_rfl)]
          go_simp
          obtain ⟨NB, hNB⟩ : ∃ n, n = y2.heap.size := ⟨_, rfl⟩
          obtain ⟨y3, hy3⟩ : ∃ z, z = y2.alloc (Obj.cells #[.slice none 0 0, .slice none 0 0, .slice none 0 0] 28) := ⟨_, rfl⟩
          have ky3 : Below y2.heap.size y2 y3 := by rw [hy3]; exact below_box _ _
          have CX : CdAt y3 NB none 0 0 none 0 0 none 0 0 := by rw [hy3, hNB]; exact CdAt.box _ _ _ _ _ _ _ _ _ _ _
          have FX : ∀ i, y3.frozen? ⟨NB, i, none⟩ = false := by intro i; rw [hy3, hNB]; simp [go_sem]
          have tX := CX.lt
          have wNB : x2.heap.size ≤ NB := by omega
          have zy3 := ky3.size
          have hby3 : Below x2.heap.size x2 y3 := hby2.trans (ky3.mono hby2.size)
          have Wc := Wc.below ky3 (by omega)
          have FI := FI.below ky3 (by omega)
          rw [← hNB, ← hy3]
          clear hy3 hNB
          refine hK _ _ ⟨hby3, ?_⟩
          clear hK K hi
          refine wpAnyH_all (rs := [5]) (by kernel_rfl) (by simp) ?_
          intro i hi; obtain rfl : i = 5 := by simpa using hi
          refine wpOp_step rfl (fun K hK => ?_)
          rw [if_pos (by kernel_rfl)]
          go_simp
          go_at_call 9
          refine (passS (some ⟨bO, 0, none⟩) O0.length O0 (some ⟨bM, 0, none⟩) D0.length D0 (some ⟨bT, 0, none⟩) T0.length T0 n1 a2 b2 c2 (some ⟨NF, 0, none⟩) L.length L lo1 hi1 y3 Wc.view (by omega) hsz I1 (fun h => by cases h) (fun h => by cases h) FI.v hlL (fun h => by cases h)).mono ?_
          intro e y4 hq
          rw [hT1.out, hXO.out] at hq
          obtain ⟨gOa, gOk, gMa, gMk, gTa, gTk, aL, kL, Ns, rfl, cV, hd, ov, oR, oN, ky4⟩ := hq
          have oV : ObI y4 y3.heap.size y4.heap.size aL Ns := ⟨ov, oR, oN⟩
          clear ov oR oN
          have zy4 := ky4.size
          have hby4 : Below x2.heap.size x2 y4 := hby3.trans (ky4.mono hby3.size)
          replace hd : Hid _ := hd
          have CX := CX.below ky4 (by omega)
          have FX := fz_below FX ky4 (by omega)
          have nB : NB < y3.heap.size := by omega
          obtain ⟨lo5, hlo5⟩ : ∃ n, n = y3.heap.size := ⟨_, rfl⟩
          obtain ⟨hi5, hhi5⟩ : ∃ n, n = y4.heap.size := ⟨_, rfl⟩
          rw [← hlo5, ← hhi5] at cV oV
          have hlo5' : x2.heap.size ≤ lo5 := by omega
          have hhi5' : hi5 ≤ y4.heap.size := by omega
          have nB5 : NB < lo5 ∨ hi5 ≤ NB := by omega
          clear hlo5
          clear hhi5
          refine hK _ _ ⟨hby4, ?_⟩
          clear hK K hi
          refine takeW 6 29 (.tuple #[.agg #[.slice gOa O0.length gOk, .slice gMa D0.length gMk, .slice gTa T1.length gTk], .slice aL Ns.length kL]) rfl rfl (by kernel_rfl) (by kernel_rfl) (by kernel_rfl) (fun _ _ _ h => h) (by kernel_rfl) (by (intro w hSw; go_simp)) (by assumption) ?_
          simp only [List.set_cons_zero, List.set_cons_succ]
          refine takeW 7 36 (.agg #[.slice gOa O0.length gOk, .slice gMa D0.length gMk, .slice gTa T1.length gTk]) rfl rfl (by kernel_rfl) (by kernel_rfl) (by kernel_rfl) (fun _ _ _ h => h) (by kernel_rfl) (by (intro w hSw; go_simp)) (by assumption) ?_
          simp only [List.set_cons_zero, List.set_cons_succ]
          refine takeW 8 37 (.slice aL Ns.length kL) rfl rfl (by kernel_rfl) (by kernel_rfl) (by kernel_rfl) (fun _ _ _ h => h) (by kernel_rfl) (by (intro w hSw; go_simp)) (by assumption) ?_
          simp only [List.set_cons_zero, List.set_cons_succ]
          obtain ⟨c0, c1, c2'⟩ := CX
          have CX : CdAt y4 NB none 0 0 none 0 0 none 0 0 := ⟨c0, c1, c2'⟩
          have f0 := FX 0
          have f1 := FX 1
          have f2' := FX 2
          obtain ⟨yF, hyF⟩ : ∃ z, z = ((y4.setCell ⟨NB, 0, none⟩ (.slice gOa O0.length gOk)).setCell ⟨NB, 1, none⟩ (.slice gMa D0.length gMk)).setCell ⟨NB, 2, none⟩ (.slice gTa T1.length gTk) := ⟨_, rfl⟩
          have hF : ∀ j, j ≠ NB → yF.heap[j]? = y4.heap[j]? := fun j hj => by rw [hyF]; exact heap_set3 hj
          have GX : CdAt yF NB gOa O0.length gOk gMa D0.length gMk gTa T1.length gTk := by rw [hyF]; exact ⟨(cell_set_ne (by omega)).trans ((cell_set_ne (by omega)).trans (cell_set_same ⟨_, c0⟩)), (cell_set_ne (by omega)).trans (cell_set_same ⟨_, (cell_set_ne (by omega)).trans c1⟩), cell_set_same ⟨_, (cell_set_ne (by omega)).trans ((cell_set_ne (by omega)).trans c2')⟩⟩
          have sF : y4.heap.size ≤ yF.heap.size := by rw [hyF]; simp
          have BF : Below x2.heap.size x2 yF := by rw [hyF]; exact ((hby4.setCell (by show x2.heap.size ≤ NB; omega) _).setCell (by show x2.heap.size ≤ NB; omega) _).setCell (by show x2.heap.size ≤ NB; omega) _
          have cF : CdV yF x2.heap.size yF.heap.size gOa O0 gMa D0 gTa T1 := (cV.keep (w' := yF) (fun j h1 h2 => hF j (by omega))).wide (by omega) (by omega)
          have oF : ObI yF x2.heap.size yF.heap.size aL Ns := (oV.keep (w' := yF) (fun j h1 h2 => hF j (by omega))).wide (by omega) (by omega)
          refine wpAnyH_all (rs := [10]) (by kernel_rfl) (by simp) ?_
          intro i hi; obtain rfl : i = 10 := by simpa using hi
          refine wpOp_step rfl (fun K hK => ?_)
          rw [if_pos (by kernel_rfl)]
          go_simp
          rw [← hyF]
          refine hK _ _ ⟨BF, ?_⟩
          clear hK K hi
          refine takeW 11 9 (.slice aL Ns.length kL) rfl rfl (by kernel_rfl) (by kernel_rfl) (by kernel_rfl) (fun _ _ _ h => h) (by kernel_rfl) (by (intro w hSw; go_simp)) (by assumption) ?_
          simp only [List.set_cons_zero, List.set_cons_succ]
          refine wpAnyH_done (by kernel_rfl) ?_ _
          exact hT.out _ _ ⟨NB, gOa, gOk, gMa, gMk, gTa, gTk, aL, kL, Ns, [_, _, _, _, _, _, _, _, _], rfl, rfl, GX, cF, hd, oF, wNB, GX.lt, BF⟩
      · refine wpOp_step rfl (fun K hK => ?_)
        rw [if_pos (by kernel_rfl)]
        go_simp
        obtain ⟨NB, hNB⟩ : ∃ n, n = y1.heap.size := ⟨_, rfl⟩
        obtain ⟨y2, hy2⟩ : ∃ z, z = y1.alloc (Obj.cells #[.slice none 0 0, .slice none 0 0, .slice none 0 0] 28) := ⟨_, rfl⟩
        have ky2 : Below y1.heap.size y1 y2 := by rw [hy2]; exact below_box _ _
        have CX : CdAt y2 NB none 0 0 none 0 0 none 0 0 := by rw [hy2, hNB]; exact CdAt.box _ _ _ _ _ _ _ _ _ _ _
        have FX : ∀ i, y2.frozen? ⟨NB, i, none⟩ = false := by intro i; rw [hy2, hNB]; simp [go_sem]
        have tX := CX.lt
        have wNB : x2.heap.size ≤ NB := by omega
        have zy2 := ky2.size
        have hby2 : Below x2.heap.size x2 y2 := hby1.trans (ky2.mono hby1.size)
        have Wc := Wc.below ky2 (by omega)
        rw [← hNB, ← hy2]
        clear hy2 hNB
        refine hK _ _ ⟨hby2, ?_⟩
        clear hK K hi
        refine wpAnyH_all (rs := [4]) (by kernel_rfl) (by simp) ?_
        intro i hi; obtain rfl : i = 4 := by simpa using hi
        refine wpOp_step rfl (fun K hK => ?_)
        rw [if_pos (by kernel_rfl)]
        go_simp
        go_at_call 24
        refine (toFI a2 b2 c2 ad2 cap2 L y2 (vL.carry (fun x e p => (BW.trans (hby2.mono BW.size)).block _ (vL.lt x e p))) hlL).mono ?_
        rintro e y3 ⟨NF, rfl, nF1, nF2, FI, ky3⟩
        have zy3 := ky3.size
        have hby3 : Below x2.heap.size x2 y3 := hby2.trans (ky3.mono hby2.size)
        have Wc := Wc.below ky3 (by omega)
        have CX := CX.below ky3 (by omega)
        have FX := fz_below FX ky3 (by omega)
        obtain ⟨lo4, hlo4⟩ : ∃ n, n = y2.heap.size := ⟨_, rfl⟩
        obtain ⟨hi4, hhi4⟩ : ∃ n, n = y3.heap.size := ⟨_, rfl⟩
        rw [← hlo4, ← hhi4] at FI
        have hhi4' : hi4 ≤ y3.heap.size := by omega
        clear hlo4 hhi4
        refine hK _ _ ⟨hby3, ?_⟩
        clear hK K hi
        refine wpAnyH_all (rs := [5]) (by kernel_rfl) (by simp) ?_
        intro i hi; obtain rfl : i = 5 := by simpa using hi
        refine wpOp_step rfl (fun K hK => ?_)
        rw [if_pos (by kernel_rfl)]
        go_simp
        go_at_call 9
        refine (passS (some ⟨bO, 0, none⟩) O0.length O0 (some ⟨bM, 0, none⟩) D0.length D0 (some ⟨bT, 0, none⟩) T0.length T0 n1 a2 b2 c2 (some ⟨NF, 0, none⟩) L.length L lo1 hi1 y3 Wc.view (by omega) hsz I1 (fun h => by cases h) (fun h => by cases h) FI.v hlL (fun h => by cases h)).mono ?_
        intro e y4 hq
        rw [hT1.out, hXO.out] at hq
        obtain ⟨gOa, gOk, gMa, gMk, gTa, gTk, aL, kL, Ns, rfl, cV, hd, ov, oR, oN, ky4⟩ := hq
        have oV : ObI y4 y3.heap.size y4.heap.size aL Ns := ⟨ov, oR, oN⟩
        clear ov oR oN
        have zy4 := ky4.size
        have hby4 : Below x2.heap.size x2 y4 := hby3.trans (ky4.mono hby3.size)
        replace hd : Hid _ := hd
        have CX := CX.below ky4 (by omega)
        have FX := fz_below FX ky4 (by omega)
        have nB : NB < y3.heap.size := by omega
        obtain ⟨lo5, hlo5⟩ : ∃ n, n = y3.heap.size := ⟨_, rfl⟩
        obtain ⟨hi5, hhi5⟩ : ∃ n, n = y4.heap.size := ⟨_, rfl⟩
        rw [← hlo5, ← hhi5] at cV oV
        have hlo5' : x2.heap.size ≤ lo5 := by omega
        have hhi5' : hi5 ≤ y4.heap.size := by omega
        have nB5 : NB < lo5 ∨ hi5 ≤ NB := by omega
        clear hlo5
        clear hhi5
        refine hK _ _ ⟨hby4, ?_⟩
        clear hK K hi
        refine takeW 6 29 (.tuple #[.agg #[.slice gOa O0.length gOk, .slice gMa D0.length gMk, .slice gTa T1.length gTk], .slice aL Ns.length kL]) rfl rfl (by kernel_rfl) (by kernel_rfl) (by kernel_rfl) (fun _ _ _ h => h) (by kernel_rfl) (by (intro w hSw; go_simp)) (by assumption) ?_
        simp only [List.set_cons_zero, List.set_cons_succ]
        refine takeW 7 36 (.agg #[.slice gOa O0.length gOk, .slice gMa D0.length gMk, .slice gTa T1.length gTk]) rfl rfl (by kernel_rfl) (by kernel_rfl) (by kernel_rfl) (fun _ _ _ h => h) (by kernel_rfl) (by (intro w hSw; go_simp)) (by assumption) ?_
        simp only [List.set_cons_zero, List.set_cons_succ]
        refine takeW 8 37 (.slice aL Ns.length kL) rfl rfl (by kernel_rfl) (by kernel_rfl) (by kernel_rfl) (fun _ _ _ h => h) (by kernel_rfl) (by (intro w hSw; go_simp)) (by assumption) ?_
        simp only [List.set_cons_zero, List.set_cons_succ]
        obtain ⟨c0, c1, c2'⟩ := CX
        have CX : CdAt y4 NB none 0 0 none 0 0 none 0 0 := ⟨c0, c1, c2'⟩
        have f0 := FX 0
        have f1 := FX 1
        have f2' := FX 2
        obtain ⟨yF, hyF⟩ : ∃ z, z = ((y4.setCell ⟨NB, 0, none⟩ (.slice gOa O0.length gOk)).setCell ⟨NB, 1, none⟩ (.slice gMa D0.length gMk)).setCell ⟨NB, 2, none⟩ (.slice gTa T1.length gTk) := ⟨_, rfl⟩
        have hF : ∀ j, j ≠ NB → yF.heap[j]? = y4.heap[j]? := fun j hj => by rw [hyF]; exact heap_set3 hj
        have GX : CdAt yF NB gOa O0.length gOk gMa D0.length gMk gTa T1.length gTk := by rw [hyF]; exact ⟨(cell_set_ne (by omega)).trans ((cell_set_ne (by omega)).trans (cell_set_same ⟨_, c0⟩)), (cell_set_ne (by omega)).trans (cell_set_same ⟨_, (cell_set_ne (by omega)).trans c1⟩), cell_set_same ⟨_, (cell_set_ne (by omega)).trans ((cell_set_ne (by omega)).trans c2')⟩⟩
        have sF : y4.heap.size ≤ yF.heap.size := by rw [hyF]; simp
        have BF : Below x2.heap.size x2 yF := by rw [hyF]; exact ((hby4.setCell (by show x2.heap.size ≤ NB; omega) _).setCell (by show x2.heap.size ≤ NB; omega) _).setCell (by show x2.heap.size ≤ NB; omega) _
        have cF : CdV yF x2.heap.size yF.heap.size gOa O0 gMa D0 gTa T1 := (cV.keep (w' := yF) (fun j h1 h2 => hF j (by omega))).wide (by omega) (by omega)
        have oF : ObI yF x2.heap.size yF.heap.size aL Ns := (oV.keep (w' := yF) (fun j h1 h2 => hF j (by omega))).wide (by omega) (by omega)
        refine wpAnyH_all (rs := [10]) (by kernel_rfl) (by simp) ?_
        intro i hi; obtain rfl : i = 10 := by simpa using hi
        refine wpOp_step rfl (fun K hK => ?_)
        rw [if_pos (by kernel_rfl)]
        go_simp
        rw [← hyF]
        refine hK _ _ ⟨BF, ?_⟩
        clear hK K hi
        refine takeW 11 9 (.slice aL Ns.length kL) rfl rfl (by kernel_rfl) (by kernel_rfl) (by kernel_rfl) (fun _ _ _ h => h) (by kernel_rfl) (by (intro w hSw; go_simp)) (by assumption) ?_
        simp only [List.set_cons_zero, List.set_cons_succ]
        refine wpAnyH_done (by kernel_rfl) ?_ _
        exact hT.out _ _ ⟨NB, gOa, gOk, gMa, gMk, gTa, gTk, aL, kL, Ns, [_, _, _, _, _, _, _, _, _], rfl, rfl, GX, cF, hd, oF, wNB, GX.lt, BF⟩
    · refine wpOp_step rfl (fun K hK => ?_)
      rw [if_pos (by kernel_rfl)]
      go_simp
      obtain ⟨NB, hNB⟩ : ∃ n, n = y0.heap.size := ⟨_, rfl⟩
      obtain ⟨y1, hy1⟩ : ∃ z, z = y0.alloc (Obj.cells #[.slice none 0 0, .slice none 0 0, .slice none 0 0] 28) := ⟨_, rfl⟩
      have ky1 : Below y0.heap.size y0 y1 := by rw [hy1]; exact below_box _ _
      have CX : CdAt y1 NB none 0 0 none 0 0 none 0 0 := by rw [hy1, hNB]; exact CdAt.box _ _ _ _ _ _ _ _ _ _ _
      have FX : ∀ i, y1.frozen? ⟨NB, i, none⟩ = false := by intro i; rw [hy1, hNB]; simp [go_sem]
      have tX := CX.lt
      have wNB : x2.heap.size ≤ NB := by omega
      have zy1 := ky1.size
      have hby1 : Below x2.heap.size x2 y1 := hby0.trans (ky1.mono hby0.size)
      rw [← hNB, ← hy1]
      clear hy1 hNB
      refine hK _ _ ⟨hby1, ?_⟩
      clear hK K hi
      refine wpAnyH_all (rs := [1]) (by kernel_rfl) (by simp) ?_
      intro i hi; obtain rfl : i = 1 := by simpa using hi
      refine wpOp_step rfl (fun K hK => ?_)
      rw [if_pos (by kernel_rfl)]
      go_simp
      go_at_call 23
      refine (toCS adO0 cO0 O0 adM0 cM0 D0 adT0 cT0 T0 0 w.heap.size y1 (V0.below hby1 (by omega)) (by omega) hsz).mono ?_
      rintro e y2 ⟨bO, bM, bT, rfl, Wc, ky2⟩
      have zy2 := ky2.size
      have hby2 : Below x2.heap.size x2 y2 := hby1.trans (ky2.mono hby1.size)
      have CX := CX.below ky2 (by omega)
      have FX := fz_below FX ky2 (by omega)
      obtain ⟨lo1, hlo1⟩ : ∃ n, n = y1.heap.size := ⟨_, rfl⟩
      obtain ⟨hi1, hhi1⟩ : ∃ n, n = y2.heap.size := ⟨_, rfl⟩
      rw [← hlo1, ← hhi1] at Wc
      have hlo1' : x2.heap.size ≤ lo1 := by omega
      have hhi1' : hi1 ≤ y2.heap.size := by omega
      have hlh1 : lo1 ≤ hi1 := by omega
      clear hlo1 hhi1
      refine hK _ _ ⟨hby2, ?_⟩
      clear hK K hi
      refine wpAnyH_all (rs := [4]) (by kernel_rfl) (by simp) ?_
      intro i hi; obtain rfl : i = 4 := by simpa using hi
      refine wpOp_step rfl (fun K hK => ?_)
      rw [if_pos (by kernel_rfl)]
      go_simp
      go_at_call 24
      refine (toFI a2 b2 c2 ad2 cap2 L y2 (vL.carry (fun x e p => (BW.trans (hby2.mono BW.size)).block _ (vL.lt x e p))) hlL).mono ?_
      rintro e y3 ⟨NF, rfl, nF1, nF2, FI, ky3⟩
      have zy3 := ky3.size
      have hby3 : Below x2.heap.size x2 y3 := hby2.trans (ky3.mono hby2.size)
      have Wc := Wc.below ky3 (by omega)
      have CX := CX.below ky3 (by omega)
      have FX := fz_below FX ky3 (by omega)
      obtain ⟨lo4, hlo4⟩ : ∃ n, n = y2.heap.size := ⟨_, rfl⟩
      obtain ⟨hi4, hhi4⟩ : ∃ n, n = y3.heap.size := ⟨_, rfl⟩
      rw [← hlo4, ← hhi4] at FI
      have hhi4' : hi4 ≤ y3.heap.size := by omega
      clear hlo4 hhi4
      refine hK _ _ ⟨hby3, ?_⟩
      clear hK K hi
      refine wpAnyH_all (rs := [5]) (by kernel_rfl) (by simp) ?_
      intro i hi; obtain rfl : i = 5 := by simpa using hi
      refine wpOp_step rfl (fun K hK => ?_)
      rw [if_pos (by kernel_rfl)]
      go_simp
      go_at_call 9
      refine (passS (some ⟨bO, 0, none⟩) O0.length O0 (some ⟨bM, 0, none⟩) D0.length D0 (some ⟨bT, 0, none⟩) T0.length T0 n1 a2 b2 c2 (some ⟨NF, 0, none⟩) L.length L lo1 hi1 y3 Wc.view (by omega) hsz I1 (fun h => by cases h) (fun h => by cases h) FI.v hlL (fun h => by cases h)).mono ?_
      intro e y4 hq
      rw [hT1.out, hXO.out] at hq
      obtain ⟨gOa, gOk, gMa, gMk, gTa, gTk, aL, kL, Ns, rfl, cV, hd, ov, oR, oN, ky4⟩ := hq
      have oV : ObI y4 y3.heap.size y4.heap.size aL Ns := ⟨ov, oR, oN⟩
      clear ov oR oN
      have zy4 := ky4.size
      have hby4 : Below x2.heap.size x2 y4 := hby3.trans (ky4.mono hby3.size)
      replace hd : Hid _ := hd
      have CX := CX.below ky4 (by omega)
      have FX := fz_below FX ky4 (by omega)
      have nB : NB < y3.heap.size := by omega
      obtain ⟨lo5, hlo5⟩ : ∃ n, n = y3.heap.size := ⟨_, rfl⟩
      obtain ⟨hi5, hhi5⟩ : ∃ n, n = y4.heap.size := ⟨_, rfl⟩
      rw [← hlo5, ← hhi5] at cV oV
      have hlo5' : x2.heap.size ≤ lo5 := by omega
      have hhi5' : hi5 ≤ y4.heap.size := by omega
      have nB5 : NB < lo5 ∨ hi5 ≤ NB := by omega
      clear hlo5
      clear hhi5
      refine hK _ _ ⟨hby4, ?_⟩
      clear hK K hi
      refine takeW 6 29 (.tuple #[.agg #[.slice gOa O0.length gOk, .slice gMa D0.length gMk, .slice gTa T1.length gTk], .slice aL Ns.length kL]) rfl rfl (by kernel_rfl) (by kernel_rfl) (by kernel_rfl) (fun _ _ _ h => h) (by kernel_rfl) (by (intro w hSw; go_simp)) (by assumption) ?_
      simp only [List.set_cons_zero, List.set_cons_succ]
      refine takeW 7 36 (.agg #[.slice gOa O0.length gOk, .slice gMa D0.length gMk, .slice gTa T1.length gTk]) rfl rfl (by kernel_rfl) (by kernel_rfl) (by kernel_rfl) (fun _ _ _ h => h) (by kernel_rfl) (by (intro w hSw; go_simp)) (by assumption) ?_
      simp only [List.set_cons_zero, List.set_cons_succ]
      refine takeW 8 37 (.slice aL Ns.length kL) rfl rfl (by kernel_rfl) (by kernel_rfl) (by kernel_rfl) (fun _ _ _ h => h) (by kernel_rfl) (by (intro w hSw; go_simp)) (by assumption) ?_
      simp only [List.set_cons_zero, List.set_cons_succ]
      obtain ⟨c0, c1, c2'⟩ := CX
      have CX : CdAt y4 NB none 0 0 none 0 0 none 0 0 := ⟨c0, c1, c2'⟩
      have f0 := FX 0
      have f1 := FX 1
      have f2' := FX 2
      obtain ⟨yF, hyF⟩ : ∃ z, z = ((y4.setCell ⟨NB, 0, none⟩ (.slice gOa O0.length gOk)).setCell ⟨NB, 1, none⟩ (.slice gMa D0.length gMk)).setCell ⟨NB, 2, none⟩ (.slice gTa T1.length gTk) := ⟨_, rfl⟩
      have hF : ∀ j, j ≠ NB → yF.heap[j]? = y4.heap[j]? := fun j hj => by rw [hyF]; exact heap_set3 hj
      have GX : CdAt yF NB gOa O0.length gOk gMa D0.length gMk gTa T1.length gTk := by rw [hyF]; exact ⟨(cell_set_ne (by omega)).trans ((cell_set_ne (by omega)).trans (cell_set_same ⟨_, c0⟩)), (cell_set_ne (by omega)).trans (cell_set_same ⟨_, (cell_set_ne (by omega)).trans c1⟩), cell_set_same ⟨_, (cell_set_ne (by omega)).trans ((cell_set_ne (by omega)).trans c2')⟩⟩
      have sF : y4.heap.size ≤ yF.heap.size := by rw [hyF]; simp
      have BF : Below x2.heap.size x2 yF := by rw [hyF]; exact ((hby4.setCell (by show x2.heap.size ≤ NB; omega) _).setCell (by show x2.heap.size ≤ NB; omega) _).setCell (by show x2.heap.size ≤ NB; omega) _
      have cF : CdV yF x2.heap.size yF.heap.size gOa O0 gMa D0 gTa T1 := (cV.keep (w' := yF) (fun j h1 h2 => hF j (by omega))).wide (by omega) (by omega)
      have oF : ObI yF x2.heap.size yF.heap.size aL Ns := (oV.keep (w' := yF) (fun j h1 h2 => hF j (by omega))).wide (by omega) (by omega)
      refine wpAnyH_all (rs := [10]) (by kernel_rfl) (by simp) ?_
      intro i hi; obtain rfl : i = 10 := by simpa using hi
      refine wpOp_step rfl (fun K hK => ?_)
      rw [if_pos (by kernel_rfl)]
      go_simp
      rw [← hyF]
      refine hK _ _ ⟨BF, ?_⟩
      clear hK K hi
      refine takeW 11 9 (.slice aL Ns.length kL) rfl rfl (by kernel_rfl) (by kernel_rfl) (by kernel_rfl) (fun _ _ _ h => h) (by kernel_rfl) (by (intro w hSw; go_simp)) (by assumption) ?_
      simp only [List.set_cons_zero, List.set_cons_succ]
      refine wpAnyH_done (by kernel_rfl) ?_ _
      exact hT.out _ _ ⟨NB, gOa, gOk, gMa, gMk, gTa, gTk, aL, kL, Ns, [_, _, _, _, _, _, _, _, _], rfl, rfl, GX, cF, hd, oF, wNB, GX.lt, BF⟩
  rintro l' x3 ⟨NB8, aO8, kO8, aM8, kM8, aT8, kT8, aL8, kL8, Ns8, us, hul, rfl, B8, V8, hd8, I8L, nb8, nc8, kx3⟩
  obtain ⟨u29, us, rfl⟩ : ∃ a b, us = a :: b := List.exists_cons_of_length_eq_add_one hul
  replace hul := Nat.succ.inj hul
  obtain ⟨u30, us, rfl⟩ : ∃ a b, us = a :: b := List.exists_cons_of_length_eq_add_one hul
  replace hul := Nat.succ.inj hul
  obtain ⟨u31, us, rfl⟩ : ∃ a b, us = a :: b := List.exists_cons_of_length_eq_add_one hul
  replace hul := Nat.succ.inj hul
  obtain ⟨u32, us, rfl⟩ : ∃ a b, us = a :: b := List.exists_cons_of_length_eq_add_one hul
  replace hul := Nat.succ.inj hul
  obtain ⟨u33, us, rfl⟩ : ∃ a b, us = a :: b := List.exists_cons_of_length_eq_add_one hul
  replace hul := Nat.succ.inj hul
  obtain ⟨u34, us, rfl⟩ : ∃ a b, us = a :: b := List.exists_cons_of_length_eq_add_one hul
  replace hul := Nat.succ.inj hul
  obtain ⟨u35, us, rfl⟩ : ∃ a b, us = a :: b := List.exists_cons_of_length_eq_add_one hul
  replace hul := Nat.succ.inj hul
  obtain ⟨u36, us, rfl⟩ : ∃ a b, us = a :: b := List.exists_cons_of_length_eq_add_one hul
  replace hul := Nat.succ.inj hul
  obtain ⟨u37, us, rfl⟩ : ∃ a b, us = a :: b := List.exists_cons_of_length_eq_add_one hul
  replace hul := Nat.succ.inj hul
  obtain rfl : us = [] := List.eq_nil_of_length_eq_zero hul
  clear hul
  simp only [List.take, List.drop, List.cons_append, List.nil_append]
  have sx3 := kx3.size
  have A0 := A0.below kx3 (by omega)
  have F0 := F0.below kx3 (by omega)
  have V0 := V0.below kx3 (by omega)
  have BW := BW.trans (kx3.mono BW.size)
  clear kx3
  have sm8 := outs_small hfew hd8.out
  have A0' := A0
  obtain ⟨X1, X2, X3⟩ := A0'
  go_wp2_with fail
  go_at_call 23
  clear X1 X2 X3
  refine (toC adO0 cO0 O0 adM0 cM0 D0 adT0 cT0 T0 0 w.heap.size x3 V0 (by omega) hsz).mono ?_
  rintro e x4 ⟨aO3, kO3, aM3, kM3, aT3, kT3, rfl, W3, kx4⟩
  have sx4 := kx4.size
  have A0 := A0.below kx4 (by omega)
  have F0 := F0.below kx4 (by omega)
  have V0 := V0.below kx4 (by omega)
  have B8 := B8.below kx4 (by omega)
  have V8 := V8.below kx4 (by omega)
  have I8L := I8L.below kx4 (by omega)
  have BW := BW.trans (kx4.mono BW.size)
  clear kx4
  obtain ⟨x5, hx5⟩ : ∃ y, y = x4.alloc (Obj.cells #[.slice aO3 O0.length kO3, .slice aM3 D0.length kM3, .slice aT3 T0.length kT3] 28) := ⟨_, rfl⟩
  have kx5 : Below x4.heap.size x4 x5 := by rw [hx5]; exact below_box x4 _
  have A10 : CdAt x5 x4.heap.size aO3 O0.length kO3 aM3 D0.length kM3 aT3 T0.length kT3 := by rw [hx5]; exact CdAt.box _ _ _ _ _ _ _ _ _ _ _
  have tx5 : x4.heap.size < x5.heap.size := A10.lt
  have sx5 := kx5.size
  have A0 := A0.below kx5 (by omega)
  have F0 := F0.below kx5 (by omega)
  have V0 := V0.below kx5 (by omega)
  have B8 := B8.below kx5 (by omega)
  have V8 := V8.below kx5 (by omega)
  have I8L := I8L.below kx5 (by omega)
  have W3 := W3.below kx5 (by omega)
  have BW := BW.trans (kx5.mono BW.size)
  clear kx5
  have F0' := F0
  obtain ⟨X1, X2, X3, X4⟩ := F0'
  rw [hx5] at X1 X2 X3 X4
  go_wp2_with fail
  go_at_call 24
  rw [← hx5]
  clear hx5
  clear X1 X2 X3 X4
  refine (toFI a2 b2 c2 ad2 cap2 L x5 (vL.carry (fun x e p => BW.block _ (vL.lt x e p))) hlL).mono ?_
  rintro e x6 ⟨N4, rfl, n41, n42, FI, kx6⟩
  have sx6 := kx6.size
  have A0 := A0.below kx6 (by omega)
  have F0 := F0.below kx6 (by omega)
  have V0 := V0.below kx6 (by omega)
  have B8 := B8.below kx6 (by omega)
  have V8 := V8.below kx6 (by omega)
  have I8L := I8L.below kx6 (by omega)
  have W3 := W3.below kx6 (by omega)
  have A10 := A10.below kx6 (by omega)
  have BW := BW.trans (kx6.mono BW.size)
  clear kx6
  obtain ⟨x7, hx7⟩ : ∃ y, y = x6.alloc (Obj.cells #[.int .i64 a2, .int .i64 b2, .int .i64 c2, .slice (some ⟨N4, 0, none⟩) L.length L.length] 30) := ⟨_, rfl⟩
  have kx7 : Below x6.heap.size x6 x7 := by rw [hx7]; exact below_box x6 _
  have F11 : FrameAt x7 x6.heap.size a2 b2 c2 (some ⟨N4, 0, none⟩) L.length L.length := by rw [hx7]; refine ⟨?_, ?_, ?_, ?_⟩ <;> simp [go_sem]
  have tx7 : x6.heap.size < x7.heap.size := F11.lt
  have sx7 := kx7.size
  have A0 := A0.below kx7 (by omega)
  have F0 := F0.below kx7 (by omega)
  have V0 := V0.below kx7 (by omega)
  have B8 := B8.below kx7 (by omega)
  have V8 := V8.below kx7 (by omega)
  have I8L := I8L.below kx7 (by omega)
  have W3 := W3.below kx7 (by omega)
  have A10 := A10.below kx7 (by omega)
  have FI := FI.below kx7 (by omega)
  have BW := BW.trans (kx7.mono BW.size)
  clear kx7
  have A10' := A10
  obtain ⟨X1, X2, X3⟩ := A10'
  rw [hx7] at X1 X2 X3
  go_wp2_with fail
  go_at_call 8
  rw [← hx7]
  clear hx7
  clear X1 X2 X3
  refine (passI sentI aO3 kO3 O0 aM3 kM3 D0 aT3 kT3 T0 n1 a2 b2 c2 (some ⟨N4, 0, none⟩) L.length L x3.heap.size x4.heap.size x7 W3.view (by omega) hsz I1 FI.v hlL).mono ?_
  intro e x8 hq
  rw [hT1.out, hXO.out] at hq
  obtain ⟨aO4, kO4, aM4, kM4, aT4, kT4, aL4, kL4, Ns4, fp4, mid, rfl, W4, mi1, mi2, hd4, ow4, hf4, kx8⟩ := hq
  have J4 : ObJ x8 mid x8.heap.size aL4 Ns4 := ⟨fp4, ow4, hf4⟩
  replace hd4 : Hid _ := hd4
  have sm4 := outs_small hfew hd4.out
  clear ow4 hf4
  have sx8 := kx8.size
  have A0 := A0.below kx8 (by omega)
  have F0 := F0.below kx8 (by omega)
  have V0 := V0.below kx8 (by omega)
  have B8 := B8.below kx8 (by omega)
  have V8 := V8.below kx8 (by omega)
  have I8L := I8L.below kx8 (by omega)
  have W3 := W3.below kx8 (by omega)
  have A10 := A10.below kx8 (by omega)
  have FI := FI.below kx8 (by omega)
  have F11 := F11.below kx8 (by omega)
  have BW := BW.trans (kx8.mono BW.size)
  clear kx8
  obtain ⟨x9, hx9⟩ : ∃ y, y = x8.alloc (Obj.cells #[.slice aO4 O0.length kO4, .slice aM4 D0.length kM4, .slice aT4 T1.length kT4] 28) := ⟨_, rfl⟩
  have kx9 : Below x8.heap.size x8 x9 := by rw [hx9]; exact below_box x8 _
  have A12 : CdAt x9 x8.heap.size aO4 O0.length kO4 aM4 D0.length kM4 aT4 T1.length kT4 := by rw [hx9]; exact CdAt.box _ _ _ _ _ _ _ _ _ _ _
  have tx9 : x8.heap.size < x9.heap.size := A12.lt
  have sx9 := kx9.size
  have A0 := A0.below kx9 (by omega)
  have F0 := F0.below kx9 (by omega)
  have V0 := V0.below kx9 (by omega)
  have B8 := B8.below kx9 (by omega)
  have V8 := V8.below kx9 (by omega)
  have I8L := I8L.below kx9 (by omega)
  have W3 := W3.below kx9 (by omega)
  have A10 := A10.below kx9 (by omega)
  have FI := FI.below kx9 (by omega)
  have F11 := F11.below kx9 (by omega)
  have W4 := W4.below kx9 (by omega)
  have J4 := J4.below kx9 (by omega)
  have BW := BW.trans (kx9.mono BW.size)
  clear kx9
  obtain ⟨kk, hkk⟩ : ∃ t : Int, Hid ((kToOb Ns4 Ns4.length : Int) = t) := ⟨_, rfl⟩
  have hkk0 : 0 ≤ kk := by rw [← hkk.out]; omega
  have hkk1 : kk ≤ 1000 := by rw [← hkk.out, kToOb_lTo]; have := sm4.1; have := sm4.2.2; omega
  have B8' := B8
  obtain ⟨X1, X2, X3⟩ := B8'
  rw [hx9] at X1 X2 X3
  go_wp2_with fail
  go_at_call 25
  rw [← hx9]
  clear hx9
  clear X1 X2 X3
  refine (eqC aO4 kO4 O0 aM4 kM4 D0 aT4 kT4 T1 aO8 kO8 aM8 kM8 aT8 kT8 x7.heap.size mid x2.heap.size x3.heap.size x9 W4.view V8 (by omega) (by omega) hgl).mono ?_
  rintro e x10 ⟨rfl, kx10⟩
  have sx10 := kx10.size
  have A0 := A0.below kx10 (by omega)
  have F0 := F0.below kx10 (by omega)
  have V0 := V0.below kx10 (by omega)
  have B8 := B8.below kx10 (by omega)
  have V8 := V8.below kx10 (by omega)
  have I8L := I8L.below kx10 (by omega)
  have W3 := W3.below kx10 (by omega)
  have A10 := A10.below kx10 (by omega)
  have FI := FI.below kx10 (by omega)
  have F11 := F11.below kx10 (by omega)
  have W4 := W4.below kx10 (by omega)
  have J4 := J4.below kx10 (by omega)
  have A12 := A12.below kx10 (by omega)
  have BW := BW.trans (kx10.mono BW.size)
  clear kx10
  go_wp2_with fail
  go_at_call 26
  refine (eqOs aL4 aL8 kL4 kL8 Ns4 Ns8 x10 J4.view.v I8L.v (hd8.out.trans hd4.out.symm) (by have := sm4.1; omega) (fun i hi => by have := sm4.2.1 i hi; omega)).mono ?_
  rintro e x11 ⟨rfl, kx11⟩
  have sx11 := kx11.size
  have A0 := A0.below kx11 (by omega)
  have F0 := F0.below kx11 (by omega)
  have V0 := V0.below kx11 (by omega)
  have B8 := B8.below kx11 (by omega)
  have V8 := V8.below kx11 (by omega)
  have I8L := I8L.below kx11 (by omega)
  have W3 := W3.below kx11 (by omega)
  have A10 := A10.below kx11 (by omega)
  have FI := FI.below kx11 (by omega)
  have F11 := F11.below kx11 (by omega)
  have W4 := W4.below kx11 (by omega)
  have J4 := J4.below kx11 (by omega)
  have A12 := A12.below kx11 (by omega)
  have BW := BW.trans (kx11.mono BW.size)
  clear kx11
  go_wp2_with fail
  refine wp_region_held (S := fun Y => Below x11.heap.size x11 Y) (by kernel_rfl) ?_
  change wpAnyH _ _ _ _ _ _ _ _ (World.drew _)
  have hb0 : Below x11.heap.size x11 x11.drew := (Below.refl _ _).drew
  refine takeW 0 59 (.agg #[.slice aO3 O0.length kO3, .slice aM3 D0.length kM3, .slice aT3 T0.length kT3]) rfl rfl (by kernel_rfl) (by kernel_rfl) (by kernel_rfl) (fun _ _ _ h => h) (by kernel_rfl) (by (intro Y hSw; obtain ⟨Z1, Z2, Z3⟩ := A10.below hSw (by omega); go_simp)) (by assumption) ?_
  simp only [List.set_cons_zero, List.set_cons_succ]
  refine takeW 1 60 (.agg #[.slice adO0 O0.length cO0, .slice adM0 D0.length cM0, .slice adT0 T0.length cT0]) rfl rfl (by kernel_rfl) (by kernel_rfl) (by kernel_rfl) (fun _ _ _ h => h) (by kernel_rfl) (by (intro Y hSw; obtain ⟨Z1, Z2, Z3⟩ := A0.below hSw (by omega); go_simp)) (by assumption) ?_
  simp only [List.set_cons_zero, List.set_cons_succ]
  refine wpAnyH_all (rs := [2]) (by kernel_rfl) (by simp) ?_
  intro i hi; obtain rfl : i = 2 := by simpa using hi
  refine wpOp_step rfl (fun K hK => ?_)
  rw [if_pos (by kernel_rfl)]
  go_simp
  go_at_call 23
  refine (toC adO0 cO0 O0 adM0 cM0 D0 adT0 cT0 T0 0 w.heap.size x11.drew (V0.below hb0 (by omega)) (by show w.heap.size ≤ x11.heap.size; omega) hsz).mono ?_
  rintro e y1 ⟨aOq, kOq, aMq, kMq, aTq, kTq, rfl, Wq, jq1⟩
  have hb1 : Below x11.heap.size x11 y1 := hb0.trans (jq1.mono hb0.size)
  refine hK _ _ ⟨hb1, ?_⟩
  clear hK K hi
  refine wpAnyH_all (rs := [3]) (by kernel_rfl) (by simp) ?_
  intro i hi; obtain rfl : i = 3 := by simpa using hi
  refine wpOp_step rfl (fun K hK => ?_)
  rw [if_pos (by kernel_rfl)]
  go_simp
  go_at_call 25
  refine (eqC aO3 kO3 O0 aM3 kM3 D0 aT3 kT3 T0 aOq kOq aMq kMq aTq kTq x3.heap.size x4.heap.size x11.heap.size y1.heap.size y1 (W3.view.below hb1 (by omega)) Wq.view (by have := hb1.size; omega) (Nat.le_refl _) hsz).mono ?_
  rintro e y2 ⟨rfl, jq2⟩
  have kE : Below x11.heap.size x11 y2 := hb1.trans (jq2.mono hb1.size)
  refine hK _ _ ⟨kE, ?_⟩
  clear hK K hi
  refine takeW 4 63 (.bool false) rfl rfl (by kernel_rfl) (by kernel_rfl) (by kernel_rfl) (fun _ _ _ h => h) (by kernel_rfl) (by (intro w hSw; go_simp)) (by assumption) ?_
  simp only [List.set_cons_zero, List.set_cons_succ]
  refine wpAnyH_done (by kernel_rfl) ?_ _
  clear hb0 hb1 Wq jq1 jq2
  generalize hgy : y2 = x12 at *
  clear hgy
  have sx12 := kE.size
  have A0 := A0.below kE (by omega)
  have F0 := F0.below kE (by omega)
  have V0 := V0.below kE (by omega)
  have B8 := B8.below kE (by omega)
  have V8 := V8.below kE (by omega)
  have I8L := I8L.below kE (by omega)
  have W3 := W3.below kE (by omega)
  have A10 := A10.below kE (by omega)
  have FI := FI.below kE (by omega)
  have F11 := F11.below kE (by omega)
  have W4 := W4.below kE (by omega)
  have J4 := J4.below kE (by omega)
  have A12 := A12.below kE (by omega)
  have BW := BW.trans (kE.mono BW.size)
  clear kE
  go_wp2_with fail
  refine wp_region_held (S := fun Y => Below x12.heap.size x12 Y) (by kernel_rfl) ?_
  change wpAnyH _ _ _ _ _ _ _ _ (World.drew _)
  have hb0 : Below x12.heap.size x12 x12.drew := (Below.refl _ _).drew
  refine takeW 0 64 (.agg #[.int .i64 a2, .int .i64 b2, .int .i64 c2, .slice (some ⟨N4, 0, none⟩) L.length L.length]) rfl rfl (by kernel_rfl) (by kernel_rfl) (by kernel_rfl) (fun _ _ _ h => h) (by kernel_rfl) (by (intro Y hSw; obtain ⟨C1, C2, C3, C4⟩ := F11.below hSw (by omega); go_simp)) (by assumption) ?_
  simp only [List.set_cons_zero, List.set_cons_succ]
  refine takeW 1 65 (.agg #[.int .i64 a2, .int .i64 b2, .int .i64 c2, .slice ad2 L.length cap2]) rfl rfl (by kernel_rfl) (by kernel_rfl) (by kernel_rfl) (fun _ _ _ h => h) (by kernel_rfl) (by (intro Y hSw; obtain ⟨C1, C2, C3, C4⟩ := F0.below hSw (by omega); go_simp)) (by assumption) ?_
  simp only [List.set_cons_zero, List.set_cons_succ]
  refine wpAnyH_all (rs := [2]) (by kernel_rfl) (by simp) ?_
  intro i hi; obtain rfl : i = 2 := by simpa using hi
  refine wpOp_step rfl (fun K hK => ?_)
  rw [if_pos (by kernel_rfl)]
  go_simp
  go_at_call 24
  refine (toF a2 b2 c2 ad2 L.length cap2 (fun i => L.getD i 0) _ (vL.carry (fun x h hp => (BW.trans (hb0.mono BW.size)).block _ ((fun x h hp => vL.lt x h hp) x h hp))) hlL (fun x h hp => by have := (fun x h hp => vL.lt x h hp) x h hp; have := hb0.size; have := BW.size; omega)).mono ?_
  rintro e y1 ⟨N1, rfl, nq1, mq1, vq1, rq1, jq1⟩
  have hb1 : Below x12.heap.size x12 y1 := hb0.trans (jq1.mono hb0.size)
  refine hK _ _ ⟨hb1, ?_⟩
  clear hK K hi
  refine wpAnyH_all (rs := [3]) (by kernel_rfl) (by simp) ?_
  intro i hi; obtain rfl : i = 3 := by simpa using hi
  refine wpOp_step rfl (fun K hK => ?_)
  rw [if_pos (by kernel_rfl)]
  go_simp
  go_at_call 27
  refine (eqF a2 b2 c2 _ _ L.length _ _ (fun i => L.getD i 0) _ (FI.v.carry (fun x h _ => by simp at h; subst h; exact hb1.block _ (by omega : N4 < x12.heap.size))) vq1 hlL (fun x h _ => by simp at h; subst h; have := hb1.size; have := (by omega : N4 < x12.heap.size); show N4 < _; omega) (fun x h _ => by simp at h; subst h; exact mq1)).mono ?_
  rintro e y2 ⟨rfl, jq2⟩
  have kE : Below x12.heap.size x12 y2 := hb1.trans (jq2.mono hb1.size)
  refine hK _ _ ⟨kE, ?_⟩
  clear hK K hi
  refine takeW 4 68 (.bool false) rfl rfl (by kernel_rfl) (by kernel_rfl) (by kernel_rfl) (fun _ _ _ h => h) (by kernel_rfl) (by (intro w hSw; go_simp)) (by assumption) ?_
  simp only [List.set_cons_zero, List.set_cons_succ]
  refine wpAnyH_done (by kernel_rfl) ?_ _
  clear hb0 hb1 vq1 rq1 jq1 jq2
  generalize hgy : y2 = x13 at *
  clear hgy
  have sx13 := kE.size
  have A0 := A0.below kE (by omega)
  have F0 := F0.below kE (by omega)
  have V0 := V0.below kE (by omega)
  have B8 := B8.below kE (by omega)
  have V8 := V8.below kE (by omega)
  have I8L := I8L.below kE (by omega)
  have W3 := W3.below kE (by omega)
  have A10 := A10.below kE (by omega)
  have FI := FI.below kE (by omega)
  have F11 := F11.below kE (by omega)
  have W4 := W4.below kE (by omega)
  have J4 := J4.below kE (by omega)
  have A12 := A12.below kE (by omega)
  have BW := BW.trans (kE.mono BW.size)
  clear kE
  have A10' := A10
  obtain ⟨X1, X2, X3⟩ := A10'
  go_wp2_with fail
  go_at_call 28
  clear X1 X2 X3
  refine (markC aO3 kO3 O0 aM3 kM3 D0 aT3 kT3 T0 x3.heap.size x4.heap.size 1 x13 W3 (by omega) hsz (by omega) (by omega)).mono ?_
  rintro e x14 ⟨rfl, _, Kx14⟩
  rw [ht0.out]
  have sx14 := Kx14.size
  have A0 := A0.same (Kx14.block _ (by omega) (by omega))
  have F0 := F0.same (Kx14.block _ (by omega) (by omega))
  have V0 := V0.kept Kx14 (by omega) (by omega)
  have B8 := B8.same (Kx14.block _ (by omega) (by omega))
  have V8 := V8.kept Kx14 (by omega) (by omega)
  have I8L := I8L.kept Kx14 (by omega) (by omega)
  have FI := FI.kept Kx14 (by omega) (by omega)
  have F11 := F11.same (Kx14.block _ (by omega) (by omega))
  have W4 := W4.kept Kx14 (by omega) (by omega)
  have J4 := J4.kept Kx14 (by omega) (by omega)
  have A12 := A12.same (Kx14.block _ (by omega) (by omega))
  have BW := BW.trans ((Kx14.below (by omega)).mono (by omega))
  clear Kx14
  clear A10 W3
  have F11' := F11
  obtain ⟨X1, X2, X3, X4⟩ := F11'
  go_wp2_with fail
  go_at_call 29
  clear X1 X2 X3 X4
  refine (markF2 (1 + t0) (by omega) (by omega) a2 b2 c2 (some ⟨N4, 0, none⟩) L.length L.length x14 FI.r hlL).mono ?_
  rintro e x15 ⟨rfl, Kq, _⟩
  have Kx15 : KeptR x5.heap.size x6.heap.size x14 x15 := KeptR.of_kept Kq FI.i
  clear Kq
  have sx15 := Kx15.size
  have A0 := A0.same (Kx15.block _ (by omega) (by omega))
  have F0 := F0.same (Kx15.block _ (by omega) (by omega))
  have V0 := V0.kept Kx15 (by omega) (by omega)
  have B8 := B8.same (Kx15.block _ (by omega) (by omega))
  have V8 := V8.kept Kx15 (by omega) (by omega)
  have I8L := I8L.kept Kx15 (by omega) (by omega)
  have W4 := W4.kept Kx15 (by omega) (by omega)
  have J4 := J4.kept Kx15 (by omega) (by omega)
  have A12 := A12.same (Kx15.block _ (by omega) (by omega))
  have BW := BW.trans ((Kx15.below (by omega)).mono (by omega))
  clear Kx15
  clear F11 FI
  have hkm : 0 ≤ 1 + t0 + (L.length : Int) := by omega
  have A12' := A12
  obtain ⟨X1, X2, X3⟩ := A12'
  have B8' := B8
  obtain ⟨Y1, Y2, Y3⟩ := B8'
  go_wp2_with fail
  go_at_call 25
  clear X1 X2 X3 Y1 Y2 Y3
  refine (eqC aO4 kO4 O0 aM4 kM4 D0 aT4 kT4 T1 aO8 kO8 aM8 kM8 aT8 kT8 x7.heap.size mid x2.heap.size x3.heap.size x15 W4.view V8 (by omega) (by omega) hgl).mono ?_
  rintro e x16 ⟨rfl, kx16⟩
  have sx16 := kx16.size
  have A0 := A0.below kx16 (by omega)
  have F0 := F0.below kx16 (by omega)
  have V0 := V0.below kx16 (by omega)
  have B8 := B8.below kx16 (by omega)
  have V8 := V8.below kx16 (by omega)
  have I8L := I8L.below kx16 (by omega)
  have W4 := W4.below kx16 (by omega)
  have J4 := J4.below kx16 (by omega)
  have A12 := A12.below kx16 (by omega)
  have BW := BW.trans (kx16.mono BW.size)
  clear kx16
  go_wp2_with fail
  go_at_call 26
  refine (eqOs aL4 aL8 kL4 kL8 Ns4 Ns8 x16 J4.view.v I8L.v (hd8.out.trans hd4.out.symm) (by have := sm4.1; omega) (fun i hi => by have := sm4.2.1 i hi; omega)).mono ?_
  rintro e x17 ⟨rfl, kx17⟩
  have sx17 := kx17.size
  have A0 := A0.below kx17 (by omega)
  have F0 := F0.below kx17 (by omega)
  have V0 := V0.below kx17 (by omega)
  have B8 := B8.below kx17 (by omega)
  have V8 := V8.below kx17 (by omega)
  have I8L := I8L.below kx17 (by omega)
  have W4 := W4.below kx17 (by omega)
  have J4 := J4.below kx17 (by omega)
  have A12 := A12.below kx17 (by omega)
  have BW := BW.trans (kx17.mono BW.size)
  clear kx17
  have A12' := A12
  obtain ⟨X1, X2, X3⟩ := A12'
  go_wp2_with fail
  go_at_call 28
  clear X1 X2 X3
  refine (markC aO4 kO4 O0 aM4 kM4 D0 aT4 kT4 T1 x7.heap.size mid 1 x17 W4 (by omega) hgl (by omega) (by omega)).mono ?_
  rintro e x18 ⟨rfl, H4, Kx18⟩
  rw [htt.out] at H4 ⊢
  have sx18 := Kx18.size
  have A0 := A0.same (Kx18.block _ (by omega) (by omega))
  have F0 := F0.same (Kx18.block _ (by omega) (by omega))
  have V0 := V0.kept Kx18 (by omega) (by omega)
  have B8 := B8.same (Kx18.block _ (by omega) (by omega))
  have V8 := V8.kept Kx18 (by omega) (by omega)
  have I8L := I8L.kept Kx18 (by omega) (by omega)
  have J4 := J4.kept Kx18 (by omega) (by omega)
  have A12 := A12.same (Kx18.block _ (by omega) (by omega))
  have BW := BW.trans ((Kx18.below (by omega)).mono (by omega))
  clear Kx18
  clear W4
  go_wp2_with fail
  go_at_call 30
  refine (markOJ aL4 kL4 Ns4 mid x8.heap.size (1 + tt) x18 J4 (by have := sm4.1; omega) (by have := sm4.2.2; omega) (by omega) (by omega)).mono ?_
  rintro e x19 ⟨rfl, OH4, Kx19⟩
  rw [hkk.out] at OH4 ⊢
  have sx19 := Kx19.size
  have A0 := A0.same (Kx19.block _ (by omega) (by omega))
  have F0 := F0.same (Kx19.block _ (by omega) (by omega))
  have V0 := V0.kept Kx19 (by omega) (by omega)
  have B8 := B8.same (Kx19.block _ (by omega) (by omega))
  have V8 := V8.kept Kx19 (by omega) (by omega)
  have I8L := I8L.kept Kx19 (by omega) (by omega)
  have A12 := A12.same (Kx19.block _ (by omega) (by omega))
  have H4 := H4.kept Kx19 (by omega) (by omega)
  have BW := BW.trans ((Kx19.below (by omega)).mono (by omega))
  clear Kx19
  clear J4
  have A12' := A12
  obtain ⟨X1, X2, X3⟩ := A12'
  go_wp2_with fail
  go_at_call 31
  clear X1 X2 X3
  refine (heldC aO4 O0.length kO4 aM4 D0.length kM4 aT4 T1.length kT4 x7.heap.size mid 1 tt x19 H4 (by omega) (by omega) (by omega)).mono ?_
  rintro e x20 ⟨rfl, kx20⟩
  have sx20 := kx20.size
  have A0 := A0.below kx20 (by omega)
  have F0 := F0.below kx20 (by omega)
  have V0 := V0.below kx20 (by omega)
  have B8 := B8.below kx20 (by omega)
  have V8 := V8.below kx20 (by omega)
  have I8L := I8L.below kx20 (by omega)
  have A12 := A12.below kx20 (by omega)
  have H4 := H4.below kx20 (by omega)
  have OH4 := OH4.below kx20 (by omega)
  have BW := BW.trans (kx20.mono BW.size)
  clear kx20
  have htp : 0 ≤ 1 + tt := by omega
  go_wp2_with fail
  go_at_call 32
  refine (heldOJ aL4 kL4 Ns4.length mid x8.heap.size (1 + tt) kk x20 OH4 (by omega) (by omega)).mono ?_
  rintro e x21 ⟨rfl, hwx21⟩
  subst hwx21
  have htk : 0 ≤ 1 + tt + kk := by omega
  go_wp2_with fail
  refine join_region8 (fun l l' W' => ∃ (NB : Nat) (gOa : Option Addr) (gOk : Nat) (gMa : Option Addr) (gMk : Nat) (gTa : Option Addr) (gTk : Nat) (aL : Option Addr) (kL : Nat) (Ns : List Ob) (us : List Value), us.length = 9 ∧ l' = l.take 17 ++ (.pointer (some ⟨NB, 0, none⟩) :: .slice aL Ns.length kL :: (l.drop 19).take 89) ++ us ++ l.drop 117 ∧ CdAt W' NB gOa O0.length gOk gMa D0.length gMk gTa T1.length gTk ∧ CdV W' x21.heap.size W'.heap.size gOa O0 gMa D0 gTa T1 ∧ Hid (Ns.map Ob.d = XO) ∧ ObI W' x21.heap.size W'.heap.size aL Ns ∧ x21.heap.size ≤ NB ∧ NB < W'.heap.size ∧ Below x21.heap.size x21 W') ?_ ?_
  rotate_left
  · intro K2 hT
    refine wp_region_held (S := fun Y => Below x21.heap.size x21 Y) (by kernel_rfl) ?_
    change wpAnyH _ _ _ _ _ _ _ _ (World.drew _)
    have hby0 : Below x21.heap.size x21 x21.drew := (Below.refl _ _).drew
    obtain ⟨y0, hy0⟩ : ∃ z, z = x21.drew := ⟨_, rfl⟩
    rw [← hy0] at hby0 ⊢
    have zy0 := hby0.size
    clear hy0
    refine takeW 0 109 (.agg #[.slice adO0 O0.length cO0, .slice adM0 D0.length cM0, .slice adT0 T0.length cT0]) rfl rfl (by kernel_rfl) (by kernel_rfl) (by kernel_rfl) (fun _ _ _ h => h) (by kernel_rfl) (by (intro Y hSw; obtain ⟨X1, X2, X3⟩ := A0.below hSw (by omega); go_simp)) (by assumption) ?_
    simp only [List.set_cons_zero, List.set_cons_succ]
    refine takeW 2 111 (.int .i64 n1) rfl rfl (by kernel_rfl) (by kernel_rfl) (by kernel_rfl) (fun _ _ _ h => h) (by kernel_rfl) (by (intro w hSw; go_simp)) (by assumption) ?_
    simp only [List.set_cons_zero, List.set_cons_succ]
    refine takeW 3 112 (.agg #[.int .i64 a2, .int .i64 b2, .int .i64 c2, .slice ad2 L.length cap2]) rfl rfl (by kernel_rfl) (by kernel_rfl) (by kernel_rfl) (fun _ _ _ h => h) (by kernel_rfl) (by (intro Y hSw; obtain ⟨X1, X2, X3, X4⟩ := F0.below hSw (by omega); go_simp)) (by assumption) ?_
    simp only [List.set_cons_zero, List.set_cons_succ]
    refine wpAnyH_all (rs := [1, 9]) (by kernel_rfl) (by simp) ?_
    intro i hi; rcases (by simpa using hi : i = 1 ∨ i = 9) with rfl | rfl
    · refine wpOp_step rfl (fun K hK => ?_)
      rw [if_pos (by kernel_rfl)]
      go_simp
      go_at_call 23
      refine (toC adO0 cO0 O0 adM0 cM0 D0 adT0 cT0 T0 0 w.heap.size y0 (V0.below hby0 (by omega)) (by omega) hsz).mono ?_
      rintro e y1 ⟨cOa, cOk, cMa, cMk, cTa, cTk, rfl, Wc, ky1⟩
      have zy1 := ky1.size
      have hby1 : Below x21.heap.size x21 y1 := hby0.trans (ky1.mono hby0.size)
      obtain ⟨lo1, hlo1⟩ : ∃ n, n = y0.heap.size := ⟨_, rfl⟩
      obtain ⟨hi1, hhi1⟩ : ∃ n, n = y1.heap.size := ⟨_, rfl⟩
      rw [← hlo1, ← hhi1] at Wc
      have hlo1' : x21.heap.size ≤ lo1 := by omega
      have hhi1' : hi1 ≤ y1.heap.size := by omega
      have hlh1 : lo1 ≤ hi1 := by omega
      clear hlo1 hhi1
      refine hK _ _ ⟨hby1, ?_⟩
      clear hK K hi
      refine wpAnyH_all (rs := [4, 9]) (by kernel_rfl) (by simp) ?_
      intro i hi; rcases (by simpa using hi : i = 4 ∨ i = 9) with rfl | rfl
      · refine wpOp_step rfl (fun K hK => ?_)
        rw [if_pos (by kernel_rfl)]
        go_simp
        go_at_call 24
        refine (toFI a2 b2 c2 ad2 cap2 L y1 (vL.carry (fun x e p => (BW.trans (hby1.mono BW.size)).block _ (vL.lt x e p))) hlL).mono ?_
        rintro e y2 ⟨NF, rfl, nF1, nF2, FI, ky2⟩
        have zy2 := ky2.size
        have hby2 : Below x21.heap.size x21 y2 := hby1.trans (ky2.mono hby1.size)
        have Wc := Wc.below ky2 (by omega)
        obtain ⟨lo4, hlo4⟩ : ∃ n, n = y1.heap.size := ⟨_, rfl⟩
        obtain ⟨hi4, hhi4⟩ : ∃ n, n = y2.heap.size := ⟨_, rfl⟩
        rw [← hlo4, ← hhi4] at FI
        have hhi4' : hi4 ≤ y2.heap.size := by omega
        clear hlo4 hhi4
        refine hK _ _ ⟨hby2, ?_⟩
        clear hK K hi
        refine wpAnyH_all (rs := [5, 9]) (by kernel_rfl) (by simp) ?_
        intro i hi; rcases (by simpa using hi : i = 5 ∨ i = 9) with rfl | rfl
        · refine wpOp_step rfl (fun K hK => ?_)
          rw [if_pos (by kernel_rfl)]
          go_simp
          go_at_call 8
          refine (passI sentI cOa cOk O0 cMa cMk D0 cTa cTk T0 n1 a2 b2 c2 (some ⟨NF, 0, none⟩) L.length L lo1 hi1 y2 Wc.view (by omega) hsz I1 FI.v hlL).mono ?_
          intro e y3 hq
          rw [hT1.out, hXO.out] at hq
          obtain ⟨gOa, gOk, gMa, gMk, gTa, gTk, aL, kL, Ns, fp, mid, rfl, cW, m1, m2, hd, ow, hf, ky3⟩ := hq
          have cV : CdV y3 y2.heap.size y3.heap.size gOa O0 gMa D0 gTa T1 := cW.view.wide (Nat.le_refl _) m2
          have oV : ObI y3 y2.heap.size y3.heap.size aL Ns := ((⟨fp, ow, hf⟩ : ObJ y3 mid y3.heap.size aL Ns).view).wide m1 (Nat.le_refl _)
          clear cW ow hf
          have zy3 := ky3.size
          have hby3 : Below x21.heap.size x21 y3 := hby2.trans (ky3.mono hby2.size)
          replace hd : Hid _ := hd
          obtain ⟨lo5, hlo5⟩ : ∃ n, n = y2.heap.size := ⟨_, rfl⟩
          obtain ⟨hi5, hhi5⟩ : ∃ n, n = y3.heap.size := ⟨_, rfl⟩
          rw [← hlo5, ← hhi5] at cV oV
          have hlo5' : x21.heap.size ≤ lo5 := by omega
          have hhi5' : hi5 ≤ y3.heap.size := by omega
          clear hlo5
          have hhi5'' : y3.heap.size ≤ hi5 := by omega
          clear hhi5
          refine hK _ _ ⟨hby3, ?_⟩
          clear hK K hi
          refine takeW 6 108 (.tuple #[.agg #[.slice gOa O0.length gOk, .slice gMa D0.length gMk, .slice gTa T1.length gTk], .slice aL Ns.length kL]) rfl rfl (by kernel_rfl) (by kernel_rfl) (by kernel_rfl) (fun _ _ _ h => h) (by kernel_rfl) (by (intro w hSw; go_simp)) (by assumption) ?_
          simp only [List.set_cons_zero, List.set_cons_succ]
          refine takeW 7 115 (.agg #[.slice gOa O0.length gOk, .slice gMa D0.length gMk, .slice gTa T1.length gTk]) rfl rfl (by kernel_rfl) (by kernel_rfl) (by kernel_rfl) (fun _ _ _ h => h) (by kernel_rfl) (by (intro w hSw; go_simp)) (by assumption) ?_
          simp only [List.set_cons_zero, List.set_cons_succ]
          refine takeW 8 116 (.slice aL Ns.length kL) rfl rfl (by kernel_rfl) (by kernel_rfl) (by kernel_rfl) (fun _ _ _ h => h) (by kernel_rfl) (by (intro w hSw; go_simp)) (by assumption) ?_
          simp only [List.set_cons_zero, List.set_cons_succ]
          refine wpAnyH_all (rs := [9]) (by kernel_rfl) (by simp) ?_
          intro i hi; obtain rfl : i = 9 := by simpa using hi
          refine wpOp_step rfl (fun K hK => ?_)
          rw [if_pos (by kernel_rfl)]
          go_simp
          obtain ⟨NB, hNB⟩ : ∃ n, n = y3.heap.size := ⟨_, rfl⟩
          obtain ⟨y4, hy4⟩ : ∃ z, z = y3.alloc (Obj.cells #[.slice none 0 0, .slice none 0 0, .slice none 0 0] 28) := ⟨_, rfl⟩
          have ky4 : Below y3.heap.size y3 y4 := by rw [hy4]; exact below_box _ _
          have CX : CdAt y4 NB none 0 0 none 0 0 none 0 0 := by rw [hy4, hNB]; exact CdAt.box _ _ _ _ _ _ _ _ _ _ _
          have FX : ∀ i, y4.frozen? ⟨NB, i, none⟩ = false := by intro i; rw [hy4, hNB]; simp [go_sem]
          have tX := CX.lt
          have wNB : x21.heap.size ≤ NB := by omega
          have zy4 := ky4.size
          have hby4 : Below x21.heap.size x21 y4 := hby3.trans (ky4.mono hby3.size)
          have cV := cV.below ky4 (by omega)
          have oV := oV.below ky4 (by omega)
          have nB5 : NB < lo5 ∨ hi5 ≤ NB := by omega
          rw [← hNB, ← hy4]
          clear hy4 hNB
          refine hK _ _ ⟨hby4, ?_⟩
          clear hK K hi
          obtain ⟨c0, c1, c2'⟩ := CX
          have CX : CdAt y4 NB none 0 0 none 0 0 none 0 0 := ⟨c0, c1, c2'⟩
          have f0 := FX 0
          have f1 := FX 1
          have f2' := FX 2
          obtain ⟨yF, hyF⟩ : ∃ z, z = ((y4.setCell ⟨NB, 0, none⟩ (.slice gOa O0.length gOk)).setCell ⟨NB, 1, none⟩ (.slice gMa D0.length gMk)).setCell ⟨NB, 2, none⟩ (.slice gTa T1.length gTk) := ⟨_, rfl⟩
          have hF : ∀ j, j ≠ NB → yF.heap[j]? = y4.heap[j]? := fun j hj => by rw [hyF]; exact heap_set3 hj
          have GX : CdAt yF NB gOa O0.length gOk gMa D0.length gMk gTa T1.length gTk := by rw [hyF]; exact ⟨(cell_set_ne (by omega)).trans ((cell_set_ne (by omega)).trans (cell_set_same ⟨_, c0⟩)), (cell_set_ne (by omega)).trans (cell_set_same ⟨_, (cell_set_ne (by omega)).trans c1⟩), cell_set_same ⟨_, (cell_set_ne (by omega)).trans ((cell_set_ne (by omega)).trans c2')⟩⟩
          have sF : y4.heap.size ≤ yF.heap.size := by rw [hyF]; simp
          have BF : Below x21.heap.size x21 yF := by rw [hyF]; exact ((hby4.setCell (by show x21.heap.size ≤ NB; omega) _).setCell (by show x21.heap.size ≤ NB; omega) _).setCell (by show x21.heap.size ≤ NB; omega) _
          have cF : CdV yF x21.heap.size yF.heap.size gOa O0 gMa D0 gTa T1 := (cV.keep (w' := yF) (fun j h1 h2 => hF j (by omega))).wide (by omega) (by omega)
          have oF : ObI yF x21.heap.size yF.heap.size aL Ns := (oV.keep (w' := yF) (fun j h1 h2 => hF j (by omega))).wide (by omega) (by omega)
          refine wpAnyH_all (rs := [10]) (by kernel_rfl) (by simp) ?_
          intro i hi; obtain rfl : i = 10 := by simpa using hi
          refine wpOp_step rfl (fun K hK => ?_)
          rw [if_pos (by kernel_rfl)]
          go_simp
          rw [← hyF]
          refine hK _ _ ⟨BF, ?_⟩
          clear hK K hi
          refine takeW 11 18 (.slice aL Ns.length kL) rfl rfl (by kernel_rfl) (by kernel_rfl) (by kernel_rfl) (fun _ _ _ h => h) (by kernel_rfl) (by (intro w hSw; go_simp)) (by assumption) ?_
          simp only [List.set_cons_zero, List.set_cons_succ]
          refine wpAnyH_done (by kernel_rfl) ?_ _
          exact hT.out _ _ ⟨NB, gOa, gOk, gMa, gMk, gTa, gTk, aL, kL, Ns, [_, _, _, _, _, _, _, _, _], rfl, rfl, GX, cF, hd, oF, wNB, GX.lt, BF⟩
        · refine wpOp_step rfl (fun K hK => ?_)
          rw [if_pos (by kernel_rfl)]
          go_simp
          obtain ⟨NB, hNB⟩ : ∃ n, n = y2.heap.size := ⟨_, rfl⟩
          obtain ⟨y3, hy3⟩ : ∃ z, z = y2.alloc (Obj.cells #[.slice none 0 0, .slice none 0 0, .slice none 0 0] 28) := ⟨_, rfl⟩
          have ky3 : Below y2.heap.size y2 y3 := by rw [hy3]; exact below_box _ _
          have CX : CdAt y3 NB none 0 0 none 0 0 none 0 0 := by rw [hy3, hNB]; exact CdAt.box _ _ _ _ _ _ _ _ _ _ _
          have FX : ∀ i, y3.frozen? ⟨NB, i, none⟩ = false := by intro i; rw [hy3, hNB]; simp [go_sem]
          have tX := CX.lt
          have wNB : x21.heap.size ≤ NB := by omega
          have zy3 := ky3.size
          have hby3 : Below x21.heap.size x21 y3 := hby2.trans (ky3.mono hby2.size)
          have Wc := Wc.below ky3 (by omega)
          have FI := FI.below ky3 (by omega)
          rw [← hNB, ← hy3]
          clear hy3 hNB
          refine hK _ _ ⟨hby3, ?_⟩
          clear hK K hi
          refine wpAnyH_all (rs := [5]) (by kernel_rfl) (by simp) ?_
          intro i hi; obtain rfl : i = 5 := by simpa using hi
          refine wpOp_step rfl (fun K hK => ?_)
          rw [if_pos (by kernel_rfl)]
          go_simp
          go_at_call 8
          refine (passI sentI cOa cOk O0 cMa cMk D0 cTa cTk T0 n1 a2 b2 c2 (some ⟨NF, 0, none⟩) L.length L lo1 hi1 y3 Wc.view (by omega) hsz I1 FI.v hlL).mono ?_
          intro e y4 hq
          rw [hT1.out, hXO.out] at hq
          obtain ⟨gOa, gOk, gMa, gMk, gTa, gTk, aL, kL, Ns, fp, mid, rfl, cW, m1, m2, hd, ow, hf, ky4⟩ := hq
          have cV : CdV y4 y3.heap.size y4.heap.size gOa O0 gMa D0 gTa T1 := cW.view.wide (Nat.le_refl _) m2
          have oV : ObI y4 y3.heap.size y4.heap.size aL Ns := ((⟨fp, ow, hf⟩ : ObJ y4 mid y4.heap.size aL Ns).view).wide m1 (Nat.le_refl _)
          clear cW ow hf
          have zy4 := ky4.size
          have hby4 : Below x21.heap.size x21 y4 := hby3.trans (ky4.mono hby3.size)
          replace hd : Hid _ := hd
          have CX := CX.below ky4 (by omega)
          have FX := fz_below FX ky4 (by omega)
          have nB : NB < y3.heap.size := by omega
          obtain ⟨lo5, hlo5⟩ : ∃ n, n = y3.heap.size := ⟨_, rfl⟩
          obtain ⟨hi5, hhi5⟩ : ∃ n, n = y4.heap.size := ⟨_, rfl⟩
          rw [← hlo5, ← hhi5] at cV oV
          have hlo5' : x21.heap.size ≤ lo5 := by omega
          have hhi5' : hi5 ≤ y4.heap.size := by omega
          have nB5 : NB < lo5 ∨ hi5 ≤ NB := by omega
          clear hlo5
          clear hhi5
          refine hK _ _ ⟨hby4, ?_⟩
          clear hK K hi
          refine takeW 6 108 (.tuple #[.agg #[.slice gOa O0.length gOk, .slice gMa D0.length gMk, .slice gTa T1.length gTk], .slice aL Ns.length kL]) rfl rfl (by kernel_rfl) (by kernel_rfl) (by kernel_rfl) (fun _ _ _ h => h) (by kernel_rfl) (by (intro w hSw; go_simp)) (by assumption) ?_
          simp only [List.set_cons_zero, List.set_cons_succ]
          refine takeW 7 115 (.agg #[.slice gOa O0.length gOk, .slice gMa D0.length gMk, .slice gTa T1.length gTk]) rfl rfl (by kernel_rfl) (by kernel_rfl) (by kernel_rfl) (fun _ _ _ h => h) (by kernel_rfl) (by (intro w hSw; go_simp)) (by assumption) ?_
          simp only [List.set_cons_zero, List.set_cons_succ]
          refine takeW 8 116 (.slice aL Ns.length kL) rfl rfl (by kernel_rfl) (by kernel_rfl) (by kernel_rfl) (fun _ _ _ h => h) (by kernel_rfl) (by (intro w hSw; go_simp)) (by assumption) ?_
          simp only [List.set_cons_zero, List.set_cons_succ]
          obtain ⟨c0, c1, c2'⟩ := CX
          have CX : CdAt y4 NB none 0 0 none 0 0 none 0 0 := ⟨c0, c1, c2'⟩
          have f0 := FX 0
          have f1 := FX 1
          have f2' := FX 2
          obtain ⟨yF, hyF⟩ : ∃ z, z = ((y4.setCell ⟨NB, 0, none⟩ (.slice gOa O0.length gOk)).setCell ⟨NB, 1, none⟩ (.slice gMa D0.length gMk)).setCell ⟨NB, 2, none⟩ (.slice gTa T1.length gTk) := ⟨_, rfl⟩
          have hF : ∀ j, j ≠ NB → yF.heap[j]? = y4.heap[j]? := fun j hj => by rw [hyF]; exact heap_set3 hj
          have GX : CdAt yF NB gOa O0.length gOk gMa D0.length gMk gTa T1.length gTk := by rw [hyF]; exact ⟨(cell_set_ne (by omega)).trans ((cell_set_ne (by omega)).trans (cell_set_same ⟨_, c0⟩)), (cell_set_ne (by omega)).trans (cell_set_same ⟨_, (cell_set_ne (by omega)).trans c1⟩), cell_set_same ⟨_, (cell_set_ne (by omega)).trans ((cell_set_ne (by omega)).trans c2')⟩⟩
          have sF : y4.heap.size ≤ yF.heap.size := by rw [hyF]; simp
          have BF : Below x21.heap.size x21 yF := by rw [hyF]; exact ((hby4.setCell (by show x21.heap.size ≤ NB; omega) _).setCell (by show x21.heap.size ≤ NB; omega) _).setCell (by show x21.heap.size ≤ NB; omega) _
          have cF : CdV yF x21.heap.size yF.heap.size gOa O0 gMa D0 gTa T1 := (cV.keep (w' := yF) (fun j h1 h2 => hF j (by omega))).wide (by omega) (by omega)
          have oF : ObI yF x21.heap.size yF.heap.size aL Ns := (oV.keep (w' := yF) (fun j h1 h2 => hF j (by omega))).wide (by omega) (by omega)
          refine wpAnyH_all (rs := [10]) (by kernel_rfl) (by simp) ?_
          intro i hi; obtain rfl : i = 10 := by simpa using hi
          refine wpOp_step rfl (fun K hK => ?_)
          rw [if_pos (by kernel_rfl)]
          go_simp
          rw [← hyF]
          refine hK _ _ ⟨BF, ?_⟩
          clear hK K hi
          refine takeW 11 18 (.slice aL Ns.length kL) rfl rfl (by kernel_rfl) (by kernel_rfl) (by kernel_rfl) (fun _ _ _ h => h) (by kernel_rfl) (by (intro w hSw; go_simp)) (by assumption) ?_
          simp only [List.set_cons_zero, List.set_cons_succ]
          refine wpAnyH_done (by kernel_rfl) ?_ _
          exact hT.out _ _ ⟨NB, gOa, gOk, gMa, gMk, gTa, gTk, aL, kL, Ns, [_, _, _, _, _, _, _, _, _], rfl, rfl, GX, cF, hd, oF, wNB, GX.lt, BF⟩
      · refine wpOp_step rfl (fun K hK => ?_)
        rw [if_pos (by kernel_rfl)]
        go_simp
        obtain ⟨NB, hNB⟩ : ∃ n, n = y1.heap.size := ⟨_, rfl⟩
        obtain ⟨y2, hy2⟩ : ∃ z, z = y1.alloc (Obj.cells #[.slice none 0 0, .slice none 0 0, .slice none 0 0] 28) := ⟨_, rfl⟩
        have ky2 : Below y1.heap.size y1 y2 := by rw [hy2]; exact below_box _ _
        have CX : CdAt y2 NB none 0 0 none 0 0 none 0 0 := by rw [hy2, hNB]; exact CdAt.box _ _ _ _ _ _ _ _ _ _ _
        have FX : ∀ i, y2.frozen? ⟨NB, i, none⟩ = false := by intro i; rw [hy2, hNB]; simp [go_sem]
        have tX := CX.lt
        have wNB : x21.heap.size ≤ NB := by omega
        have zy2 := ky2.size
        have hby2 : Below x21.heap.size x21 y2 := hby1.trans (ky2.mono hby1.size)
        have Wc := Wc.below ky2 (by omega)
        rw [← hNB, ← hy2]
        clear hy2 hNB
        refine hK _ _ ⟨hby2, ?_⟩
        clear hK K hi
        refine wpAnyH_all (rs := [4]) (by kernel_rfl) (by simp) ?_
        intro i hi; obtain rfl : i = 4 := by simpa using hi
        refine wpOp_step rfl (fun K hK => ?_)
        rw [if_pos (by kernel_rfl)]
        go_simp
        go_at_call 24
        refine (toFI a2 b2 c2 ad2 cap2 L y2 (vL.carry (fun x e p => (BW.trans (hby2.mono BW.size)).block _ (vL.lt x e p))) hlL).mono ?_
        rintro e y3 ⟨NF, rfl, nF1, nF2, FI, ky3⟩
        have zy3 := ky3.size
        have hby3 : Below x21.heap.size x21 y3 := hby2.trans (ky3.mono hby2.size)
        have Wc := Wc.below ky3 (by omega)
        have CX := CX.below ky3 (by omega)
        have FX := fz_below FX ky3 (by omega)
        obtain ⟨lo4, hlo4⟩ : ∃ n, n = y2.heap.size := ⟨_, rfl⟩
        obtain ⟨hi4, hhi4⟩ : ∃ n, n = y3.heap.size := ⟨_, rfl⟩
        rw [← hlo4, ← hhi4] at FI
        have hhi4' : hi4 ≤ y3.heap.size := by omega
        clear hlo4 hhi4
        refine hK _ _ ⟨hby3, ?_⟩
        clear hK K hi
        refine wpAnyH_all (rs := [5]) (by kernel_rfl) (by simp) ?_
        intro i hi; obtain rfl : i = 5 := by simpa using hi
        refine wpOp_step rfl (fun K hK => ?_)
        rw [if_pos (by kernel_rfl)]
        go_simp
        go_at_call 8
        refine (passI sentI cOa cOk O0 cMa cMk D0 cTa cTk T0 n1 a2 b2 c2 (some ⟨NF, 0, none⟩) L.length L lo1 hi1 y3 Wc.view (by omega) hsz I1 FI.v hlL).mono ?_
        intro e y4 hq
        rw [hT1.out, hXO.out] at hq
        obtain ⟨gOa, gOk, gMa, gMk, gTa, gTk, aL, kL, Ns, fp, mid, rfl, cW, m1, m2, hd, ow, hf, ky4⟩ := hq
        have cV : CdV y4 y3.heap.size y4.heap.size gOa O0 gMa D0 gTa T1 := cW.view.wide (Nat.le_refl _) m2
        have oV : ObI y4 y3.heap.size y4.heap.size aL Ns := ((⟨fp, ow, hf⟩ : ObJ y4 mid y4.heap.size aL Ns).view).wide m1 (Nat.le_refl _)
        clear cW ow hf
        have zy4 := ky4.size
        have hby4 : Below x21.heap.size x21 y4 := hby3.trans (ky4.mono hby3.size)
        replace hd : Hid _ := hd
        have CX := CX.below ky4 (by omega)
        have FX := fz_below FX ky4 (by omega)
        have nB : NB < y3.heap.size := by omega
        obtain ⟨lo5, hlo5⟩ : ∃ n, n = y3.heap.size := ⟨_, rfl⟩
        obtain ⟨hi5, hhi5⟩ : ∃ n, n = y4.heap.size := ⟨_, rfl⟩
        rw [← hlo5, ← hhi5] at cV oV
        have hlo5' : x21.heap.size ≤ lo5 := by omega
        have hhi5' : hi5 ≤ y4.heap.size := by omega
        have nB5 : NB < lo5 ∨ hi5 ≤ NB := by omega
        clear hlo5
        clear hhi5
        refine hK _ _ ⟨hby4, ?_⟩
        clear hK K hi
        refine takeW 6 108 (.tuple #[.agg #[.slice gOa O0.length gOk, .slice gMa D0.length gMk, .slice gTa T1.length gTk], .slice aL Ns.length kL]) rfl rfl (by kernel_rfl) (by kernel_rfl) (by kernel_rfl) (fun _ _ _ h => h) (by kernel_rfl) (by (intro w hSw; go_simp)) (by assumption) ?_
        simp only [List.set_cons_zero, List.set_cons_succ]
        refine takeW 7 115 (.agg #[.slice gOa O0.length gOk, .slice gMa D0.length gMk, .slice gTa T1.length gTk]) rfl rfl (by kernel_rfl) (by kernel_rfl) (by kernel_rfl) (fun _ _ _ h => h) (by kernel_rfl) (by (intro w hSw; go_simp)) (by assumption) ?_
        simp only [List.set_cons_zero, List.set_cons_succ]
        refine takeW 8 116 (.slice aL Ns.length kL) rfl rfl (by kernel_rfl) (by kernel_rfl) (by kernel_rfl) (fun _ _ _ h => h) (by kernel_rfl) (by (intro w hSw; go_simp)) (by assumption) ?_
        simp only [List.set_cons_zero, List.set_cons_succ]
        obtain ⟨c0, c1, c2'⟩ := CX
        have CX : CdAt y4 NB none 0 0 none 0 0 none 0 0 := ⟨c0, c1, c2'⟩
        have f0 := FX 0
        have f1 := FX 1
        have f2' := FX 2
        obtain ⟨yF, hyF⟩ : ∃ z, z = ((y4.setCell ⟨NB, 0, none⟩ (.slice gOa O0.length gOk)).setCell ⟨NB, 1, none⟩ (.slice gMa D0.length gMk)).setCell ⟨NB, 2, none⟩ (.slice gTa T1.length gTk) := ⟨_, rfl⟩
        have hF : ∀ j, j ≠ NB → yF.heap[j]? = y4.heap[j]? := fun j hj => by rw [hyF]; exact heap_set3 hj
        have GX : CdAt yF NB gOa O0.length gOk gMa D0.length gMk gTa T1.length gTk := by rw [hyF]; exact ⟨(cell_set_ne (by omega)).trans ((cell_set_ne (by omega)).trans (cell_set_same ⟨_, c0⟩)), (cell_set_ne (by omega)).trans (cell_set_same ⟨_, (cell_set_ne (by omega)).trans c1⟩), cell_set_same ⟨_, (cell_set_ne (by omega)).trans ((cell_set_ne (by omega)).trans c2')⟩⟩
        have sF : y4.heap.size ≤ yF.heap.size := by rw [hyF]; simp
        have BF : Below x21.heap.size x21 yF := by rw [hyF]; exact ((hby4.setCell (by show x21.heap.size ≤ NB; omega) _).setCell (by show x21.heap.size ≤ NB; omega) _).setCell (by show x21.heap.size ≤ NB; omega) _
        have cF : CdV yF x21.heap.size yF.heap.size gOa O0 gMa D0 gTa T1 := (cV.keep (w' := yF) (fun j h1 h2 => hF j (by omega))).wide (by omega) (by omega)
        have oF : ObI yF x21.heap.size yF.heap.size aL Ns := (oV.keep (w' := yF) (fun j h1 h2 => hF j (by omega))).wide (by omega) (by omega)
        refine wpAnyH_all (rs := [10]) (by kernel_rfl) (by simp) ?_
        intro i hi; obtain rfl : i = 10 := by simpa using hi
        refine wpOp_step rfl (fun K hK => ?_)
        rw [if_pos (by kernel_rfl)]
        go_simp
        rw [← hyF]
        refine hK _ _ ⟨BF, ?_⟩
        clear hK K hi
        refine takeW 11 18 (.slice aL Ns.length kL) rfl rfl (by kernel_rfl) (by kernel_rfl) (by kernel_rfl) (fun _ _ _ h => h) (by kernel_rfl) (by (intro w hSw; go_simp)) (by assumption) ?_
        simp only [List.set_cons_zero, List.set_cons_succ]
        refine wpAnyH_done (by kernel_rfl) ?_ _
        exact hT.out _ _ ⟨NB, gOa, gOk, gMa, gMk, gTa, gTk, aL, kL, Ns, [_, _, _, _, _, _, _, _, _], rfl, rfl, GX, cF, hd, oF, wNB, GX.lt, BF⟩
    · refine wpOp_step rfl (fun K hK => ?_)
      rw [if_pos (by kernel_rfl)]
      go_simp
      obtain ⟨NB, hNB⟩ : ∃ n, n = y0.heap.size := ⟨_, rfl⟩
      obtain ⟨y1, hy1⟩ : ∃ z, z = y0.alloc (Obj.cells #[.slice none 0 0, .slice none 0 0, .slice none 0 0] 28) := ⟨_, rfl⟩
      have ky1 : Below y0.heap.size y0 y1 := by rw [hy1]; exact below_box _ _
      have CX : CdAt y1 NB none 0 0 none 0 0 none 0 0 := by rw [hy1, hNB]; exact CdAt.box _ _ _ _ _ _ _ _ _ _ _
      have FX : ∀ i, y1.frozen? ⟨NB, i, none⟩ = false := by intro i; rw [hy1, hNB]; simp [go_sem]
      have tX := CX.lt
      have wNB : x21.heap.size ≤ NB := by omega
      have zy1 := ky1.size
      have hby1 : Below x21.heap.size x21 y1 := hby0.trans (ky1.mono hby0.size)
      rw [← hNB, ← hy1]
      clear hy1 hNB
      refine hK _ _ ⟨hby1, ?_⟩
      clear hK K hi
      refine wpAnyH_all (rs := [1]) (by kernel_rfl) (by simp) ?_
      intro i hi; obtain rfl : i = 1 := by simpa using hi
      refine wpOp_step rfl (fun K hK => ?_)
      rw [if_pos (by kernel_rfl)]
      go_simp
      go_at_call 23
      refine (toC adO0 cO0 O0 adM0 cM0 D0 adT0 cT0 T0 0 w.heap.size y1 (V0.below hby1 (by omega)) (by omega) hsz).mono ?_
      rintro e y2 ⟨cOa, cOk, cMa, cMk, cTa, cTk, rfl, Wc, ky2⟩
      have zy2 := ky2.size
      have hby2 : Below x21.heap.size x21 y2 := hby1.trans (ky2.mono hby1.size)
      have CX := CX.below ky2 (by omega)
      have FX := fz_below FX ky2 (by omega)
      obtain ⟨lo1, hlo1⟩ : ∃ n, n = y1.heap.size := ⟨_, rfl⟩
      obtain ⟨hi1, hhi1⟩ : ∃ n, n = y2.heap.size := ⟨_, rfl⟩
      rw [← hlo1, ← hhi1] at Wc
      have hlo1' : x21.heap.size ≤ lo1 := by omega
      have hhi1' : hi1 ≤ y2.heap.size := by omega
      have hlh1 : lo1 ≤ hi1 := by omega
      clear hlo1 hhi1
      refine hK _ _ ⟨hby2, ?_⟩
      clear hK K hi
      refine wpAnyH_all (rs := [4]) (by kernel_rfl) (by simp) ?_
      intro i hi; obtain rfl : i = 4 := by simpa using hi
      refine wpOp_step rfl (fun K hK => ?_)
      rw [if_pos (by kernel_rfl)]
      go_simp
      go_at_call 24
      refine (toFI a2 b2 c2 ad2 cap2 L y2 (vL.carry (fun x e p => (BW.trans (hby2.mono BW.size)).block _ (vL.lt x e p))) hlL).mono ?_
      rintro e y3 ⟨NF, rfl, nF1, nF2, FI, ky3⟩
      have zy3 := ky3.size
      have hby3 : Below x21.heap.size x21 y3 := hby2.trans (ky3.mono hby2.size)
      have Wc := Wc.below ky3 (by omega)
      have CX := CX.below ky3 (by omega)
      have FX := fz_below FX ky3 (by omega)
      obtain ⟨lo4, hlo4⟩ : ∃ n, n = y2.heap.size := ⟨_, rfl⟩
      obtain ⟨hi4, hhi4⟩ : ∃ n, n = y3.heap.size := ⟨_, rfl⟩
      rw [← hlo4, ← hhi4] at FI
      have hhi4' : hi4 ≤ y3.heap.size := by omega
      clear hlo4 hhi4
      refine hK _ _ ⟨hby3, ?_⟩
      clear hK K hi
      refine wpAnyH_all (rs := [5]) (by kernel_rfl) (by simp) ?_
      intro i hi; obtain rfl : i = 5 := by simpa using hi
      refine wpOp_step rfl (fun K hK => ?_)
      rw [if_pos (by kernel_rfl)]
      go_simp
      go_at_call 8
      refine (passI sentI cOa cOk O0 cMa cMk D0 cTa cTk T0 n1 a2 b2 c2 (some ⟨NF, 0, none⟩) L.length L lo1 hi1 y3 Wc.view (by omega) hsz I1 FI.v hlL).mono ?_
      intro e y4 hq
      rw [hT1.out, hXO.out] at hq
      obtain ⟨gOa, gOk, gMa, gMk, gTa, gTk, aL, kL, Ns, fp, mid, rfl, cW, m1, m2, hd, ow, hf, ky4⟩ := hq
      have cV : CdV y4 y3.heap.size y4.heap.size gOa O0 gMa D0 gTa T1 := cW.view.wide (Nat.le_refl _) m2
      have oV : ObI y4 y3.heap.size y4.heap.size aL Ns := ((⟨fp, ow, hf⟩ : ObJ y4 mid y4.heap.size aL Ns).view).wide m1 (Nat.le_refl _)
      clear cW ow hf
      have zy4 := ky4.size
      have hby4 : Below x21.heap.size x21 y4 := hby3.trans (ky4.mono hby3.size)
      replace hd : Hid _ := hd
      have CX := CX.below ky4 (by omega)
      have FX := fz_below FX ky4 (by omega)
      have nB : NB < y3.heap.size := by omega
      obtain ⟨lo5, hlo5⟩ : ∃ n, n = y3.heap.size := ⟨_, rfl⟩
      obtain ⟨hi5, hhi5⟩ : ∃ n, n = y4.heap.size := ⟨_, rfl⟩
      rw [← hlo5, ← hhi5] at cV oV
      have hlo5' : x21.heap.size ≤ lo5 := by omega
      have hhi5' : hi5 ≤ y4.heap.size := by omega
      have nB5 : NB < lo5 ∨ hi5 ≤ NB := by omega
      clear hlo5
      clear hhi5
      refine hK _ _ ⟨hby4, ?_⟩
      clear hK K hi
      refine takeW 6 108 (.tuple #[.agg #[.slice gOa O0.length gOk, .slice gMa D0.length gMk, .slice gTa T1.length gTk], .slice aL Ns.length kL]) rfl rfl (by kernel_rfl) (by kernel_rfl) (by kernel_rfl) (fun _ _ _ h => h) (by kernel_rfl) (by (intro w hSw; go_simp)) (by assumption) ?_
      simp only [List.set_cons_zero, List.set_cons_succ]
      refine takeW 7 115 (.agg #[.slice gOa O0.length gOk, .slice gMa D0.length gMk, .slice gTa T1.length gTk]) rfl rfl (by kernel_rfl) (by kernel_rfl) (by kernel_rfl) (fun _ _ _ h => h) (by kernel_rfl) (by (intro w hSw; go_simp)) (by assumption) ?_
      simp only [List.set_cons_zero, List.set_cons_succ]
      refine takeW 8 116 (.slice aL Ns.length kL) rfl rfl (by kernel_rfl) (by kernel_rfl) (by kernel_rfl) (fun _ _ _ h => h) (by kernel_rfl) (by (intro w hSw; go_simp)) (by assumption) ?_
      simp only [List.set_cons_zero, List.set_cons_succ]
      obtain ⟨c0, c1, c2'⟩ := CX
      have CX : CdAt y4 NB none 0 0 none 0 0 none 0 0 := ⟨c0, c1, c2'⟩
      have f0 := FX 0
      have f1 := FX 1
      have f2' := FX 2
      obtain ⟨yF, hyF⟩ : ∃ z, z = ((y4.setCell ⟨NB, 0, none⟩ (.slice gOa O0.length gOk)).setCell ⟨NB, 1, none⟩ (.slice gMa D0.length gMk)).setCell ⟨NB, 2, none⟩ (.slice gTa T1.length gTk) := ⟨_, rfl⟩
      have hF : ∀ j, j ≠ NB → yF.heap[j]? = y4.heap[j]? := fun j hj => by rw [hyF]; exact heap_set3 hj
      have GX : CdAt yF NB gOa O0.length gOk gMa D0.length gMk gTa T1.length gTk := by rw [hyF]; exact ⟨(cell_set_ne (by omega)).trans ((cell_set_ne (by omega)).trans (cell_set_same ⟨_, c0⟩)), (cell_set_ne (by omega)).trans (cell_set_same ⟨_, (cell_set_ne (by omega)).trans c1⟩), cell_set_same ⟨_, (cell_set_ne (by omega)).trans ((cell_set_ne (by omega)).trans c2')⟩⟩
      have sF : y4.heap.size ≤ yF.heap.size := by rw [hyF]; simp
      have BF : Below x21.heap.size x21 yF := by rw [hyF]; exact ((hby4.setCell (by show x21.heap.size ≤ NB; omega) _).setCell (by show x21.heap.size ≤ NB; omega) _).setCell (by show x21.heap.size ≤ NB; omega) _
      have cF : CdV yF x21.heap.size yF.heap.size gOa O0 gMa D0 gTa T1 := (cV.keep (w' := yF) (fun j h1 h2 => hF j (by omega))).wide (by omega) (by omega)
      have oF : ObI yF x21.heap.size yF.heap.size aL Ns := (oV.keep (w' := yF) (fun j h1 h2 => hF j (by omega))).wide (by omega) (by omega)
      refine wpAnyH_all (rs := [10]) (by kernel_rfl) (by simp) ?_
      intro i hi; obtain rfl : i = 10 := by simpa using hi
      refine wpOp_step rfl (fun K hK => ?_)
      rw [if_pos (by kernel_rfl)]
      go_simp
      rw [← hyF]
      refine hK _ _ ⟨BF, ?_⟩
      clear hK K hi
      refine takeW 11 18 (.slice aL Ns.length kL) rfl rfl (by kernel_rfl) (by kernel_rfl) (by kernel_rfl) (fun _ _ _ h => h) (by kernel_rfl) (by (intro w hSw; go_simp)) (by assumption) ?_
      simp only [List.set_cons_zero, List.set_cons_succ]
      refine wpAnyH_done (by kernel_rfl) ?_ _
      exact hT.out _ _ ⟨NB, gOa, gOk, gMa, gMk, gTa, gTk, aL, kL, Ns, [_, _, _, _, _, _, _, _, _], rfl, rfl, GX, cF, hd, oF, wNB, GX.lt, BF⟩
  rintro l' x22 ⟨NB7, aO7, kO7, aM7, kM7, aT7, kT7, aL7, kL7, Ns7, us, hul, rfl, B7, V7, hd7, I7L, nb7, nc7, kx22⟩
  obtain ⟨u108, us, rfl⟩ : ∃ a b, us = a :: b := List.exists_cons_of_length_eq_add_one hul
  replace hul := Nat.succ.inj hul
  obtain ⟨u109, us, rfl⟩ : ∃ a b, us = a :: b := List.exists_cons_of_length_eq_add_one hul
  replace hul := Nat.succ.inj hul
  obtain ⟨u110, us, rfl⟩ : ∃ a b, us = a :: b := List.exists_cons_of_length_eq_add_one hul
  replace hul := Nat.succ.inj hul
  obtain ⟨u111, us, rfl⟩ : ∃ a b, us = a :: b := List.exists_cons_of_length_eq_add_one hul
  replace hul := Nat.succ.inj hul
  obtain ⟨u112, us, rfl⟩ : ∃ a b, us = a :: b := List.exists_cons_of_length_eq_add_one hul
  replace hul := Nat.succ.inj hul
  obtain ⟨u113, us, rfl⟩ : ∃ a b, us = a :: b := List.exists_cons_of_length_eq_add_one hul
  replace hul := Nat.succ.inj hul
  obtain ⟨u114, us, rfl⟩ : ∃ a b, us = a :: b := List.exists_cons_of_length_eq_add_one hul
  replace hul := Nat.succ.inj hul
  obtain ⟨u115, us, rfl⟩ : ∃ a b, us = a :: b := List.exists_cons_of_length_eq_add_one hul
  replace hul := Nat.succ.inj hul
  obtain ⟨u116, us, rfl⟩ : ∃ a b, us = a :: b := List.exists_cons_of_length_eq_add_one hul
  replace hul := Nat.succ.inj hul
  obtain rfl : us = [] := List.eq_nil_of_length_eq_zero hul
  clear hul
  simp only [List.take, List.drop, List.cons_append, List.nil_append]
  have sx22 := kx22.size
  have A0 := A0.below kx22 (by omega)
  have F0 := F0.below kx22 (by omega)
  have V0 := V0.below kx22 (by omega)
  have B8 := B8.below kx22 (by omega)
  have V8 := V8.below kx22 (by omega)
  have I8L := I8L.below kx22 (by omega)
  have A12 := A12.below kx22 (by omega)
  have H4 := H4.below kx22 (by omega)
  have OH4 := OH4.below kx22 (by omega)
  have BW := BW.trans (kx22.mono BW.size)
  clear kx22
  have sm7 := outs_small hfew hd7.out
  have B7' := B7
  obtain ⟨X1, X2, X3⟩ := B7'
  have B8' := B8
  obtain ⟨Y1, Y2, Y3⟩ := B8'
  go_wp2_with fail
  go_at_call 25
  clear X1 X2 X3 Y1 Y2 Y3
  refine (eqC aO7 kO7 O0 aM7 kM7 D0 aT7 kT7 T1 aO8 kO8 aM8 kM8 aT8 kT8 x21.heap.size x22.heap.size x2.heap.size x3.heap.size x22 V7 V8 (by omega) (by omega) hgl).mono ?_
  rintro e x23 ⟨rfl, kx23⟩
  have sx23 := kx23.size
  have A0 := A0.below kx23 (by omega)
  have F0 := F0.below kx23 (by omega)
  have V0 := V0.below kx23 (by omega)
  have B8 := B8.below kx23 (by omega)
  have V8 := V8.below kx23 (by omega)
  have I8L := I8L.below kx23 (by omega)
  have A12 := A12.below kx23 (by omega)
  have H4 := H4.below kx23 (by omega)
  have OH4 := OH4.below kx23 (by omega)
  have B7 := B7.below kx23 (by omega)
  have V7 := V7.below kx23 (by omega)
  have I7L := I7L.below kx23 (by omega)
  have BW := BW.trans (kx23.mono BW.size)
  clear kx23
  go_wp2_with fail
  go_at_call 26
  refine (eqOs aL7 aL8 kL7 kL8 Ns7 Ns8 x23 I7L.v I8L.v (hd8.out.trans hd7.out.symm) (by have := sm7.1; omega) (fun i hi => by have := sm7.2.1 i hi; omega)).mono ?_
  rintro e x24 ⟨rfl, kx24⟩
  have sx24 := kx24.size
  have A0 := A0.below kx24 (by omega)
  have F0 := F0.below kx24 (by omega)
  have V0 := V0.below kx24 (by omega)
  have B8 := B8.below kx24 (by omega)
  have V8 := V8.below kx24 (by omega)
  have I8L := I8L.below kx24 (by omega)
  have A12 := A12.below kx24 (by omega)
  have H4 := H4.below kx24 (by omega)
  have OH4 := OH4.below kx24 (by omega)
  have B7 := B7.below kx24 (by omega)
  have V7 := V7.below kx24 (by omega)
  have I7L := I7L.below kx24 (by omega)
  have BW := BW.trans (kx24.mono BW.size)
  clear kx24
  have A12' := A12
  obtain ⟨X1, X2, X3⟩ := A12'
  go_wp2_with fail
  go_at_call 31
  clear X1 X2 X3
  refine (heldC aO4 O0.length kO4 aM4 D0.length kM4 aT4 T1.length kT4 x7.heap.size mid 1 tt x24 H4 (by omega) (by omega) (by omega)).mono ?_
  rintro e x25 ⟨rfl, kx25⟩
  have sx25 := kx25.size
  have A0 := A0.below kx25 (by omega)
  have F0 := F0.below kx25 (by omega)
  have V0 := V0.below kx25 (by omega)
  have B8 := B8.below kx25 (by omega)
  have V8 := V8.below kx25 (by omega)
  have I8L := I8L.below kx25 (by omega)
  have A12 := A12.below kx25 (by omega)
  have H4 := H4.below kx25 (by omega)
  have OH4 := OH4.below kx25 (by omega)
  have B7 := B7.below kx25 (by omega)
  have V7 := V7.below kx25 (by omega)
  have I7L := I7L.below kx25 (by omega)
  have BW := BW.trans (kx25.mono BW.size)
  clear kx25
  have htp : 0 ≤ 1 + tt := by omega
  go_wp2_with fail
  go_at_call 32
  refine (heldOJ aL4 kL4 Ns4.length mid x8.heap.size (1 + tt) kk x25 OH4 (by omega) (by omega)).mono ?_
  rintro e x26 ⟨rfl, hwx26⟩
  subst hwx26
  have htk : 0 ≤ 1 + tt + kk := by omega
  go_wp2
  go_ret
  exact ⟨rfl, BW⟩

set_option maxRecDepth 100000 in
theorem lifted (os : Os) (started : os.Started) (H : Type) (enc : TypeId × Value → H) :
    ReturnsInHanded {} Tryz.checked os 5 .any (Rows.fnExactPassSpec.pre6 enc Tryz.prog Tryz.f5 Rows.fnExactPassRow.domain false) (Rows.fnExactPassSpec.post enc Tryz.prog Tryz.f5 false true false false) := by
  refine returnsInHanded_of_change (C := Tryz.checked) own started (by kernel_rfl) Tryz.func5
    (ChangeSpec.witness6 (enc := enc) (C := Tryz.checked) false ⟨#[], #[.agg #[.slice none 0 0, .slice none 0 0, .slice none 0 0], .int .i64 0, .agg #[.int .i64 0, .int .i64 0, .int .i64 0, .slice none 0 0]], []⟩ 8 (by kernel_rfl) (by kernel_rfl) (by kernel_rfl) (by kernel_rfl)) ?_
  intro W base args ds gs before hval0 hW hcnd _
  have hval : ∀ (j : Nat) t v, Tryz.f5.params[j]? = some t → args[j]? = some v → Value.okWide Tryz.prog W .any base t v := hval0
  have hW' := hW
  obtain ⟨p, q, hA0, hV, rfl, hfz, hnd⟩ := hW
  have hA : DataW.TrodAll enc Tryz.prog W 0 (fun _ => true) true Tryz.f5.params.toList args.toList ds p := hA0
  rw [Tryz.params5] at hA hval
  obtain ⟨v0, vs0, d0, ds0, p0, q0, hargs, rfl, rfl, h0, r0⟩ := trodAll_cons hA
  obtain ⟨v1, vs1, d1, ds1, p1, q1, rfl, rfl, rfl, h1, r1⟩ := trodAll_cons r0
  obtain ⟨v2, vs2, d2, ds2, p2, q2, rfl, rfl, rfl, h2, r2⟩ := trodAll_cons r1
  obtain ⟨rfl, rfl, rfl⟩ := trodAll_nil r2
  obtain rfl : args = #[v0, v1, v2] := by cases args; simp_all
  obtain ⟨rfl, rfl⟩ := trodVars_none hV
  obtain ⟨adO0, cO0, O0, adM0, cM0, D0, adT0, cT0, T0, rfl, I0⟩ := cardI_open (hval 0 56 v0 rfl rfl) h0
  have lt0 : ∀ x ∈ p0, x.block < W.heap.size := by obtain ⟨m, hm⟩ := h0; exact DataW.trod_lt m _ _ _ hm
  obtain ⟨n1, rfl, I1⟩ := intIn_open (hval 1 3 v1 rfl rfl) h1
  have lt1 : ∀ x ∈ p1, x.block < W.heap.size := by obtain ⟨m, hm⟩ := h1; exact DataW.trod_lt m _ _ _ hm
  obtain ⟨a2, b2, c2, ad2, len2, cap2, f2, rfl, I2⟩ := frameIn_open (hval 2 57 v2 rfl rfl) h2
  have lt2 : ∀ x ∈ p2, x.block < W.heap.size := by obtain ⟨m, hm⟩ := h2; exact DataW.trod_lt m _ _ _ hm
  clear hA0 hval0
  refine (walk adO0 cO0 O0 adM0 cM0 D0 adT0 cT0 T0 n1 a2 b2 c2 ad2 len2 cap2 f2 W I0 I1 I2).mono fun e W' ⟨he, bel⟩ => ?_
  subst he
  exact ⟨_, rfl, _, _, _, [], _, [], hW', trodAll_mk1 (shut_bool Tryz.underlying4 _), (trodAll_cons_mk (Below.trod laidOut (by kernel_rfl) (of_decide_eq_true (by kernel_rfl)) h0 bel lt0) (trodAll_cons_mk (Below.trod laidOut (by kernel_rfl) (of_decide_eq_true (by kernel_rfl)) h1 bel lt1) (trodAll_cons_mk (Below.trod laidOut (by kernel_rfl) (of_decide_eq_true (by kernel_rfl)) h2 bel lt2) trodAll_mk0))), rfl, bel.frame _, fun h => by cases h⟩

theorem over : Rows.fnExactPassRow.holds Tryz.pinned (OpenSpec.ofChange Rows.fnExactPassSpec) :=
  OpenClaim.holds_of_wide 5 Tryz.f5 rfl rfl rfl rfl rfl rfl rfl ⟨rfl, rfl, rfl, rfl, rfl⟩ rfl rfl rfl rfl rfl (by kernel_rfl) Tryz.func5 (by kernel_rfl)
    (of_decide_eq_true (by kernel_rfl)) (by unfold Func.isWrapper; first | (rw [if_pos (by decide +kernel)]; kernel_rfl) | (rw [if_neg (by decide +kernel)]; exact ⟨rfl, rfl⟩))
    (fun os started H enc _ => lifted os started H enc)

theorem proved : Rows.FnExactPassSaid := over
end Go.Proofs.YtifndemkkaelaaaGreat.fnExactPass
namespace Go.Proofs.YtifndemkkaelaaaGreat
theorem pass_holds : Rows.FnExactPassSaid := fnExactPass.proved
#print axioms pass_holds
end Go.Proofs.YtifndemkkaelaaaGreat
