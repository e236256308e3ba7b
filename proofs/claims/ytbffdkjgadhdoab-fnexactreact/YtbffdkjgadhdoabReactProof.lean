/- For every bridge and everything that comes in the call of FnExactReact returns true: impl.React answers as spec.React, every field, it writes into no argument, and its answer owns its memory. No condition. -/
import Derived.Test.YtbffdkjgadhdoabRows
import Derived.Test.YtbffdkjgadhdoabRe7
import Derived.Test.YtbffdkjgadhdoabRe6
import Derived.Test.YtbffdkjgadhdoabRe6m
import Derived.Test.YtbffdkjgadhdoabBr2
import Derived.Test.YtbffdkjgadhdoabIn4
import Derived.Deep.Cut
import Derived.WalkKit
import Derived.Below
import Derived.ChangeOld
import Derived.WalkSmall
import Derived.ProofKit
import Derived.OpenShut
import Derived.ShutString
import Derived.BigQuiet
namespace Go.Proofs.Ytbffdkjgadhdoab.fnExactReact
open Go.ChangeShapes Go.WideShapes Go.ChangeAt Go.RowKit
set_option linter.unusedVariables false

theorem own : ownKnob Try.prog.godebug = none := by kernel_rfl
theorem laidOut : laidOutB Try.prog = true := by kernel_rfl

set_option maxHeartbeats 16000000 in
set_option maxRecDepth 100000 in
theorem walk (id0 : Int) (ad0 : Option Addr) (cap0 : Nat) (L0 : List Pt) (x1 : Ik) (w : World) (I0 : (Lit.int .i64 id0).wf = true ∧ BrIn w ad0 cap0 L0) (I1 : True) :
    Calls Try.prog 7 #[.agg #[.int .i64 id0, .slice ad0 L0.length cap0], .agg #[.int .i64 x1.k, .int .i64 x1.q, .int .i64 x1.r, .int .i64 x1.c, .int .i64 x1.b, .int .i64 x1.p, .int .i64 x1.h, .bool x1.up]] w fun e w' => e = .returned (.bool true) ∧ Below w.heap.size w w' := by
  clear I1
  obtain ⟨hwf, hlm, V0, hn0⟩ := I0
  clear hwf
  obtain ⟨y0, hx⟩ : ∃ y_, y_ = (w.alloc (Obj.cells #[.int .i64 id0, .slice ad0 L0.length cap0] 24)).alloc (Obj.cells #[.int .i64 x1.k, .int .i64 x1.q, .int .i64 x1.r, .int .i64 x1.c, .int .i64 x1.b, .int .i64 x1.p, .int .i64 x1.h, .bool x1.up] 42) := ⟨_, rfl⟩
  have A0 : BrAt y0 w.heap.size id0 (.slice ad0 L0.length cap0) := by rw [hx]; constructor <;> simp [go_sem]
  have N1 : InAt y0 (w.heap.size + 1) x1 := by rw [hx]; constructor <;> simp [go_sem]
  have BW : Below w.heap.size w y0 := by rw [hx]; exact ((Below.refl _ _).alloc (Nat.le_refl _) _).alloc (by simp) _
  have lx0 := N1.lt
  have vb : ∀ a, ad0 = some a → 0 < L0.length → a.block < w.heap.size := V0.lt ptEnc_len (by omega)
  have V0 := V0.below BW vb
  go_enter Try.func7, Try.ntmps7
  go_wp2_with fail
  go_at_call 8
  rw [← hx]
  clear hx
  refine (brSz id0 ad0 L0.length cap0 1048576 y0 (by decide) (by decide) hlm).mono ?_
  rintro e y1 ⟨rfl, kq⟩
  have sy1 := kq.size
  have A0 := A0.below kq A0.lt
  have V0 := V0.below kq (V0.lt ptEnc_len (by omega))
  have N1 := N1.below kq N1.lt
  have BW := BW.trans (kq.mono BW.size)
  clear kq
  by_cases hl : L0.length ≤ 1048576
  rotate_left
  · rw [if_neg (by omega)]
    go_wp2
    go_ret
    exact ⟨rfl, BW⟩
  rw [if_pos (by omega)]
  have hlf : 0 ≤ 1048576 - (L0.length : Int) := by omega
  generalize 1048576 - (L0.length : Int) = lf at hlf ⊢
  obtain ⟨D, hD⟩ : ∃ D, reactL id0 L0 x1 = D := ⟨_, rfl⟩
  have hDl : D.length ≤ 1048576 := by rw [← hD, reactL_len]; exact hl
  obtain ⟨OO, hOO⟩ : ∃ D, reactO id0 L0 x1 = D := ⟨_, rfl⟩
  have hO8 : OO.length ≤ 8 := by rw [← hOO]; exact reactO_len id0 L0 x1
  have hOl : OO.length ≤ 1048576 := by omega
  replace hD : Hid _ := hD
  replace hOO : Hid _ := hOO
  go_upto_region 5 with fail
  refine join_region (fun l l' W' => ∃ (P : Nat) (aW : Option Addr) (cW : Nat) (oW : Option Addr) (kW : Nat) (us : List Value), us.length = 8 ∧ l' = l.take 6 ++ (.pointer (some ⟨P, 0, none⟩) :: (.slice oW OO.length kW) :: (l.drop 8).take 13) ++ us ++ l.drop 29 ∧ BBox W' P id0 (.slice aW D.length cW) ∧ FOwn ptEnc 11 60 y1.heap.size W' (.slice aW D.length cW) D ∧ FOwn ouEnc 8 75 y1.heap.size W' (.slice oW OO.length kW) OO ∧ (∀ g_, (Value.slice aW D.length cW).ownBlock = some g_ → g_ ≠ P) ∧ (∀ g_, (Value.slice oW OO.length kW).ownBlock = some g_ → g_ ≠ P) ∧ (∀ g_, (Value.slice oW OO.length kW).ownBlock = some g_ → (Value.slice aW D.length cW).ownBlock ≠ some g_) ∧ y1.heap.size ≤ P ∧ Below y1.heap.size y1 W') ?_ ?_
  rotate_left
  · intro K2 hT3
    refine wp_region_held (S := fun Y => Below y1.heap.size y1 Y) (by kernel_rfl) ?_
    change wpAnyH _ _ _ _ _ _ _ _ (World.drew _)
    have hb0 : Below y1.heap.size y1 y1.drew := (Below.refl _ _).drew
    obtain ⟨u0, hy0⟩ : ∃ y_, y_ = y1.drew := ⟨_, rfl⟩
    rw [← hy0] at hb0 ⊢
    clear hy0
    refine takeW 0 22 (.agg #[.int .i64 id0, .slice ad0 L0.length cap0]) rfl rfl (by kernel_rfl) (by kernel_rfl) (by kernel_rfl) (fun _ _ _ h => h) (by kernel_rfl) (by (intro Y hSw; obtain ⟨X0_, X1_⟩ := A0.below hSw A0.lt; go_simp)) (by assumption) ?_
    simp only [List.set_cons_zero, List.set_cons_succ]
    refine takeW 2 24 (.agg #[.int .i64 x1.k, .int .i64 x1.q, .int .i64 x1.r, .int .i64 x1.c, .int .i64 x1.b, .int .i64 x1.p, .int .i64 x1.h, .bool x1.up]) rfl rfl (by kernel_rfl) (by kernel_rfl) (by kernel_rfl) (fun _ _ _ h => h) (by kernel_rfl) (by (intro Y hSw; obtain ⟨Z0, Z1, Z2, Z3, Z4, Z5, Z6, Z7⟩ := N1.below hSw N1.lt; go_simp)) (by assumption) ?_
    simp only [List.set_cons_zero, List.set_cons_succ]
    refine wpAnyH_all (rs := [1, 8]) (by kernel_rfl) (by simp) ?_
    intro i hi; rcases (by simpa using hi : i = 1 ∨ i = 8) with rfl | rfl
    · refine wpOp_step rfl (fun K hK => ?_)
      rw [if_pos (by kernel_rfl)]
      go_simp
      go_at_call 10
      refine (brTo id0 ad0 cap0 L0 u0 (V0.below hb0 (V0.lt ptEnc_len (by omega))) hl).mono ?_
      rintro e u1 ⟨gT, rfl, _, _, oT_, kq⟩
      have hb1 : Below y1.heap.size y1 u1 := hb0.trans (kq.mono hb0.size)
      clear kq
      refine hK _ _ ⟨hb1, ?_⟩
      clear hK K hi
      refine wpAnyH_all (rs := [3, 8]) (by kernel_rfl) (by simp) ?_
      intro i hi; rcases (by simpa using hi : i = 3 ∨ i = 8) with rfl | rfl
      · refine wpOp_step rfl (fun K hK => ?_)
        rw [if_pos (by kernel_rfl)]
        go_simp
        go_at_call 21
        refine (toInI x1 u1).mono ?_
        rintro e u2 ⟨rfl, kq⟩
        have oT_ := oT_.later kq
        have hb2 : Below y1.heap.size y1 u2 := hb1.trans (kq.mono hb1.size)
        clear kq
        refine hK _ _ ⟨hb2, ?_⟩
        clear hK K hi
        refine wpAnyH_all (rs := [4, 8]) (by kernel_rfl) (by simp) ?_
        intro i hi; rcases (by simpa using hi : i = 4 ∨ i = 8) with rfl | rfl
        · refine wpOp_step rfl (fun K hK => ?_)
          rw [if_pos (by kernel_rfl)]
          go_simp
          go_at_call 23
          refine (reactS id0 (some ⟨gT, 0, none⟩) L0.length L0 x1 u2 oT_.view.2 hl (fun e => by cases e)).mono ?_
          rintro e u3 ⟨aW, cW, oW, kW, rfl, OW, QW, dW, kq⟩
          have bb : y1.heap.size ≤ u2.heap.size := hb2.size
          rw [hD.out] at OW dW ⊢
          rw [hOO.out] at QW dW ⊢
          have oT_ := oT_.later kq
          have hb3 : Below y1.heap.size y1 u3 := hb2.trans (kq.mono hb2.size)
          clear kq
          refine hK _ _ ⟨hb3, ?_⟩
          clear hK K hi
          refine takeW 5 21 (.tuple #[.agg #[.int .i64 id0, .slice aW D.length cW], .slice oW OO.length kW]) rfl rfl (by kernel_rfl) (by kernel_rfl) (by kernel_rfl) (fun _ _ _ h => h) (by kernel_rfl) (by (intro w hSw; go_simp)) (by assumption) ?_
          simp only [List.set_cons_zero, List.set_cons_succ]
          refine takeW 6 27 (.agg #[.int .i64 id0, .slice aW D.length cW]) rfl rfl (by kernel_rfl) (by kernel_rfl) (by kernel_rfl) (fun _ _ _ h => h) (by kernel_rfl) (by (intro w hSw; go_simp)) (by assumption) ?_
          simp only [List.set_cons_zero, List.set_cons_succ]
          refine takeW 7 28 (.slice oW OO.length kW) rfl rfl (by kernel_rfl) (by kernel_rfl) (by kernel_rfl) (fun _ _ _ h => h) (by kernel_rfl) (by (intro w hSw; go_simp)) (by assumption) ?_
          simp only [List.set_cons_zero, List.set_cons_succ]
          refine wpAnyH_all (rs := [8]) (by kernel_rfl) (by simp) ?_
          intro i hi; obtain rfl : i = 8 := by simpa using hi
          refine wpOp_step rfl (fun K hK => ?_)
          rw [if_pos (by kernel_rfl)]
          go_simp
          obtain ⟨u4, hy⟩ : ∃ y_, y_ = u3.alloc (Obj.cells #[.int .i64 0, .slice none 0 0] 31) := ⟨_, rfl⟩
          have kq : Below u3.heap.size u3 u4 := by rw [hy]; exact below_new _
          have joT_ : ∀ g_, (Value.slice (some ⟨gT, 0, none⟩) L0.length L0.length).ownBlock = some g_ → g_ ≠ u3.heap.size := fun g_ e => by have h1 := (oT_.lt g_ e).2; omega
          have jOW : ∀ g_, (Value.slice aW D.length cW).ownBlock = some g_ → g_ ≠ u3.heap.size := fun g_ e => by have h1 := (OW.lt g_ e).2; omega
          have jQW : ∀ g_, (Value.slice oW OO.length kW).ownBlock = some g_ → g_ ≠ u3.heap.size := fun g_ e => by have h1 := (QW.lt g_ e).2; omega
          have oT_ := oT_.later kq
          have OW := OW.later kq
          have QW := QW.later kq
          have FP : BBox u4 u3.heap.size 0 (.slice none 0 0) := by rw [hy]; exact BBox.new u3 _ _ _
          have pa : y1.heap.size ≤ u3.heap.size := hb3.size
          have hb4 : Below y1.heap.size y1 u4 := hb3.trans (kq.mono hb3.size)
          rw [← hy]
          clear hy kq
          refine hK _ _ ⟨hb4, ?_⟩
          clear hK K hi
          refine wpAnyH_all (rs := [9]) (by kernel_rfl) (by simp) ?_
          intro i hi; obtain rfl : i = 9 := by simpa using hi
          refine wpOp_step rfl (fun K hK => ?_)
          rw [if_pos (by kernel_rfl)]
          have FQ := FP
          obtain ⟨⟨t0, t1⟩, tf⟩ := FP
          go_simp
          clear t0 t1 tf
          obtain ⟨uf, huf⟩ : ∃ y_, y_ = (u4.setCell ⟨u3.heap.size, 0, none⟩ (.int .i64 id0)).setCell ⟨u3.heap.size, 1, none⟩ (.slice aW D.length cW) := ⟨_, rfl⟩
          have FE : BBox uf (u3.heap.size) id0 (.slice aW D.length cW) := by rw [huf]; exact FQ.put _ _
          have hbf : Below y1.heap.size y1 uf := by rw [huf]; exact (hb4.setCell (p := ⟨u3.heap.size, 0, none⟩) pa _).setCell (p := ⟨u3.heap.size, 1, none⟩) pa _
          have oT_ := oT_.keep (w' := uf) (fun g_ e => by rw [huf, Below.heap_setCell _ _ _ _ (by show g_ ≠ u3.heap.size; exact joT_ g_ e), Below.heap_setCell _ _ _ _ (by show g_ ≠ u3.heap.size; exact joT_ g_ e)])
          have OW := OW.keep (w' := uf) (fun g_ e => by rw [huf, Below.heap_setCell _ _ _ _ (by show g_ ≠ u3.heap.size; exact jOW g_ e), Below.heap_setCell _ _ _ _ (by show g_ ≠ u3.heap.size; exact jOW g_ e)])
          have QW := QW.keep (w' := uf) (fun g_ e => by rw [huf, Below.heap_setCell _ _ _ _ (by show g_ ≠ u3.heap.size; exact jQW g_ e), Below.heap_setCell _ _ _ _ (by show g_ ≠ u3.heap.size; exact jQW g_ e)])
          rw [← huf]
          clear huf FQ
          refine hK _ _ ⟨hbf, ?_⟩
          clear hK K hi
          refine takeW 10 7 (.slice oW OO.length kW) rfl rfl (by kernel_rfl) (by kernel_rfl) (by kernel_rfl) (fun _ _ _ h => h) (by kernel_rfl) (by (intro w hSw; go_simp)) (by assumption) ?_
          simp only [List.set_cons_zero, List.set_cons_succ]
          refine wpAnyH_done (by kernel_rfl) ?_ _
          exact hT3.out _ _ ⟨u3.heap.size, aW, cW, oW, kW, [(.tuple #[.agg #[.int .i64 id0, .slice aW D.length cW], .slice oW OO.length kW]), (.agg #[.int .i64 id0, .slice ad0 L0.length cap0]), (.agg #[.int .i64 id0, .slice (some ⟨gT, 0, none⟩) L0.length L0.length]), (.agg #[.int .i64 x1.k, .int .i64 x1.q, .int .i64 x1.r, .int .i64 x1.c, .int .i64 x1.b, .int .i64 x1.p, .int .i64 x1.h, .bool x1.up]), (.agg #[.int .i64 x1.k, .int .i64 x1.q, .int .i64 x1.r, .int .i64 x1.c, .int .i64 x1.b, .int .i64 x1.p, .int .i64 x1.h, .bool x1.up]), (.tuple #[.agg #[.int .i64 id0, .slice aW D.length cW], .slice oW OO.length kW]), (.agg #[.int .i64 id0, .slice aW D.length cW]), (.slice oW OO.length kW)], rfl, by kernel_rfl, FE, OW.base bb, QW.base bb, jOW, jQW, dW, pa, hbf⟩
        · refine wpOp_step rfl (fun K hK => ?_)
          rw [if_pos (by kernel_rfl)]
          go_simp
          obtain ⟨u3, hy⟩ : ∃ y_, y_ = u2.alloc (Obj.cells #[.int .i64 0, .slice none 0 0] 31) := ⟨_, rfl⟩
          have kq : Below u2.heap.size u2 u3 := by rw [hy]; exact below_new _
          have joT_ : ∀ g_, (Value.slice (some ⟨gT, 0, none⟩) L0.length L0.length).ownBlock = some g_ → g_ ≠ u2.heap.size := fun g_ e => by have h1 := (oT_.lt g_ e).2; omega
          have oT_ := oT_.later kq
          have FP : BBox u3 u2.heap.size 0 (.slice none 0 0) := by rw [hy]; exact BBox.new u2 _ _ _
          have pa : y1.heap.size ≤ u2.heap.size := hb2.size
          have hb3 : Below y1.heap.size y1 u3 := hb2.trans (kq.mono hb2.size)
          rw [← hy]
          clear hy kq
          refine hK _ _ ⟨hb3, ?_⟩
          clear hK K hi
          refine wpAnyH_all (rs := [4]) (by kernel_rfl) (by simp) ?_
          intro i hi; obtain rfl : i = 4 := by simpa using hi
          refine wpOp_step rfl (fun K hK => ?_)
          rw [if_pos (by kernel_rfl)]
          go_simp
          go_at_call 23
          refine (reactS id0 (some ⟨gT, 0, none⟩) L0.length L0 x1 u3 oT_.view.2 hl (fun e => by cases e)).mono ?_
          rintro e u4 ⟨aW, cW, oW, kW, rfl, OW, QW, dW, kq⟩
          have bb : y1.heap.size ≤ u3.heap.size := hb3.size
          rw [hD.out] at OW dW ⊢
          rw [hOO.out] at QW dW ⊢
          have jOW : ∀ g_, (Value.slice aW D.length cW).ownBlock = some g_ → g_ ≠ u2.heap.size := fun g_ e => by have h1 := (OW.lt g_ e).1; have h2 := FP.lt; omega
          have jQW : ∀ g_, (Value.slice oW OO.length kW).ownBlock = some g_ → g_ ≠ u2.heap.size := fun g_ e => by have h1 := (QW.lt g_ e).1; have h2 := FP.lt; omega
          have oT_ := oT_.later kq
          have FP := FP.below kq FP.lt
          have hb4 : Below y1.heap.size y1 u4 := hb3.trans (kq.mono hb3.size)
          clear kq
          refine hK _ _ ⟨hb4, ?_⟩
          clear hK K hi
          refine takeW 5 21 (.tuple #[.agg #[.int .i64 id0, .slice aW D.length cW], .slice oW OO.length kW]) rfl rfl (by kernel_rfl) (by kernel_rfl) (by kernel_rfl) (fun _ _ _ h => h) (by kernel_rfl) (by (intro w hSw; go_simp)) (by assumption) ?_
          simp only [List.set_cons_zero, List.set_cons_succ]
          refine takeW 6 27 (.agg #[.int .i64 id0, .slice aW D.length cW]) rfl rfl (by kernel_rfl) (by kernel_rfl) (by kernel_rfl) (fun _ _ _ h => h) (by kernel_rfl) (by (intro w hSw; go_simp)) (by assumption) ?_
          simp only [List.set_cons_zero, List.set_cons_succ]
          refine takeW 7 28 (.slice oW OO.length kW) rfl rfl (by kernel_rfl) (by kernel_rfl) (by kernel_rfl) (fun _ _ _ h => h) (by kernel_rfl) (by (intro w hSw; go_simp)) (by assumption) ?_
          simp only [List.set_cons_zero, List.set_cons_succ]
          refine wpAnyH_all (rs := [9]) (by kernel_rfl) (by simp) ?_
          intro i hi; obtain rfl : i = 9 := by simpa using hi
          refine wpOp_step rfl (fun K hK => ?_)
          rw [if_pos (by kernel_rfl)]
          have FQ := FP
          obtain ⟨⟨t0, t1⟩, tf⟩ := FP
          go_simp
          clear t0 t1 tf
          obtain ⟨uf, huf⟩ : ∃ y_, y_ = (u4.setCell ⟨u2.heap.size, 0, none⟩ (.int .i64 id0)).setCell ⟨u2.heap.size, 1, none⟩ (.slice aW D.length cW) := ⟨_, rfl⟩
          have FE : BBox uf (u2.heap.size) id0 (.slice aW D.length cW) := by rw [huf]; exact FQ.put _ _
          have hbf : Below y1.heap.size y1 uf := by rw [huf]; exact (hb4.setCell (p := ⟨u2.heap.size, 0, none⟩) pa _).setCell (p := ⟨u2.heap.size, 1, none⟩) pa _
          have oT_ := oT_.keep (w' := uf) (fun g_ e => by rw [huf, Below.heap_setCell _ _ _ _ (by show g_ ≠ u2.heap.size; exact joT_ g_ e), Below.heap_setCell _ _ _ _ (by show g_ ≠ u2.heap.size; exact joT_ g_ e)])
          have OW := OW.keep (w' := uf) (fun g_ e => by rw [huf, Below.heap_setCell _ _ _ _ (by show g_ ≠ u2.heap.size; exact jOW g_ e), Below.heap_setCell _ _ _ _ (by show g_ ≠ u2.heap.size; exact jOW g_ e)])
          have QW := QW.keep (w' := uf) (fun g_ e => by rw [huf, Below.heap_setCell _ _ _ _ (by show g_ ≠ u2.heap.size; exact jQW g_ e), Below.heap_setCell _ _ _ _ (by show g_ ≠ u2.heap.size; exact jQW g_ e)])
          rw [← huf]
          clear huf FQ
          refine hK _ _ ⟨hbf, ?_⟩
          clear hK K hi
          refine takeW 10 7 (.slice oW OO.length kW) rfl rfl (by kernel_rfl) (by kernel_rfl) (by kernel_rfl) (fun _ _ _ h => h) (by kernel_rfl) (by (intro w hSw; go_simp)) (by assumption) ?_
          simp only [List.set_cons_zero, List.set_cons_succ]
          refine wpAnyH_done (by kernel_rfl) ?_ _
          exact hT3.out _ _ ⟨u2.heap.size, aW, cW, oW, kW, [(.tuple #[.agg #[.int .i64 id0, .slice aW D.length cW], .slice oW OO.length kW]), (.agg #[.int .i64 id0, .slice ad0 L0.length cap0]), (.agg #[.int .i64 id0, .slice (some ⟨gT, 0, none⟩) L0.length L0.length]), (.agg #[.int .i64 x1.k, .int .i64 x1.q, .int .i64 x1.r, .int .i64 x1.c, .int .i64 x1.b, .int .i64 x1.p, .int .i64 x1.h, .bool x1.up]), (.agg #[.int .i64 x1.k, .int .i64 x1.q, .int .i64 x1.r, .int .i64 x1.c, .int .i64 x1.b, .int .i64 x1.p, .int .i64 x1.h, .bool x1.up]), (.tuple #[.agg #[.int .i64 id0, .slice aW D.length cW], .slice oW OO.length kW]), (.agg #[.int .i64 id0, .slice aW D.length cW]), (.slice oW OO.length kW)], rfl, by kernel_rfl, FE, OW.base bb, QW.base bb, jOW, jQW, dW, pa, hbf⟩
      · refine wpOp_step rfl (fun K hK => ?_)
        rw [if_pos (by kernel_rfl)]
        go_simp
        obtain ⟨u2, hy⟩ : ∃ y_, y_ = u1.alloc (Obj.cells #[.int .i64 0, .slice none 0 0] 31) := ⟨_, rfl⟩
        have kq : Below u1.heap.size u1 u2 := by rw [hy]; exact below_new _
        have joT_ : ∀ g_, (Value.slice (some ⟨gT, 0, none⟩) L0.length L0.length).ownBlock = some g_ → g_ ≠ u1.heap.size := fun g_ e => by have h1 := (oT_.lt g_ e).2; omega
        have oT_ := oT_.later kq
        have FP : BBox u2 u1.heap.size 0 (.slice none 0 0) := by rw [hy]; exact BBox.new u1 _ _ _
        have pa : y1.heap.size ≤ u1.heap.size := hb1.size
        have hb2 : Below y1.heap.size y1 u2 := hb1.trans (kq.mono hb1.size)
        rw [← hy]
        clear hy kq
        refine hK _ _ ⟨hb2, ?_⟩
        clear hK K hi
        refine wpAnyH_all (rs := [3]) (by kernel_rfl) (by simp) ?_
        intro i hi; obtain rfl : i = 3 := by simpa using hi
        refine wpOp_step rfl (fun K hK => ?_)
        rw [if_pos (by kernel_rfl)]
        go_simp
        go_at_call 21
        refine (toInI x1 u2).mono ?_
        rintro e u3 ⟨rfl, kq⟩
        have oT_ := oT_.later kq
        have FP := FP.below kq FP.lt
        have hb3 : Below y1.heap.size y1 u3 := hb2.trans (kq.mono hb2.size)
        clear kq
        refine hK _ _ ⟨hb3, ?_⟩
        clear hK K hi
        refine wpAnyH_all (rs := [4]) (by kernel_rfl) (by simp) ?_
        intro i hi; obtain rfl : i = 4 := by simpa using hi
        refine wpOp_step rfl (fun K hK => ?_)
        rw [if_pos (by kernel_rfl)]
        go_simp
        go_at_call 23
        refine (reactS id0 (some ⟨gT, 0, none⟩) L0.length L0 x1 u3 oT_.view.2 hl (fun e => by cases e)).mono ?_
        rintro e u4 ⟨aW, cW, oW, kW, rfl, OW, QW, dW, kq⟩
        have bb : y1.heap.size ≤ u3.heap.size := hb3.size
        rw [hD.out] at OW dW ⊢
        rw [hOO.out] at QW dW ⊢
        have jOW : ∀ g_, (Value.slice aW D.length cW).ownBlock = some g_ → g_ ≠ u1.heap.size := fun g_ e => by have h1 := (OW.lt g_ e).1; have h2 := FP.lt; omega
        have jQW : ∀ g_, (Value.slice oW OO.length kW).ownBlock = some g_ → g_ ≠ u1.heap.size := fun g_ e => by have h1 := (QW.lt g_ e).1; have h2 := FP.lt; omega
        have oT_ := oT_.later kq
        have FP := FP.below kq FP.lt
        have hb4 : Below y1.heap.size y1 u4 := hb3.trans (kq.mono hb3.size)
        clear kq
        refine hK _ _ ⟨hb4, ?_⟩
        clear hK K hi
        refine takeW 5 21 (.tuple #[.agg #[.int .i64 id0, .slice aW D.length cW], .slice oW OO.length kW]) rfl rfl (by kernel_rfl) (by kernel_rfl) (by kernel_rfl) (fun _ _ _ h => h) (by kernel_rfl) (by (intro w hSw; go_simp)) (by assumption) ?_
        simp only [List.set_cons_zero, List.set_cons_succ]
        refine takeW 6 27 (.agg #[.int .i64 id0, .slice aW D.length cW]) rfl rfl (by kernel_rfl) (by kernel_rfl) (by kernel_rfl) (fun _ _ _ h => h) (by kernel_rfl) (by (intro w hSw; go_simp)) (by assumption) ?_
        simp only [List.set_cons_zero, List.set_cons_succ]
        refine takeW 7 28 (.slice oW OO.length kW) rfl rfl (by kernel_rfl) (by kernel_rfl) (by kernel_rfl) (fun _ _ _ h => h) (by kernel_rfl) (by (intro w hSw; go_simp)) (by assumption) ?_
        simp only [List.set_cons_zero, List.set_cons_succ]
        refine wpAnyH_all (rs := [9]) (by kernel_rfl) (by simp) ?_
        intro i hi; obtain rfl : i = 9 := by simpa using hi
        refine wpOp_step rfl (fun K hK => ?_)
        rw [if_pos (by kernel_rfl)]
        have FQ := FP
        obtain ⟨⟨t0, t1⟩, tf⟩ := FP
        go_simp
        clear t0 t1 tf
        obtain ⟨uf, huf⟩ : ∃ y_, y_ = (u4.setCell ⟨u1.heap.size, 0, none⟩ (.int .i64 id0)).setCell ⟨u1.heap.size, 1, none⟩ (.slice aW D.length cW) := ⟨_, rfl⟩
        have FE : BBox uf (u1.heap.size) id0 (.slice aW D.length cW) := by rw [huf]; exact FQ.put _ _
        have hbf : Below y1.heap.size y1 uf := by rw [huf]; exact (hb4.setCell (p := ⟨u1.heap.size, 0, none⟩) pa _).setCell (p := ⟨u1.heap.size, 1, none⟩) pa _
        have oT_ := oT_.keep (w' := uf) (fun g_ e => by rw [huf, Below.heap_setCell _ _ _ _ (by show g_ ≠ u1.heap.size; exact joT_ g_ e), Below.heap_setCell _ _ _ _ (by show g_ ≠ u1.heap.size; exact joT_ g_ e)])
        have OW := OW.keep (w' := uf) (fun g_ e => by rw [huf, Below.heap_setCell _ _ _ _ (by show g_ ≠ u1.heap.size; exact jOW g_ e), Below.heap_setCell _ _ _ _ (by show g_ ≠ u1.heap.size; exact jOW g_ e)])
        have QW := QW.keep (w' := uf) (fun g_ e => by rw [huf, Below.heap_setCell _ _ _ _ (by show g_ ≠ u1.heap.size; exact jQW g_ e), Below.heap_setCell _ _ _ _ (by show g_ ≠ u1.heap.size; exact jQW g_ e)])
        rw [← huf]
        clear huf FQ
        refine hK _ _ ⟨hbf, ?_⟩
        clear hK K hi
        refine takeW 10 7 (.slice oW OO.length kW) rfl rfl (by kernel_rfl) (by kernel_rfl) (by kernel_rfl) (fun _ _ _ h => h) (by kernel_rfl) (by (intro w hSw; go_simp)) (by assumption) ?_
        simp only [List.set_cons_zero, List.set_cons_succ]
        refine wpAnyH_done (by kernel_rfl) ?_ _
        exact hT3.out _ _ ⟨u1.heap.size, aW, cW, oW, kW, [(.tuple #[.agg #[.int .i64 id0, .slice aW D.length cW], .slice oW OO.length kW]), (.agg #[.int .i64 id0, .slice ad0 L0.length cap0]), (.agg #[.int .i64 id0, .slice (some ⟨gT, 0, none⟩) L0.length L0.length]), (.agg #[.int .i64 x1.k, .int .i64 x1.q, .int .i64 x1.r, .int .i64 x1.c, .int .i64 x1.b, .int .i64 x1.p, .int .i64 x1.h, .bool x1.up]), (.agg #[.int .i64 x1.k, .int .i64 x1.q, .int .i64 x1.r, .int .i64 x1.c, .int .i64 x1.b, .int .i64 x1.p, .int .i64 x1.h, .bool x1.up]), (.tuple #[.agg #[.int .i64 id0, .slice aW D.length cW], .slice oW OO.length kW]), (.agg #[.int .i64 id0, .slice aW D.length cW]), (.slice oW OO.length kW)], rfl, by kernel_rfl, FE, OW.base bb, QW.base bb, jOW, jQW, dW, pa, hbf⟩
    · refine wpOp_step rfl (fun K hK => ?_)
      rw [if_pos (by kernel_rfl)]
      go_simp
      obtain ⟨u1, hy⟩ : ∃ y_, y_ = u0.alloc (Obj.cells #[.int .i64 0, .slice none 0 0] 31) := ⟨_, rfl⟩
      have kq : Below u0.heap.size u0 u1 := by rw [hy]; exact below_new _
      have FP : BBox u1 u0.heap.size 0 (.slice none 0 0) := by rw [hy]; exact BBox.new u0 _ _ _
      have pa : y1.heap.size ≤ u0.heap.size := hb0.size
      have hb1 : Below y1.heap.size y1 u1 := hb0.trans (kq.mono hb0.size)
      rw [← hy]
      clear hy kq
      refine hK _ _ ⟨hb1, ?_⟩
      clear hK K hi
      refine wpAnyH_all (rs := [1]) (by kernel_rfl) (by simp) ?_
      intro i hi; obtain rfl : i = 1 := by simpa using hi
      refine wpOp_step rfl (fun K hK => ?_)
      rw [if_pos (by kernel_rfl)]
      go_simp
      go_at_call 10
      refine (brTo id0 ad0 cap0 L0 u1 (V0.below hb1 (V0.lt ptEnc_len (by omega))) hl).mono ?_
      rintro e u2 ⟨gT, rfl, _, _, oT_, kq⟩
      have joT_ : ∀ g_, (Value.slice (some ⟨gT, 0, none⟩) L0.length L0.length).ownBlock = some g_ → g_ ≠ u0.heap.size := fun g_ e => by have h1 := (oT_.lt g_ e).1; have h2 := FP.lt; omega
      have FP := FP.below kq FP.lt
      have hb2 : Below y1.heap.size y1 u2 := hb1.trans (kq.mono hb1.size)
      clear kq
      refine hK _ _ ⟨hb2, ?_⟩
      clear hK K hi
      refine wpAnyH_all (rs := [3]) (by kernel_rfl) (by simp) ?_
      intro i hi; obtain rfl : i = 3 := by simpa using hi
      refine wpOp_step rfl (fun K hK => ?_)
      rw [if_pos (by kernel_rfl)]
      go_simp
      go_at_call 21
      refine (toInI x1 u2).mono ?_
      rintro e u3 ⟨rfl, kq⟩
      have oT_ := oT_.later kq
      have FP := FP.below kq FP.lt
      have hb3 : Below y1.heap.size y1 u3 := hb2.trans (kq.mono hb2.size)
      clear kq
      refine hK _ _ ⟨hb3, ?_⟩
      clear hK K hi
      refine wpAnyH_all (rs := [4]) (by kernel_rfl) (by simp) ?_
      intro i hi; obtain rfl : i = 4 := by simpa using hi
      refine wpOp_step rfl (fun K hK => ?_)
      rw [if_pos (by kernel_rfl)]
      go_simp
      go_at_call 23
      refine (reactS id0 (some ⟨gT, 0, none⟩) L0.length L0 x1 u3 oT_.view.2 hl (fun e => by cases e)).mono ?_
      rintro e u4 ⟨aW, cW, oW, kW, rfl, OW, QW, dW, kq⟩
      have bb : y1.heap.size ≤ u3.heap.size := hb3.size
      rw [hD.out] at OW dW ⊢
      rw [hOO.out] at QW dW ⊢
      have jOW : ∀ g_, (Value.slice aW D.length cW).ownBlock = some g_ → g_ ≠ u0.heap.size := fun g_ e => by have h1 := (OW.lt g_ e).1; have h2 := FP.lt; omega
      have jQW : ∀ g_, (Value.slice oW OO.length kW).ownBlock = some g_ → g_ ≠ u0.heap.size := fun g_ e => by have h1 := (QW.lt g_ e).1; have h2 := FP.lt; omega
      have oT_ := oT_.later kq
      have FP := FP.below kq FP.lt
      have hb4 : Below y1.heap.size y1 u4 := hb3.trans (kq.mono hb3.size)
      clear kq
      refine hK _ _ ⟨hb4, ?_⟩
      clear hK K hi
      refine takeW 5 21 (.tuple #[.agg #[.int .i64 id0, .slice aW D.length cW], .slice oW OO.length kW]) rfl rfl (by kernel_rfl) (by kernel_rfl) (by kernel_rfl) (fun _ _ _ h => h) (by kernel_rfl) (by (intro w hSw; go_simp)) (by assumption) ?_
      simp only [List.set_cons_zero, List.set_cons_succ]
      refine takeW 6 27 (.agg #[.int .i64 id0, .slice aW D.length cW]) rfl rfl (by kernel_rfl) (by kernel_rfl) (by kernel_rfl) (fun _ _ _ h => h) (by kernel_rfl) (by (intro w hSw; go_simp)) (by assumption) ?_
      simp only [List.set_cons_zero, List.set_cons_succ]
      refine takeW 7 28 (.slice oW OO.length kW) rfl rfl (by kernel_rfl) (by kernel_rfl) (by kernel_rfl) (fun _ _ _ h => h) (by kernel_rfl) (by (intro w hSw; go_simp)) (by assumption) ?_
      simp only [List.set_cons_zero, List.set_cons_succ]
      refine wpAnyH_all (rs := [9]) (by kernel_rfl) (by simp) ?_
      intro i hi; obtain rfl : i = 9 := by simpa using hi
      refine wpOp_step rfl (fun K hK => ?_)
      rw [if_pos (by kernel_rfl)]
      have FQ := FP
      obtain ⟨⟨t0, t1⟩, tf⟩ := FP
      go_simp
      clear t0 t1 tf
      obtain ⟨uf, huf⟩ : ∃ y_, y_ = (u4.setCell ⟨u0.heap.size, 0, none⟩ (.int .i64 id0)).setCell ⟨u0.heap.size, 1, none⟩ (.slice aW D.length cW) := ⟨_, rfl⟩
      have FE : BBox uf (u0.heap.size) id0 (.slice aW D.length cW) := by rw [huf]; exact FQ.put _ _
      have hbf : Below y1.heap.size y1 uf := by rw [huf]; exact (hb4.setCell (p := ⟨u0.heap.size, 0, none⟩) pa _).setCell (p := ⟨u0.heap.size, 1, none⟩) pa _
      have oT_ := oT_.keep (w' := uf) (fun g_ e => by rw [huf, Below.heap_setCell _ _ _ _ (by show g_ ≠ u0.heap.size; exact joT_ g_ e), Below.heap_setCell _ _ _ _ (by show g_ ≠ u0.heap.size; exact joT_ g_ e)])
      have OW := OW.keep (w' := uf) (fun g_ e => by rw [huf, Below.heap_setCell _ _ _ _ (by show g_ ≠ u0.heap.size; exact jOW g_ e), Below.heap_setCell _ _ _ _ (by show g_ ≠ u0.heap.size; exact jOW g_ e)])
      have QW := QW.keep (w' := uf) (fun g_ e => by rw [huf, Below.heap_setCell _ _ _ _ (by show g_ ≠ u0.heap.size; exact jQW g_ e), Below.heap_setCell _ _ _ _ (by show g_ ≠ u0.heap.size; exact jQW g_ e)])
      rw [← huf]
      clear huf FQ
      refine hK _ _ ⟨hbf, ?_⟩
      clear hK K hi
      refine takeW 10 7 (.slice oW OO.length kW) rfl rfl (by kernel_rfl) (by kernel_rfl) (by kernel_rfl) (fun _ _ _ h => h) (by kernel_rfl) (by (intro w hSw; go_simp)) (by assumption) ?_
      simp only [List.set_cons_zero, List.set_cons_succ]
      refine wpAnyH_done (by kernel_rfl) ?_ _
      exact hT3.out _ _ ⟨u0.heap.size, aW, cW, oW, kW, [(.tuple #[.agg #[.int .i64 id0, .slice aW D.length cW], .slice oW OO.length kW]), (.agg #[.int .i64 id0, .slice ad0 L0.length cap0]), (.agg #[.int .i64 id0, .slice (some ⟨gT, 0, none⟩) L0.length L0.length]), (.agg #[.int .i64 x1.k, .int .i64 x1.q, .int .i64 x1.r, .int .i64 x1.c, .int .i64 x1.b, .int .i64 x1.p, .int .i64 x1.h, .bool x1.up]), (.agg #[.int .i64 x1.k, .int .i64 x1.q, .int .i64 x1.r, .int .i64 x1.c, .int .i64 x1.b, .int .i64 x1.p, .int .i64 x1.h, .bool x1.up]), (.tuple #[.agg #[.int .i64 id0, .slice aW D.length cW], .slice oW OO.length kW]), (.agg #[.int .i64 id0, .slice aW D.length cW]), (.slice oW OO.length kW)], rfl, by kernel_rfl, FE, OW.base bb, QW.base bb, jOW, jQW, dW, pa, hbf⟩
  rintro l' wd1 ⟨PW, aW, cW, oW, kW, us, hul, rfl, FEW, OW, QW, jOW, jQW, dW, pW, kq⟩
  obtain ⟨u21, us, rfl⟩ : ∃ a b, us = a :: b := List.exists_cons_of_length_eq_add_one hul
  replace hul := Nat.succ.inj hul
  obtain ⟨u22, us, rfl⟩ : ∃ a b, us = a :: b := List.exists_cons_of_length_eq_add_one hul
  replace hul := Nat.succ.inj hul
  obtain ⟨u23, us, rfl⟩ : ∃ a b, us = a :: b := List.exists_cons_of_length_eq_add_one hul
  replace hul := Nat.succ.inj hul
  obtain ⟨u24, us, rfl⟩ : ∃ a b, us = a :: b := List.exists_cons_of_length_eq_add_one hul
  replace hul := Nat.succ.inj hul
  obtain ⟨u25, us, rfl⟩ : ∃ a b, us = a :: b := List.exists_cons_of_length_eq_add_one hul
  replace hul := Nat.succ.inj hul
  obtain ⟨u26, us, rfl⟩ : ∃ a b, us = a :: b := List.exists_cons_of_length_eq_add_one hul
  replace hul := Nat.succ.inj hul
  obtain ⟨u27, us, rfl⟩ : ∃ a b, us = a :: b := List.exists_cons_of_length_eq_add_one hul
  replace hul := Nat.succ.inj hul
  obtain ⟨u28, us, rfl⟩ : ∃ a b, us = a :: b := List.exists_cons_of_length_eq_add_one hul
  replace hul := Nat.succ.inj hul
  obtain rfl : us = [] := List.eq_nil_of_length_eq_zero hul
  clear hul
  simp only [List.take, List.drop, List.cons_append, List.nil_append]
  have AW := FEW.at_
  clear FEW
  have lW := AW.lt
  have eW : ∀ g_, (Value.slice aW D.length cW).ownBlock = some g_ → (Value.slice oW OO.length kW).ownBlock ≠ some g_ := fun g_ e e2 => dW g_ e2 e
  have swd1 := kq.size
  have A0 := A0.below kq A0.lt
  have V0 := V0.below kq (V0.lt ptEnc_len (by omega))
  have N1 := N1.below kq N1.lt
  have BW := BW.trans (kq.mono BW.size)
  clear kq
  have iOW : ∀ g, (Value.slice aW D.length cW).ownBlock = some g → y1.heap.size ≤ g ∧ g < wd1.heap.size := fun g e => OW.lt g e
  have iQW : ∀ g, (Value.slice oW OO.length kW).ownBlock = some g → y1.heap.size ≤ g ∧ g < wd1.heap.size := fun g e => QW.lt g e
  have cc := A0
  obtain ⟨m0_0, m0_1⟩ := cc
  go_wp2_with fail
  go_at_call 10
  clear m0_0 m0_1
  refine (brTo id0 ad0 cap0 L0 wd1 V0 hl).mono ?_
  rintro e wd2 ⟨gOX, rfl, _, _, OX, kq⟩
  have swd2 := kq.size
  have A0 := A0.below kq A0.lt
  have V0 := V0.below kq (V0.lt ptEnc_len (by omega))
  have AW := AW.below kq AW.lt
  have OW := OW.later kq
  have QW := QW.later kq
  have N1 := N1.below kq N1.lt
  have BW := BW.trans (kq.mono BW.size)
  clear kq
  have iOX : ∀ g, (Value.slice (some ⟨gOX, 0, none⟩) L0.length L0.length).ownBlock = some g → wd1.heap.size ≤ g ∧ g < wd2.heap.size := fun g e => OX.lt g e
  obtain ⟨wd3, hwd3⟩ : ∃ y_, y_ = wd2.alloc (Obj.cells #[.int .i64 id0, .slice (some ⟨gOX, 0, none⟩) L0.length L0.length] 31) := ⟨_, rfl⟩
  have AX : BrAt wd3 wd2.heap.size id0 (.slice (some ⟨gOX, 0, none⟩) L0.length L0.length) := by rw [hwd3]; exact BrAt.new wd2 _ _ _
  have kq : Below wd2.heap.size wd2 wd3 := by rw [hwd3]; exact below_new _
  have lwd3 := AX.lt
  have swd3 := kq.size
  have A0 := A0.below kq A0.lt
  have V0 := V0.below kq (V0.lt ptEnc_len (by omega))
  have AW := AW.below kq AW.lt
  have OW := OW.later kq
  have QW := QW.later kq
  have OX := OX.later kq
  have N1 := N1.below kq N1.lt
  have BW := BW.trans (kq.mono BW.size)
  clear kq
  go_upto_region 7 with fail
  rw [← hwd3]
  clear hwd3
  refine join_region (fun l l' W' => ∃ (P : Nat) (aG : Option Addr) (cG : Nat) (oG : Option Addr) (kG : Nat) (us : List Value), us.length = 7 ∧ l' = l.take 9 ++ (.pointer (some ⟨P, 0, none⟩) :: (.slice oG OO.length kG) :: (l.drop 11).take 20) ++ us ++ l.drop 38 ∧ BBox W' P id0 (.slice aG D.length cG) ∧ FOwn ptEnc 11 60 wd3.heap.size W' (.slice aG D.length cG) D ∧ FOwn ouEnc 8 75 wd3.heap.size W' (.slice oG OO.length kG) OO ∧ (∀ g_, (Value.slice aG D.length cG).ownBlock = some g_ → g_ ≠ P) ∧ (∀ g_, (Value.slice oG OO.length kG).ownBlock = some g_ → g_ ≠ P) ∧ (∀ g_, (Value.slice oG OO.length kG).ownBlock = some g_ → (Value.slice aG D.length cG).ownBlock ≠ some g_) ∧ wd3.heap.size ≤ P ∧ Below wd3.heap.size wd3 W') ?_ ?_
  rotate_left
  · intro K2 hT3
    refine wp_region_held (S := fun Y => Below wd3.heap.size wd3 Y) (by kernel_rfl) ?_
    change wpAnyH _ _ _ _ _ _ _ _ (World.drew _)
    have hb0 : Below wd3.heap.size wd3 wd3.drew := (Below.refl _ _).drew
    obtain ⟨u0, hy0⟩ : ∃ y_, y_ = wd3.drew := ⟨_, rfl⟩
    rw [← hy0] at hb0 ⊢
    clear hy0
    refine takeW 0 32 (.agg #[.int .i64 id0, .slice (some ⟨gOX, 0, none⟩) L0.length L0.length]) rfl rfl (by kernel_rfl) (by kernel_rfl) (by kernel_rfl) (fun _ _ _ h => h) (by kernel_rfl) (by (intro Y hSw; obtain ⟨X0_, X1_⟩ := AX.below hSw AX.lt; go_simp)) (by assumption) ?_
    simp only [List.set_cons_zero, List.set_cons_succ]
    refine takeW 1 33 (.agg #[.int .i64 x1.k, .int .i64 x1.q, .int .i64 x1.r, .int .i64 x1.c, .int .i64 x1.b, .int .i64 x1.p, .int .i64 x1.h, .bool x1.up]) rfl rfl (by kernel_rfl) (by kernel_rfl) (by kernel_rfl) (fun _ _ _ h => h) (by kernel_rfl) (by (intro Y hSw; obtain ⟨Z0, Z1, Z2, Z3, Z4, Z5, Z6, Z7⟩ := N1.below hSw N1.lt; go_simp)) (by assumption) ?_
    simp only [List.set_cons_zero, List.set_cons_succ]
    refine wpAnyH_all (rs := [2, 7]) (by kernel_rfl) (by simp) ?_
    intro i hi; rcases (by simpa using hi : i = 2 ∨ i = 7) with rfl | rfl
    · refine wpOp_step rfl (fun K hK => ?_)
      rw [if_pos (by kernel_rfl)]
      go_simp
      go_at_call 21
      refine (toInI x1 u0).mono ?_
      rintro e u1 ⟨rfl, kq⟩
      have hb1 : Below wd3.heap.size wd3 u1 := hb0.trans (kq.mono hb0.size)
      clear kq
      refine hK _ _ ⟨hb1, ?_⟩
      clear hK K hi
      refine wpAnyH_all (rs := [3, 7]) (by kernel_rfl) (by simp) ?_
      intro i hi; rcases (by simpa using hi : i = 3 ∨ i = 7) with rfl | rfl
      · refine wpOp_step rfl (fun K hK => ?_)
        rw [if_pos (by kernel_rfl)]
        go_simp
        go_at_call 24
        refine (reactI id0 (some ⟨gOX, 0, none⟩) L0.length L0 x1 u1 (OX.later hb1).view.2 hl (fun e => by cases e)).mono ?_
        rintro e u2 ⟨aG, cG, oG, kG, rfl, OG, QG, dG, kq⟩
        have bb : wd3.heap.size ≤ u1.heap.size := hb1.size
        rw [hD.out] at OG dG ⊢
        rw [hOO.out] at QG dG ⊢
        have hb2 : Below wd3.heap.size wd3 u2 := hb1.trans (kq.mono hb1.size)
        clear kq
        refine hK _ _ ⟨hb2, ?_⟩
        clear hK K hi
        refine takeW 4 31 (.tuple #[.agg #[.int .i64 id0, .slice aG D.length cG], .slice oG OO.length kG]) rfl rfl (by kernel_rfl) (by kernel_rfl) (by kernel_rfl) (fun _ _ _ h => h) (by kernel_rfl) (by (intro w hSw; go_simp)) (by assumption) ?_
        simp only [List.set_cons_zero, List.set_cons_succ]
        refine takeW 5 36 (.agg #[.int .i64 id0, .slice aG D.length cG]) rfl rfl (by kernel_rfl) (by kernel_rfl) (by kernel_rfl) (fun _ _ _ h => h) (by kernel_rfl) (by (intro w hSw; go_simp)) (by assumption) ?_
        simp only [List.set_cons_zero, List.set_cons_succ]
        refine takeW 6 37 (.slice oG OO.length kG) rfl rfl (by kernel_rfl) (by kernel_rfl) (by kernel_rfl) (fun _ _ _ h => h) (by kernel_rfl) (by (intro w hSw; go_simp)) (by assumption) ?_
        simp only [List.set_cons_zero, List.set_cons_succ]
        refine wpAnyH_all (rs := [7]) (by kernel_rfl) (by simp) ?_
        intro i hi; obtain rfl : i = 7 := by simpa using hi
        refine wpOp_step rfl (fun K hK => ?_)
        rw [if_pos (by kernel_rfl)]
        go_simp
        obtain ⟨u3, hy⟩ : ∃ y_, y_ = u2.alloc (Obj.cells #[.int .i64 0, .slice none 0 0] 31) := ⟨_, rfl⟩
        have kq : Below u2.heap.size u2 u3 := by rw [hy]; exact below_new _
        have jOG : ∀ g_, (Value.slice aG D.length cG).ownBlock = some g_ → g_ ≠ u2.heap.size := fun g_ e => by have h1 := (OG.lt g_ e).2; omega
        have jQG : ∀ g_, (Value.slice oG OO.length kG).ownBlock = some g_ → g_ ≠ u2.heap.size := fun g_ e => by have h1 := (QG.lt g_ e).2; omega
        have OG := OG.later kq
        have QG := QG.later kq
        have FP : BBox u3 u2.heap.size 0 (.slice none 0 0) := by rw [hy]; exact BBox.new u2 _ _ _
        have pa : wd3.heap.size ≤ u2.heap.size := hb2.size
        have hb3 : Below wd3.heap.size wd3 u3 := hb2.trans (kq.mono hb2.size)
        rw [← hy]
        clear hy kq
        refine hK _ _ ⟨hb3, ?_⟩
        clear hK K hi
        refine wpAnyH_all (rs := [8]) (by kernel_rfl) (by simp) ?_
        intro i hi; obtain rfl : i = 8 := by simpa using hi
        refine wpOp_step rfl (fun K hK => ?_)
        rw [if_pos (by kernel_rfl)]
        have FQ := FP
        obtain ⟨⟨t0, t1⟩, tf⟩ := FP
        go_simp
        clear t0 t1 tf
        obtain ⟨uf, huf⟩ : ∃ y_, y_ = (u3.setCell ⟨u2.heap.size, 0, none⟩ (.int .i64 id0)).setCell ⟨u2.heap.size, 1, none⟩ (.slice aG D.length cG) := ⟨_, rfl⟩
        have FE : BBox uf (u2.heap.size) id0 (.slice aG D.length cG) := by rw [huf]; exact FQ.put _ _
        have hbf : Below wd3.heap.size wd3 uf := by rw [huf]; exact (hb3.setCell (p := ⟨u2.heap.size, 0, none⟩) pa _).setCell (p := ⟨u2.heap.size, 1, none⟩) pa _
        have OG := OG.keep (w' := uf) (fun g_ e => by rw [huf, Below.heap_setCell _ _ _ _ (by show g_ ≠ u2.heap.size; exact jOG g_ e), Below.heap_setCell _ _ _ _ (by show g_ ≠ u2.heap.size; exact jOG g_ e)])
        have QG := QG.keep (w' := uf) (fun g_ e => by rw [huf, Below.heap_setCell _ _ _ _ (by show g_ ≠ u2.heap.size; exact jQG g_ e), Below.heap_setCell _ _ _ _ (by show g_ ≠ u2.heap.size; exact jQG g_ e)])
        rw [← huf]
        clear huf FQ
        refine hK _ _ ⟨hbf, ?_⟩
        clear hK K hi
        refine takeW 9 10 (.slice oG OO.length kG) rfl rfl (by kernel_rfl) (by kernel_rfl) (by kernel_rfl) (fun _ _ _ h => h) (by kernel_rfl) (by (intro w hSw; go_simp)) (by assumption) ?_
        simp only [List.set_cons_zero, List.set_cons_succ]
        refine wpAnyH_done (by kernel_rfl) ?_ _
        exact hT3.out _ _ ⟨u2.heap.size, aG, cG, oG, kG, [(.tuple #[.agg #[.int .i64 id0, .slice aG D.length cG], .slice oG OO.length kG]), (.agg #[.int .i64 id0, .slice (some ⟨gOX, 0, none⟩) L0.length L0.length]), (.agg #[.int .i64 x1.k, .int .i64 x1.q, .int .i64 x1.r, .int .i64 x1.c, .int .i64 x1.b, .int .i64 x1.p, .int .i64 x1.h, .bool x1.up]), (.agg #[.int .i64 x1.k, .int .i64 x1.q, .int .i64 x1.r, .int .i64 x1.c, .int .i64 x1.b, .int .i64 x1.p, .int .i64 x1.h, .bool x1.up]), (.tuple #[.agg #[.int .i64 id0, .slice aG D.length cG], .slice oG OO.length kG]), (.agg #[.int .i64 id0, .slice aG D.length cG]), (.slice oG OO.length kG)], rfl, by kernel_rfl, FE, OG.base bb, QG.base bb, jOG, jQG, dG, pa, hbf⟩
      · refine wpOp_step rfl (fun K hK => ?_)
        rw [if_pos (by kernel_rfl)]
        go_simp
        obtain ⟨u2, hy⟩ : ∃ y_, y_ = u1.alloc (Obj.cells #[.int .i64 0, .slice none 0 0] 31) := ⟨_, rfl⟩
        have kq : Below u1.heap.size u1 u2 := by rw [hy]; exact below_new _
        have FP : BBox u2 u1.heap.size 0 (.slice none 0 0) := by rw [hy]; exact BBox.new u1 _ _ _
        have pa : wd3.heap.size ≤ u1.heap.size := hb1.size
        have hb2 : Below wd3.heap.size wd3 u2 := hb1.trans (kq.mono hb1.size)
        rw [← hy]
        clear hy kq
        refine hK _ _ ⟨hb2, ?_⟩
        clear hK K hi
        refine wpAnyH_all (rs := [3]) (by kernel_rfl) (by simp) ?_
        intro i hi; obtain rfl : i = 3 := by simpa using hi
        refine wpOp_step rfl (fun K hK => ?_)
        rw [if_pos (by kernel_rfl)]
        go_simp
        go_at_call 24
        refine (reactI id0 (some ⟨gOX, 0, none⟩) L0.length L0 x1 u2 (OX.later hb2).view.2 hl (fun e => by cases e)).mono ?_
        rintro e u3 ⟨aG, cG, oG, kG, rfl, OG, QG, dG, kq⟩
        have bb : wd3.heap.size ≤ u2.heap.size := hb2.size
        rw [hD.out] at OG dG ⊢
        rw [hOO.out] at QG dG ⊢
        have jOG : ∀ g_, (Value.slice aG D.length cG).ownBlock = some g_ → g_ ≠ u1.heap.size := fun g_ e => by have h1 := (OG.lt g_ e).1; have h2 := FP.lt; omega
        have jQG : ∀ g_, (Value.slice oG OO.length kG).ownBlock = some g_ → g_ ≠ u1.heap.size := fun g_ e => by have h1 := (QG.lt g_ e).1; have h2 := FP.lt; omega
        have FP := FP.below kq FP.lt
        have hb3 : Below wd3.heap.size wd3 u3 := hb2.trans (kq.mono hb2.size)
        clear kq
        refine hK _ _ ⟨hb3, ?_⟩
        clear hK K hi
        refine takeW 4 31 (.tuple #[.agg #[.int .i64 id0, .slice aG D.length cG], .slice oG OO.length kG]) rfl rfl (by kernel_rfl) (by kernel_rfl) (by kernel_rfl) (fun _ _ _ h => h) (by kernel_rfl) (by (intro w hSw; go_simp)) (by assumption) ?_
        simp only [List.set_cons_zero, List.set_cons_succ]
        refine takeW 5 36 (.agg #[.int .i64 id0, .slice aG D.length cG]) rfl rfl (by kernel_rfl) (by kernel_rfl) (by kernel_rfl) (fun _ _ _ h => h) (by kernel_rfl) (by (intro w hSw; go_simp)) (by assumption) ?_
        simp only [List.set_cons_zero, List.set_cons_succ]
        refine takeW 6 37 (.slice oG OO.length kG) rfl rfl (by kernel_rfl) (by kernel_rfl) (by kernel_rfl) (fun _ _ _ h => h) (by kernel_rfl) (by (intro w hSw; go_simp)) (by assumption) ?_
        simp only [List.set_cons_zero, List.set_cons_succ]
        refine wpAnyH_all (rs := [8]) (by kernel_rfl) (by simp) ?_
        intro i hi; obtain rfl : i = 8 := by simpa using hi
        refine wpOp_step rfl (fun K hK => ?_)
        rw [if_pos (by kernel_rfl)]
        have FQ := FP
        obtain ⟨⟨t0, t1⟩, tf⟩ := FP
        go_simp
        clear t0 t1 tf
        obtain ⟨uf, huf⟩ : ∃ y_, y_ = (u3.setCell ⟨u1.heap.size, 0, none⟩ (.int .i64 id0)).setCell ⟨u1.heap.size, 1, none⟩ (.slice aG D.length cG) := ⟨_, rfl⟩
        have FE : BBox uf (u1.heap.size) id0 (.slice aG D.length cG) := by rw [huf]; exact FQ.put _ _
        have hbf : Below wd3.heap.size wd3 uf := by rw [huf]; exact (hb3.setCell (p := ⟨u1.heap.size, 0, none⟩) pa _).setCell (p := ⟨u1.heap.size, 1, none⟩) pa _
        have OG := OG.keep (w' := uf) (fun g_ e => by rw [huf, Below.heap_setCell _ _ _ _ (by show g_ ≠ u1.heap.size; exact jOG g_ e), Below.heap_setCell _ _ _ _ (by show g_ ≠ u1.heap.size; exact jOG g_ e)])
        have QG := QG.keep (w' := uf) (fun g_ e => by rw [huf, Below.heap_setCell _ _ _ _ (by show g_ ≠ u1.heap.size; exact jQG g_ e), Below.heap_setCell _ _ _ _ (by show g_ ≠ u1.heap.size; exact jQG g_ e)])
        rw [← huf]
        clear huf FQ
        refine hK _ _ ⟨hbf, ?_⟩
        clear hK K hi
        refine takeW 9 10 (.slice oG OO.length kG) rfl rfl (by kernel_rfl) (by kernel_rfl) (by kernel_rfl) (fun _ _ _ h => h) (by kernel_rfl) (by (intro w hSw; go_simp)) (by assumption) ?_
        simp only [List.set_cons_zero, List.set_cons_succ]
        refine wpAnyH_done (by kernel_rfl) ?_ _
        exact hT3.out _ _ ⟨u1.heap.size, aG, cG, oG, kG, [(.tuple #[.agg #[.int .i64 id0, .slice aG D.length cG], .slice oG OO.length kG]), (.agg #[.int .i64 id0, .slice (some ⟨gOX, 0, none⟩) L0.length L0.length]), (.agg #[.int .i64 x1.k, .int .i64 x1.q, .int .i64 x1.r, .int .i64 x1.c, .int .i64 x1.b, .int .i64 x1.p, .int .i64 x1.h, .bool x1.up]), (.agg #[.int .i64 x1.k, .int .i64 x1.q, .int .i64 x1.r, .int .i64 x1.c, .int .i64 x1.b, .int .i64 x1.p, .int .i64 x1.h, .bool x1.up]), (.tuple #[.agg #[.int .i64 id0, .slice aG D.length cG], .slice oG OO.length kG]), (.agg #[.int .i64 id0, .slice aG D.length cG]), (.slice oG OO.length kG)], rfl, by kernel_rfl, FE, OG.base bb, QG.base bb, jOG, jQG, dG, pa, hbf⟩
    · refine wpOp_step rfl (fun K hK => ?_)
      rw [if_pos (by kernel_rfl)]
      go_simp
      obtain ⟨u1, hy⟩ : ∃ y_, y_ = u0.alloc (Obj.cells #[.int .i64 0, .slice none 0 0] 31) := ⟨_, rfl⟩
      have kq : Below u0.heap.size u0 u1 := by rw [hy]; exact below_new _
      have FP : BBox u1 u0.heap.size 0 (.slice none 0 0) := by rw [hy]; exact BBox.new u0 _ _ _
      have pa : wd3.heap.size ≤ u0.heap.size := hb0.size
      have hb1 : Below wd3.heap.size wd3 u1 := hb0.trans (kq.mono hb0.size)
      rw [← hy]
      clear hy kq
      refine hK _ _ ⟨hb1, ?_⟩
      clear hK K hi
      refine wpAnyH_all (rs := [2]) (by kernel_rfl) (by simp) ?_
      intro i hi; obtain rfl : i = 2 := by simpa using hi
      refine wpOp_step rfl (fun K hK => ?_)
      rw [if_pos (by kernel_rfl)]
      go_simp
      go_at_call 21
      refine (toInI x1 u1).mono ?_
      rintro e u2 ⟨rfl, kq⟩
      have FP := FP.below kq FP.lt
      have hb2 : Below wd3.heap.size wd3 u2 := hb1.trans (kq.mono hb1.size)
      clear kq
      refine hK _ _ ⟨hb2, ?_⟩
      clear hK K hi
      refine wpAnyH_all (rs := [3]) (by kernel_rfl) (by simp) ?_
      intro i hi; obtain rfl : i = 3 := by simpa using hi
      refine wpOp_step rfl (fun K hK => ?_)
      rw [if_pos (by kernel_rfl)]
      go_simp
      go_at_call 24
      refine (reactI id0 (some ⟨gOX, 0, none⟩) L0.length L0 x1 u2 (OX.later hb2).view.2 hl (fun e => by cases e)).mono ?_
      rintro e u3 ⟨aG, cG, oG, kG, rfl, OG, QG, dG, kq⟩
      have bb : wd3.heap.size ≤ u2.heap.size := hb2.size
      rw [hD.out] at OG dG ⊢
      rw [hOO.out] at QG dG ⊢
      have jOG : ∀ g_, (Value.slice aG D.length cG).ownBlock = some g_ → g_ ≠ u0.heap.size := fun g_ e => by have h1 := (OG.lt g_ e).1; have h2 := FP.lt; omega
      have jQG : ∀ g_, (Value.slice oG OO.length kG).ownBlock = some g_ → g_ ≠ u0.heap.size := fun g_ e => by have h1 := (QG.lt g_ e).1; have h2 := FP.lt; omega
      have FP := FP.below kq FP.lt
      have hb3 : Below wd3.heap.size wd3 u3 := hb2.trans (kq.mono hb2.size)
      clear kq
      refine hK _ _ ⟨hb3, ?_⟩
      clear hK K hi
      refine takeW 4 31 (.tuple #[.agg #[.int .i64 id0, .slice aG D.length cG], .slice oG OO.length kG]) rfl rfl (by kernel_rfl) (by kernel_rfl) (by kernel_rfl) (fun _ _ _ h => h) (by kernel_rfl) (by (intro w hSw; go_simp)) (by assumption) ?_
      simp only [List.set_cons_zero, List.set_cons_succ]
      refine takeW 5 36 (.agg #[.int .i64 id0, .slice aG D.length cG]) rfl rfl (by kernel_rfl) (by kernel_rfl) (by kernel_rfl) (fun _ _ _ h => h) (by kernel_rfl) (by (intro w hSw; go_simp)) (by assumption) ?_
      simp only [List.set_cons_zero, List.set_cons_succ]
      refine takeW 6 37 (.slice oG OO.length kG) rfl rfl (by kernel_rfl) (by kernel_rfl) (by kernel_rfl) (fun _ _ _ h => h) (by kernel_rfl) (by (intro w hSw; go_simp)) (by assumption) ?_
      simp only [List.set_cons_zero, List.set_cons_succ]
      refine wpAnyH_all (rs := [8]) (by kernel_rfl) (by simp) ?_
      intro i hi; obtain rfl : i = 8 := by simpa using hi
      refine wpOp_step rfl (fun K hK => ?_)
      rw [if_pos (by kernel_rfl)]
      have FQ := FP
      obtain ⟨⟨t0, t1⟩, tf⟩ := FP
      go_simp
      clear t0 t1 tf
      obtain ⟨uf, huf⟩ : ∃ y_, y_ = (u3.setCell ⟨u0.heap.size, 0, none⟩ (.int .i64 id0)).setCell ⟨u0.heap.size, 1, none⟩ (.slice aG D.length cG) := ⟨_, rfl⟩
      have FE : BBox uf (u0.heap.size) id0 (.slice aG D.length cG) := by rw [huf]; exact FQ.put _ _
      have hbf : Below wd3.heap.size wd3 uf := by rw [huf]; exact (hb3.setCell (p := ⟨u0.heap.size, 0, none⟩) pa _).setCell (p := ⟨u0.heap.size, 1, none⟩) pa _
      have OG := OG.keep (w' := uf) (fun g_ e => by rw [huf, Below.heap_setCell _ _ _ _ (by show g_ ≠ u0.heap.size; exact jOG g_ e), Below.heap_setCell _ _ _ _ (by show g_ ≠ u0.heap.size; exact jOG g_ e)])
      have QG := QG.keep (w' := uf) (fun g_ e => by rw [huf, Below.heap_setCell _ _ _ _ (by show g_ ≠ u0.heap.size; exact jQG g_ e), Below.heap_setCell _ _ _ _ (by show g_ ≠ u0.heap.size; exact jQG g_ e)])
      rw [← huf]
      clear huf FQ
      refine hK _ _ ⟨hbf, ?_⟩
      clear hK K hi
      refine takeW 9 10 (.slice oG OO.length kG) rfl rfl (by kernel_rfl) (by kernel_rfl) (by kernel_rfl) (fun _ _ _ h => h) (by kernel_rfl) (by (intro w hSw; go_simp)) (by assumption) ?_
      simp only [List.set_cons_zero, List.set_cons_succ]
      refine wpAnyH_done (by kernel_rfl) ?_ _
      exact hT3.out _ _ ⟨u0.heap.size, aG, cG, oG, kG, [(.tuple #[.agg #[.int .i64 id0, .slice aG D.length cG], .slice oG OO.length kG]), (.agg #[.int .i64 id0, .slice (some ⟨gOX, 0, none⟩) L0.length L0.length]), (.agg #[.int .i64 x1.k, .int .i64 x1.q, .int .i64 x1.r, .int .i64 x1.c, .int .i64 x1.b, .int .i64 x1.p, .int .i64 x1.h, .bool x1.up]), (.agg #[.int .i64 x1.k, .int .i64 x1.q, .int .i64 x1.r, .int .i64 x1.c, .int .i64 x1.b, .int .i64 x1.p, .int .i64 x1.h, .bool x1.up]), (.tuple #[.agg #[.int .i64 id0, .slice aG D.length cG], .slice oG OO.length kG]), (.agg #[.int .i64 id0, .slice aG D.length cG]), (.slice oG OO.length kG)], rfl, by kernel_rfl, FE, OG.base bb, QG.base bb, jOG, jQG, dG, pa, hbf⟩
  rintro l' wd4 ⟨PG, aG, cG, oG, kG, us, hul, rfl, FEG, OG, QG, jOG, jQG, dG, pG, kq⟩
  obtain ⟨u31, us, rfl⟩ : ∃ a b, us = a :: b := List.exists_cons_of_length_eq_add_one hul
  replace hul := Nat.succ.inj hul
  obtain ⟨u32, us, rfl⟩ : ∃ a b, us = a :: b := List.exists_cons_of_length_eq_add_one hul
  replace hul := Nat.succ.inj hul
  obtain ⟨u33, us, rfl⟩ : ∃ a b, us = a :: b := List.exists_cons_of_length_eq_add_one hul
  replace hul := Nat.succ.inj hul
  obtain ⟨u34, us, rfl⟩ : ∃ a b, us = a :: b := List.exists_cons_of_length_eq_add_one hul
  replace hul := Nat.succ.inj hul
  obtain ⟨u35, us, rfl⟩ : ∃ a b, us = a :: b := List.exists_cons_of_length_eq_add_one hul
  replace hul := Nat.succ.inj hul
  obtain ⟨u36, us, rfl⟩ : ∃ a b, us = a :: b := List.exists_cons_of_length_eq_add_one hul
  replace hul := Nat.succ.inj hul
  obtain ⟨u37, us, rfl⟩ : ∃ a b, us = a :: b := List.exists_cons_of_length_eq_add_one hul
  replace hul := Nat.succ.inj hul
  obtain rfl : us = [] := List.eq_nil_of_length_eq_zero hul
  clear hul
  simp only [List.take, List.drop, List.cons_append, List.nil_append]
  have AG := FEG.at_
  clear FEG
  have lG := AG.lt
  have eG : ∀ g_, (Value.slice aG D.length cG).ownBlock = some g_ → (Value.slice oG OO.length kG).ownBlock ≠ some g_ := fun g_ e e2 => dG g_ e2 e
  have swd4 := kq.size
  have A0 := A0.below kq A0.lt
  have V0 := V0.below kq (V0.lt ptEnc_len (by omega))
  have AW := AW.below kq AW.lt
  have OW := OW.later kq
  have QW := QW.later kq
  have OX := OX.later kq
  have AX := AX.below kq AX.lt
  have N1 := N1.below kq N1.lt
  have BW := BW.trans (kq.mono BW.size)
  clear kq
  have iOG : ∀ g, (Value.slice aG D.length cG).ownBlock = some g → wd3.heap.size ≤ g ∧ g < wd4.heap.size := fun g e => OG.lt g e
  have iQG : ∀ g, (Value.slice oG OO.length kG).ownBlock = some g → wd3.heap.size ≤ g ∧ g < wd4.heap.size := fun g e => QG.lt g e
  have cc := AG
  obtain ⟨m0_0, m0_1⟩ := cc
  have cc := AW
  obtain ⟨m1_0, m1_1⟩ := cc
  go_wp2_with fail
  go_at_call 13
  clear m0_0 m0_1 m1_0 m1_1
  refine (brEq id0 aG aW cG cW D wd4 OG.view.2 OW.view.2 hDl).mono ?_
  rintro e wd5 ⟨rfl, kq⟩
  have swd5 := kq.size
  have A0 := A0.below kq A0.lt
  have V0 := V0.below kq (V0.lt ptEnc_len (by omega))
  have AW := AW.below kq AW.lt
  have OW := OW.later kq
  have QW := QW.later kq
  have OX := OX.later kq
  have AX := AX.below kq AX.lt
  have AG := AG.below kq AG.lt
  have OG := OG.later kq
  have QG := QG.later kq
  have N1 := N1.below kq N1.lt
  have BW := BW.trans (kq.mono BW.size)
  clear kq
  go_wp2_with fail
  go_at_call 25
  refine (ouEqS oG oW kG kW OO wd5 QG.view.2 QW.view.2 hOl).mono ?_
  rintro e wd6 ⟨rfl, kq⟩
  have swd6 := kq.size
  have A0 := A0.below kq A0.lt
  have V0 := V0.below kq (V0.lt ptEnc_len (by omega))
  have AW := AW.below kq AW.lt
  have OW := OW.later kq
  have QW := QW.later kq
  have OX := OX.later kq
  have AX := AX.below kq AX.lt
  have AG := AG.below kq AG.lt
  have OG := OG.later kq
  have QG := QG.later kq
  have N1 := N1.below kq N1.lt
  have BW := BW.trans (kq.mono BW.size)
  clear kq
  go_upto_region 10 with fail
  refine wp_region_held (S := fun Y => Below wd6.heap.size wd6 Y) (by kernel_rfl) ?_
  change wpAnyH _ _ _ _ _ _ _ _ (World.drew _)
  have hb0 : Below wd6.heap.size wd6 wd6.drew := (Below.refl _ _).drew
  obtain ⟨u0, hy0⟩ : ∃ y_, y_ = wd6.drew := ⟨_, rfl⟩
  rw [← hy0] at hb0 ⊢
  clear hy0
  refine takeW 0 48 (.agg #[.int .i64 id0, .slice (some ⟨gOX, 0, none⟩) L0.length L0.length]) rfl rfl (by kernel_rfl) (by kernel_rfl) (by kernel_rfl) (fun _ _ _ h => h) (by kernel_rfl) (by (intro Y hSw; obtain ⟨X0, X1⟩ := AX.below hSw AX.lt; go_simp)) (by assumption) ?_
  simp only [List.set_cons_zero, List.set_cons_succ]
  refine takeW 1 49 (.agg #[.int .i64 id0, .slice ad0 L0.length cap0]) rfl rfl (by kernel_rfl) (by kernel_rfl) (by kernel_rfl) (fun _ _ _ h => h) (by kernel_rfl) (by (intro Y hSw; obtain ⟨X0, X1⟩ := A0.below hSw A0.lt; go_simp)) (by assumption) ?_
  simp only [List.set_cons_zero, List.set_cons_succ]
  refine wpAnyH_all (rs := [2]) (by kernel_rfl) (by simp) ?_
  intro i hi; obtain rfl : i = 2 := by simpa using hi
  refine wpOp_step rfl (fun K hK => ?_)
  rw [if_pos (by kernel_rfl)]
  go_simp
  go_at_call 10
  refine (brTo id0 ad0 cap0 L0 u0 (V0.below hb0 (V0.lt ptEnc_len (by omega))) hl).mono ?_
  rintro e u1 ⟨gz, rfl, _, _, oz, kq⟩
  have hb1 : Below wd6.heap.size wd6 u1 := hb0.trans (kq.mono hb0.size)
  clear kq
  refine hK _ _ ⟨hb1, ?_⟩
  clear hK K hi
  refine wpAnyH_all (rs := [3]) (by kernel_rfl) (by simp) ?_
  intro i hi; obtain rfl : i = 3 := by simpa using hi
  refine wpOp_step rfl (fun K hK => ?_)
  rw [if_pos (by kernel_rfl)]
  go_simp
  go_at_call 13
  refine (brEq id0 (some ⟨gOX, 0, none⟩) (some ⟨gz, 0, none⟩) L0.length L0.length L0 u1 (OX.later hb1).view.2 oz.view.2 hl).mono ?_
  rintro e u2 ⟨rfl, kq⟩
  have hb2 : Below wd6.heap.size wd6 u2 := hb1.trans (kq.mono hb1.size)
  clear kq oz
  refine hK _ _ ⟨hb2, ?_⟩
  clear hK K hi
  refine takeW 4 52 (.bool false) rfl rfl (by kernel_rfl) (by kernel_rfl) (by kernel_rfl) (fun _ _ _ h => h) (by kernel_rfl) (by (intro w hSw; go_simp)) (by assumption) ?_
  simp only [List.set_cons_zero, List.set_cons_succ]
  refine wpAnyH_done (by kernel_rfl) ?_ _
  have su2 := hb2.size
  have A0 := A0.below hb2 A0.lt
  have V0 := V0.below hb2 (V0.lt ptEnc_len (by omega))
  have AW := AW.below hb2 AW.lt
  have OW := OW.later hb2
  have QW := QW.later hb2
  have OX := OX.later hb2
  have AX := AX.below hb2 AX.lt
  have AG := AG.below hb2 AG.lt
  have OG := OG.later hb2
  have QG := QG.later hb2
  have N1 := N1.below hb2 N1.lt
  have BW := BW.trans (hb2.mono BW.size)
  clear hb2
  clear hb0 hb1
  have cc := AX
  obtain ⟨m0_0, m0_1⟩ := cc
  go_wp2_with fail
  go_at_call 18
  clear m0_0 m0_1
  refine (brMark id0 (some ⟨gOX, 0, none⟩) L0.length 1 _ L0 u2 OX (by omega) (by decide) (by decide)).mono ?_
  rintro e wd7 ⟨rfl, OX', gq⟩
  have swd7 := gq.size
  have A0 := A0.keep (gq.block _ A0.lt (fun e => by have := iOX _ e.symm; omega))
  have N1 := N1.keep (gq.block _ N1.lt (fun e => by have := iOX _ e.symm; omega))
  have V0 := V0.carry (fun a e p => gq.block _ (V0.lt ptEnc_len (by omega) a e p) (fun e2 => by have := iOX _ e2.symm; have := vb a e p; omega))
  have AW := AW.keep (gq.block _ AW.lt (fun e => by have := iOX _ e.symm; omega))
  have OW := OW.keep (fun g' e' => gq.block g' (OW.lt g' e').2 (fun e2 => by have := iOX _ e2.symm; have := iOW _ e'; omega))
  have QW := QW.keep (fun g' e' => gq.block g' (QW.lt g' e').2 (fun e2 => by have := iOX _ e2.symm; have := iQW _ e'; omega))
  have AX := AX.keep (gq.block _ AX.lt (fun e => by have := iOX _ e.symm; omega))
  have AG := AG.keep (gq.block _ AG.lt (fun e => by have := iOX _ e.symm; omega))
  have OG := OG.keep (fun g' e' => gq.block g' (OG.lt g' e').2 (fun e2 => by have := iOX _ e2.symm; have := iOG _ e'; omega))
  have QG := QG.keep (fun g' e' => gq.block g' (QG.lt g' e').2 (fun e2 => by have := iOX _ e2.symm; have := iQG _ e'; omega))
  have BW := BW.grown gq BW.size (fun g' e => by have := iOX _ e; omega)
  clear gq
  have OX := OX'
  clear OX'
  have hk0 : 0 ≤ 1 + 11 * (L0.length : Int) := by omega
  have cc := AG
  obtain ⟨m0_0, m0_1⟩ := cc
  have cc := AW
  obtain ⟨m1_0, m1_1⟩ := cc
  go_wp2_with fail
  go_at_call 13
  clear m0_0 m0_1 m1_0 m1_1
  refine (brEq id0 aG aW cG cW D wd7 OG.view.2 OW.view.2 hDl).mono ?_
  rintro e wd8 ⟨rfl, kq⟩
  have swd8 := kq.size
  have A0 := A0.below kq A0.lt
  have V0 := V0.below kq (V0.lt ptEnc_len (by omega))
  have AW := AW.below kq AW.lt
  have OW := OW.later kq
  have QW := QW.later kq
  have AX := AX.below kq AX.lt
  have AG := AG.below kq AG.lt
  have OG := OG.later kq
  have QG := QG.later kq
  have N1 := N1.below kq N1.lt
  have BW := BW.trans (kq.mono BW.size)
  clear kq
  go_wp2_with fail
  go_at_call 25
  refine (ouEqS oG oW kG kW OO wd8 QG.view.2 QW.view.2 hOl).mono ?_
  rintro e wd9 ⟨rfl, kq⟩
  have swd9 := kq.size
  have A0 := A0.below kq A0.lt
  have V0 := V0.below kq (V0.lt ptEnc_len (by omega))
  have AW := AW.below kq AW.lt
  have OW := OW.later kq
  have QW := QW.later kq
  have AX := AX.below kq AX.lt
  have AG := AG.below kq AG.lt
  have OG := OG.later kq
  have QG := QG.later kq
  have N1 := N1.below kq N1.lt
  have BW := BW.trans (kq.mono BW.size)
  clear kq
  have cc := AG
  obtain ⟨m0_0, m0_1⟩ := cc
  go_wp2_with fail
  go_at_call 18
  clear m0_0 m0_1
  refine (brMark id0 (aG) cG 1 _ D wd9 OG (by omega) (by decide) (by decide)).mono ?_
  rintro e wd10 ⟨rfl, OG', gq⟩
  have swd10 := gq.size
  have A0 := A0.keep (gq.block _ A0.lt (fun e => by have := iOG _ e.symm; omega))
  have N1 := N1.keep (gq.block _ N1.lt (fun e => by have := iOG _ e.symm; omega))
  have V0 := V0.carry (fun a e p => gq.block _ (V0.lt ptEnc_len (by omega) a e p) (fun e2 => by have := iOG _ e2.symm; have := vb a e p; omega))
  have AW := AW.keep (gq.block _ AW.lt (fun e => by have := iOG _ e.symm; omega))
  have OW := OW.keep (fun g' e' => gq.block g' (OW.lt g' e').2 (fun e2 => by have := iOG _ e2.symm; have := iOW _ e'; omega))
  have QW := QW.keep (fun g' e' => gq.block g' (QW.lt g' e').2 (fun e2 => by have := iOG _ e2.symm; have := iQW _ e'; omega))
  have AX := AX.keep (gq.block _ AX.lt (fun e => by have := iOG _ e.symm; omega))
  have AG := AG.keep (gq.block _ AG.lt (fun e => jOG _ e.symm rfl))
  have QG := QG.keep (fun g' e' => gq.block g' (QG.lt g' e').2 (fun e2 => dG g' e' e2.symm))
  have BW := BW.grown gq BW.size (fun g' e => by have := iOG _ e; omega)
  clear gq
  have OG := OG'
  clear OG'
  have hk0 : 0 ≤ 1 + 11 * (D.length : Int) := by omega
  obtain ⟨m, hm⟩ : ∃ m, m = 1 + 11 * (D.length : Int) := ⟨_, rfl⟩
  have m0 : 0 ≤ m := by omega
  have m1 : m ≤ 1000000000000 := by omega
  rw [← hm]
  replace hm : Hid _ := hm
  go_wp2_with fail
  go_at_call 26
  refine (ouMark oG kG m _ OO wd10 QG hOl m0 m1).mono ?_
  rintro e wd11 ⟨rfl, QG', gq⟩
  have swd11 := gq.size
  have A0 := A0.keep (gq.block _ A0.lt (fun e => by have := iQG _ e.symm; omega))
  have N1 := N1.keep (gq.block _ N1.lt (fun e => by have := iQG _ e.symm; omega))
  have V0 := V0.carry (fun a e p => gq.block _ (V0.lt ptEnc_len (by omega) a e p) (fun e2 => by have := iQG _ e2.symm; have := vb a e p; omega))
  have AW := AW.keep (gq.block _ AW.lt (fun e => by have := iQG _ e.symm; omega))
  have OW := OW.keep (fun g' e' => gq.block g' (OW.lt g' e').2 (fun e2 => by have := iQG _ e2.symm; have := iOW _ e'; omega))
  have QW := QW.keep (fun g' e' => gq.block g' (QW.lt g' e').2 (fun e2 => by have := iQG _ e2.symm; have := iQW _ e'; omega))
  have AX := AX.keep (gq.block _ AX.lt (fun e => by have := iQG _ e.symm; omega))
  have AG := AG.keep (gq.block _ AG.lt (fun e => jQG _ e.symm rfl))
  have OG := OG.keep (fun g' e' => gq.block g' (OG.lt g' e').2 (fun e2 => eG g' e' e2.symm))
  have BW := BW.grown gq BW.size (fun g' e => by have := iQG _ e; omega)
  clear gq
  have QG := QG'
  clear QG'
  obtain ⟨m2, hm2⟩ : ∃ m2, m2 = m + 8 * (OO.length : Int) := ⟨_, rfl⟩
  have m20 : 0 ≤ m2 := by omega
  rw [← hm2]
  replace hm2 : Hid _ := hm2
  have hml : ((List.range D.length).map (ptMk 1)).length = D.length := by simp
  have hql : ((List.range OO.length).map (ouMk m)).length = OO.length := by simp
  have cc := AG
  obtain ⟨m0_0, m0_1⟩ := cc
  go_wp2_with fail
  go_at_call 19
  clear m0_0 m0_1
  refine (brHeld id0 aG D.length cG 1 wd11 (by have := OG.view.2; exact this) hDl (by decide) (by decide)).mono ?_
  rintro e wd12 ⟨rfl, kq⟩
  have swd12 := kq.size
  have A0 := A0.below kq A0.lt
  have V0 := V0.below kq (V0.lt ptEnc_len (by omega))
  have AW := AW.below kq AW.lt
  have OW := OW.later kq
  have QW := QW.later kq
  have AX := AX.below kq AX.lt
  have AG := AG.below kq AG.lt
  have OG := OG.later kq
  have QG := QG.later kq
  have N1 := N1.below kq N1.lt
  have BW := BW.trans (kq.mono BW.size)
  clear kq
  rw [← hm.out]
  go_wp2_with fail
  go_at_call 27
  refine (ouHeld oG OO.length kG m wd12 (by have := QG.view.2; exact this) hOl m0 m1).mono ?_
  rintro e wd13 ⟨rfl, hw_⟩
  have kq : Below wd12.heap.size wd12 wd13 := by rw [hw_]; exact Below.refl _ _
  clear hw_
  have swd13 := kq.size
  have A0 := A0.below kq A0.lt
  have V0 := V0.below kq (V0.lt ptEnc_len (by omega))
  have AW := AW.below kq AW.lt
  have OW := OW.later kq
  have QW := QW.later kq
  have AX := AX.below kq AX.lt
  have AG := AG.below kq AG.lt
  have OG := OG.later kq
  have QG := QG.later kq
  have N1 := N1.below kq N1.lt
  have BW := BW.trans (kq.mono BW.size)
  clear kq
  rw [← hm2.out]
  go_upto_region 28 with fail
  refine join_region (fun l l' W' => ∃ (P : Nat) (aH : Option Addr) (cH : Nat) (oH : Option Addr) (kH : Nat) (us : List Value), us.length = 8 ∧ l' = l.take 14 ++ (.pointer (some ⟨P, 0, none⟩) :: (.slice oH OO.length kH) :: (l.drop 16).take 73) ++ us ++ l.drop 97 ∧ BBox W' P id0 (.slice aH D.length cH) ∧ FOwn ptEnc 11 60 wd13.heap.size W' (.slice aH D.length cH) D ∧ FOwn ouEnc 8 75 wd13.heap.size W' (.slice oH OO.length kH) OO ∧ (∀ g_, (Value.slice aH D.length cH).ownBlock = some g_ → g_ ≠ P) ∧ (∀ g_, (Value.slice oH OO.length kH).ownBlock = some g_ → g_ ≠ P) ∧ (∀ g_, (Value.slice oH OO.length kH).ownBlock = some g_ → (Value.slice aH D.length cH).ownBlock ≠ some g_) ∧ wd13.heap.size ≤ P ∧ Below wd13.heap.size wd13 W') ?_ ?_
  rotate_left
  · intro K2 hT3
    refine wp_region_held (S := fun Y => Below wd13.heap.size wd13 Y) (by kernel_rfl) ?_
    change wpAnyH _ _ _ _ _ _ _ _ (World.drew _)
    have hb0 : Below wd13.heap.size wd13 wd13.drew := (Below.refl _ _).drew
    obtain ⟨u0, hy0⟩ : ∃ y_, y_ = wd13.drew := ⟨_, rfl⟩
    rw [← hy0] at hb0 ⊢
    clear hy0
    refine takeW 0 90 (.agg #[.int .i64 id0, .slice ad0 L0.length cap0]) rfl rfl (by kernel_rfl) (by kernel_rfl) (by kernel_rfl) (fun _ _ _ h => h) (by kernel_rfl) (by (intro Y hSw; obtain ⟨X0_, X1_⟩ := A0.below hSw A0.lt; go_simp)) (by assumption) ?_
    simp only [List.set_cons_zero, List.set_cons_succ]
    refine takeW 2 92 (.agg #[.int .i64 x1.k, .int .i64 x1.q, .int .i64 x1.r, .int .i64 x1.c, .int .i64 x1.b, .int .i64 x1.p, .int .i64 x1.h, .bool x1.up]) rfl rfl (by kernel_rfl) (by kernel_rfl) (by kernel_rfl) (fun _ _ _ h => h) (by kernel_rfl) (by (intro Y hSw; obtain ⟨Z0, Z1, Z2, Z3, Z4, Z5, Z6, Z7⟩ := N1.below hSw N1.lt; go_simp)) (by assumption) ?_
    simp only [List.set_cons_zero, List.set_cons_succ]
    refine wpAnyH_all (rs := [1, 8]) (by kernel_rfl) (by simp) ?_
    intro i hi; rcases (by simpa using hi : i = 1 ∨ i = 8) with rfl | rfl
    · refine wpOp_step rfl (fun K hK => ?_)
      rw [if_pos (by kernel_rfl)]
      go_simp
      go_at_call 10
      refine (brTo id0 ad0 cap0 L0 u0 (V0.below hb0 (V0.lt ptEnc_len (by omega))) hl).mono ?_
      rintro e u1 ⟨gT, rfl, _, _, oT_, kq⟩
      have hb1 : Below wd13.heap.size wd13 u1 := hb0.trans (kq.mono hb0.size)
      clear kq
      refine hK _ _ ⟨hb1, ?_⟩
      clear hK K hi
      refine wpAnyH_all (rs := [3, 8]) (by kernel_rfl) (by simp) ?_
      intro i hi; rcases (by simpa using hi : i = 3 ∨ i = 8) with rfl | rfl
      · refine wpOp_step rfl (fun K hK => ?_)
        rw [if_pos (by kernel_rfl)]
        go_simp
        go_at_call 21
        refine (toInI x1 u1).mono ?_
        rintro e u2 ⟨rfl, kq⟩
        have oT_ := oT_.later kq
        have hb2 : Below wd13.heap.size wd13 u2 := hb1.trans (kq.mono hb1.size)
        clear kq
        refine hK _ _ ⟨hb2, ?_⟩
        clear hK K hi
        refine wpAnyH_all (rs := [4, 8]) (by kernel_rfl) (by simp) ?_
        intro i hi; rcases (by simpa using hi : i = 4 ∨ i = 8) with rfl | rfl
        · refine wpOp_step rfl (fun K hK => ?_)
          rw [if_pos (by kernel_rfl)]
          go_simp
          go_at_call 24
          refine (reactI id0 (some ⟨gT, 0, none⟩) L0.length L0 x1 u2 oT_.view.2 hl (fun e => by cases e)).mono ?_
          rintro e u3 ⟨aH, cH, oH, kH, rfl, OH, QH, dH, kq⟩
          have bb : wd13.heap.size ≤ u2.heap.size := hb2.size
          rw [hD.out] at OH dH ⊢
          rw [hOO.out] at QH dH ⊢
          have oT_ := oT_.later kq
          have hb3 : Below wd13.heap.size wd13 u3 := hb2.trans (kq.mono hb2.size)
          clear kq
          refine hK _ _ ⟨hb3, ?_⟩
          clear hK K hi
          refine takeW 5 89 (.tuple #[.agg #[.int .i64 id0, .slice aH D.length cH], .slice oH OO.length kH]) rfl rfl (by kernel_rfl) (by kernel_rfl) (by kernel_rfl) (fun _ _ _ h => h) (by kernel_rfl) (by (intro w hSw; go_simp)) (by assumption) ?_
          simp only [List.set_cons_zero, List.set_cons_succ]
          refine takeW 6 95 (.agg #[.int .i64 id0, .slice aH D.length cH]) rfl rfl (by kernel_rfl) (by kernel_rfl) (by kernel_rfl) (fun _ _ _ h => h) (by kernel_rfl) (by (intro w hSw; go_simp)) (by assumption) ?_
          simp only [List.set_cons_zero, List.set_cons_succ]
          refine takeW 7 96 (.slice oH OO.length kH) rfl rfl (by kernel_rfl) (by kernel_rfl) (by kernel_rfl) (fun _ _ _ h => h) (by kernel_rfl) (by (intro w hSw; go_simp)) (by assumption) ?_
          simp only [List.set_cons_zero, List.set_cons_succ]
          refine wpAnyH_all (rs := [8]) (by kernel_rfl) (by simp) ?_
          intro i hi; obtain rfl : i = 8 := by simpa using hi
          refine wpOp_step rfl (fun K hK => ?_)
          rw [if_pos (by kernel_rfl)]
          go_simp
          obtain ⟨u4, hy⟩ : ∃ y_, y_ = u3.alloc (Obj.cells #[.int .i64 0, .slice none 0 0] 31) := ⟨_, rfl⟩
          have kq : Below u3.heap.size u3 u4 := by rw [hy]; exact below_new _
          have joT_ : ∀ g_, (Value.slice (some ⟨gT, 0, none⟩) L0.length L0.length).ownBlock = some g_ → g_ ≠ u3.heap.size := fun g_ e => by have h1 := (oT_.lt g_ e).2; omega
          have jOH : ∀ g_, (Value.slice aH D.length cH).ownBlock = some g_ → g_ ≠ u3.heap.size := fun g_ e => by have h1 := (OH.lt g_ e).2; omega
          have jQH : ∀ g_, (Value.slice oH OO.length kH).ownBlock = some g_ → g_ ≠ u3.heap.size := fun g_ e => by have h1 := (QH.lt g_ e).2; omega
          have oT_ := oT_.later kq
          have OH := OH.later kq
          have QH := QH.later kq
          have FP : BBox u4 u3.heap.size 0 (.slice none 0 0) := by rw [hy]; exact BBox.new u3 _ _ _
          have pa : wd13.heap.size ≤ u3.heap.size := hb3.size
          have hb4 : Below wd13.heap.size wd13 u4 := hb3.trans (kq.mono hb3.size)
          rw [← hy]
          clear hy kq
          refine hK _ _ ⟨hb4, ?_⟩
          clear hK K hi
          refine wpAnyH_all (rs := [9]) (by kernel_rfl) (by simp) ?_
          intro i hi; obtain rfl : i = 9 := by simpa using hi
          refine wpOp_step rfl (fun K hK => ?_)
          rw [if_pos (by kernel_rfl)]
          have FQ := FP
          obtain ⟨⟨t0, t1⟩, tf⟩ := FP
          go_simp
          clear t0 t1 tf
          obtain ⟨uf, huf⟩ : ∃ y_, y_ = (u4.setCell ⟨u3.heap.size, 0, none⟩ (.int .i64 id0)).setCell ⟨u3.heap.size, 1, none⟩ (.slice aH D.length cH) := ⟨_, rfl⟩
          have FE : BBox uf (u3.heap.size) id0 (.slice aH D.length cH) := by rw [huf]; exact FQ.put _ _
          have hbf : Below wd13.heap.size wd13 uf := by rw [huf]; exact (hb4.setCell (p := ⟨u3.heap.size, 0, none⟩) pa _).setCell (p := ⟨u3.heap.size, 1, none⟩) pa _
          have oT_ := oT_.keep (w' := uf) (fun g_ e => by rw [huf, Below.heap_setCell _ _ _ _ (by show g_ ≠ u3.heap.size; exact joT_ g_ e), Below.heap_setCell _ _ _ _ (by show g_ ≠ u3.heap.size; exact joT_ g_ e)])
          have OH := OH.keep (w' := uf) (fun g_ e => by rw [huf, Below.heap_setCell _ _ _ _ (by show g_ ≠ u3.heap.size; exact jOH g_ e), Below.heap_setCell _ _ _ _ (by show g_ ≠ u3.heap.size; exact jOH g_ e)])
          have QH := QH.keep (w' := uf) (fun g_ e => by rw [huf, Below.heap_setCell _ _ _ _ (by show g_ ≠ u3.heap.size; exact jQH g_ e), Below.heap_setCell _ _ _ _ (by show g_ ≠ u3.heap.size; exact jQH g_ e)])
          rw [← huf]
          clear huf FQ
          refine hK _ _ ⟨hbf, ?_⟩
          clear hK K hi
          refine takeW 10 15 (.slice oH OO.length kH) rfl rfl (by kernel_rfl) (by kernel_rfl) (by kernel_rfl) (fun _ _ _ h => h) (by kernel_rfl) (by (intro w hSw; go_simp)) (by assumption) ?_
          simp only [List.set_cons_zero, List.set_cons_succ]
          refine wpAnyH_done (by kernel_rfl) ?_ _
          exact hT3.out _ _ ⟨u3.heap.size, aH, cH, oH, kH, [(.tuple #[.agg #[.int .i64 id0, .slice aH D.length cH], .slice oH OO.length kH]), (.agg #[.int .i64 id0, .slice ad0 L0.length cap0]), (.agg #[.int .i64 id0, .slice (some ⟨gT, 0, none⟩) L0.length L0.length]), (.agg #[.int .i64 x1.k, .int .i64 x1.q, .int .i64 x1.r, .int .i64 x1.c, .int .i64 x1.b, .int .i64 x1.p, .int .i64 x1.h, .bool x1.up]), (.agg #[.int .i64 x1.k, .int .i64 x1.q, .int .i64 x1.r, .int .i64 x1.c, .int .i64 x1.b, .int .i64 x1.p, .int .i64 x1.h, .bool x1.up]), (.tuple #[.agg #[.int .i64 id0, .slice aH D.length cH], .slice oH OO.length kH]), (.agg #[.int .i64 id0, .slice aH D.length cH]), (.slice oH OO.length kH)], rfl, by kernel_rfl, FE, OH.base bb, QH.base bb, jOH, jQH, dH, pa, hbf⟩
        · refine wpOp_step rfl (fun K hK => ?_)
          rw [if_pos (by kernel_rfl)]
          go_simp
          obtain ⟨u3, hy⟩ : ∃ y_, y_ = u2.alloc (Obj.cells #[.int .i64 0, .slice none 0 0] 31) := ⟨_, rfl⟩
          have kq : Below u2.heap.size u2 u3 := by rw [hy]; exact below_new _
          have joT_ : ∀ g_, (Value.slice (some ⟨gT, 0, none⟩) L0.length L0.length).ownBlock = some g_ → g_ ≠ u2.heap.size := fun g_ e => by have h1 := (oT_.lt g_ e).2; omega
          have oT_ := oT_.later kq
          have FP : BBox u3 u2.heap.size 0 (.slice none 0 0) := by rw [hy]; exact BBox.new u2 _ _ _
          have pa : wd13.heap.size ≤ u2.heap.size := hb2.size
          have hb3 : Below wd13.heap.size wd13 u3 := hb2.trans (kq.mono hb2.size)
          rw [← hy]
          clear hy kq
          refine hK _ _ ⟨hb3, ?_⟩
          clear hK K hi
          refine wpAnyH_all (rs := [4]) (by kernel_rfl) (by simp) ?_
          intro i hi; obtain rfl : i = 4 := by simpa using hi
          refine wpOp_step rfl (fun K hK => ?_)
          rw [if_pos (by kernel_rfl)]
          go_simp
          go_at_call 24
          refine (reactI id0 (some ⟨gT, 0, none⟩) L0.length L0 x1 u3 oT_.view.2 hl (fun e => by cases e)).mono ?_
          rintro e u4 ⟨aH, cH, oH, kH, rfl, OH, QH, dH, kq⟩
          have bb : wd13.heap.size ≤ u3.heap.size := hb3.size
          rw [hD.out] at OH dH ⊢
          rw [hOO.out] at QH dH ⊢
          have jOH : ∀ g_, (Value.slice aH D.length cH).ownBlock = some g_ → g_ ≠ u2.heap.size := fun g_ e => by have h1 := (OH.lt g_ e).1; have h2 := FP.lt; omega
          have jQH : ∀ g_, (Value.slice oH OO.length kH).ownBlock = some g_ → g_ ≠ u2.heap.size := fun g_ e => by have h1 := (QH.lt g_ e).1; have h2 := FP.lt; omega
          have oT_ := oT_.later kq
          have FP := FP.below kq FP.lt
          have hb4 : Below wd13.heap.size wd13 u4 := hb3.trans (kq.mono hb3.size)
          clear kq
          refine hK _ _ ⟨hb4, ?_⟩
          clear hK K hi
          refine takeW 5 89 (.tuple #[.agg #[.int .i64 id0, .slice aH D.length cH], .slice oH OO.length kH]) rfl rfl (by kernel_rfl) (by kernel_rfl) (by kernel_rfl) (fun _ _ _ h => h) (by kernel_rfl) (by (intro w hSw; go_simp)) (by assumption) ?_
          simp only [List.set_cons_zero, List.set_cons_succ]
          refine takeW 6 95 (.agg #[.int .i64 id0, .slice aH D.length cH]) rfl rfl (by kernel_rfl) (by kernel_rfl) (by kernel_rfl) (fun _ _ _ h => h) (by kernel_rfl) (by (intro w hSw; go_simp)) (by assumption) ?_
          simp only [List.set_cons_zero, List.set_cons_succ]
          refine takeW 7 96 (.slice oH OO.length kH) rfl rfl (by kernel_rfl) (by kernel_rfl) (by kernel_rfl) (fun _ _ _ h => h) (by kernel_rfl) (by (intro w hSw; go_simp)) (by assumption) ?_
          simp only [List.set_cons_zero, List.set_cons_succ]
          refine wpAnyH_all (rs := [9]) (by kernel_rfl) (by simp) ?_
          intro i hi; obtain rfl : i = 9 := by simpa using hi
          refine wpOp_step rfl (fun K hK => ?_)
          rw [if_pos (by kernel_rfl)]
          have FQ := FP
          obtain ⟨⟨t0, t1⟩, tf⟩ := FP
          go_simp
          clear t0 t1 tf
          obtain ⟨uf, huf⟩ : ∃ y_, y_ = (u4.setCell ⟨u2.heap.size, 0, none⟩ (.int .i64 id0)).setCell ⟨u2.heap.size, 1, none⟩ (.slice aH D.length cH) := ⟨_, rfl⟩
          have FE : BBox uf (u2.heap.size) id0 (.slice aH D.length cH) := by rw [huf]; exact FQ.put _ _
          have hbf : Below wd13.heap.size wd13 uf := by rw [huf]; exact (hb4.setCell (p := ⟨u2.heap.size, 0, none⟩) pa _).setCell (p := ⟨u2.heap.size, 1, none⟩) pa _
          have oT_ := oT_.keep (w' := uf) (fun g_ e => by rw [huf, Below.heap_setCell _ _ _ _ (by show g_ ≠ u2.heap.size; exact joT_ g_ e), Below.heap_setCell _ _ _ _ (by show g_ ≠ u2.heap.size; exact joT_ g_ e)])
          have OH := OH.keep (w' := uf) (fun g_ e => by rw [huf, Below.heap_setCell _ _ _ _ (by show g_ ≠ u2.heap.size; exact jOH g_ e), Below.heap_setCell _ _ _ _ (by show g_ ≠ u2.heap.size; exact jOH g_ e)])
          have QH := QH.keep (w' := uf) (fun g_ e => by rw [huf, Below.heap_setCell _ _ _ _ (by show g_ ≠ u2.heap.size; exact jQH g_ e), Below.heap_setCell _ _ _ _ (by show g_ ≠ u2.heap.size; exact jQH g_ e)])
          rw [← huf]
          clear huf FQ
          refine hK _ _ ⟨hbf, ?_⟩
          clear hK K hi
          refine takeW 10 15 (.slice oH OO.length kH) rfl rfl (by kernel_rfl) (by kernel_rfl) (by kernel_rfl) (fun _ _ _ h => h) (by kernel_rfl) (by (intro w hSw; go_simp)) (by assumption) ?_
          simp only [List.set_cons_zero, List.set_cons_succ]
          refine wpAnyH_done (by kernel_rfl) ?_ _
          exact hT3.out _ _ ⟨u2.heap.size, aH, cH, oH, kH, [(.tuple #[.agg #[.int .i64 id0, .slice aH D.length cH], .slice oH OO.length kH]), (.agg #[.int .i64 id0, .slice ad0 L0.length cap0]), (.agg #[.int .i64 id0, .slice (some ⟨gT, 0, none⟩) L0.length L0.length]), (.agg #[.int .i64 x1.k, .int .i64 x1.q, .int .i64 x1.r, .int .i64 x1.c, .int .i64 x1.b, .int .i64 x1.p, .int .i64 x1.h, .bool x1.up]), (.agg #[.int .i64 x1.k, .int .i64 x1.q, .int .i64 x1.r, .int .i64 x1.c, .int .i64 x1.b, .int .i64 x1.p, .int .i64 x1.h, .bool x1.up]), (.tuple #[.agg #[.int .i64 id0, .slice aH D.length cH], .slice oH OO.length kH]), (.agg #[.int .i64 id0, .slice aH D.length cH]), (.slice oH OO.length kH)], rfl, by kernel_rfl, FE, OH.base bb, QH.base bb, jOH, jQH, dH, pa, hbf⟩
      · refine wpOp_step rfl (fun K hK => ?_)
        rw [if_pos (by kernel_rfl)]
        go_simp
        obtain ⟨u2, hy⟩ : ∃ y_, y_ = u1.alloc (Obj.cells #[.int .i64 0, .slice none 0 0] 31) := ⟨_, rfl⟩
        have kq : Below u1.heap.size u1 u2 := by rw [hy]; exact below_new _
        have joT_ : ∀ g_, (Value.slice (some ⟨gT, 0, none⟩) L0.length L0.length).ownBlock = some g_ → g_ ≠ u1.heap.size := fun g_ e => by have h1 := (oT_.lt g_ e).2; omega
        have oT_ := oT_.later kq
        have FP : BBox u2 u1.heap.size 0 (.slice none 0 0) := by rw [hy]; exact BBox.new u1 _ _ _
        have pa : wd13.heap.size ≤ u1.heap.size := hb1.size
        have hb2 : Below wd13.heap.size wd13 u2 := hb1.trans (kq.mono hb1.size)
        rw [← hy]
        clear hy kq
        refine hK _ _ ⟨hb2, ?_⟩
        clear hK K hi
        refine wpAnyH_all (rs := [3]) (by kernel_rfl) (by simp) ?_
        intro i hi; obtain rfl : i = 3 := by simpa using hi
        refine wpOp_step rfl (fun K hK => ?_)
        rw [if_pos (by kernel_rfl)]
        go_simp
        go_at_call 21
        refine (toInI x1 u2).mono ?_
        rintro e u3 ⟨rfl, kq⟩
        have oT_ := oT_.later kq
        have FP := FP.below kq FP.lt
        have hb3 : Below wd13.heap.size wd13 u3 := hb2.trans (kq.mono hb2.size)
        clear kq
        refine hK _ _ ⟨hb3, ?_⟩
        clear hK K hi
        refine wpAnyH_all (rs := [4]) (by kernel_rfl) (by simp) ?_
        intro i hi; obtain rfl : i = 4 := by simpa using hi
        refine wpOp_step rfl (fun K hK => ?_)
        rw [if_pos (by kernel_rfl)]
        go_simp
        go_at_call 24
        refine (reactI id0 (some ⟨gT, 0, none⟩) L0.length L0 x1 u3 oT_.view.2 hl (fun e => by cases e)).mono ?_
        rintro e u4 ⟨aH, cH, oH, kH, rfl, OH, QH, dH, kq⟩
        have bb : wd13.heap.size ≤ u3.heap.size := hb3.size
        rw [hD.out] at OH dH ⊢
        rw [hOO.out] at QH dH ⊢
        have jOH : ∀ g_, (Value.slice aH D.length cH).ownBlock = some g_ → g_ ≠ u1.heap.size := fun g_ e => by have h1 := (OH.lt g_ e).1; have h2 := FP.lt; omega
        have jQH : ∀ g_, (Value.slice oH OO.length kH).ownBlock = some g_ → g_ ≠ u1.heap.size := fun g_ e => by have h1 := (QH.lt g_ e).1; have h2 := FP.lt; omega
        have oT_ := oT_.later kq
        have FP := FP.below kq FP.lt
        have hb4 : Below wd13.heap.size wd13 u4 := hb3.trans (kq.mono hb3.size)
        clear kq
        refine hK _ _ ⟨hb4, ?_⟩
        clear hK K hi
        refine takeW 5 89 (.tuple #[.agg #[.int .i64 id0, .slice aH D.length cH], .slice oH OO.length kH]) rfl rfl (by kernel_rfl) (by kernel_rfl) (by kernel_rfl) (fun _ _ _ h => h) (by kernel_rfl) (by (intro w hSw; go_simp)) (by assumption) ?_
        simp only [List.set_cons_zero, List.set_cons_succ]
        refine takeW 6 95 (.agg #[.int .i64 id0, .slice aH D.length cH]) rfl rfl (by kernel_rfl) (by kernel_rfl) (by kernel_rfl) (fun _ _ _ h => h) (by kernel_rfl) (by (intro w hSw; go_simp)) (by assumption) ?_
        simp only [List.set_cons_zero, List.set_cons_succ]
        refine takeW 7 96 (.slice oH OO.length kH) rfl rfl (by kernel_rfl) (by kernel_rfl) (by kernel_rfl) (fun _ _ _ h => h) (by kernel_rfl) (by (intro w hSw; go_simp)) (by assumption) ?_
        simp only [List.set_cons_zero, List.set_cons_succ]
        refine wpAnyH_all (rs := [9]) (by kernel_rfl) (by simp) ?_
        intro i hi; obtain rfl : i = 9 := by simpa using hi
        refine wpOp_step rfl (fun K hK => ?_)
        rw [if_pos (by kernel_rfl)]
        have FQ := FP
        obtain ⟨⟨t0, t1⟩, tf⟩ := FP
        go_simp
        clear t0 t1 tf
        obtain ⟨uf, huf⟩ : ∃ y_, y_ = (u4.setCell ⟨u1.heap.size, 0, none⟩ (.int .i64 id0)).setCell ⟨u1.heap.size, 1, none⟩ (.slice aH D.length cH) := ⟨_, rfl⟩
        have FE : BBox uf (u1.heap.size) id0 (.slice aH D.length cH) := by rw [huf]; exact FQ.put _ _
        have hbf : Below wd13.heap.size wd13 uf := by rw [huf]; exact (hb4.setCell (p := ⟨u1.heap.size, 0, none⟩) pa _).setCell (p := ⟨u1.heap.size, 1, none⟩) pa _
        have oT_ := oT_.keep (w' := uf) (fun g_ e => by rw [huf, Below.heap_setCell _ _ _ _ (by show g_ ≠ u1.heap.size; exact joT_ g_ e), Below.heap_setCell _ _ _ _ (by show g_ ≠ u1.heap.size; exact joT_ g_ e)])
        have OH := OH.keep (w' := uf) (fun g_ e => by rw [huf, Below.heap_setCell _ _ _ _ (by show g_ ≠ u1.heap.size; exact jOH g_ e), Below.heap_setCell _ _ _ _ (by show g_ ≠ u1.heap.size; exact jOH g_ e)])
        have QH := QH.keep (w' := uf) (fun g_ e => by rw [huf, Below.heap_setCell _ _ _ _ (by show g_ ≠ u1.heap.size; exact jQH g_ e), Below.heap_setCell _ _ _ _ (by show g_ ≠ u1.heap.size; exact jQH g_ e)])
        rw [← huf]
        clear huf FQ
        refine hK _ _ ⟨hbf, ?_⟩
        clear hK K hi
        refine takeW 10 15 (.slice oH OO.length kH) rfl rfl (by kernel_rfl) (by kernel_rfl) (by kernel_rfl) (fun _ _ _ h => h) (by kernel_rfl) (by (intro w hSw; go_simp)) (by assumption) ?_
        simp only [List.set_cons_zero, List.set_cons_succ]
        refine wpAnyH_done (by kernel_rfl) ?_ _
        exact hT3.out _ _ ⟨u1.heap.size, aH, cH, oH, kH, [(.tuple #[.agg #[.int .i64 id0, .slice aH D.length cH], .slice oH OO.length kH]), (.agg #[.int .i64 id0, .slice ad0 L0.length cap0]), (.agg #[.int .i64 id0, .slice (some ⟨gT, 0, none⟩) L0.length L0.length]), (.agg #[.int .i64 x1.k, .int .i64 x1.q, .int .i64 x1.r, .int .i64 x1.c, .int .i64 x1.b, .int .i64 x1.p, .int .i64 x1.h, .bool x1.up]), (.agg #[.int .i64 x1.k, .int .i64 x1.q, .int .i64 x1.r, .int .i64 x1.c, .int .i64 x1.b, .int .i64 x1.p, .int .i64 x1.h, .bool x1.up]), (.tuple #[.agg #[.int .i64 id0, .slice aH D.length cH], .slice oH OO.length kH]), (.agg #[.int .i64 id0, .slice aH D.length cH]), (.slice oH OO.length kH)], rfl, by kernel_rfl, FE, OH.base bb, QH.base bb, jOH, jQH, dH, pa, hbf⟩
    · refine wpOp_step rfl (fun K hK => ?_)
      rw [if_pos (by kernel_rfl)]
      go_simp
      obtain ⟨u1, hy⟩ : ∃ y_, y_ = u0.alloc (Obj.cells #[.int .i64 0, .slice none 0 0] 31) := ⟨_, rfl⟩
      have kq : Below u0.heap.size u0 u1 := by rw [hy]; exact below_new _
      have FP : BBox u1 u0.heap.size 0 (.slice none 0 0) := by rw [hy]; exact BBox.new u0 _ _ _
      have pa : wd13.heap.size ≤ u0.heap.size := hb0.size
      have hb1 : Below wd13.heap.size wd13 u1 := hb0.trans (kq.mono hb0.size)
      rw [← hy]
      clear hy kq
      refine hK _ _ ⟨hb1, ?_⟩
      clear hK K hi
      refine wpAnyH_all (rs := [1]) (by kernel_rfl) (by simp) ?_
      intro i hi; obtain rfl : i = 1 := by simpa using hi
      refine wpOp_step rfl (fun K hK => ?_)
      rw [if_pos (by kernel_rfl)]
      go_simp
      go_at_call 10
      refine (brTo id0 ad0 cap0 L0 u1 (V0.below hb1 (V0.lt ptEnc_len (by omega))) hl).mono ?_
      rintro e u2 ⟨gT, rfl, _, _, oT_, kq⟩
      have joT_ : ∀ g_, (Value.slice (some ⟨gT, 0, none⟩) L0.length L0.length).ownBlock = some g_ → g_ ≠ u0.heap.size := fun g_ e => by have h1 := (oT_.lt g_ e).1; have h2 := FP.lt; omega
      have FP := FP.below kq FP.lt
      have hb2 : Below wd13.heap.size wd13 u2 := hb1.trans (kq.mono hb1.size)
      clear kq
      refine hK _ _ ⟨hb2, ?_⟩
      clear hK K hi
      refine wpAnyH_all (rs := [3]) (by kernel_rfl) (by simp) ?_
      intro i hi; obtain rfl : i = 3 := by simpa using hi
      refine wpOp_step rfl (fun K hK => ?_)
      rw [if_pos (by kernel_rfl)]
      go_simp
      go_at_call 21
      refine (toInI x1 u2).mono ?_
      rintro e u3 ⟨rfl, kq⟩
      have oT_ := oT_.later kq
      have FP := FP.below kq FP.lt
      have hb3 : Below wd13.heap.size wd13 u3 := hb2.trans (kq.mono hb2.size)
      clear kq
      refine hK _ _ ⟨hb3, ?_⟩
      clear hK K hi
      refine wpAnyH_all (rs := [4]) (by kernel_rfl) (by simp) ?_
      intro i hi; obtain rfl : i = 4 := by simpa using hi
      refine wpOp_step rfl (fun K hK => ?_)
      rw [if_pos (by kernel_rfl)]
      go_simp
      go_at_call 24
      refine (reactI id0 (some ⟨gT, 0, none⟩) L0.length L0 x1 u3 oT_.view.2 hl (fun e => by cases e)).mono ?_
      rintro e u4 ⟨aH, cH, oH, kH, rfl, OH, QH, dH, kq⟩
      have bb : wd13.heap.size ≤ u3.heap.size := hb3.size
      rw [hD.out] at OH dH ⊢
      rw [hOO.out] at QH dH ⊢
      have jOH : ∀ g_, (Value.slice aH D.length cH).ownBlock = some g_ → g_ ≠ u0.heap.size := fun g_ e => by have h1 := (OH.lt g_ e).1; have h2 := FP.lt; omega
      have jQH : ∀ g_, (Value.slice oH OO.length kH).ownBlock = some g_ → g_ ≠ u0.heap.size := fun g_ e => by have h1 := (QH.lt g_ e).1; have h2 := FP.lt; omega
      have oT_ := oT_.later kq
      have FP := FP.below kq FP.lt
      have hb4 : Below wd13.heap.size wd13 u4 := hb3.trans (kq.mono hb3.size)
      clear kq
      refine hK _ _ ⟨hb4, ?_⟩
      clear hK K hi
      refine takeW 5 89 (.tuple #[.agg #[.int .i64 id0, .slice aH D.length cH], .slice oH OO.length kH]) rfl rfl (by kernel_rfl) (by kernel_rfl) (by kernel_rfl) (fun _ _ _ h => h) (by kernel_rfl) (by (intro w hSw; go_simp)) (by assumption) ?_
      simp only [List.set_cons_zero, List.set_cons_succ]
      refine takeW 6 95 (.agg #[.int .i64 id0, .slice aH D.length cH]) rfl rfl (by kernel_rfl) (by kernel_rfl) (by kernel_rfl) (fun _ _ _ h => h) (by kernel_rfl) (by (intro w hSw; go_simp)) (by assumption) ?_
      simp only [List.set_cons_zero, List.set_cons_succ]
      refine takeW 7 96 (.slice oH OO.length kH) rfl rfl (by kernel_rfl) (by kernel_rfl) (by kernel_rfl) (fun _ _ _ h => h) (by kernel_rfl) (by (intro w hSw; go_simp)) (by assumption) ?_
      simp only [List.set_cons_zero, List.set_cons_succ]
      refine wpAnyH_all (rs := [9]) (by kernel_rfl) (by simp) ?_
      intro i hi; obtain rfl : i = 9 := by simpa using hi
      refine wpOp_step rfl (fun K hK => ?_)
      rw [if_pos (by kernel_rfl)]
      have FQ := FP
      obtain ⟨⟨t0, t1⟩, tf⟩ := FP
      go_simp
      clear t0 t1 tf
      obtain ⟨uf, huf⟩ : ∃ y_, y_ = (u4.setCell ⟨u0.heap.size, 0, none⟩ (.int .i64 id0)).setCell ⟨u0.heap.size, 1, none⟩ (.slice aH D.length cH) := ⟨_, rfl⟩
      have FE : BBox uf (u0.heap.size) id0 (.slice aH D.length cH) := by rw [huf]; exact FQ.put _ _
      have hbf : Below wd13.heap.size wd13 uf := by rw [huf]; exact (hb4.setCell (p := ⟨u0.heap.size, 0, none⟩) pa _).setCell (p := ⟨u0.heap.size, 1, none⟩) pa _
      have oT_ := oT_.keep (w' := uf) (fun g_ e => by rw [huf, Below.heap_setCell _ _ _ _ (by show g_ ≠ u0.heap.size; exact joT_ g_ e), Below.heap_setCell _ _ _ _ (by show g_ ≠ u0.heap.size; exact joT_ g_ e)])
      have OH := OH.keep (w' := uf) (fun g_ e => by rw [huf, Below.heap_setCell _ _ _ _ (by show g_ ≠ u0.heap.size; exact jOH g_ e), Below.heap_setCell _ _ _ _ (by show g_ ≠ u0.heap.size; exact jOH g_ e)])
      have QH := QH.keep (w' := uf) (fun g_ e => by rw [huf, Below.heap_setCell _ _ _ _ (by show g_ ≠ u0.heap.size; exact jQH g_ e), Below.heap_setCell _ _ _ _ (by show g_ ≠ u0.heap.size; exact jQH g_ e)])
      rw [← huf]
      clear huf FQ
      refine hK _ _ ⟨hbf, ?_⟩
      clear hK K hi
      refine takeW 10 15 (.slice oH OO.length kH) rfl rfl (by kernel_rfl) (by kernel_rfl) (by kernel_rfl) (fun _ _ _ h => h) (by kernel_rfl) (by (intro w hSw; go_simp)) (by assumption) ?_
      simp only [List.set_cons_zero, List.set_cons_succ]
      refine wpAnyH_done (by kernel_rfl) ?_ _
      exact hT3.out _ _ ⟨u0.heap.size, aH, cH, oH, kH, [(.tuple #[.agg #[.int .i64 id0, .slice aH D.length cH], .slice oH OO.length kH]), (.agg #[.int .i64 id0, .slice ad0 L0.length cap0]), (.agg #[.int .i64 id0, .slice (some ⟨gT, 0, none⟩) L0.length L0.length]), (.agg #[.int .i64 x1.k, .int .i64 x1.q, .int .i64 x1.r, .int .i64 x1.c, .int .i64 x1.b, .int .i64 x1.p, .int .i64 x1.h, .bool x1.up]), (.agg #[.int .i64 x1.k, .int .i64 x1.q, .int .i64 x1.r, .int .i64 x1.c, .int .i64 x1.b, .int .i64 x1.p, .int .i64 x1.h, .bool x1.up]), (.tuple #[.agg #[.int .i64 id0, .slice aH D.length cH], .slice oH OO.length kH]), (.agg #[.int .i64 id0, .slice aH D.length cH]), (.slice oH OO.length kH)], rfl, by kernel_rfl, FE, OH.base bb, QH.base bb, jOH, jQH, dH, pa, hbf⟩
  rintro l' wd14 ⟨PH, aH, cH, oH, kH, us, hul, rfl, FEH, OH, QH, jOH, jQH, dH, pH, kq⟩
  obtain ⟨u89, us, rfl⟩ : ∃ a b, us = a :: b := List.exists_cons_of_length_eq_add_one hul
  replace hul := Nat.succ.inj hul
  obtain ⟨u90, us, rfl⟩ : ∃ a b, us = a :: b := List.exists_cons_of_length_eq_add_one hul
  replace hul := Nat.succ.inj hul
  obtain ⟨u91, us, rfl⟩ : ∃ a b, us = a :: b := List.exists_cons_of_length_eq_add_one hul
  replace hul := Nat.succ.inj hul
  obtain ⟨u92, us, rfl⟩ : ∃ a b, us = a :: b := List.exists_cons_of_length_eq_add_one hul
  replace hul := Nat.succ.inj hul
  obtain ⟨u93, us, rfl⟩ : ∃ a b, us = a :: b := List.exists_cons_of_length_eq_add_one hul
  replace hul := Nat.succ.inj hul
  obtain ⟨u94, us, rfl⟩ : ∃ a b, us = a :: b := List.exists_cons_of_length_eq_add_one hul
  replace hul := Nat.succ.inj hul
  obtain ⟨u95, us, rfl⟩ : ∃ a b, us = a :: b := List.exists_cons_of_length_eq_add_one hul
  replace hul := Nat.succ.inj hul
  obtain ⟨u96, us, rfl⟩ : ∃ a b, us = a :: b := List.exists_cons_of_length_eq_add_one hul
  replace hul := Nat.succ.inj hul
  obtain rfl : us = [] := List.eq_nil_of_length_eq_zero hul
  clear hul
  simp only [List.take, List.drop, List.cons_append, List.nil_append]
  have AH := FEH.at_
  clear FEH
  have lH := AH.lt
  have eH : ∀ g_, (Value.slice aH D.length cH).ownBlock = some g_ → (Value.slice oH OO.length kH).ownBlock ≠ some g_ := fun g_ e e2 => dH g_ e2 e
  have swd14 := kq.size
  have A0 := A0.below kq A0.lt
  have V0 := V0.below kq (V0.lt ptEnc_len (by omega))
  have AW := AW.below kq AW.lt
  have OW := OW.later kq
  have QW := QW.later kq
  have AX := AX.below kq AX.lt
  have AG := AG.below kq AG.lt
  have OG := OG.later kq
  have QG := QG.later kq
  have N1 := N1.below kq N1.lt
  have BW := BW.trans (kq.mono BW.size)
  clear kq
  have iOH : ∀ g, (Value.slice aH D.length cH).ownBlock = some g → wd13.heap.size ≤ g ∧ g < wd14.heap.size := fun g e => OH.lt g e
  have iQH : ∀ g, (Value.slice oH OO.length kH).ownBlock = some g → wd13.heap.size ≤ g ∧ g < wd14.heap.size := fun g e => QH.lt g e
  have cc := AH
  obtain ⟨m0_0, m0_1⟩ := cc
  have cc := AW
  obtain ⟨m1_0, m1_1⟩ := cc
  go_wp2_with fail
  go_at_call 13
  clear m0_0 m0_1 m1_0 m1_1
  refine (brEq id0 aH aW cH cW D wd14 OH.view.2 OW.view.2 hDl).mono ?_
  rintro e wd15 ⟨rfl, kq⟩
  have swd15 := kq.size
  have A0 := A0.below kq A0.lt
  have V0 := V0.below kq (V0.lt ptEnc_len (by omega))
  have AW := AW.below kq AW.lt
  have OW := OW.later kq
  have QW := QW.later kq
  have AX := AX.below kq AX.lt
  have AG := AG.below kq AG.lt
  have OG := OG.later kq
  have QG := QG.later kq
  have AH := AH.below kq AH.lt
  have OH := OH.later kq
  have QH := QH.later kq
  have N1 := N1.below kq N1.lt
  have BW := BW.trans (kq.mono BW.size)
  clear kq
  go_wp2_with fail
  go_at_call 25
  refine (ouEqS oH oW kH kW OO wd15 QH.view.2 QW.view.2 hOl).mono ?_
  rintro e wd16 ⟨rfl, kq⟩
  have swd16 := kq.size
  have A0 := A0.below kq A0.lt
  have V0 := V0.below kq (V0.lt ptEnc_len (by omega))
  have AW := AW.below kq AW.lt
  have OW := OW.later kq
  have QW := QW.later kq
  have AX := AX.below kq AX.lt
  have AG := AG.below kq AG.lt
  have OG := OG.later kq
  have QG := QG.later kq
  have AH := AH.below kq AH.lt
  have OH := OH.later kq
  have QH := QH.later kq
  have N1 := N1.below kq N1.lt
  have BW := BW.trans (kq.mono BW.size)
  clear kq
  have cc := AG
  obtain ⟨m0_0, m0_1⟩ := cc
  go_wp2_with fail
  go_at_call 19
  clear m0_0 m0_1
  refine (brHeld id0 aG D.length cG 1 wd16 (by have := OG.view.2; exact this) hDl (by decide) (by decide)).mono ?_
  rintro e wd17 ⟨rfl, kq⟩
  have swd17 := kq.size
  have A0 := A0.below kq A0.lt
  have V0 := V0.below kq (V0.lt ptEnc_len (by omega))
  have AW := AW.below kq AW.lt
  have OW := OW.later kq
  have QW := QW.later kq
  have AX := AX.below kq AX.lt
  have AG := AG.below kq AG.lt
  have OG := OG.later kq
  have QG := QG.later kq
  have AH := AH.below kq AH.lt
  have OH := OH.later kq
  have QH := QH.later kq
  have N1 := N1.below kq N1.lt
  have BW := BW.trans (kq.mono BW.size)
  clear kq
  rw [← hm.out]
  go_wp2_with fail
  go_at_call 27
  refine (ouHeld oG OO.length kG m wd17 (by have := QG.view.2; exact this) hOl m0 m1).mono ?_
  rintro e wd18 ⟨rfl, hw_⟩
  have kq : Below wd17.heap.size wd17 wd18 := by rw [hw_]; exact Below.refl _ _
  clear hw_
  have swd18 := kq.size
  have A0 := A0.below kq A0.lt
  have V0 := V0.below kq (V0.lt ptEnc_len (by omega))
  have AW := AW.below kq AW.lt
  have OW := OW.later kq
  have QW := QW.later kq
  have AX := AX.below kq AX.lt
  have AG := AG.below kq AG.lt
  have OG := OG.later kq
  have QG := QG.later kq
  have AH := AH.below kq AH.lt
  have OH := OH.later kq
  have QH := QH.later kq
  have N1 := N1.below kq N1.lt
  have BW := BW.trans (kq.mono BW.size)
  clear kq
  rw [← hm2.out]
  go_wp2
  go_ret
  exact ⟨rfl, BW⟩


set_option maxRecDepth 100000 in
theorem lifted (os : Os) (started : os.Started) (H : Type) (enc : TypeId × Value → H) :
    ReturnsInHanded {} Try.checked os 7 .any (Rows.fnExactReactSpec.pre6 enc Try.prog Try.f7 Rows.fnExactReactRow.domain false) (Rows.fnExactReactSpec.post enc Try.prog Try.f7 false true false false) := by
  refine returnsInHanded_of_change (C := Try.checked) own started (by kernel_rfl) Try.func7
    (ChangeSpec.witness6 (enc := enc) (C := Try.checked) false ⟨#[], #[.agg #[.int .i64 0, .slice none 0 0], .agg #[.int .i64 0, .int .i64 0, .int .i64 0, .int .i64 0, .int .i64 0, .int .i64 0, .int .i64 0, .bool false]], []⟩ 8 (by kernel_rfl) (by kernel_rfl) (by kernel_rfl) (by kernel_rfl)) ?_
  intro W base args ds gs before hval0 hW hcnd _
  have hval : ∀ (j : Nat) t v, Try.f7.params[j]? = some t → args[j]? = some v → Value.okWide Try.prog W .any base t v := hval0
  have hW' := hW
  obtain ⟨p, q, hA0, hV, rfl, hfz, hnd⟩ := hW
  have hA : DataW.TrodAll enc Try.prog W 0 (fun _ => true) true Try.f7.params.toList args.toList ds p := hA0
  rw [Try.params7] at hA hval
  obtain ⟨v0, vs0, d0, ds0, p0, q0, hargs, rfl, rfl, h0, r0⟩ := trodAll_cons hA
  obtain ⟨v1, vs1, d1, ds1, p1, q1, rfl, rfl, rfl, h1, r1⟩ := trodAll_cons r0
  obtain ⟨rfl, rfl, rfl⟩ := trodAll_nil r1
  obtain rfl : args = #[v0, v1] := by cases args; simp_all
  obtain ⟨rfl, rfl⟩ := trodVars_none hV
  obtain ⟨id0, ad0, cap0, L0, rfl, I0⟩ := brIn_open (hval 0 24 v0 rfl rfl) h0
  have lt0 : ∀ x ∈ p0, x.block < W.heap.size := by obtain ⟨m, hm⟩ := h0; exact DataW.trod_lt m _ _ _ hm
  obtain ⟨x1, rfl, I1⟩ := inIn_open (hval 1 42 v1 rfl rfl) h1
  have lt1 : ∀ x ∈ p1, x.block < W.heap.size := by obtain ⟨m, hm⟩ := h1; exact DataW.trod_lt m _ _ _ hm
  clear hA0 hval0
  refine (walk id0 ad0 cap0 L0 x1 W I0 I1).mono fun e W' ⟨he, bel⟩ => ?_
  subst he
  exact ⟨_, rfl, _, _, _, [], _, [], hW', trodAll_mk1 (shut_bool Try.underlying4 _), (trodAll_cons_mk (Below.trod laidOut (by kernel_rfl) (of_decide_eq_true (by kernel_rfl)) h0 bel lt0) (trodAll_cons_mk (Below.trod laidOut (by kernel_rfl) (of_decide_eq_true (by kernel_rfl)) h1 bel lt1) trodAll_mk0)), rfl, bel.frame _, fun h => by cases h⟩

theorem over : Rows.fnExactReactRow.holds Try.pinned (OpenSpec.ofChange Rows.fnExactReactSpec) :=
  OpenClaim.holds_of_wide 7 Try.f7 rfl rfl rfl rfl rfl rfl rfl ⟨rfl, rfl, rfl, rfl, rfl⟩ rfl rfl rfl rfl rfl (by kernel_rfl) Try.func7 (by kernel_rfl)
    (of_decide_eq_true (by kernel_rfl)) (by unfold Func.isWrapper; first | (rw [if_pos (by decide +kernel)]; kernel_rfl) | (rw [if_neg (by decide +kernel)]; exact ⟨rfl, rfl⟩))
    (fun os started H enc _ => lifted os started H enc)

theorem proved : Rows.FnExactReactSaid := over
end Go.Proofs.Ytbffdkjgadhdoab.fnExactReact
namespace Go.Proofs.Ytbffdkjgadhdoab
theorem react_holds : Rows.FnExactReactSaid := fnExactReact.proved
#print axioms react_holds
end Go.Proofs.Ytbffdkjgadhdoab
