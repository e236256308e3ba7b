/- FnExactNote, proved: at every minder and everything that comes in the program's Note answers as the specification's, its answer owns its memory, and no argument is written into; no condition. -/
import Derived.Test.YtghmmcenjdbfgabRows
import Derived.Test.YtghmmcenjdbfgabMg10
import Derived.Test.YtghmmcenjdbfgabMi2
import Derived.Test.YtghmmcenjdbfgabMi3
import Derived.Test.YtghmmcenjdbfgabIn4
import Derived.Test.YtghmmcenjdbfgabTakes
import Derived.Deep.Cut
import Derived.WalkKit
import Derived.Below
import Derived.ChangeOld
import Derived.WalkSmall
import Derived.ProofKit
import Derived.OpenShut
import Derived.ShutString
import Derived.BigQuiet
namespace Go.Proofs.Ytghmmcenjdbfgab.fnExactNote
open Go.ChangeShapes Go.WideShapes Go.ChangeAt Go.RowKit
set_option linter.unusedVariables false

theorem own : ownKnob Try.prog.godebug = none := by kernel_rfl
theorem laidOut : laidOutB Try.prog = true := by kernel_rfl

theorem join_regionD {P : Program} {reg : Code} {K : Act → World → Prop} {Q : Exit → Act → World → Prop} {l : List Value} {ds : List Deferred} {W : World} (R : List Value → List Value → World → Prop) (h1 : ∀ l' W', R l l' W' → K ⟨l'.toArray, ds⟩ W') (h2 : ∀ K2 : Act → World → Prop, Hid (∀ l' W', R l l' W' → K2 ⟨l'.toArray, ds⟩ W') → Code.wp P reg (Exit.then K2 Q) ⟨l.toArray, ds⟩ W) : Code.wp P reg (Exit.then K Q) ⟨l.toArray, ds⟩ W := h2 K h1
set_option maxHeartbeats 16000000 in
set_option maxRecDepth 100000 in
theorem walk (m0 : Mi) (ad0 : Option Addr) (cap0 : Nat) (x1 : Ik) (w : World) (I0 : MiIn w ad0 cap0 m0) (I1 : True) :
    Calls Try.prog 4 #[.agg #[.bool m0.up, .int .i64 m0.li, .int .i64 m0.ep, .slice ad0 m0.lg.length cap0, .int .i64 m0.sd, .int .i64 m0.ac, .int .i64 m0.al], .agg #[.int .i64 x1.k, .int .i64 x1.q, .int .i64 x1.r, .int .i64 x1.c, .int .i64 x1.b, .int .i64 x1.p, .int .i64 x1.h, .bool x1.up]] w fun e w' => e = .returned (.bool true) ∧ Below w.heap.size w w' := by
  clear I1
  obtain ⟨hlm, V0, hn0⟩ := I0
  obtain ⟨y0, hx⟩ : ∃ y_, y_ = (w.alloc (Obj.cells #[.bool m0.up, .int .i64 m0.li, .int .i64 m0.ep, .slice ad0 m0.lg.length cap0, .int .i64 m0.sd, .int .i64 m0.ac, .int .i64 m0.al] 39)).alloc (Obj.cells #[.int .i64 x1.k, .int .i64 x1.q, .int .i64 x1.r, .int .i64 x1.c, .int .i64 x1.b, .int .i64 x1.p, .int .i64 x1.h, .bool x1.up] 43) := ⟨_, rfl⟩
  have A0 : MiAt y0 w.heap.size m0 (.slice ad0 m0.lg.length cap0) := by rw [hx]; constructor <;> simp [go_sem]
  have N1 : InAt y0 (w.heap.size + 1) x1 := by rw [hx]; constructor <;> simp [go_sem]
  have BW : Below w.heap.size w y0 := by rw [hx]; exact ((Below.refl _ _).alloc (Nat.le_refl _) _).alloc (by simp) _
  have lx0 := N1.lt
  have vb : ∀ a, ad0 = some a → 0 < m0.lg.length → a.block < w.heap.size := V0.lt ikEnc_len (by omega)
  have V0 := V0.below BW vb
  go_enter Try.func4, Try.ntmps4
  go_wp2_with fail
  go_at_call 15
  rw [← hx]
  clear hx
  refine (miSz m0 ad0 cap0 1048576 y0 (by decide) (by decide) hlm).mono ?_
  rintro e y1 ⟨rfl, kq⟩
  have sy1 := kq.size
  have A0 := A0.below kq A0.lt
  have V0 := V0.below kq (V0.lt ikEnc_len (by omega))
  have N1 := N1.below kq N1.lt
  have BW := BW.trans (kq.mono BW.size)
  clear kq
  by_cases hl : m0.lg.length ≤ 1048576
  rotate_left
  · rw [if_neg (by omega)]
    go_wp2
    go_ret
    exact ⟨rfl, BW⟩
  rw [if_pos (by omega)]
  have hlf : 0 ≤ 1048576 - (m0.lg.length : Int) := by omega
  generalize 1048576 - (m0.lg.length : Int) = lf at hlf ⊢
  obtain ⟨D, hD⟩ : ∃ D, noteR m0 x1 = D := ⟨_, rfl⟩
  have hDl : D.lg.length ≤ 1048576 := by rw [← hD]; exact noteR_len hl
  obtain ⟨nb, hnb⟩ : ∃ b, noteB m0 x1 = b := ⟨_, rfl⟩
  replace hD : Hid _ := hD
  replace hnb : Hid _ := hnb
  go_upto_region 5 with fail
  refine join_regionD (fun l l' W' => ∃ (P : Nat) (aW : Option Addr) (cW : Nat) (us : List Value), us.length = 8 ∧ l' = l.take 6 ++ (.pointer (some ⟨P, 0, none⟩) :: (.bool nb) :: (l.drop 8).take 13) ++ us ++ l.drop 29 ∧ MiBox W' P D (.slice aW D.lg.length cW) ∧ FOwn ikEnc 8 53 y1.heap.size W' (.slice aW D.lg.length cW) D.lg ∧ (∀ g_, (Value.slice aW D.lg.length cW).ownBlock = some g_ → g_ ≠ P) ∧ y1.heap.size ≤ P ∧ Below y1.heap.size y1 W') ?_ ?_
  rotate_left
  · intro K2 hT3
    refine wp_region_held (S := fun Y => Below y1.heap.size y1 Y) (by kernel_rfl) ?_
    change wpAnyH _ _ _ _ _ _ _ _ (World.drew _)
    have hb0 : Below y1.heap.size y1 y1.drew := (Below.refl _ _).drew
    obtain ⟨u0, hy0⟩ : ∃ y_, y_ = y1.drew := ⟨_, rfl⟩
    rw [← hy0] at hb0 ⊢
    clear hy0
    refine takeW 0 22 (.agg #[.bool m0.up, .int .i64 m0.li, .int .i64 m0.ep, .slice ad0 m0.lg.length cap0, .int .i64 m0.sd, .int .i64 m0.ac, .int .i64 m0.al]) rfl rfl (by kernel_rfl) (by kernel_rfl) (by kernel_rfl) (fun _ _ _ h => h) (by kernel_rfl) (by (intro Y hSw; obtain ⟨X0_, X1_, X2_, X3_, X4_, X5_, X6_⟩ := A0.below hSw A0.lt; go_simp)) (by assumption) ?_
    simp only [List.set_cons_zero, List.set_cons_succ]
    refine takeW 2 24 (.agg #[.int .i64 x1.k, .int .i64 x1.q, .int .i64 x1.r, .int .i64 x1.c, .int .i64 x1.b, .int .i64 x1.p, .int .i64 x1.h, .bool x1.up]) rfl rfl (by kernel_rfl) (by kernel_rfl) (by kernel_rfl) (fun _ _ _ h => h) (by kernel_rfl) (by (intro Y hSw; obtain ⟨Z0, Z1, Z2, Z3, Z4, Z5, Z6, Z7⟩ := N1.below hSw N1.lt; go_simp)) (by assumption) ?_
    simp only [List.set_cons_zero, List.set_cons_succ]
    refine wpAnyH_all (rs := [1, 8]) (by kernel_rfl) (by simp) ?_
    intro i hi; rcases (by simpa using hi : i = 1 ∨ i = 8) with rfl | rfl
    · refine wpOp_step rfl (fun K hK => ?_)
      rw [if_pos (by kernel_rfl)]
      go_simp
      go_at_call 17
      refine (miTo m0 ad0 cap0 u0 (V0.below hb0 (V0.lt ikEnc_len (by omega))) hl).mono ?_
      rintro e u1 ⟨gT, rfl, _, _, oT_, kq⟩
      have hb1 : Below y1.heap.size y1 u1 := hb0.trans (kq.mono hb0.size)
      clear kq
      refine hK _ _ ⟨hb1, ?_⟩
      clear hK K hi
      refine wpAnyH_all (rs := [3, 8]) (by kernel_rfl) (by simp) ?_
      intro i hi; rcases (by simpa using hi : i = 3 ∨ i = 8) with rfl | rfl
      · refine wpOp_step rfl (fun K hK => ?_)
        rw [if_pos (by kernel_rfl)]
        go_simp
        go_at_call 18
        refine (toInI x1 u1).mono ?_
        rintro e u2 ⟨rfl, kq⟩
        have oT_ := oT_.later kq
        have hb2 : Below y1.heap.size y1 u2 := hb1.trans (kq.mono hb1.size)
        clear kq
        refine hK _ _ ⟨hb2, ?_⟩
        clear hK K hi
        refine wpAnyH_all (rs := [4, 8]) (by kernel_rfl) (by simp) ?_
        intro i hi; rcases (by simpa using hi : i = 4 ∨ i = 8) with rfl | rfl
        · refine wpOp_step rfl (fun K hK => ?_)
          rw [if_pos (by kernel_rfl)]
          go_simp
          go_at_call 16
          refine (noteS m0 x1 (some ⟨gT, 0, none⟩) m0.lg.length u2 oT_.view.2 hl (fun e => by cases e)).mono ?_
          rintro e u3 ⟨aW, cW, rfl, OW, kq⟩
          have bb : y1.heap.size ≤ u2.heap.size := hb2.size
          rw [hD.out] at OW ⊢
          rw [hnb.out]
          have oT_ := oT_.later kq
          have hb3 : Below y1.heap.size y1 u3 := hb2.trans (kq.mono hb2.size)
          clear kq
          refine hK _ _ ⟨hb3, ?_⟩
          clear hK K hi
          refine takeW 5 21 (.tuple #[.agg #[.bool D.up, .int .i64 D.li, .int .i64 D.ep, .slice aW D.lg.length cW, .int .i64 D.sd, .int .i64 D.ac, .int .i64 D.al], .bool nb]) rfl rfl (by kernel_rfl) (by kernel_rfl) (by kernel_rfl) (fun _ _ _ h => h) (by kernel_rfl) (by (intro w hSw; go_simp)) (by assumption) ?_
          simp only [List.set_cons_zero, List.set_cons_succ]
          refine takeW 6 27 (.agg #[.bool D.up, .int .i64 D.li, .int .i64 D.ep, .slice aW D.lg.length cW, .int .i64 D.sd, .int .i64 D.ac, .int .i64 D.al]) rfl rfl (by kernel_rfl) (by kernel_rfl) (by kernel_rfl) (fun _ _ _ h => h) (by kernel_rfl) (by (intro w hSw; go_simp)) (by assumption) ?_
          simp only [List.set_cons_zero, List.set_cons_succ]
          refine takeW 7 28 (.bool nb) rfl rfl (by kernel_rfl) (by kernel_rfl) (by kernel_rfl) (fun _ _ _ h => h) (by kernel_rfl) (by (intro w hSw; go_simp)) (by assumption) ?_
          simp only [List.set_cons_zero, List.set_cons_succ]
          refine wpAnyH_all (rs := [8]) (by kernel_rfl) (by simp) ?_
          intro i hi; obtain rfl : i = 8 := by simpa using hi
          refine wpOp_step rfl (fun K hK => ?_)
          rw [if_pos (by kernel_rfl)]
          go_simp
          obtain ⟨u4, hy⟩ : ∃ y_, y_ = u3.alloc (Obj.cells #[.bool false, .int .i64 0, .int .i64 0, .slice none 0 0, .int .i64 0, .int .i64 0, .int .i64 0] 47) := ⟨_, rfl⟩
          have kq : Below u3.heap.size u3 u4 := by rw [hy]; exact below_new _
          have joT_ : ∀ g_, (Value.slice (some ⟨gT, 0, none⟩) m0.lg.length m0.lg.length).ownBlock = some g_ → g_ ≠ u3.heap.size := fun g_ e => by have h1 := (oT_.lt g_ e).2; omega
          have jOW : ∀ g_, (Value.slice aW D.lg.length cW).ownBlock = some g_ → g_ ≠ u3.heap.size := fun g_ e => by have h1 := (OW.lt g_ e).2; omega
          have oT_ := oT_.later kq
          have OW := OW.later kq
          have FP : MiBox u4 u3.heap.size ⟨false, 0, 0, [], 0, 0, 0⟩ (.slice none 0 0) := by rw [hy]; exact MiBox.new u3 _ ⟨false, 0, 0, [], 0, 0, 0⟩ _
          have pa : y1.heap.size ≤ u3.heap.size := hb3.size
          have hb4 : Below y1.heap.size y1 u4 := hb3.trans (kq.mono hb3.size)
          rw [← hy]
          clear hy kq
          refine hK _ _ ⟨hb4, ?_⟩
          clear hK K hi
          refine wpAnyH_all (rs := [9]) (by kernel_rfl) (by simp) ?_
          intro i hi; obtain rfl : i = 9 := by simpa using hi
          refine wpOp_step rfl (fun K hK => ?_)
          rw [if_pos (by kernel_rfl)]
          have FQ := FP
          obtain ⟨t0, t1, t2, t3, t4, t5, t6, tf⟩ := FP
          have tg0 := tf 0
          have tg1 := tf 1
          have tg2 := tf 2
          have tg3 := tf 3
          have tg4 := tf 4
          have tg5 := tf 5
          have tg6 := tf 6
          go_simp
          clear t0 t1 t2 t3 t4 t5 t6 tf tg0 tg1 tg2 tg3 tg4 tg5 tg6
          obtain ⟨uf, huf⟩ : ∃ y_, y_ = (((((((u4.setCell ⟨u3.heap.size, 0, none⟩ (.bool D.up)).setCell ⟨u3.heap.size, 1, none⟩ (.int .i64 D.li)).setCell ⟨u3.heap.size, 2, none⟩ (.int .i64 D.ep)).setCell ⟨u3.heap.size, 3, none⟩ (.slice aW D.lg.length cW)).setCell ⟨u3.heap.size, 4, none⟩ (.int .i64 D.sd)).setCell ⟨u3.heap.size, 5, none⟩ (.int .i64 D.ac)).setCell ⟨u3.heap.size, 6, none⟩ (.int .i64 D.al)) := ⟨_, rfl⟩
          have FE : MiBox uf (u3.heap.size) D (.slice aW D.lg.length cW) := by rw [huf]; exact FQ.put D _
          have hbf : Below y1.heap.size y1 uf := by rw [huf]; exact below_put7 (q := u3.heap.size) D _ hb4 pa
          have oT_ := oT_.keep (w' := uf) (fun g_ e => by rw [huf]; exact heap_put7 _ _ _ D _ (joT_ g_ e))
          have OW := OW.keep (w' := uf) (fun g_ e => by rw [huf]; exact heap_put7 _ _ _ D _ (jOW g_ e))
          rw [← huf]
          clear huf FQ
          refine hK _ _ ⟨hbf, ?_⟩
          clear hK K hi
          refine takeW 10 7 (.bool nb) rfl rfl (by kernel_rfl) (by kernel_rfl) (by kernel_rfl) (fun _ _ _ h => h) (by kernel_rfl) (by (intro w hSw; go_simp)) (by assumption) ?_
          simp only [List.set_cons_zero, List.set_cons_succ]
          refine wpAnyH_done (by kernel_rfl) ?_ _
          exact hT3.out _ _ ⟨u3.heap.size, aW, cW, [(.tuple #[.agg #[.bool D.up, .int .i64 D.li, .int .i64 D.ep, .slice aW D.lg.length cW, .int .i64 D.sd, .int .i64 D.ac, .int .i64 D.al], .bool nb]), (.agg #[.bool m0.up, .int .i64 m0.li, .int .i64 m0.ep, .slice ad0 m0.lg.length cap0, .int .i64 m0.sd, .int .i64 m0.ac, .int .i64 m0.al]), (.agg #[.bool m0.up, .int .i64 m0.li, .int .i64 m0.ep, .slice (some ⟨gT, 0, none⟩) m0.lg.length m0.lg.length, .int .i64 m0.sd, .int .i64 m0.ac, .int .i64 m0.al]), (.agg #[.int .i64 x1.k, .int .i64 x1.q, .int .i64 x1.r, .int .i64 x1.c, .int .i64 x1.b, .int .i64 x1.p, .int .i64 x1.h, .bool x1.up]), (.agg #[.int .i64 x1.k, .int .i64 x1.q, .int .i64 x1.r, .int .i64 x1.c, .int .i64 x1.b, .int .i64 x1.p, .int .i64 x1.h, .bool x1.up]), (.tuple #[.agg #[.bool D.up, .int .i64 D.li, .int .i64 D.ep, .slice aW D.lg.length cW, .int .i64 D.sd, .int .i64 D.ac, .int .i64 D.al], .bool nb]), (.agg #[.bool D.up, .int .i64 D.li, .int .i64 D.ep, .slice aW D.lg.length cW, .int .i64 D.sd, .int .i64 D.ac, .int .i64 D.al]), (.bool nb)], rfl, by kernel_rfl, FE, OW.base bb, jOW, pa, hbf⟩
        · refine wpOp_step rfl (fun K hK => ?_)
          rw [if_pos (by kernel_rfl)]
          go_simp
          obtain ⟨u3, hy⟩ : ∃ y_, y_ = u2.alloc (Obj.cells #[.bool false, .int .i64 0, .int .i64 0, .slice none 0 0, .int .i64 0, .int .i64 0, .int .i64 0] 47) := ⟨_, rfl⟩
          have kq : Below u2.heap.size u2 u3 := by rw [hy]; exact below_new _
          have joT_ : ∀ g_, (Value.slice (some ⟨gT, 0, none⟩) m0.lg.length m0.lg.length).ownBlock = some g_ → g_ ≠ u2.heap.size := fun g_ e => by have h1 := (oT_.lt g_ e).2; omega
          have oT_ := oT_.later kq
          have FP : MiBox u3 u2.heap.size ⟨false, 0, 0, [], 0, 0, 0⟩ (.slice none 0 0) := by rw [hy]; exact MiBox.new u2 _ ⟨false, 0, 0, [], 0, 0, 0⟩ _
          have pa : y1.heap.size ≤ u2.heap.size := hb2.size
          have hb3 : Below y1.heap.size y1 u3 := hb2.trans (kq.mono hb2.size)
          rw [← hy]
          clear hy kq
          refine hK _ _ ⟨hb3, ?_⟩
          clear hK K hi
          refine wpAnyH_all (rs := [4]) (by kernel_rfl) (by simp) ?_
          intro i hi; obtain rfl : i = 4 := by simpa using hi
          refine wpOp_step rfl (fun K hK => ?_)
          rw [if_pos (by kernel_rfl)]
          go_simp
          go_at_call 16
          refine (noteS m0 x1 (some ⟨gT, 0, none⟩) m0.lg.length u3 oT_.view.2 hl (fun e => by cases e)).mono ?_
          rintro e u4 ⟨aW, cW, rfl, OW, kq⟩
          have bb : y1.heap.size ≤ u3.heap.size := hb3.size
          rw [hD.out] at OW ⊢
          rw [hnb.out]
          have jOW : ∀ g_, (Value.slice aW D.lg.length cW).ownBlock = some g_ → g_ ≠ u2.heap.size := fun g_ e => by have h1 := (OW.lt g_ e).1; have h2 := FP.lt; omega
          have oT_ := oT_.later kq
          have FP := FP.below kq FP.lt
          have hb4 : Below y1.heap.size y1 u4 := hb3.trans (kq.mono hb3.size)
          clear kq
          refine hK _ _ ⟨hb4, ?_⟩
          clear hK K hi
          refine takeW 5 21 (.tuple #[.agg #[.bool D.up, .int .i64 D.li, .int .i64 D.ep, .slice aW D.lg.length cW, .int .i64 D.sd, .int .i64 D.ac, .int .i64 D.al], .bool nb]) rfl rfl (by kernel_rfl) (by kernel_rfl) (by kernel_rfl) (fun _ _ _ h => h) (by kernel_rfl) (by (intro w hSw; go_simp)) (by assumption) ?_
          simp only [List.set_cons_zero, List.set_cons_succ]
          refine takeW 6 27 (.agg #[.bool D.up, .int .i64 D.li, .int .i64 D.ep, .slice aW D.lg.length cW, .int .i64 D.sd, .int .i64 D.ac, .int .i64 D.al]) rfl rfl (by kernel_rfl) (by kernel_rfl) (by kernel_rfl) (fun _ _ _ h => h) (by kernel_rfl) (by (intro w hSw; go_simp)) (by assumption) ?_
          simp only [List.set_cons_zero, List.set_cons_succ]
          refine takeW 7 28 (.bool nb) rfl rfl (by kernel_rfl) (by kernel_rfl) (by kernel_rfl) (fun _ _ _ h => h) (by kernel_rfl) (by (intro w hSw; go_simp)) (by assumption) ?_
          simp only [List.set_cons_zero, List.set_cons_succ]
          refine wpAnyH_all (rs := [9]) (by kernel_rfl) (by simp) ?_
          intro i hi; obtain rfl : i = 9 := by simpa using hi
          refine wpOp_step rfl (fun K hK => ?_)
          rw [if_pos (by kernel_rfl)]
          have FQ := FP
          obtain ⟨t0, t1, t2, t3, t4, t5, t6, tf⟩ := FP
          have tg0 := tf 0
          have tg1 := tf 1
          have tg2 := tf 2
          have tg3 := tf 3
          have tg4 := tf 4
          have tg5 := tf 5
          have tg6 := tf 6
          go_simp
          clear t0 t1 t2 t3 t4 t5 t6 tf tg0 tg1 tg2 tg3 tg4 tg5 tg6
          obtain ⟨uf, huf⟩ : ∃ y_, y_ = (((((((u4.setCell ⟨u2.heap.size, 0, none⟩ (.bool D.up)).setCell ⟨u2.heap.size, 1, none⟩ (.int .i64 D.li)).setCell ⟨u2.heap.size, 2, none⟩ (.int .i64 D.ep)).setCell ⟨u2.heap.size, 3, none⟩ (.slice aW D.lg.length cW)).setCell ⟨u2.heap.size, 4, none⟩ (.int .i64 D.sd)).setCell ⟨u2.heap.size, 5, none⟩ (.int .i64 D.ac)).setCell ⟨u2.heap.size, 6, none⟩ (.int .i64 D.al)) := ⟨_, rfl⟩
          have FE : MiBox uf (u2.heap.size) D (.slice aW D.lg.length cW) := by rw [huf]; exact FQ.put D _
          have hbf : Below y1.heap.size y1 uf := by rw [huf]; exact below_put7 (q := u2.heap.size) D _ hb4 pa
          have oT_ := oT_.keep (w' := uf) (fun g_ e => by rw [huf]; exact heap_put7 _ _ _ D _ (joT_ g_ e))
          have OW := OW.keep (w' := uf) (fun g_ e => by rw [huf]; exact heap_put7 _ _ _ D _ (jOW g_ e))
          rw [← huf]
          clear huf FQ
          refine hK _ _ ⟨hbf, ?_⟩
          clear hK K hi
          refine takeW 10 7 (.bool nb) rfl rfl (by kernel_rfl) (by kernel_rfl) (by kernel_rfl) (fun _ _ _ h => h) (by kernel_rfl) (by (intro w hSw; go_simp)) (by assumption) ?_
          simp only [List.set_cons_zero, List.set_cons_succ]
          refine wpAnyH_done (by kernel_rfl) ?_ _
          exact hT3.out _ _ ⟨u2.heap.size, aW, cW, [(.tuple #[.agg #[.bool D.up, .int .i64 D.li, .int .i64 D.ep, .slice aW D.lg.length cW, .int .i64 D.sd, .int .i64 D.ac, .int .i64 D.al], .bool nb]), (.agg #[.bool m0.up, .int .i64 m0.li, .int .i64 m0.ep, .slice ad0 m0.lg.length cap0, .int .i64 m0.sd, .int .i64 m0.ac, .int .i64 m0.al]), (.agg #[.bool m0.up, .int .i64 m0.li, .int .i64 m0.ep, .slice (some ⟨gT, 0, none⟩) m0.lg.length m0.lg.length, .int .i64 m0.sd, .int .i64 m0.ac, .int .i64 m0.al]), (.agg #[.int .i64 x1.k, .int .i64 x1.q, .int .i64 x1.r, .int .i64 x1.c, .int .i64 x1.b, .int .i64 x1.p, .int .i64 x1.h, .bool x1.up]), (.agg #[.int .i64 x1.k, .int .i64 x1.q, .int .i64 x1.r, .int .i64 x1.c, .int .i64 x1.b, .int .i64 x1.p, .int .i64 x1.h, .bool x1.up]), (.tuple #[.agg #[.bool D.up, .int .i64 D.li, .int .i64 D.ep, .slice aW D.lg.length cW, .int .i64 D.sd, .int .i64 D.ac, .int .i64 D.al], .bool nb]), (.agg #[.bool D.up, .int .i64 D.li, .int .i64 D.ep, .slice aW D.lg.length cW, .int .i64 D.sd, .int .i64 D.ac, .int .i64 D.al]), (.bool nb)], rfl, by kernel_rfl, FE, OW.base bb, jOW, pa, hbf⟩
      · refine wpOp_step rfl (fun K hK => ?_)
        rw [if_pos (by kernel_rfl)]
        go_simp
        obtain ⟨u2, hy⟩ : ∃ y_, y_ = u1.alloc (Obj.cells #[.bool false, .int .i64 0, .int .i64 0, .slice none 0 0, .int .i64 0, .int .i64 0, .int .i64 0] 47) := ⟨_, rfl⟩
        have kq : Below u1.heap.size u1 u2 := by rw [hy]; exact below_new _
        have joT_ : ∀ g_, (Value.slice (some ⟨gT, 0, none⟩) m0.lg.length m0.lg.length).ownBlock = some g_ → g_ ≠ u1.heap.size := fun g_ e => by have h1 := (oT_.lt g_ e).2; omega
        have oT_ := oT_.later kq
        have FP : MiBox u2 u1.heap.size ⟨false, 0, 0, [], 0, 0, 0⟩ (.slice none 0 0) := by rw [hy]; exact MiBox.new u1 _ ⟨false, 0, 0, [], 0, 0, 0⟩ _
        have pa : y1.heap.size ≤ u1.heap.size := hb1.size
        have hb2 : Below y1.heap.size y1 u2 := hb1.trans (kq.mono hb1.size)
        rw [← hy]
        clear hy kq
        refine hK _ _ ⟨hb2, ?_⟩
        clear hK K hi
        refine wpAnyH_all (rs := [3]) (by kernel_rfl) (by simp) ?_
        intro i hi; obtain rfl : i = 3 := by simpa using hi
        refine wpOp_step rfl (fun K hK => ?_)
        rw [if_pos (by kernel_rfl)]
        go_simp
        go_at_call 18
        refine (toInI x1 u2).mono ?_
        rintro e u3 ⟨rfl, kq⟩
        have oT_ := oT_.later kq
        have FP := FP.below kq FP.lt
        have hb3 : Below y1.heap.size y1 u3 := hb2.trans (kq.mono hb2.size)
        clear kq
        refine hK _ _ ⟨hb3, ?_⟩
        clear hK K hi
        refine wpAnyH_all (rs := [4]) (by kernel_rfl) (by simp) ?_
        intro i hi; obtain rfl : i = 4 := by simpa using hi
        refine wpOp_step rfl (fun K hK => ?_)
        rw [if_pos (by kernel_rfl)]
        go_simp
        go_at_call 16
        refine (noteS m0 x1 (some ⟨gT, 0, none⟩) m0.lg.length u3 oT_.view.2 hl (fun e => by cases e)).mono ?_
        rintro e u4 ⟨aW, cW, rfl, OW, kq⟩
        have bb : y1.heap.size ≤ u3.heap.size := hb3.size
        rw [hD.out] at OW ⊢
        rw [hnb.out]
        have jOW : ∀ g_, (Value.slice aW D.lg.length cW).ownBlock = some g_ → g_ ≠ u1.heap.size := fun g_ e => by have h1 := (OW.lt g_ e).1; have h2 := FP.lt; omega
        have oT_ := oT_.later kq
        have FP := FP.below kq FP.lt
        have hb4 : Below y1.heap.size y1 u4 := hb3.trans (kq.mono hb3.size)
        clear kq
        refine hK _ _ ⟨hb4, ?_⟩
        clear hK K hi
        refine takeW 5 21 (.tuple #[.agg #[.bool D.up, .int .i64 D.li, .int .i64 D.ep, .slice aW D.lg.length cW, .int .i64 D.sd, .int .i64 D.ac, .int .i64 D.al], .bool nb]) rfl rfl (by kernel_rfl) (by kernel_rfl) (by kernel_rfl) (fun _ _ _ h => h) (by kernel_rfl) (by (intro w hSw; go_simp)) (by assumption) ?_
        simp only [List.set_cons_zero, List.set_cons_succ]
        refine takeW 6 27 (.agg #[.bool D.up, .int .i64 D.li, .int .i64 D.ep, .slice aW D.lg.length cW, .int .i64 D.sd, .int .i64 D.ac, .int .i64 D.al]) rfl rfl (by kernel_rfl) (by kernel_rfl) (by kernel_rfl) (fun _ _ _ h => h) (by kernel_rfl) (by (intro w hSw; go_simp)) (by assumption) ?_
        simp only [List.set_cons_zero, List.set_cons_succ]
        refine takeW 7 28 (.bool nb) rfl rfl (by kernel_rfl) (by kernel_rfl) (by kernel_rfl) (fun _ _ _ h => h) (by kernel_rfl) (by (intro w hSw; go_simp)) (by assumption) ?_
        simp only [List.set_cons_zero, List.set_cons_succ]
        refine wpAnyH_all (rs := [9]) (by kernel_rfl) (by simp) ?_
        intro i hi; obtain rfl : i = 9 := by simpa using hi
        refine wpOp_step rfl (fun K hK => ?_)
        rw [if_pos (by kernel_rfl)]
        have FQ := FP
        obtain ⟨t0, t1, t2, t3, t4, t5, t6, tf⟩ := FP
        have tg0 := tf 0
        have tg1 := tf 1
        have tg2 := tf 2
        have tg3 := tf 3
        have tg4 := tf 4
        have tg5 := tf 5
        have tg6 := tf 6
        go_simp
        clear t0 t1 t2 t3 t4 t5 t6 tf tg0 tg1 tg2 tg3 tg4 tg5 tg6
        obtain ⟨uf, huf⟩ : ∃ y_, y_ = (((((((u4.setCell ⟨u1.heap.size, 0, none⟩ (.bool D.up)).setCell ⟨u1.heap.size, 1, none⟩ (.int .i64 D.li)).setCell ⟨u1.heap.size, 2, none⟩ (.int .i64 D.ep)).setCell ⟨u1.heap.size, 3, none⟩ (.slice aW D.lg.length cW)).setCell ⟨u1.heap.size, 4, none⟩ (.int .i64 D.sd)).setCell ⟨u1.heap.size, 5, none⟩ (.int .i64 D.ac)).setCell ⟨u1.heap.size, 6, none⟩ (.int .i64 D.al)) := ⟨_, rfl⟩
        have FE : MiBox uf (u1.heap.size) D (.slice aW D.lg.length cW) := by rw [huf]; exact FQ.put D _
        have hbf : Below y1.heap.size y1 uf := by rw [huf]; exact below_put7 (q := u1.heap.size) D _ hb4 pa
        have oT_ := oT_.keep (w' := uf) (fun g_ e => by rw [huf]; exact heap_put7 _ _ _ D _ (joT_ g_ e))
        have OW := OW.keep (w' := uf) (fun g_ e => by rw [huf]; exact heap_put7 _ _ _ D _ (jOW g_ e))
        rw [← huf]
        clear huf FQ
        refine hK _ _ ⟨hbf, ?_⟩
        clear hK K hi
        refine takeW 10 7 (.bool nb) rfl rfl (by kernel_rfl) (by kernel_rfl) (by kernel_rfl) (fun _ _ _ h => h) (by kernel_rfl) (by (intro w hSw; go_simp)) (by assumption) ?_
        simp only [List.set_cons_zero, List.set_cons_succ]
        refine wpAnyH_done (by kernel_rfl) ?_ _
        exact hT3.out _ _ ⟨u1.heap.size, aW, cW, [(.tuple #[.agg #[.bool D.up, .int .i64 D.li, .int .i64 D.ep, .slice aW D.lg.length cW, .int .i64 D.sd, .int .i64 D.ac, .int .i64 D.al], .bool nb]), (.agg #[.bool m0.up, .int .i64 m0.li, .int .i64 m0.ep, .slice ad0 m0.lg.length cap0, .int .i64 m0.sd, .int .i64 m0.ac, .int .i64 m0.al]), (.agg #[.bool m0.up, .int .i64 m0.li, .int .i64 m0.ep, .slice (some ⟨gT, 0, none⟩) m0.lg.length m0.lg.length, .int .i64 m0.sd, .int .i64 m0.ac, .int .i64 m0.al]), (.agg #[.int .i64 x1.k, .int .i64 x1.q, .int .i64 x1.r, .int .i64 x1.c, .int .i64 x1.b, .int .i64 x1.p, .int .i64 x1.h, .bool x1.up]), (.agg #[.int .i64 x1.k, .int .i64 x1.q, .int .i64 x1.r, .int .i64 x1.c, .int .i64 x1.b, .int .i64 x1.p, .int .i64 x1.h, .bool x1.up]), (.tuple #[.agg #[.bool D.up, .int .i64 D.li, .int .i64 D.ep, .slice aW D.lg.length cW, .int .i64 D.sd, .int .i64 D.ac, .int .i64 D.al], .bool nb]), (.agg #[.bool D.up, .int .i64 D.li, .int .i64 D.ep, .slice aW D.lg.length cW, .int .i64 D.sd, .int .i64 D.ac, .int .i64 D.al]), (.bool nb)], rfl, by kernel_rfl, FE, OW.base bb, jOW, pa, hbf⟩
    · refine wpOp_step rfl (fun K hK => ?_)
      rw [if_pos (by kernel_rfl)]
      go_simp
      obtain ⟨u1, hy⟩ : ∃ y_, y_ = u0.alloc (Obj.cells #[.bool false, .int .i64 0, .int .i64 0, .slice none 0 0, .int .i64 0, .int .i64 0, .int .i64 0] 47) := ⟨_, rfl⟩
      have kq : Below u0.heap.size u0 u1 := by rw [hy]; exact below_new _
      have FP : MiBox u1 u0.heap.size ⟨false, 0, 0, [], 0, 0, 0⟩ (.slice none 0 0) := by rw [hy]; exact MiBox.new u0 _ ⟨false, 0, 0, [], 0, 0, 0⟩ _
      have pa : y1.heap.size ≤ u0.heap.size := hb0.size
      have hb1 : Below y1.heap.size y1 u1 := hb0.trans (kq.mono hb0.size)
      rw [← hy]
      clear hy kq
      refine hK _ _ ⟨hb1, ?_⟩
      clear hK K hi
      refine wpAnyH_all (rs := [1]) (by kernel_rfl) (by simp) ?_
      intro i hi; obtain rfl : i = 1 := by simpa using hi
      refine wpOp_step rfl (fun K hK => ?_)
      rw [if_pos (by kernel_rfl)]
      go_simp
      go_at_call 17
      refine (miTo m0 ad0 cap0 u1 (V0.below hb1 (V0.lt ikEnc_len (by omega))) hl).mono ?_
      rintro e u2 ⟨gT, rfl, _, _, oT_, kq⟩
      have joT_ : ∀ g_, (Value.slice (some ⟨gT, 0, none⟩) m0.lg.length m0.lg.length).ownBlock = some g_ → g_ ≠ u0.heap.size := fun g_ e => by have h1 := (oT_.lt g_ e).1; have h2 := FP.lt; omega
      have FP := FP.below kq FP.lt
      have hb2 : Below y1.heap.size y1 u2 := hb1.trans (kq.mono hb1.size)
      clear kq
      refine hK _ _ ⟨hb2, ?_⟩
      clear hK K hi
      refine wpAnyH_all (rs := [3]) (by kernel_rfl) (by simp) ?_
      intro i hi; obtain rfl : i = 3 := by simpa using hi
      refine wpOp_step rfl (fun K hK => ?_)
      rw [if_pos (by kernel_rfl)]
      go_simp
      go_at_call 18
      refine (toInI x1 u2).mono ?_
      rintro e u3 ⟨rfl, kq⟩
      have oT_ := oT_.later kq
      have FP := FP.below kq FP.lt
      have hb3 : Below y1.heap.size y1 u3 := hb2.trans (kq.mono hb2.size)
      clear kq
      refine hK _ _ ⟨hb3, ?_⟩
      clear hK K hi
      refine wpAnyH_all (rs := [4]) (by kernel_rfl) (by simp) ?_
      intro i hi; obtain rfl : i = 4 := by simpa using hi
      refine wpOp_step rfl (fun K hK => ?_)
      rw [if_pos (by kernel_rfl)]
      go_simp
      go_at_call 16
      refine (noteS m0 x1 (some ⟨gT, 0, none⟩) m0.lg.length u3 oT_.view.2 hl (fun e => by cases e)).mono ?_
      rintro e u4 ⟨aW, cW, rfl, OW, kq⟩
      have bb : y1.heap.size ≤ u3.heap.size := hb3.size
      rw [hD.out] at OW ⊢
      rw [hnb.out]
      have jOW : ∀ g_, (Value.slice aW D.lg.length cW).ownBlock = some g_ → g_ ≠ u0.heap.size := fun g_ e => by have h1 := (OW.lt g_ e).1; have h2 := FP.lt; omega
      have oT_ := oT_.later kq
      have FP := FP.below kq FP.lt
      have hb4 : Below y1.heap.size y1 u4 := hb3.trans (kq.mono hb3.size)
      clear kq
      refine hK _ _ ⟨hb4, ?_⟩
      clear hK K hi
      refine takeW 5 21 (.tuple #[.agg #[.bool D.up, .int .i64 D.li, .int .i64 D.ep, .slice aW D.lg.length cW, .int .i64 D.sd, .int .i64 D.ac, .int .i64 D.al], .bool nb]) rfl rfl (by kernel_rfl) (by kernel_rfl) (by kernel_rfl) (fun _ _ _ h => h) (by kernel_rfl) (by (intro w hSw; go_simp)) (by assumption) ?_
      simp only [List.set_cons_zero, List.set_cons_succ]
      refine takeW 6 27 (.agg #[.bool D.up, .int .i64 D.li, .int .i64 D.ep, .slice aW D.lg.length cW, .int .i64 D.sd, .int .i64 D.ac, .int .i64 D.al]) rfl rfl (by kernel_rfl) (by kernel_rfl) (by kernel_rfl) (fun _ _ _ h => h) (by kernel_rfl) (by (intro w hSw; go_simp)) (by assumption) ?_
      simp only [List.set_cons_zero, List.set_cons_succ]
      refine takeW 7 28 (.bool nb) rfl rfl (by kernel_rfl) (by kernel_rfl) (by kernel_rfl) (fun _ _ _ h => h) (by kernel_rfl) (by (intro w hSw; go_simp)) (by assumption) ?_
      simp only [List.set_cons_zero, List.set_cons_succ]
      refine wpAnyH_all (rs := [9]) (by kernel_rfl) (by simp) ?_
      intro i hi; obtain rfl : i = 9 := by simpa using hi
      refine wpOp_step rfl (fun K hK => ?_)
      rw [if_pos (by kernel_rfl)]
      have FQ := FP
      obtain ⟨t0, t1, t2, t3, t4, t5, t6, tf⟩ := FP
      have tg0 := tf 0
      have tg1 := tf 1
      have tg2 := tf 2
      have tg3 := tf 3
      have tg4 := tf 4
      have tg5 := tf 5
      have tg6 := tf 6
      go_simp
      clear t0 t1 t2 t3 t4 t5 t6 tf tg0 tg1 tg2 tg3 tg4 tg5 tg6
      obtain ⟨uf, huf⟩ : ∃ y_, y_ = (((((((u4.setCell ⟨u0.heap.size, 0, none⟩ (.bool D.up)).setCell ⟨u0.heap.size, 1, none⟩ (.int .i64 D.li)).setCell ⟨u0.heap.size, 2, none⟩ (.int .i64 D.ep)).setCell ⟨u0.heap.size, 3, none⟩ (.slice aW D.lg.length cW)).setCell ⟨u0.heap.size, 4, none⟩ (.int .i64 D.sd)).setCell ⟨u0.heap.size, 5, none⟩ (.int .i64 D.ac)).setCell ⟨u0.heap.size, 6, none⟩ (.int .i64 D.al)) := ⟨_, rfl⟩
      have FE : MiBox uf (u0.heap.size) D (.slice aW D.lg.length cW) := by rw [huf]; exact FQ.put D _
      have hbf : Below y1.heap.size y1 uf := by rw [huf]; exact below_put7 (q := u0.heap.size) D _ hb4 pa
      have oT_ := oT_.keep (w' := uf) (fun g_ e => by rw [huf]; exact heap_put7 _ _ _ D _ (joT_ g_ e))
      have OW := OW.keep (w' := uf) (fun g_ e => by rw [huf]; exact heap_put7 _ _ _ D _ (jOW g_ e))
      rw [← huf]
      clear huf FQ
      refine hK _ _ ⟨hbf, ?_⟩
      clear hK K hi
      refine takeW 10 7 (.bool nb) rfl rfl (by kernel_rfl) (by kernel_rfl) (by kernel_rfl) (fun _ _ _ h => h) (by kernel_rfl) (by (intro w hSw; go_simp)) (by assumption) ?_
      simp only [List.set_cons_zero, List.set_cons_succ]
      refine wpAnyH_done (by kernel_rfl) ?_ _
      exact hT3.out _ _ ⟨u0.heap.size, aW, cW, [(.tuple #[.agg #[.bool D.up, .int .i64 D.li, .int .i64 D.ep, .slice aW D.lg.length cW, .int .i64 D.sd, .int .i64 D.ac, .int .i64 D.al], .bool nb]), (.agg #[.bool m0.up, .int .i64 m0.li, .int .i64 m0.ep, .slice ad0 m0.lg.length cap0, .int .i64 m0.sd, .int .i64 m0.ac, .int .i64 m0.al]), (.agg #[.bool m0.up, .int .i64 m0.li, .int .i64 m0.ep, .slice (some ⟨gT, 0, none⟩) m0.lg.length m0.lg.length, .int .i64 m0.sd, .int .i64 m0.ac, .int .i64 m0.al]), (.agg #[.int .i64 x1.k, .int .i64 x1.q, .int .i64 x1.r, .int .i64 x1.c, .int .i64 x1.b, .int .i64 x1.p, .int .i64 x1.h, .bool x1.up]), (.agg #[.int .i64 x1.k, .int .i64 x1.q, .int .i64 x1.r, .int .i64 x1.c, .int .i64 x1.b, .int .i64 x1.p, .int .i64 x1.h, .bool x1.up]), (.tuple #[.agg #[.bool D.up, .int .i64 D.li, .int .i64 D.ep, .slice aW D.lg.length cW, .int .i64 D.sd, .int .i64 D.ac, .int .i64 D.al], .bool nb]), (.agg #[.bool D.up, .int .i64 D.li, .int .i64 D.ep, .slice aW D.lg.length cW, .int .i64 D.sd, .int .i64 D.ac, .int .i64 D.al]), (.bool nb)], rfl, by kernel_rfl, FE, OW.base bb, jOW, pa, hbf⟩
  rintro l' wd1 ⟨PW, aW, cW, us, hul, rfl, FEW, OW, jOW, pW, kq⟩
  obtain ⟨u21, us, rfl⟩ : ∃ a b, us = a :: b := List.exists_cons_of_length_eq_add_one hul
  replace hul := Nat.succ.inj hul
  obtain ⟨u22, us, rfl⟩ : ∃ a b, us = a :: b := List.exists_cons_of_length_eq_add_one hul
  replace hul := Nat.succ.inj hul
  obtain ⟨u23, us, rfl⟩ : ∃ a b, us = a :: b := List.exists_cons_of_length_eq_add_one hul
  replace hul := Nat.succ.inj hul
  obtain ⟨u24, us, rfl⟩ : ∃ a b, us = a :: b := List.exists_cons_of_length_eq_add_one hul
  replace hul := Nat.succ.inj hul
  obtain ⟨u25, us, rfl⟩ : ∃ a b, us = a :: b := List.exists_cons_of_length_eq_add_one hul
  replace hul := Nat.succ.inj hul
  obtain ⟨u26, us, rfl⟩ : ∃ a b, us = a :: b := List.exists_cons_of_length_eq_add_one hul
  replace hul := Nat.succ.inj hul
  obtain ⟨u27, us, rfl⟩ : ∃ a b, us = a :: b := List.exists_cons_of_length_eq_add_one hul
  replace hul := Nat.succ.inj hul
  obtain ⟨u28, us, rfl⟩ : ∃ a b, us = a :: b := List.exists_cons_of_length_eq_add_one hul
  replace hul := Nat.succ.inj hul
  obtain rfl : us = [] := List.eq_nil_of_length_eq_zero hul
  clear hul
  simp only [List.take, List.drop, List.cons_append, List.nil_append]
  have AW := FEW.at_
  clear FEW
  have lW := AW.lt
  have swd1 := kq.size
  have A0 := A0.below kq A0.lt
  have V0 := V0.below kq (V0.lt ikEnc_len (by omega))
  have N1 := N1.below kq N1.lt
  have BW := BW.trans (kq.mono BW.size)
  clear kq
  have iOW : ∀ g, (Value.slice aW D.lg.length cW).ownBlock = some g → y1.heap.size ≤ g ∧ g < wd1.heap.size := fun g e => OW.lt g e
  have cc := A0
  obtain ⟨m0_0, m0_1, m0_2, m0_3, m0_4, m0_5, m0_6⟩ := cc
  go_wp2_with fail
  go_at_call 17
  clear m0_0 m0_1 m0_2 m0_3 m0_4 m0_5 m0_6
  refine (miTo m0 ad0 cap0 wd1 V0 hl).mono ?_
  rintro e wd2 ⟨gOX, rfl, _, _, OX, kq⟩
  have swd2 := kq.size
  have A0 := A0.below kq A0.lt
  have AW := AW.below kq AW.lt
  have V0 := V0.below kq (V0.lt ikEnc_len (by omega))
  have OW := OW.later kq
  have N1 := N1.below kq N1.lt
  have BW := BW.trans (kq.mono BW.size)
  clear kq
  have iOX : ∀ g, (Value.slice (some ⟨gOX, 0, none⟩) m0.lg.length m0.lg.length).ownBlock = some g → wd1.heap.size ≤ g ∧ g < wd2.heap.size := fun g e => OX.lt g e
  obtain ⟨wd3, hwd3⟩ : ∃ y_, y_ = wd2.alloc (Obj.cells #[.bool m0.up, .int .i64 m0.li, .int .i64 m0.ep, .slice (some ⟨gOX, 0, none⟩) m0.lg.length m0.lg.length, .int .i64 m0.sd, .int .i64 m0.ac, .int .i64 m0.al] 47) := ⟨_, rfl⟩
  have AX : MiAt wd3 wd2.heap.size m0 (.slice (some ⟨gOX, 0, none⟩) m0.lg.length m0.lg.length) := by rw [hwd3]; exact MiAt.new wd2 _ _ _
  have kq : Below wd2.heap.size wd2 wd3 := by rw [hwd3]; exact below_new _
  have lwd3 := AX.lt
  have swd3 := kq.size
  have A0 := A0.below kq A0.lt
  have AW := AW.below kq AW.lt
  have V0 := V0.below kq (V0.lt ikEnc_len (by omega))
  have OW := OW.later kq
  have OX := OX.later kq
  have N1 := N1.below kq N1.lt
  have BW := BW.trans (kq.mono BW.size)
  clear kq
  go_upto_region 7 with fail
  rw [← hwd3]
  clear hwd3
  refine join_regionD (fun l l' W' => ∃ (P : Nat) (aG : Option Addr) (cG : Nat) (us : List Value), us.length = 7 ∧ l' = l.take 9 ++ (.pointer (some ⟨P, 0, none⟩) :: (.bool nb) :: (l.drop 11).take 20) ++ us ++ l.drop 38 ∧ MiBox W' P D (.slice aG D.lg.length cG) ∧ FOwn ikEnc 8 53 wd3.heap.size W' (.slice aG D.lg.length cG) D.lg ∧ (∀ g_, (Value.slice aG D.lg.length cG).ownBlock = some g_ → g_ ≠ P) ∧ wd3.heap.size ≤ P ∧ Below wd3.heap.size wd3 W') ?_ ?_
  rotate_left
  · intro K2 hT3
    refine wp_region_held (S := fun Y => Below wd3.heap.size wd3 Y) (by kernel_rfl) ?_
    change wpAnyH _ _ _ _ _ _ _ _ (World.drew _)
    have hb0 : Below wd3.heap.size wd3 wd3.drew := (Below.refl _ _).drew
    obtain ⟨u0, hy0⟩ : ∃ y_, y_ = wd3.drew := ⟨_, rfl⟩
    rw [← hy0] at hb0 ⊢
    clear hy0
    refine takeW 0 32 (.agg #[.bool m0.up, .int .i64 m0.li, .int .i64 m0.ep, .slice (some ⟨gOX, 0, none⟩) m0.lg.length m0.lg.length, .int .i64 m0.sd, .int .i64 m0.ac, .int .i64 m0.al]) rfl rfl (by kernel_rfl) (by kernel_rfl) (by kernel_rfl) (fun _ _ _ h => h) (by kernel_rfl) (by (intro Y hSw; obtain ⟨X0_, X1_, X2_, X3_, X4_, X5_, X6_⟩ := AX.below hSw AX.lt; go_simp)) (by assumption) ?_
    simp only [List.set_cons_zero, List.set_cons_succ]
    refine takeW 1 33 (.agg #[.int .i64 x1.k, .int .i64 x1.q, .int .i64 x1.r, .int .i64 x1.c, .int .i64 x1.b, .int .i64 x1.p, .int .i64 x1.h, .bool x1.up]) rfl rfl (by kernel_rfl) (by kernel_rfl) (by kernel_rfl) (fun _ _ _ h => h) (by kernel_rfl) (by (intro Y hSw; obtain ⟨Z0, Z1, Z2, Z3, Z4, Z5, Z6, Z7⟩ := N1.below hSw N1.lt; go_simp)) (by assumption) ?_
    simp only [List.set_cons_zero, List.set_cons_succ]
    refine wpAnyH_all (rs := [2, 7]) (by kernel_rfl) (by simp) ?_
    intro i hi; rcases (by simpa using hi : i = 2 ∨ i = 7) with rfl | rfl
    · refine wpOp_step rfl (fun K hK => ?_)
      rw [if_pos (by kernel_rfl)]
      go_simp
      go_at_call 18
      refine (toInI x1 u0).mono ?_
      rintro e u1 ⟨rfl, kq⟩
      have hb1 : Below wd3.heap.size wd3 u1 := hb0.trans (kq.mono hb0.size)
      clear kq
      refine hK _ _ ⟨hb1, ?_⟩
      clear hK K hi
      refine wpAnyH_all (rs := [3, 7]) (by kernel_rfl) (by simp) ?_
      intro i hi; rcases (by simpa using hi : i = 3 ∨ i = 7) with rfl | rfl
      · refine wpOp_step rfl (fun K hK => ?_)
        rw [if_pos (by kernel_rfl)]
        go_simp
        go_at_call 19
        refine (noteI m0 x1 (some ⟨gOX, 0, none⟩) m0.lg.length u1 (OX.later hb1).view.2 hl).mono ?_
        rintro e u2 ⟨aG, cG, rfl, OG, kq⟩
        have bb : wd3.heap.size ≤ u1.heap.size := hb1.size
        rw [hD.out] at OG ⊢
        rw [hnb.out]
        have hb2 : Below wd3.heap.size wd3 u2 := hb1.trans (kq.mono hb1.size)
        clear kq
        refine hK _ _ ⟨hb2, ?_⟩
        clear hK K hi
        refine takeW 4 31 (.tuple #[.agg #[.bool D.up, .int .i64 D.li, .int .i64 D.ep, .slice aG D.lg.length cG, .int .i64 D.sd, .int .i64 D.ac, .int .i64 D.al], .bool nb]) rfl rfl (by kernel_rfl) (by kernel_rfl) (by kernel_rfl) (fun _ _ _ h => h) (by kernel_rfl) (by (intro w hSw; go_simp)) (by assumption) ?_
        simp only [List.set_cons_zero, List.set_cons_succ]
        refine takeW 5 36 (.agg #[.bool D.up, .int .i64 D.li, .int .i64 D.ep, .slice aG D.lg.length cG, .int .i64 D.sd, .int .i64 D.ac, .int .i64 D.al]) rfl rfl (by kernel_rfl) (by kernel_rfl) (by kernel_rfl) (fun _ _ _ h => h) (by kernel_rfl) (by (intro w hSw; go_simp)) (by assumption) ?_
        simp only [List.set_cons_zero, List.set_cons_succ]
        refine takeW 6 37 (.bool nb) rfl rfl (by kernel_rfl) (by kernel_rfl) (by kernel_rfl) (fun _ _ _ h => h) (by kernel_rfl) (by (intro w hSw; go_simp)) (by assumption) ?_
        simp only [List.set_cons_zero, List.set_cons_succ]
        refine wpAnyH_all (rs := [7]) (by kernel_rfl) (by simp) ?_
        intro i hi; obtain rfl : i = 7 := by simpa using hi
        refine wpOp_step rfl (fun K hK => ?_)
        rw [if_pos (by kernel_rfl)]
        go_simp
        obtain ⟨u3, hy⟩ : ∃ y_, y_ = u2.alloc (Obj.cells #[.bool false, .int .i64 0, .int .i64 0, .slice none 0 0, .int .i64 0, .int .i64 0, .int .i64 0] 47) := ⟨_, rfl⟩
        have kq : Below u2.heap.size u2 u3 := by rw [hy]; exact below_new _
        have jOG : ∀ g_, (Value.slice aG D.lg.length cG).ownBlock = some g_ → g_ ≠ u2.heap.size := fun g_ e => by have h1 := (OG.lt g_ e).2; omega
        have OG := OG.later kq
        have FP : MiBox u3 u2.heap.size ⟨false, 0, 0, [], 0, 0, 0⟩ (.slice none 0 0) := by rw [hy]; exact MiBox.new u2 _ ⟨false, 0, 0, [], 0, 0, 0⟩ _
        have pa : wd3.heap.size ≤ u2.heap.size := hb2.size
        have hb3 : Below wd3.heap.size wd3 u3 := hb2.trans (kq.mono hb2.size)
        rw [← hy]
        clear hy kq
        refine hK _ _ ⟨hb3, ?_⟩
        clear hK K hi
        refine wpAnyH_all (rs := [8]) (by kernel_rfl) (by simp) ?_
        intro i hi; obtain rfl : i = 8 := by simpa using hi
        refine wpOp_step rfl (fun K hK => ?_)
        rw [if_pos (by kernel_rfl)]
        have FQ := FP
        obtain ⟨t0, t1, t2, t3, t4, t5, t6, tf⟩ := FP
        have tg0 := tf 0
        have tg1 := tf 1
        have tg2 := tf 2
        have tg3 := tf 3
        have tg4 := tf 4
        have tg5 := tf 5
        have tg6 := tf 6
        go_simp
        clear t0 t1 t2 t3 t4 t5 t6 tf tg0 tg1 tg2 tg3 tg4 tg5 tg6
        obtain ⟨uf, huf⟩ : ∃ y_, y_ = (((((((u3.setCell ⟨u2.heap.size, 0, none⟩ (.bool D.up)).setCell ⟨u2.heap.size, 1, none⟩ (.int .i64 D.li)).setCell ⟨u2.heap.size, 2, none⟩ (.int .i64 D.ep)).setCell ⟨u2.heap.size, 3, none⟩ (.slice aG D.lg.length cG)).setCell ⟨u2.heap.size, 4, none⟩ (.int .i64 D.sd)).setCell ⟨u2.heap.size, 5, none⟩ (.int .i64 D.ac)).setCell ⟨u2.heap.size, 6, none⟩ (.int .i64 D.al)) := ⟨_, rfl⟩
        have FE : MiBox uf (u2.heap.size) D (.slice aG D.lg.length cG) := by rw [huf]; exact FQ.put D _
        have hbf : Below wd3.heap.size wd3 uf := by rw [huf]; exact below_put7 (q := u2.heap.size) D _ hb3 pa
        have OG := OG.keep (w' := uf) (fun g_ e => by rw [huf]; exact heap_put7 _ _ _ D _ (jOG g_ e))
        rw [← huf]
        clear huf FQ
        refine hK _ _ ⟨hbf, ?_⟩
        clear hK K hi
        refine takeW 9 10 (.bool nb) rfl rfl (by kernel_rfl) (by kernel_rfl) (by kernel_rfl) (fun _ _ _ h => h) (by kernel_rfl) (by (intro w hSw; go_simp)) (by assumption) ?_
        simp only [List.set_cons_zero, List.set_cons_succ]
        refine wpAnyH_done (by kernel_rfl) ?_ _
        exact hT3.out _ _ ⟨u2.heap.size, aG, cG, [(.tuple #[.agg #[.bool D.up, .int .i64 D.li, .int .i64 D.ep, .slice aG D.lg.length cG, .int .i64 D.sd, .int .i64 D.ac, .int .i64 D.al], .bool nb]), (.agg #[.bool m0.up, .int .i64 m0.li, .int .i64 m0.ep, .slice (some ⟨gOX, 0, none⟩) m0.lg.length m0.lg.length, .int .i64 m0.sd, .int .i64 m0.ac, .int .i64 m0.al]), (.agg #[.int .i64 x1.k, .int .i64 x1.q, .int .i64 x1.r, .int .i64 x1.c, .int .i64 x1.b, .int .i64 x1.p, .int .i64 x1.h, .bool x1.up]), (.agg #[.int .i64 x1.k, .int .i64 x1.q, .int .i64 x1.r, .int .i64 x1.c, .int .i64 x1.b, .int .i64 x1.p, .int .i64 x1.h, .bool x1.up]), (.tuple #[.agg #[.bool D.up, .int .i64 D.li, .int .i64 D.ep, .slice aG D.lg.length cG, .int .i64 D.sd, .int .i64 D.ac, .int .i64 D.al], .bool nb]), (.agg #[.bool D.up, .int .i64 D.li, .int .i64 D.ep, .slice aG D.lg.length cG, .int .i64 D.sd, .int .i64 D.ac, .int .i64 D.al]), (.bool nb)], rfl, by kernel_rfl, FE, OG.base bb, jOG, pa, hbf⟩
      · refine wpOp_step rfl (fun K hK => ?_)
        rw [if_pos (by kernel_rfl)]
        go_simp
        obtain ⟨u2, hy⟩ : ∃ y_, y_ = u1.alloc (Obj.cells #[.bool false, .int .i64 0, .int .i64 0, .slice none 0 0, .int .i64 0, .int .i64 0, .int .i64 0] 47) := ⟨_, rfl⟩
        have kq : Below u1.heap.size u1 u2 := by rw [hy]; exact below_new _
        have FP : MiBox u2 u1.heap.size ⟨false, 0, 0, [], 0, 0, 0⟩ (.slice none 0 0) := by rw [hy]; exact MiBox.new u1 _ ⟨false, 0, 0, [], 0, 0, 0⟩ _
        have pa : wd3.heap.size ≤ u1.heap.size := hb1.size
        have hb2 : Below wd3.heap.size wd3 u2 := hb1.trans (kq.mono hb1.size)
        rw [← hy]
        clear hy kq
        refine hK _ _ ⟨hb2, ?_⟩
        clear hK K hi
        refine wpAnyH_all (rs := [3]) (by kernel_rfl) (by simp) ?_
        intro i hi; obtain rfl : i = 3 := by simpa using hi
        refine wpOp_step rfl (fun K hK => ?_)
        rw [if_pos (by kernel_rfl)]
        go_simp
        go_at_call 19
        refine (noteI m0 x1 (some ⟨gOX, 0, none⟩) m0.lg.length u2 (OX.later hb2).view.2 hl).mono ?_
        rintro e u3 ⟨aG, cG, rfl, OG, kq⟩
        have bb : wd3.heap.size ≤ u2.heap.size := hb2.size
        rw [hD.out] at OG ⊢
        rw [hnb.out]
        have jOG : ∀ g_, (Value.slice aG D.lg.length cG).ownBlock = some g_ → g_ ≠ u1.heap.size := fun g_ e => by have h1 := (OG.lt g_ e).1; have h2 := FP.lt; omega
        have FP := FP.below kq FP.lt
        have hb3 : Below wd3.heap.size wd3 u3 := hb2.trans (kq.mono hb2.size)
        clear kq
        refine hK _ _ ⟨hb3, ?_⟩
        clear hK K hi
        refine takeW 4 31 (.tuple #[.agg #[.bool D.up, .int .i64 D.li, .int .i64 D.ep, .slice aG D.lg.length cG, .int .i64 D.sd, .int .i64 D.ac, .int .i64 D.al], .bool nb]) rfl rfl (by kernel_rfl) (by kernel_rfl) (by kernel_rfl) (fun _ _ _ h => h) (by kernel_rfl) (by (intro w hSw; go_simp)) (by assumption) ?_
        simp only [List.set_cons_zero, List.set_cons_succ]
        refine takeW 5 36 (.agg #[.bool D.up, .int .i64 D.li, .int .i64 D.ep, .slice aG D.lg.length cG, .int .i64 D.sd, .int .i64 D.ac, .int .i64 D.al]) rfl rfl (by kernel_rfl) (by kernel_rfl) (by kernel_rfl) (fun _ _ _ h => h) (by kernel_rfl) (by (intro w hSw; go_simp)) (by assumption) ?_
        simp only [List.set_cons_zero, List.set_cons_succ]
        refine takeW 6 37 (.bool nb) rfl rfl (by kernel_rfl) (by kernel_rfl) (by kernel_rfl) (fun _ _ _ h => h) (by kernel_rfl) (by (intro w hSw; go_simp)) (by assumption) ?_
        simp only [List.set_cons_zero, List.set_cons_succ]
        refine wpAnyH_all (rs := [8]) (by kernel_rfl) (by simp) ?_
        intro i hi; obtain rfl : i = 8 := by simpa using hi
        refine wpOp_step rfl (fun K hK => ?_)
        rw [if_pos (by kernel_rfl)]
        have FQ := FP
        obtain ⟨t0, t1, t2, t3, t4, t5, t6, tf⟩ := FP
        have tg0 := tf 0
        have tg1 := tf 1
        have tg2 := tf 2
        have tg3 := tf 3
        have tg4 := tf 4
        have tg5 := tf 5
        have tg6 := tf 6
        go_simp
        clear t0 t1 t2 t3 t4 t5 t6 tf tg0 tg1 tg2 tg3 tg4 tg5 tg6
        obtain ⟨uf, huf⟩ : ∃ y_, y_ = (((((((u3.setCell ⟨u1.heap.size, 0, none⟩ (.bool D.up)).setCell ⟨u1.heap.size, 1, none⟩ (.int .i64 D.li)).setCell ⟨u1.heap.size, 2, none⟩ (.int .i64 D.ep)).setCell ⟨u1.heap.size, 3, none⟩ (.slice aG D.lg.length cG)).setCell ⟨u1.heap.size, 4, none⟩ (.int .i64 D.sd)).setCell ⟨u1.heap.size, 5, none⟩ (.int .i64 D.ac)).setCell ⟨u1.heap.size, 6, none⟩ (.int .i64 D.al)) := ⟨_, rfl⟩
        have FE : MiBox uf (u1.heap.size) D (.slice aG D.lg.length cG) := by rw [huf]; exact FQ.put D _
        have hbf : Below wd3.heap.size wd3 uf := by rw [huf]; exact below_put7 (q := u1.heap.size) D _ hb3 pa
        have OG := OG.keep (w' := uf) (fun g_ e => by rw [huf]; exact heap_put7 _ _ _ D _ (jOG g_ e))
        rw [← huf]
        clear huf FQ
        refine hK _ _ ⟨hbf, ?_⟩
        clear hK K hi
        refine takeW 9 10 (.bool nb) rfl rfl (by kernel_rfl) (by kernel_rfl) (by kernel_rfl) (fun _ _ _ h => h) (by kernel_rfl) (by (intro w hSw; go_simp)) (by assumption) ?_
        simp only [List.set_cons_zero, List.set_cons_succ]
        refine wpAnyH_done (by kernel_rfl) ?_ _
        exact hT3.out _ _ ⟨u1.heap.size, aG, cG, [(.tuple #[.agg #[.bool D.up, .int .i64 D.li, .int .i64 D.ep, .slice aG D.lg.length cG, .int .i64 D.sd, .int .i64 D.ac, .int .i64 D.al], .bool nb]), (.agg #[.bool m0.up, .int .i64 m0.li, .int .i64 m0.ep, .slice (some ⟨gOX, 0, none⟩) m0.lg.length m0.lg.length, .int .i64 m0.sd, .int .i64 m0.ac, .int .i64 m0.al]), (.agg #[.int .i64 x1.k, .int .i64 x1.q, .int .i64 x1.r, .int .i64 x1.c, .int .i64 x1.b, .int .i64 x1.p, .int .i64 x1.h, .bool x1.up]), (.agg #[.int .i64 x1.k, .int .i64 x1.q, .int .i64 x1.r, .int .i64 x1.c, .int .i64 x1.b, .int .i64 x1.p, .int .i64 x1.h, .bool x1.up]), (.tuple #[.agg #[.bool D.up, .int .i64 D.li, .int .i64 D.ep, .slice aG D.lg.length cG, .int .i64 D.sd, .int .i64 D.ac, .int .i64 D.al], .bool nb]), (.agg #[.bool D.up, .int .i64 D.li, .int .i64 D.ep, .slice aG D.lg.length cG, .int .i64 D.sd, .int .i64 D.ac, .int .i64 D.al]), (.bool nb)], rfl, by kernel_rfl, FE, OG.base bb, jOG, pa, hbf⟩
    · refine wpOp_step rfl (fun K hK => ?_)
      rw [if_pos (by kernel_rfl)]
      go_simp
      obtain ⟨u1, hy⟩ : ∃ y_, y_ = u0.alloc (Obj.cells #[.bool false, .int .i64 0, .int .i64 0, .slice none 0 0, .int .i64 0, .int .i64 0, .int .i64 0] 47) := ⟨_, rfl⟩
      have kq : Below u0.heap.size u0 u1 := by rw [hy]; exact below_new _
      have FP : MiBox u1 u0.heap.size ⟨false, 0, 0, [], 0, 0, 0⟩ (.slice none 0 0) := by rw [hy]; exact MiBox.new u0 _ ⟨false, 0, 0, [], 0, 0, 0⟩ _
      have pa : wd3.heap.size ≤ u0.heap.size := hb0.size
      have hb1 : Below wd3.heap.size wd3 u1 := hb0.trans (kq.mono hb0.size)
      rw [← hy]
      clear hy kq
      refine hK _ _ ⟨hb1, ?_⟩
      clear hK K hi
      refine wpAnyH_all (rs := [2]) (by kernel_rfl) (by simp) ?_
      intro i hi; obtain rfl : i = 2 := by simpa using hi
      refine wpOp_step rfl (fun K hK => ?_)
      rw [if_pos (by kernel_rfl)]
      go_simp
      go_at_call 18
      refine (toInI x1 u1).mono ?_
      rintro e u2 ⟨rfl, kq⟩
      have FP := FP.below kq FP.lt
      have hb2 : Below wd3.heap.size wd3 u2 := hb1.trans (kq.mono hb1.size)
      clear kq
      refine hK _ _ ⟨hb2, ?_⟩
      clear hK K hi
      refine wpAnyH_all (rs := [3]) (by kernel_rfl) (by simp) ?_
      intro i hi; obtain rfl : i = 3 := by simpa using hi
      refine wpOp_step rfl (fun K hK => ?_)
      rw [if_pos (by kernel_rfl)]
      go_simp
      go_at_call 19
      refine (noteI m0 x1 (some ⟨gOX, 0, none⟩) m0.lg.length u2 (OX.later hb2).view.2 hl).mono ?_
      rintro e u3 ⟨aG, cG, rfl, OG, kq⟩
      have bb : wd3.heap.size ≤ u2.heap.size := hb2.size
      rw [hD.out] at OG ⊢
      rw [hnb.out]
      have jOG : ∀ g_, (Value.slice aG D.lg.length cG).ownBlock = some g_ → g_ ≠ u0.heap.size := fun g_ e => by have h1 := (OG.lt g_ e).1; have h2 := FP.lt; omega
      have FP := FP.below kq FP.lt
      have hb3 : Below wd3.heap.size wd3 u3 := hb2.trans (kq.mono hb2.size)
      clear kq
      refine hK _ _ ⟨hb3, ?_⟩
      clear hK K hi
      refine takeW 4 31 (.tuple #[.agg #[.bool D.up, .int .i64 D.li, .int .i64 D.ep, .slice aG D.lg.length cG, .int .i64 D.sd, .int .i64 D.ac, .int .i64 D.al], .bool nb]) rfl rfl (by kernel_rfl) (by kernel_rfl) (by kernel_rfl) (fun _ _ _ h => h) (by kernel_rfl) (by (intro w hSw; go_simp)) (by assumption) ?_
      simp only [List.set_cons_zero, List.set_cons_succ]
      refine takeW 5 36 (.agg #[.bool D.up, .int .i64 D.li, .int .i64 D.ep, .slice aG D.lg.length cG, .int .i64 D.sd, .int .i64 D.ac, .int .i64 D.al]) rfl rfl (by kernel_rfl) (by kernel_rfl) (by kernel_rfl) (fun _ _ _ h => h) (by kernel_rfl) (by (intro w hSw; go_simp)) (by assumption) ?_
      simp only [List.set_cons_zero, List.set_cons_succ]
      refine takeW 6 37 (.bool nb) rfl rfl (by kernel_rfl) (by kernel_rfl) (by kernel_rfl) (fun _ _ _ h => h) (by kernel_rfl) (by (intro w hSw; go_simp)) (by assumption) ?_
      simp only [List.set_cons_zero, List.set_cons_succ]
      refine wpAnyH_all (rs := [8]) (by kernel_rfl) (by simp) ?_
      intro i hi; obtain rfl : i = 8 := by simpa using hi
      refine wpOp_step rfl (fun K hK => ?_)
      rw [if_pos (by kernel_rfl)]
      have FQ := FP
      obtain ⟨t0, t1, t2, t3, t4, t5, t6, tf⟩ := FP
      have tg0 := tf 0
      have tg1 := tf 1
      have tg2 := tf 2
      have tg3 := tf 3
      have tg4 := tf 4
      have tg5 := tf 5
      have tg6 := tf 6
      go_simp
      clear t0 t1 t2 t3 t4 t5 t6 tf tg0 tg1 tg2 tg3 tg4 tg5 tg6
      obtain ⟨uf, huf⟩ : ∃ y_, y_ = (((((((u3.setCell ⟨u0.heap.size, 0, none⟩ (.bool D.up)).setCell ⟨u0.heap.size, 1, none⟩ (.int .i64 D.li)).setCell ⟨u0.heap.size, 2, none⟩ (.int .i64 D.ep)).setCell ⟨u0.heap.size, 3, none⟩ (.slice aG D.lg.length cG)).setCell ⟨u0.heap.size, 4, none⟩ (.int .i64 D.sd)).setCell ⟨u0.heap.size, 5, none⟩ (.int .i64 D.ac)).setCell ⟨u0.heap.size, 6, none⟩ (.int .i64 D.al)) := ⟨_, rfl⟩
      have FE : MiBox uf (u0.heap.size) D (.slice aG D.lg.length cG) := by rw [huf]; exact FQ.put D _
      have hbf : Below wd3.heap.size wd3 uf := by rw [huf]; exact below_put7 (q := u0.heap.size) D _ hb3 pa
      have OG := OG.keep (w' := uf) (fun g_ e => by rw [huf]; exact heap_put7 _ _ _ D _ (jOG g_ e))
      rw [← huf]
      clear huf FQ
      refine hK _ _ ⟨hbf, ?_⟩
      clear hK K hi
      refine takeW 9 10 (.bool nb) rfl rfl (by kernel_rfl) (by kernel_rfl) (by kernel_rfl) (fun _ _ _ h => h) (by kernel_rfl) (by (intro w hSw; go_simp)) (by assumption) ?_
      simp only [List.set_cons_zero, List.set_cons_succ]
      refine wpAnyH_done (by kernel_rfl) ?_ _
      exact hT3.out _ _ ⟨u0.heap.size, aG, cG, [(.tuple #[.agg #[.bool D.up, .int .i64 D.li, .int .i64 D.ep, .slice aG D.lg.length cG, .int .i64 D.sd, .int .i64 D.ac, .int .i64 D.al], .bool nb]), (.agg #[.bool m0.up, .int .i64 m0.li, .int .i64 m0.ep, .slice (some ⟨gOX, 0, none⟩) m0.lg.length m0.lg.length, .int .i64 m0.sd, .int .i64 m0.ac, .int .i64 m0.al]), (.agg #[.int .i64 x1.k, .int .i64 x1.q, .int .i64 x1.r, .int .i64 x1.c, .int .i64 x1.b, .int .i64 x1.p, .int .i64 x1.h, .bool x1.up]), (.agg #[.int .i64 x1.k, .int .i64 x1.q, .int .i64 x1.r, .int .i64 x1.c, .int .i64 x1.b, .int .i64 x1.p, .int .i64 x1.h, .bool x1.up]), (.tuple #[.agg #[.bool D.up, .int .i64 D.li, .int .i64 D.ep, .slice aG D.lg.length cG, .int .i64 D.sd, .int .i64 D.ac, .int .i64 D.al], .bool nb]), (.agg #[.bool D.up, .int .i64 D.li, .int .i64 D.ep, .slice aG D.lg.length cG, .int .i64 D.sd, .int .i64 D.ac, .int .i64 D.al]), (.bool nb)], rfl, by kernel_rfl, FE, OG.base bb, jOG, pa, hbf⟩
  rintro l' wd4 ⟨PG, aG, cG, us, hul, rfl, FEG, OG, jOG, pG, kq⟩
  obtain ⟨u31, us, rfl⟩ : ∃ a b, us = a :: b := List.exists_cons_of_length_eq_add_one hul
  replace hul := Nat.succ.inj hul
  obtain ⟨u32, us, rfl⟩ : ∃ a b, us = a :: b := List.exists_cons_of_length_eq_add_one hul
  replace hul := Nat.succ.inj hul
  obtain ⟨u33, us, rfl⟩ : ∃ a b, us = a :: b := List.exists_cons_of_length_eq_add_one hul
  replace hul := Nat.succ.inj hul
  obtain ⟨u34, us, rfl⟩ : ∃ a b, us = a :: b := List.exists_cons_of_length_eq_add_one hul
  replace hul := Nat.succ.inj hul
  obtain ⟨u35, us, rfl⟩ : ∃ a b, us = a :: b := List.exists_cons_of_length_eq_add_one hul
  replace hul := Nat.succ.inj hul
  obtain ⟨u36, us, rfl⟩ : ∃ a b, us = a :: b := List.exists_cons_of_length_eq_add_one hul
  replace hul := Nat.succ.inj hul
  obtain ⟨u37, us, rfl⟩ : ∃ a b, us = a :: b := List.exists_cons_of_length_eq_add_one hul
  replace hul := Nat.succ.inj hul
  obtain rfl : us = [] := List.eq_nil_of_length_eq_zero hul
  clear hul
  simp only [List.take, List.drop, List.cons_append, List.nil_append]
  have AG := FEG.at_
  clear FEG
  have lG := AG.lt
  have swd4 := kq.size
  have A0 := A0.below kq A0.lt
  have AW := AW.below kq AW.lt
  have AX := AX.below kq AX.lt
  have V0 := V0.below kq (V0.lt ikEnc_len (by omega))
  have OW := OW.later kq
  have OX := OX.later kq
  have N1 := N1.below kq N1.lt
  have BW := BW.trans (kq.mono BW.size)
  clear kq
  have iOG : ∀ g, (Value.slice aG D.lg.length cG).ownBlock = some g → wd3.heap.size ≤ g ∧ g < wd4.heap.size := fun g e => OG.lt g e
  have cc := AG
  obtain ⟨m0_0, m0_1, m0_2, m0_3, m0_4, m0_5, m0_6⟩ := cc
  have cc := AW
  obtain ⟨m1_0, m1_1, m1_2, m1_3, m1_4, m1_5, m1_6⟩ := cc
  go_wp2_with fail
  go_at_call 20
  clear m0_0 m0_1 m0_2 m0_3 m0_4 m0_5 m0_6 m1_0 m1_1 m1_2 m1_3 m1_4 m1_5 m1_6
  refine (miEq D aG aW cG cW wd4 OG.view.2 OW.view.2 hDl).mono ?_
  rintro e wd5 ⟨rfl, kq⟩
  have swd5 := kq.size
  have A0 := A0.below kq A0.lt
  have AW := AW.below kq AW.lt
  have AX := AX.below kq AX.lt
  have AG := AG.below kq AG.lt
  have V0 := V0.below kq (V0.lt ikEnc_len (by omega))
  have OW := OW.later kq
  have OX := OX.later kq
  have OG := OG.later kq
  have N1 := N1.below kq N1.lt
  have BW := BW.trans (kq.mono BW.size)
  clear kq
  go_upto_region 10 with fail
  refine wp_region_held (S := fun Y => Below wd5.heap.size wd5 Y) (by kernel_rfl) ?_
  change wpAnyH _ _ _ _ _ _ _ _ (World.drew _)
  have hb0 : Below wd5.heap.size wd5 wd5.drew := (Below.refl _ _).drew
  obtain ⟨u0, hy0⟩ : ∃ y_, y_ = wd5.drew := ⟨_, rfl⟩
  rw [← hy0] at hb0 ⊢
  clear hy0
  refine takeW 0 47 (.agg #[.bool m0.up, .int .i64 m0.li, .int .i64 m0.ep, .slice (some ⟨gOX, 0, none⟩) m0.lg.length m0.lg.length, .int .i64 m0.sd, .int .i64 m0.ac, .int .i64 m0.al]) rfl rfl (by kernel_rfl) (by kernel_rfl) (by kernel_rfl) (fun _ _ _ h => h) (by kernel_rfl) (by (intro Y hSw; obtain ⟨X0, X1, X2, X3, X4, X5, X6⟩ := AX.below hSw AX.lt; go_simp)) (by assumption) ?_
  simp only [List.set_cons_zero, List.set_cons_succ]
  refine takeW 1 48 (.agg #[.bool m0.up, .int .i64 m0.li, .int .i64 m0.ep, .slice ad0 m0.lg.length cap0, .int .i64 m0.sd, .int .i64 m0.ac, .int .i64 m0.al]) rfl rfl (by kernel_rfl) (by kernel_rfl) (by kernel_rfl) (fun _ _ _ h => h) (by kernel_rfl) (by (intro Y hSw; obtain ⟨X0, X1, X2, X3, X4, X5, X6⟩ := A0.below hSw A0.lt; go_simp)) (by assumption) ?_
  simp only [List.set_cons_zero, List.set_cons_succ]
  refine wpAnyH_all (rs := [2]) (by kernel_rfl) (by simp) ?_
  intro i hi; obtain rfl : i = 2 := by simpa using hi
  refine wpOp_step rfl (fun Kz hKz => ?_)
  rw [if_pos (by kernel_rfl)]
  go_simp
  go_at_call 17
  refine (miTo m0 ad0 cap0 u0 (V0.below hb0 (V0.lt ikEnc_len (by omega))) hl).mono ?_
  rintro e u1 ⟨gz, rfl, _, _, oz, kq⟩
  have hb1 : Below wd5.heap.size wd5 u1 := hb0.trans (kq.mono hb0.size)
  clear kq
  refine hKz _ _ ⟨hb1, ?_⟩
  clear hKz Kz hi
  refine wpAnyH_all (rs := [3]) (by kernel_rfl) (by simp) ?_
  intro i hi; obtain rfl : i = 3 := by simpa using hi
  refine wpOp_step rfl (fun Kz hKz => ?_)
  rw [if_pos (by kernel_rfl)]
  go_simp
  go_at_call 20
  refine (miEq m0 (some ⟨gOX, 0, none⟩) (some ⟨gz, 0, none⟩) m0.lg.length m0.lg.length u1 (OX.later hb1).view.2 oz.view.2 hl).mono ?_
  rintro e u2 ⟨rfl, kq⟩
  have hb2 : Below wd5.heap.size wd5 u2 := hb1.trans (kq.mono hb1.size)
  clear kq oz
  refine hKz _ _ ⟨hb2, ?_⟩
  clear hKz Kz hi
  refine takeW 4 51 (.bool false) rfl rfl (by kernel_rfl) (by kernel_rfl) (by kernel_rfl) (fun _ _ _ h => h) (by kernel_rfl) (by (intro w hSw; go_simp)) (by assumption) ?_
  simp only [List.set_cons_zero, List.set_cons_succ]
  refine wpAnyH_done (by kernel_rfl) ?_ _
  have su2 := hb2.size
  have A0 := A0.below hb2 A0.lt
  have AW := AW.below hb2 AW.lt
  have AX := AX.below hb2 AX.lt
  have AG := AG.below hb2 AG.lt
  have V0 := V0.below hb2 (V0.lt ikEnc_len (by omega))
  have OW := OW.later hb2
  have OX := OX.later hb2
  have OG := OG.later hb2
  have N1 := N1.below hb2 N1.lt
  have BW := BW.trans (hb2.mono BW.size)
  clear hb2
  clear hb0 hb1
  have cc := AX
  obtain ⟨m0_0, m0_1, m0_2, m0_3, m0_4, m0_5, m0_6⟩ := cc
  go_wp2_with fail
  go_at_call 21
  clear m0_0 m0_1 m0_2 m0_3 m0_4 m0_5 m0_6
  refine (miMark m0 (some ⟨gOX, 0, none⟩) m0.lg.length 1 _ u2 OX (by omega) (by decide) (by decide)).mono ?_
  rintro e wd6 ⟨rfl, OX', gq⟩
  have swd6 := gq.size
  have N1 := N1.keep (gq.block _ N1.lt (fun e => by have := iOX _ e.symm; omega))
  have V0 := V0.carry (fun a e p => gq.block _ (V0.lt ikEnc_len (by omega) a e p) (fun e2 => by have := iOX _ e2.symm; have := vb a e p; omega))
  have OW := OW.keep (fun g' e' => gq.block g' (OW.lt g' e').2 (fun e2 => by have := iOX _ e2.symm; have := iOW _ e'; omega))
  have OG := OG.keep (fun g' e' => gq.block g' (OG.lt g' e').2 (fun e2 => by have := iOX _ e2.symm; have := iOG _ e'; omega))
  have A0 := A0.keep (gq.block _ A0.lt (fun e => by have := iOX _ e.symm; omega))
  have AW := AW.keep (gq.block _ AW.lt (fun e => by have := iOX _ e.symm; omega))
  have AX := AX.keep (gq.block _ AX.lt (fun e => by have := iOX _ e.symm; omega))
  have AG := AG.keep (gq.block _ AG.lt (fun e => by have := iOX _ e.symm; omega))
  have BW := BW.grown gq BW.size (fun g' e => by have := iOX _ e; omega)
  clear gq
  have OX := OX'
  clear OX'
  have hk0 : ¬ (1 + 8 * (m0.lg.length : Int) < 0) := by omega
  have hk1 : decide (1 + 8 * (m0.lg.length : Int) < 0) = false := decide_eq_false hk0
  have cc := AG
  obtain ⟨m0_0, m0_1, m0_2, m0_3, m0_4, m0_5, m0_6⟩ := cc
  have cc := AW
  obtain ⟨m1_0, m1_1, m1_2, m1_3, m1_4, m1_5, m1_6⟩ := cc
  go_wp2_with fail
  go_at_call 20
  clear m0_0 m0_1 m0_2 m0_3 m0_4 m0_5 m0_6 m1_0 m1_1 m1_2 m1_3 m1_4 m1_5 m1_6
  refine (miEq D aG aW cG cW wd6 OG.view.2 OW.view.2 hDl).mono ?_
  rintro e wd7 ⟨rfl, kq⟩
  have swd7 := kq.size
  have A0 := A0.below kq A0.lt
  have AW := AW.below kq AW.lt
  have AX := AX.below kq AX.lt
  have AG := AG.below kq AG.lt
  have V0 := V0.below kq (V0.lt ikEnc_len (by omega))
  have OW := OW.later kq
  have OG := OG.later kq
  have N1 := N1.below kq N1.lt
  have BW := BW.trans (kq.mono BW.size)
  clear kq
  have cc := AG
  obtain ⟨m0_0, m0_1, m0_2, m0_3, m0_4, m0_5, m0_6⟩ := cc
  go_wp2_with fail
  go_at_call 21
  clear m0_0 m0_1 m0_2 m0_3 m0_4 m0_5 m0_6
  refine (miMark D (aG) cG 1 _ wd7 OG (by omega) (by decide) (by decide)).mono ?_
  rintro e wd8 ⟨rfl, OG', gq⟩
  have swd8 := gq.size
  have N1 := N1.keep (gq.block _ N1.lt (fun e => by have := iOG _ e.symm; omega))
  have V0 := V0.carry (fun a e p => gq.block _ (V0.lt ikEnc_len (by omega) a e p) (fun e2 => by have := iOG _ e2.symm; have := vb a e p; omega))
  have OW := OW.keep (fun g' e' => gq.block g' (OW.lt g' e').2 (fun e2 => by have := iOG _ e2.symm; have := iOW _ e'; omega))
  have A0 := A0.keep (gq.block _ A0.lt (fun e => by have := iOG _ e.symm; omega))
  have AW := AW.keep (gq.block _ AW.lt (fun e => by have := iOG _ e.symm; omega))
  have AX := AX.keep (gq.block _ AX.lt (fun e => by have := iOG _ e.symm; omega))
  have AG := AG.keep (gq.block _ AG.lt (fun e => jOG _ e.symm rfl))
  have BW := BW.grown gq BW.size (fun g' e => by have := iOG _ e; omega)
  clear gq
  have OG := OG'
  clear OG'
  obtain ⟨m, hm⟩ : ∃ m, m = 1 + 8 * (D.lg.length : Int) := ⟨_, rfl⟩
  have m00 : ¬ m < 0 := by omega
  rw [← hm]
  replace hm : Hid _ := hm
  have hml : ((List.range D.lg.length).map (ikMk 1)).length = D.lg.length := by simp
  have cc := AG
  obtain ⟨m0_0, m0_1, m0_2, m0_3, m0_4, m0_5, m0_6⟩ := cc
  go_wp2_with fail
  go_at_call 22
  clear m0_0 m0_1 m0_2 m0_3 m0_4 m0_5 m0_6
  refine (miHeld D aG cG 1 wd8 (by have := OG.view.2; exact this) hDl (by decide) (by decide)).mono ?_
  rintro e wd9 ⟨rfl, kq⟩
  have swd9 := kq.size
  have A0 := A0.below kq A0.lt
  have AW := AW.below kq AW.lt
  have AX := AX.below kq AX.lt
  have AG := AG.below kq AG.lt
  have V0 := V0.below kq (V0.lt ikEnc_len (by omega))
  have OW := OW.later kq
  have OG := OG.later kq
  have N1 := N1.below kq N1.lt
  have BW := BW.trans (kq.mono BW.size)
  clear kq
  rw [← hm.out]
  go_upto_region 24 with fail
  refine join_regionD (fun l l' W' => ∃ (P : Nat) (aH : Option Addr) (cH : Nat) (us : List Value), us.length = 8 ∧ l' = l.take 14 ++ (.pointer (some ⟨P, 0, none⟩) :: (.bool nb) :: (l.drop 16).take 63) ++ us ++ l.drop 87 ∧ MiBox W' P D (.slice aH D.lg.length cH) ∧ FOwn ikEnc 8 53 wd9.heap.size W' (.slice aH D.lg.length cH) D.lg ∧ (∀ g_, (Value.slice aH D.lg.length cH).ownBlock = some g_ → g_ ≠ P) ∧ wd9.heap.size ≤ P ∧ Below wd9.heap.size wd9 W') ?_ ?_
  rotate_left
  · intro K2 hT3
    refine wp_region_held (S := fun Y => Below wd9.heap.size wd9 Y) (by kernel_rfl) ?_
    change wpAnyH _ _ _ _ _ _ _ _ (World.drew _)
    have hb0 : Below wd9.heap.size wd9 wd9.drew := (Below.refl _ _).drew
    obtain ⟨u0, hy0⟩ : ∃ y_, y_ = wd9.drew := ⟨_, rfl⟩
    rw [← hy0] at hb0 ⊢
    clear hy0
    refine takeW 0 80 (.agg #[.bool m0.up, .int .i64 m0.li, .int .i64 m0.ep, .slice ad0 m0.lg.length cap0, .int .i64 m0.sd, .int .i64 m0.ac, .int .i64 m0.al]) rfl rfl (by kernel_rfl) (by kernel_rfl) (by kernel_rfl) (fun _ _ _ h => h) (by kernel_rfl) (by (intro Y hSw; obtain ⟨X0_, X1_, X2_, X3_, X4_, X5_, X6_⟩ := A0.below hSw A0.lt; go_simp)) (by assumption) ?_
    simp only [List.set_cons_zero, List.set_cons_succ]
    refine takeW 2 82 (.agg #[.int .i64 x1.k, .int .i64 x1.q, .int .i64 x1.r, .int .i64 x1.c, .int .i64 x1.b, .int .i64 x1.p, .int .i64 x1.h, .bool x1.up]) rfl rfl (by kernel_rfl) (by kernel_rfl) (by kernel_rfl) (fun _ _ _ h => h) (by kernel_rfl) (by (intro Y hSw; obtain ⟨Z0, Z1, Z2, Z3, Z4, Z5, Z6, Z7⟩ := N1.below hSw N1.lt; go_simp)) (by assumption) ?_
    simp only [List.set_cons_zero, List.set_cons_succ]
    refine wpAnyH_all (rs := [1, 8]) (by kernel_rfl) (by simp) ?_
    intro i hi; rcases (by simpa using hi : i = 1 ∨ i = 8) with rfl | rfl
    · refine wpOp_step rfl (fun K hK => ?_)
      rw [if_pos (by kernel_rfl)]
      go_simp
      go_at_call 17
      refine (miTo m0 ad0 cap0 u0 (V0.below hb0 (V0.lt ikEnc_len (by omega))) hl).mono ?_
      rintro e u1 ⟨gT, rfl, _, _, oT_, kq⟩
      have hb1 : Below wd9.heap.size wd9 u1 := hb0.trans (kq.mono hb0.size)
      clear kq
      refine hK _ _ ⟨hb1, ?_⟩
      clear hK K hi
      refine wpAnyH_all (rs := [3, 8]) (by kernel_rfl) (by simp) ?_
      intro i hi; rcases (by simpa using hi : i = 3 ∨ i = 8) with rfl | rfl
      · refine wpOp_step rfl (fun K hK => ?_)
        rw [if_pos (by kernel_rfl)]
        go_simp
        go_at_call 18
        refine (toInI x1 u1).mono ?_
        rintro e u2 ⟨rfl, kq⟩
        have oT_ := oT_.later kq
        have hb2 : Below wd9.heap.size wd9 u2 := hb1.trans (kq.mono hb1.size)
        clear kq
        refine hK _ _ ⟨hb2, ?_⟩
        clear hK K hi
        refine wpAnyH_all (rs := [4, 8]) (by kernel_rfl) (by simp) ?_
        intro i hi; rcases (by simpa using hi : i = 4 ∨ i = 8) with rfl | rfl
        · refine wpOp_step rfl (fun K hK => ?_)
          rw [if_pos (by kernel_rfl)]
          go_simp
          go_at_call 19
          refine (noteI m0 x1 (some ⟨gT, 0, none⟩) m0.lg.length u2 oT_.view.2 hl).mono ?_
          rintro e u3 ⟨aH, cH, rfl, OH, kq⟩
          have bb : wd9.heap.size ≤ u2.heap.size := hb2.size
          rw [hD.out] at OH ⊢
          rw [hnb.out]
          have oT_ := oT_.later kq
          have hb3 : Below wd9.heap.size wd9 u3 := hb2.trans (kq.mono hb2.size)
          clear kq
          refine hK _ _ ⟨hb3, ?_⟩
          clear hK K hi
          refine takeW 5 79 (.tuple #[.agg #[.bool D.up, .int .i64 D.li, .int .i64 D.ep, .slice aH D.lg.length cH, .int .i64 D.sd, .int .i64 D.ac, .int .i64 D.al], .bool nb]) rfl rfl (by kernel_rfl) (by kernel_rfl) (by kernel_rfl) (fun _ _ _ h => h) (by kernel_rfl) (by (intro w hSw; go_simp)) (by assumption) ?_
          simp only [List.set_cons_zero, List.set_cons_succ]
          refine takeW 6 85 (.agg #[.bool D.up, .int .i64 D.li, .int .i64 D.ep, .slice aH D.lg.length cH, .int .i64 D.sd, .int .i64 D.ac, .int .i64 D.al]) rfl rfl (by kernel_rfl) (by kernel_rfl) (by kernel_rfl) (fun _ _ _ h => h) (by kernel_rfl) (by (intro w hSw; go_simp)) (by assumption) ?_
          simp only [List.set_cons_zero, List.set_cons_succ]
          refine takeW 7 86 (.bool nb) rfl rfl (by kernel_rfl) (by kernel_rfl) (by kernel_rfl) (fun _ _ _ h => h) (by kernel_rfl) (by (intro w hSw; go_simp)) (by assumption) ?_
          simp only [List.set_cons_zero, List.set_cons_succ]
          refine wpAnyH_all (rs := [8]) (by kernel_rfl) (by simp) ?_
          intro i hi; obtain rfl : i = 8 := by simpa using hi
          refine wpOp_step rfl (fun K hK => ?_)
          rw [if_pos (by kernel_rfl)]
          go_simp
          obtain ⟨u4, hy⟩ : ∃ y_, y_ = u3.alloc (Obj.cells #[.bool false, .int .i64 0, .int .i64 0, .slice none 0 0, .int .i64 0, .int .i64 0, .int .i64 0] 47) := ⟨_, rfl⟩
          have kq : Below u3.heap.size u3 u4 := by rw [hy]; exact below_new _
          have joT_ : ∀ g_, (Value.slice (some ⟨gT, 0, none⟩) m0.lg.length m0.lg.length).ownBlock = some g_ → g_ ≠ u3.heap.size := fun g_ e => by have h1 := (oT_.lt g_ e).2; omega
          have jOH : ∀ g_, (Value.slice aH D.lg.length cH).ownBlock = some g_ → g_ ≠ u3.heap.size := fun g_ e => by have h1 := (OH.lt g_ e).2; omega
          have oT_ := oT_.later kq
          have OH := OH.later kq
          have FP : MiBox u4 u3.heap.size ⟨false, 0, 0, [], 0, 0, 0⟩ (.slice none 0 0) := by rw [hy]; exact MiBox.new u3 _ ⟨false, 0, 0, [], 0, 0, 0⟩ _
          have pa : wd9.heap.size ≤ u3.heap.size := hb3.size
          have hb4 : Below wd9.heap.size wd9 u4 := hb3.trans (kq.mono hb3.size)
          rw [← hy]
          clear hy kq
          refine hK _ _ ⟨hb4, ?_⟩
          clear hK K hi
          refine wpAnyH_all (rs := [9]) (by kernel_rfl) (by simp) ?_
          intro i hi; obtain rfl : i = 9 := by simpa using hi
          refine wpOp_step rfl (fun K hK => ?_)
          rw [if_pos (by kernel_rfl)]
          have FQ := FP
          obtain ⟨t0, t1, t2, t3, t4, t5, t6, tf⟩ := FP
          have tg0 := tf 0
          have tg1 := tf 1
          have tg2 := tf 2
          have tg3 := tf 3
          have tg4 := tf 4
          have tg5 := tf 5
          have tg6 := tf 6
          go_simp
          clear t0 t1 t2 t3 t4 t5 t6 tf tg0 tg1 tg2 tg3 tg4 tg5 tg6
          obtain ⟨uf, huf⟩ : ∃ y_, y_ = (((((((u4.setCell ⟨u3.heap.size, 0, none⟩ (.bool D.up)).setCell ⟨u3.heap.size, 1, none⟩ (.int .i64 D.li)).setCell ⟨u3.heap.size, 2, none⟩ (.int .i64 D.ep)).setCell ⟨u3.heap.size, 3, none⟩ (.slice aH D.lg.length cH)).setCell ⟨u3.heap.size, 4, none⟩ (.int .i64 D.sd)).setCell ⟨u3.heap.size, 5, none⟩ (.int .i64 D.ac)).setCell ⟨u3.heap.size, 6, none⟩ (.int .i64 D.al)) := ⟨_, rfl⟩
          have FE : MiBox uf (u3.heap.size) D (.slice aH D.lg.length cH) := by rw [huf]; exact FQ.put D _
          have hbf : Below wd9.heap.size wd9 uf := by rw [huf]; exact below_put7 (q := u3.heap.size) D _ hb4 pa
          have oT_ := oT_.keep (w' := uf) (fun g_ e => by rw [huf]; exact heap_put7 _ _ _ D _ (joT_ g_ e))
          have OH := OH.keep (w' := uf) (fun g_ e => by rw [huf]; exact heap_put7 _ _ _ D _ (jOH g_ e))
          rw [← huf]
          clear huf FQ
          refine hK _ _ ⟨hbf, ?_⟩
          clear hK K hi
          refine takeW 10 15 (.bool nb) rfl rfl (by kernel_rfl) (by kernel_rfl) (by kernel_rfl) (fun _ _ _ h => h) (by kernel_rfl) (by (intro w hSw; go_simp)) (by assumption) ?_
          simp only [List.set_cons_zero, List.set_cons_succ]
          refine wpAnyH_done (by kernel_rfl) ?_ _
          exact hT3.out _ _ ⟨u3.heap.size, aH, cH, [(.tuple #[.agg #[.bool D.up, .int .i64 D.li, .int .i64 D.ep, .slice aH D.lg.length cH, .int .i64 D.sd, .int .i64 D.ac, .int .i64 D.al], .bool nb]), (.agg #[.bool m0.up, .int .i64 m0.li, .int .i64 m0.ep, .slice ad0 m0.lg.length cap0, .int .i64 m0.sd, .int .i64 m0.ac, .int .i64 m0.al]), (.agg #[.bool m0.up, .int .i64 m0.li, .int .i64 m0.ep, .slice (some ⟨gT, 0, none⟩) m0.lg.length m0.lg.length, .int .i64 m0.sd, .int .i64 m0.ac, .int .i64 m0.al]), (.agg #[.int .i64 x1.k, .int .i64 x1.q, .int .i64 x1.r, .int .i64 x1.c, .int .i64 x1.b, .int .i64 x1.p, .int .i64 x1.h, .bool x1.up]), (.agg #[.int .i64 x1.k, .int .i64 x1.q, .int .i64 x1.r, .int .i64 x1.c, .int .i64 x1.b, .int .i64 x1.p, .int .i64 x1.h, .bool x1.up]), (.tuple #[.agg #[.bool D.up, .int .i64 D.li, .int .i64 D.ep, .slice aH D.lg.length cH, .int .i64 D.sd, .int .i64 D.ac, .int .i64 D.al], .bool nb]), (.agg #[.bool D.up, .int .i64 D.li, .int .i64 D.ep, .slice aH D.lg.length cH, .int .i64 D.sd, .int .i64 D.ac, .int .i64 D.al]), (.bool nb)], rfl, by kernel_rfl, FE, OH.base bb, jOH, pa, hbf⟩
        · refine wpOp_step rfl (fun K hK => ?_)
          rw [if_pos (by kernel_rfl)]
          go_simp
          obtain ⟨u3, hy⟩ : ∃ y_, y_ = u2.alloc (Obj.cells #[.bool false, .int .i64 0, .int .i64 0, .slice none 0 0, .int .i64 0, .int .i64 0, .int .i64 0] 47) := ⟨_, rfl⟩
          have kq : Below u2.heap.size u2 u3 := by rw [hy]; exact below_new _
          have joT_ : ∀ g_, (Value.slice (some ⟨gT, 0, none⟩) m0.lg.length m0.lg.length).ownBlock = some g_ → g_ ≠ u2.heap.size := fun g_ e => by have h1 := (oT_.lt g_ e).2; omega
          have oT_ := oT_.later kq
          have FP : MiBox u3 u2.heap.size ⟨false, 0, 0, [], 0, 0, 0⟩ (.slice none 0 0) := by rw [hy]; exact MiBox.new u2 _ ⟨false, 0, 0, [], 0, 0, 0⟩ _
          have pa : wd9.heap.size ≤ u2.heap.size := hb2.size
          have hb3 : Below wd9.heap.size wd9 u3 := hb2.trans (kq.mono hb2.size)
          rw [← hy]
          clear hy kq
          refine hK _ _ ⟨hb3, ?_⟩
          clear hK K hi
          refine wpAnyH_all (rs := [4]) (by kernel_rfl) (by simp) ?_
          intro i hi; obtain rfl : i = 4 := by simpa using hi
          refine wpOp_step rfl (fun K hK => ?_)
          rw [if_pos (by kernel_rfl)]
          go_simp
          go_at_call 19
          refine (noteI m0 x1 (some ⟨gT, 0, none⟩) m0.lg.length u3 oT_.view.2 hl).mono ?_
          rintro e u4 ⟨aH, cH, rfl, OH, kq⟩
          have bb : wd9.heap.size ≤ u3.heap.size := hb3.size
          rw [hD.out] at OH ⊢
          rw [hnb.out]
          have jOH : ∀ g_, (Value.slice aH D.lg.length cH).ownBlock = some g_ → g_ ≠ u2.heap.size := fun g_ e => by have h1 := (OH.lt g_ e).1; have h2 := FP.lt; omega
          have oT_ := oT_.later kq
          have FP := FP.below kq FP.lt
          have hb4 : Below wd9.heap.size wd9 u4 := hb3.trans (kq.mono hb3.size)
          clear kq
          refine hK _ _ ⟨hb4, ?_⟩
          clear hK K hi
          refine takeW 5 79 (.tuple #[.agg #[.bool D.up, .int .i64 D.li, .int .i64 D.ep, .slice aH D.lg.length cH, .int .i64 D.sd, .int .i64 D.ac, .int .i64 D.al], .bool nb]) rfl rfl (by kernel_rfl) (by kernel_rfl) (by kernel_rfl) (fun _ _ _ h => h) (by kernel_rfl) (by (intro w hSw; go_simp)) (by assumption) ?_
          simp only [List.set_cons_zero, List.set_cons_succ]
          refine takeW 6 85 (.agg #[.bool D.up, .int .i64 D.li, .int .i64 D.ep, .slice aH D.lg.length cH, .int .i64 D.sd, .int .i64 D.ac, .int .i64 D.al]) rfl rfl (by kernel_rfl) (by kernel_rfl) (by kernel_rfl) (fun _ _ _ h => h) (by kernel_rfl) (by (intro w hSw; go_simp)) (by assumption) ?_
          simp only [List.set_cons_zero, List.set_cons_succ]
          refine takeW 7 86 (.bool nb) rfl rfl (by kernel_rfl) (by kernel_rfl) (by kernel_rfl) (fun _ _ _ h => h) (by kernel_rfl) (by (intro w hSw; go_simp)) (by assumption) ?_
          simp only [List.set_cons_zero, List.set_cons_succ]
          refine wpAnyH_all (rs := [9]) (by kernel_rfl) (by simp) ?_
          intro i hi; obtain rfl : i = 9 := by simpa using hi
          refine wpOp_step rfl (fun K hK => ?_)
          rw [if_pos (by kernel_rfl)]
          have FQ := FP
          obtain ⟨t0, t1, t2, t3, t4, t5, t6, tf⟩ := FP
          have tg0 := tf 0
          have tg1 := tf 1
          have tg2 := tf 2
          have tg3 := tf 3
          have tg4 := tf 4
          have tg5 := tf 5
          have tg6 := tf 6
          go_simp
          clear t0 t1 t2 t3 t4 t5 t6 tf tg0 tg1 tg2 tg3 tg4 tg5 tg6
          obtain ⟨uf, huf⟩ : ∃ y_, y_ = (((((((u4.setCell ⟨u2.heap.size, 0, none⟩ (.bool D.up)).setCell ⟨u2.heap.size, 1, none⟩ (.int .i64 D.li)).setCell ⟨u2.heap.size, 2, none⟩ (.int .i64 D.ep)).setCell ⟨u2.heap.size, 3, none⟩ (.slice aH D.lg.length cH)).setCell ⟨u2.heap.size, 4, none⟩ (.int .i64 D.sd)).setCell ⟨u2.heap.size, 5, none⟩ (.int .i64 D.ac)).setCell ⟨u2.heap.size, 6, none⟩ (.int .i64 D.al)) := ⟨_, rfl⟩
          have FE : MiBox uf (u2.heap.size) D (.slice aH D.lg.length cH) := by rw [huf]; exact FQ.put D _
          have hbf : Below wd9.heap.size wd9 uf := by rw [huf]; exact below_put7 (q := u2.heap.size) D _ hb4 pa
          have oT_ := oT_.keep (w' := uf) (fun g_ e => by rw [huf]; exact heap_put7 _ _ _ D _ (joT_ g_ e))
          have OH := OH.keep (w' := uf) (fun g_ e => by rw [huf]; exact heap_put7 _ _ _ D _ (jOH g_ e))
          rw [← huf]
          clear huf FQ
          refine hK _ _ ⟨hbf, ?_⟩
          clear hK K hi
          refine takeW 10 15 (.bool nb) rfl rfl (by kernel_rfl) (by kernel_rfl) (by kernel_rfl) (fun _ _ _ h => h) (by kernel_rfl) (by (intro w hSw; go_simp)) (by assumption) ?_
          simp only [List.set_cons_zero, List.set_cons_succ]
          refine wpAnyH_done (by kernel_rfl) ?_ _
          exact hT3.out _ _ ⟨u2.heap.size, aH, cH, [(.tuple #[.agg #[.bool D.up, .int .i64 D.li, .int .i64 D.ep, .slice aH D.lg.length cH, .int .i64 D.sd, .int .i64 D.ac, .int .i64 D.al], .bool nb]), (.agg #[.bool m0.up, .int .i64 m0.li, .int .i64 m0.ep, .slice ad0 m0.lg.length cap0, .int .i64 m0.sd, .int .i64 m0.ac, .int .i64 m0.al]), (.agg #[.bool m0.up, .int .i64 m0.li, .int .i64 m0.ep, .slice (some ⟨gT, 0, none⟩) m0.lg.length m0.lg.length, .int .i64 m0.sd, .int .i64 m0.ac, .int .i64 m0.al]), (.agg #[.int .i64 x1.k, .int .i64 x1.q, .int .i64 x1.r, .int .i64 x1.c, .int .i64 x1.b, .int .i64 x1.p, .int .i64 x1.h, .bool x1.up]), (.agg #[.int .i64 x1.k, .int .i64 x1.q, .int .i64 x1.r, .int .i64 x1.c, .int .i64 x1.b, .int .i64 x1.p, .int .i64 x1.h, .bool x1.up]), (.tuple #[.agg #[.bool D.up, .int .i64 D.li, .int .i64 D.ep, .slice aH D.lg.length cH, .int .i64 D.sd, .int .i64 D.ac, .int .i64 D.al], .bool nb]), (.agg #[.bool D.up, .int .i64 D.li, .int .i64 D.ep, .slice aH D.lg.length cH, .int .i64 D.sd, .int .i64 D.ac, .int .i64 D.al]), (.bool nb)], rfl, by kernel_rfl, FE, OH.base bb, jOH, pa, hbf⟩
      · refine wpOp_step rfl (fun K hK => ?_)
        rw [if_pos (by kernel_rfl)]
        go_simp
        obtain ⟨u2, hy⟩ : ∃ y_, y_ = u1.alloc (Obj.cells #[.bool false, .int .i64 0, .int .i64 0, .slice none 0 0, .int .i64 0, .int .i64 0, .int .i64 0] 47) := ⟨_, rfl⟩
        have kq : Below u1.heap.size u1 u2 := by rw [hy]; exact below_new _
        have joT_ : ∀ g_, (Value.slice (some ⟨gT, 0, none⟩) m0.lg.length m0.lg.length).ownBlock = some g_ → g_ ≠ u1.heap.size := fun g_ e => by have h1 := (oT_.lt g_ e).2; omega
        have oT_ := oT_.later kq
        have FP : MiBox u2 u1.heap.size ⟨false, 0, 0, [], 0, 0, 0⟩ (.slice none 0 0) := by rw [hy]; exact MiBox.new u1 _ ⟨false, 0, 0, [], 0, 0, 0⟩ _
        have pa : wd9.heap.size ≤ u1.heap.size := hb1.size
        have hb2 : Below wd9.heap.size wd9 u2 := hb1.trans (kq.mono hb1.size)
        rw [← hy]
        clear hy kq
        refine hK _ _ ⟨hb2, ?_⟩
        clear hK K hi
        refine wpAnyH_all (rs := [3]) (by kernel_rfl) (by simp) ?_
        intro i hi; obtain rfl : i = 3 := by simpa using hi
        refine wpOp_step rfl (fun K hK => ?_)
        rw [if_pos (by kernel_rfl)]
        go_simp
        go_at_call 18
        refine (toInI x1 u2).mono ?_
        rintro e u3 ⟨rfl, kq⟩
        have oT_ := oT_.later kq
        have FP := FP.below kq FP.lt
        have hb3 : Below wd9.heap.size wd9 u3 := hb2.trans (kq.mono hb2.size)
        clear kq
        refine hK _ _ ⟨hb3, ?_⟩
        clear hK K hi
        refine wpAnyH_all (rs := [4]) (by kernel_rfl) (by simp) ?_
        intro i hi; obtain rfl : i = 4 := by simpa using hi
        refine wpOp_step rfl (fun K hK => ?_)
        rw [if_pos (by kernel_rfl)]
        go_simp
        go_at_call 19
        refine (noteI m0 x1 (some ⟨gT, 0, none⟩) m0.lg.length u3 oT_.view.2 hl).mono ?_
        rintro e u4 ⟨aH, cH, rfl, OH, kq⟩
        have bb : wd9.heap.size ≤ u3.heap.size := hb3.size
        rw [hD.out] at OH ⊢
        rw [hnb.out]
        have jOH : ∀ g_, (Value.slice aH D.lg.length cH).ownBlock = some g_ → g_ ≠ u1.heap.size := fun g_ e => by have h1 := (OH.lt g_ e).1; have h2 := FP.lt; omega
        have oT_ := oT_.later kq
        have FP := FP.below kq FP.lt
        have hb4 : Below wd9.heap.size wd9 u4 := hb3.trans (kq.mono hb3.size)
        clear kq
        refine hK _ _ ⟨hb4, ?_⟩
        clear hK K hi
        refine takeW 5 79 (.tuple #[.agg #[.bool D.up, .int .i64 D.li, .int .i64 D.ep, .slice aH D.lg.length cH, .int .i64 D.sd, .int .i64 D.ac, .int .i64 D.al], .bool nb]) rfl rfl (by kernel_rfl) (by kernel_rfl) (by kernel_rfl) (fun _ _ _ h => h) (by kernel_rfl) (by (intro w hSw; go_simp)) (by assumption) ?_
        simp only [List.set_cons_zero, List.set_cons_succ]
        refine takeW 6 85 (.agg #[.bool D.up, .int .i64 D.li, .int .i64 D.ep, .slice aH D.lg.length cH, .int .i64 D.sd, .int .i64 D.ac, .int .i64 D.al]) rfl rfl (by kernel_rfl) (by kernel_rfl) (by kernel_rfl) (fun _ _ _ h => h) (by kernel_rfl) (by (intro w hSw; go_simp)) (by assumption) ?_
        simp only [List.set_cons_zero, List.set_cons_succ]
        refine takeW 7 86 (.bool nb) rfl rfl (by kernel_rfl) (by kernel_rfl) (by kernel_rfl) (fun _ _ _ h => h) (by kernel_rfl) (by (intro w hSw; go_simp)) (by assumption) ?_
        simp only [List.set_cons_zero, List.set_cons_succ]
        refine wpAnyH_all (rs := [9]) (by kernel_rfl) (by simp) ?_
        intro i hi; obtain rfl : i = 9 := by simpa using hi
        refine wpOp_step rfl (fun K hK => ?_)
        rw [if_pos (by kernel_rfl)]
        have FQ := FP
        obtain ⟨t0, t1, t2, t3, t4, t5, t6, tf⟩ := FP
        have tg0 := tf 0
        have tg1 := tf 1
        have tg2 := tf 2
        have tg3 := tf 3
        have tg4 := tf 4
        have tg5 := tf 5
        have tg6 := tf 6
        go_simp
        clear t0 t1 t2 t3 t4 t5 t6 tf tg0 tg1 tg2 tg3 tg4 tg5 tg6
        obtain ⟨uf, huf⟩ : ∃ y_, y_ = (((((((u4.setCell ⟨u1.heap.size, 0, none⟩ (.bool D.up)).setCell ⟨u1.heap.size, 1, none⟩ (.int .i64 D.li)).setCell ⟨u1.heap.size, 2, none⟩ (.int .i64 D.ep)).setCell ⟨u1.heap.size, 3, none⟩ (.slice aH D.lg.length cH)).setCell ⟨u1.heap.size, 4, none⟩ (.int .i64 D.sd)).setCell ⟨u1.heap.size, 5, none⟩ (.int .i64 D.ac)).setCell ⟨u1.heap.size, 6, none⟩ (.int .i64 D.al)) := ⟨_, rfl⟩
        have FE : MiBox uf (u1.heap.size) D (.slice aH D.lg.length cH) := by rw [huf]; exact FQ.put D _
        have hbf : Below wd9.heap.size wd9 uf := by rw [huf]; exact below_put7 (q := u1.heap.size) D _ hb4 pa
        have oT_ := oT_.keep (w' := uf) (fun g_ e => by rw [huf]; exact heap_put7 _ _ _ D _ (joT_ g_ e))
        have OH := OH.keep (w' := uf) (fun g_ e => by rw [huf]; exact heap_put7 _ _ _ D _ (jOH g_ e))
        rw [← huf]
        clear huf FQ
        refine hK _ _ ⟨hbf, ?_⟩
        clear hK K hi
        refine takeW 10 15 (.bool nb) rfl rfl (by kernel_rfl) (by kernel_rfl) (by kernel_rfl) (fun _ _ _ h => h) (by kernel_rfl) (by (intro w hSw; go_simp)) (by assumption) ?_
        simp only [List.set_cons_zero, List.set_cons_succ]
        refine wpAnyH_done (by kernel_rfl) ?_ _
        exact hT3.out _ _ ⟨u1.heap.size, aH, cH, [(.tuple #[.agg #[.bool D.up, .int .i64 D.li, .int .i64 D.ep, .slice aH D.lg.length cH, .int .i64 D.sd, .int .i64 D.ac, .int .i64 D.al], .bool nb]), (.agg #[.bool m0.up, .int .i64 m0.li, .int .i64 m0.ep, .slice ad0 m0.lg.length cap0, .int .i64 m0.sd, .int .i64 m0.ac, .int .i64 m0.al]), (.agg #[.bool m0.up, .int .i64 m0.li, .int .i64 m0.ep, .slice (some ⟨gT, 0, none⟩) m0.lg.length m0.lg.length, .int .i64 m0.sd, .int .i64 m0.ac, .int .i64 m0.al]), (.agg #[.int .i64 x1.k, .int .i64 x1.q, .int .i64 x1.r, .int .i64 x1.c, .int .i64 x1.b, .int .i64 x1.p, .int .i64 x1.h, .bool x1.up]), (.agg #[.int .i64 x1.k, .int .i64 x1.q, .int .i64 x1.r, .int .i64 x1.c, .int .i64 x1.b, .int .i64 x1.p, .int .i64 x1.h, .bool x1.up]), (.tuple #[.agg #[.bool D.up, .int .i64 D.li, .int .i64 D.ep, .slice aH D.lg.length cH, .int .i64 D.sd, .int .i64 D.ac, .int .i64 D.al], .bool nb]), (.agg #[.bool D.up, .int .i64 D.li, .int .i64 D.ep, .slice aH D.lg.length cH, .int .i64 D.sd, .int .i64 D.ac, .int .i64 D.al]), (.bool nb)], rfl, by kernel_rfl, FE, OH.base bb, jOH, pa, hbf⟩
    · refine wpOp_step rfl (fun K hK => ?_)
      rw [if_pos (by kernel_rfl)]
      go_simp
      obtain ⟨u1, hy⟩ : ∃ y_, y_ = u0.alloc (Obj.cells #[.bool false, .int .i64 0, .int .i64 0, .slice none 0 0, .int .i64 0, .int .i64 0, .int .i64 0] 47) := ⟨_, rfl⟩
      have kq : Below u0.heap.size u0 u1 := by rw [hy]; exact below_new _
      have FP : MiBox u1 u0.heap.size ⟨false, 0, 0, [], 0, 0, 0⟩ (.slice none 0 0) := by rw [hy]; exact MiBox.new u0 _ ⟨false, 0, 0, [], 0, 0, 0⟩ _
      have pa : wd9.heap.size ≤ u0.heap.size := hb0.size
      have hb1 : Below wd9.heap.size wd9 u1 := hb0.trans (kq.mono hb0.size)
      rw [← hy]
      clear hy kq
      refine hK _ _ ⟨hb1, ?_⟩
      clear hK K hi
      refine wpAnyH_all (rs := [1]) (by kernel_rfl) (by simp) ?_
      intro i hi; obtain rfl : i = 1 := by simpa using hi
      refine wpOp_step rfl (fun K hK => ?_)
      rw [if_pos (by kernel_rfl)]
      go_simp
      go_at_call 17
      refine (miTo m0 ad0 cap0 u1 (V0.below hb1 (V0.lt ikEnc_len (by omega))) hl).mono ?_
      rintro e u2 ⟨gT, rfl, _, _, oT_, kq⟩
      have joT_ : ∀ g_, (Value.slice (some ⟨gT, 0, none⟩) m0.lg.length m0.lg.length).ownBlock = some g_ → g_ ≠ u0.heap.size := fun g_ e => by have h1 := (oT_.lt g_ e).1; have h2 := FP.lt; omega
      have FP := FP.below kq FP.lt
      have hb2 : Below wd9.heap.size wd9 u2 := hb1.trans (kq.mono hb1.size)
      clear kq
      refine hK _ _ ⟨hb2, ?_⟩
      clear hK K hi
      refine wpAnyH_all (rs := [3]) (by kernel_rfl) (by simp) ?_
      intro i hi; obtain rfl : i = 3 := by simpa using hi
      refine wpOp_step rfl (fun K hK => ?_)
      rw [if_pos (by kernel_rfl)]
      go_simp
      go_at_call 18
      refine (toInI x1 u2).mono ?_
      rintro e u3 ⟨rfl, kq⟩
      have oT_ := oT_.later kq
      have FP := FP.below kq FP.lt
      have hb3 : Below wd9.heap.size wd9 u3 := hb2.trans (kq.mono hb2.size)
      clear kq
      refine hK _ _ ⟨hb3, ?_⟩
      clear hK K hi
      refine wpAnyH_all (rs := [4]) (by kernel_rfl) (by simp) ?_
      intro i hi; obtain rfl : i = 4 := by simpa using hi
      refine wpOp_step rfl (fun K hK => ?_)
      rw [if_pos (by kernel_rfl)]
      go_simp
      go_at_call 19
      refine (noteI m0 x1 (some ⟨gT, 0, none⟩) m0.lg.length u3 oT_.view.2 hl).mono ?_
      rintro e u4 ⟨aH, cH, rfl, OH, kq⟩
      have bb : wd9.heap.size ≤ u3.heap.size := hb3.size
      rw [hD.out] at OH ⊢
      rw [hnb.out]
      have jOH : ∀ g_, (Value.slice aH D.lg.length cH).ownBlock = some g_ → g_ ≠ u0.heap.size := fun g_ e => by have h1 := (OH.lt g_ e).1; have h2 := FP.lt; omega
      have oT_ := oT_.later kq
      have FP := FP.below kq FP.lt
      have hb4 : Below wd9.heap.size wd9 u4 := hb3.trans (kq.mono hb3.size)
      clear kq
      refine hK _ _ ⟨hb4, ?_⟩
      clear hK K hi
      refine takeW 5 79 (.tuple #[.agg #[.bool D.up, .int .i64 D.li, .int .i64 D.ep, .slice aH D.lg.length cH, .int .i64 D.sd, .int .i64 D.ac, .int .i64 D.al], .bool nb]) rfl rfl (by kernel_rfl) (by kernel_rfl) (by kernel_rfl) (fun _ _ _ h => h) (by kernel_rfl) (by (intro w hSw; go_simp)) (by assumption) ?_
      simp only [List.set_cons_zero, List.set_cons_succ]
      refine takeW 6 85 (.agg #[.bool D.up, .int .i64 D.li, .int .i64 D.ep, .slice aH D.lg.length cH, .int .i64 D.sd, .int .i64 D.ac, .int .i64 D.al]) rfl rfl (by kernel_rfl) (by kernel_rfl) (by kernel_rfl) (fun _ _ _ h => h) (by kernel_rfl) (by (intro w hSw; go_simp)) (by assumption) ?_
      simp only [List.set_cons_zero, List.set_cons_succ]
      refine takeW 7 86 (.bool nb) rfl rfl (by kernel_rfl) (by kernel_rfl) (by kernel_rfl) (fun _ _ _ h => h) (by kernel_rfl) (by (intro w hSw; go_simp)) (by assumption) ?_
      simp only [List.set_cons_zero, List.set_cons_succ]
      refine wpAnyH_all (rs := [9]) (by kernel_rfl) (by simp) ?_
      intro i hi; obtain rfl : i = 9 := by simpa using hi
      refine wpOp_step rfl (fun K hK => ?_)
      rw [if_pos (by kernel_rfl)]
      have FQ := FP
      obtain ⟨t0, t1, t2, t3, t4, t5, t6, tf⟩ := FP
      have tg0 := tf 0
      have tg1 := tf 1
      have tg2 := tf 2
      have tg3 := tf 3
      have tg4 := tf 4
      have tg5 := tf 5
      have tg6 := tf 6
      go_simp
      clear t0 t1 t2 t3 t4 t5 t6 tf tg0 tg1 tg2 tg3 tg4 tg5 tg6
      obtain ⟨uf, huf⟩ : ∃ y_, y_ = (((((((u4.setCell ⟨u0.heap.size, 0, none⟩ (.bool D.up)).setCell ⟨u0.heap.size, 1, none⟩ (.int .i64 D.li)).setCell ⟨u0.heap.size, 2, none⟩ (.int .i64 D.ep)).setCell ⟨u0.heap.size, 3, none⟩ (.slice aH D.lg.length cH)).setCell ⟨u0.heap.size, 4, none⟩ (.int .i64 D.sd)).setCell ⟨u0.heap.size, 5, none⟩ (.int .i64 D.ac)).setCell ⟨u0.heap.size, 6, none⟩ (.int .i64 D.al)) := ⟨_, rfl⟩
      have FE : MiBox uf (u0.heap.size) D (.slice aH D.lg.length cH) := by rw [huf]; exact FQ.put D _
      have hbf : Below wd9.heap.size wd9 uf := by rw [huf]; exact below_put7 (q := u0.heap.size) D _ hb4 pa
      have oT_ := oT_.keep (w' := uf) (fun g_ e => by rw [huf]; exact heap_put7 _ _ _ D _ (joT_ g_ e))
      have OH := OH.keep (w' := uf) (fun g_ e => by rw [huf]; exact heap_put7 _ _ _ D _ (jOH g_ e))
      rw [← huf]
      clear huf FQ
      refine hK _ _ ⟨hbf, ?_⟩
      clear hK K hi
      refine takeW 10 15 (.bool nb) rfl rfl (by kernel_rfl) (by kernel_rfl) (by kernel_rfl) (fun _ _ _ h => h) (by kernel_rfl) (by (intro w hSw; go_simp)) (by assumption) ?_
      simp only [List.set_cons_zero, List.set_cons_succ]
      refine wpAnyH_done (by kernel_rfl) ?_ _
      exact hT3.out _ _ ⟨u0.heap.size, aH, cH, [(.tuple #[.agg #[.bool D.up, .int .i64 D.li, .int .i64 D.ep, .slice aH D.lg.length cH, .int .i64 D.sd, .int .i64 D.ac, .int .i64 D.al], .bool nb]), (.agg #[.bool m0.up, .int .i64 m0.li, .int .i64 m0.ep, .slice ad0 m0.lg.length cap0, .int .i64 m0.sd, .int .i64 m0.ac, .int .i64 m0.al]), (.agg #[.bool m0.up, .int .i64 m0.li, .int .i64 m0.ep, .slice (some ⟨gT, 0, none⟩) m0.lg.length m0.lg.length, .int .i64 m0.sd, .int .i64 m0.ac, .int .i64 m0.al]), (.agg #[.int .i64 x1.k, .int .i64 x1.q, .int .i64 x1.r, .int .i64 x1.c, .int .i64 x1.b, .int .i64 x1.p, .int .i64 x1.h, .bool x1.up]), (.agg #[.int .i64 x1.k, .int .i64 x1.q, .int .i64 x1.r, .int .i64 x1.c, .int .i64 x1.b, .int .i64 x1.p, .int .i64 x1.h, .bool x1.up]), (.tuple #[.agg #[.bool D.up, .int .i64 D.li, .int .i64 D.ep, .slice aH D.lg.length cH, .int .i64 D.sd, .int .i64 D.ac, .int .i64 D.al], .bool nb]), (.agg #[.bool D.up, .int .i64 D.li, .int .i64 D.ep, .slice aH D.lg.length cH, .int .i64 D.sd, .int .i64 D.ac, .int .i64 D.al]), (.bool nb)], rfl, by kernel_rfl, FE, OH.base bb, jOH, pa, hbf⟩
  rintro l' wd10 ⟨PH, aH, cH, us, hul, rfl, FEH, OH, jOH, pH, kq⟩
  obtain ⟨u79, us, rfl⟩ : ∃ a b, us = a :: b := List.exists_cons_of_length_eq_add_one hul
  replace hul := Nat.succ.inj hul
  obtain ⟨u80, us, rfl⟩ : ∃ a b, us = a :: b := List.exists_cons_of_length_eq_add_one hul
  replace hul := Nat.succ.inj hul
  obtain ⟨u81, us, rfl⟩ : ∃ a b, us = a :: b := List.exists_cons_of_length_eq_add_one hul
  replace hul := Nat.succ.inj hul
  obtain ⟨u82, us, rfl⟩ : ∃ a b, us = a :: b := List.exists_cons_of_length_eq_add_one hul
  replace hul := Nat.succ.inj hul
  obtain ⟨u83, us, rfl⟩ : ∃ a b, us = a :: b := List.exists_cons_of_length_eq_add_one hul
  replace hul := Nat.succ.inj hul
  obtain ⟨u84, us, rfl⟩ : ∃ a b, us = a :: b := List.exists_cons_of_length_eq_add_one hul
  replace hul := Nat.succ.inj hul
  obtain ⟨u85, us, rfl⟩ : ∃ a b, us = a :: b := List.exists_cons_of_length_eq_add_one hul
  replace hul := Nat.succ.inj hul
  obtain ⟨u86, us, rfl⟩ : ∃ a b, us = a :: b := List.exists_cons_of_length_eq_add_one hul
  replace hul := Nat.succ.inj hul
  obtain rfl : us = [] := List.eq_nil_of_length_eq_zero hul
  clear hul
  simp only [List.take, List.drop, List.cons_append, List.nil_append]
  have AH := FEH.at_
  clear FEH
  have lH := AH.lt
  have swd10 := kq.size
  have A0 := A0.below kq A0.lt
  have AW := AW.below kq AW.lt
  have AX := AX.below kq AX.lt
  have AG := AG.below kq AG.lt
  have V0 := V0.below kq (V0.lt ikEnc_len (by omega))
  have OW := OW.later kq
  have OG := OG.later kq
  have N1 := N1.below kq N1.lt
  have BW := BW.trans (kq.mono BW.size)
  clear kq
  have iOH : ∀ g, (Value.slice aH D.lg.length cH).ownBlock = some g → wd9.heap.size ≤ g ∧ g < wd10.heap.size := fun g e => OH.lt g e
  have cc := AH
  obtain ⟨m0_0, m0_1, m0_2, m0_3, m0_4, m0_5, m0_6⟩ := cc
  have cc := AW
  obtain ⟨m1_0, m1_1, m1_2, m1_3, m1_4, m1_5, m1_6⟩ := cc
  go_wp2_with fail
  go_at_call 20
  clear m0_0 m0_1 m0_2 m0_3 m0_4 m0_5 m0_6 m1_0 m1_1 m1_2 m1_3 m1_4 m1_5 m1_6
  refine (miEq D aH aW cH cW wd10 OH.view.2 OW.view.2 hDl).mono ?_
  rintro e wd11 ⟨rfl, kq⟩
  have swd11 := kq.size
  have A0 := A0.below kq A0.lt
  have AW := AW.below kq AW.lt
  have AX := AX.below kq AX.lt
  have AG := AG.below kq AG.lt
  have AH := AH.below kq AH.lt
  have V0 := V0.below kq (V0.lt ikEnc_len (by omega))
  have OW := OW.later kq
  have OG := OG.later kq
  have OH := OH.later kq
  have N1 := N1.below kq N1.lt
  have BW := BW.trans (kq.mono BW.size)
  clear kq
  have cc := AG
  obtain ⟨m0_0, m0_1, m0_2, m0_3, m0_4, m0_5, m0_6⟩ := cc
  go_wp2_with fail
  go_at_call 22
  clear m0_0 m0_1 m0_2 m0_3 m0_4 m0_5 m0_6
  refine (miHeld D aG cG 1 wd11 (by have := OG.view.2; exact this) hDl (by decide) (by decide)).mono ?_
  rintro e wd12 ⟨rfl, kq⟩
  have swd12 := kq.size
  have A0 := A0.below kq A0.lt
  have AW := AW.below kq AW.lt
  have AX := AX.below kq AX.lt
  have AG := AG.below kq AG.lt
  have AH := AH.below kq AH.lt
  have V0 := V0.below kq (V0.lt ikEnc_len (by omega))
  have OW := OW.later kq
  have OG := OG.later kq
  have OH := OH.later kq
  have N1 := N1.below kq N1.lt
  have BW := BW.trans (kq.mono BW.size)
  clear kq
  rw [← hm.out]
  go_wp2
  go_ret
  exact ⟨rfl, BW⟩


set_option maxRecDepth 100000 in
theorem lifted (os : Os) (started : os.Started) (H : Type) (enc : TypeId × Value → H) :
    ReturnsInHanded {} Try.checked os 4 .any (Rows.fnExactNoteSpec.pre6 enc Try.prog Try.f4 Rows.fnExactNoteRow.domain false) (Rows.fnExactNoteSpec.post enc Try.prog Try.f4 false true false false) := by
  refine returnsInHanded_of_change (C := Try.checked) own started (by kernel_rfl) Try.func4
    (ChangeSpec.witness6 (enc := enc) (C := Try.checked) false ⟨#[], #[.agg #[.bool false, .int .i64 0, .int .i64 0, .slice none 0 0, .int .i64 0, .int .i64 0, .int .i64 0], .agg #[.int .i64 0, .int .i64 0, .int .i64 0, .int .i64 0, .int .i64 0, .int .i64 0, .int .i64 0, .bool false]], []⟩ 8 (by kernel_rfl) (by kernel_rfl) (by kernel_rfl) (by kernel_rfl)) ?_
  intro W base args ds gs before hval0 hW hcnd _
  have hval : ∀ (j : Nat) t v, Try.f4.params[j]? = some t → args[j]? = some v → Value.okWide Try.prog W .any base t v := hval0
  have hW' := hW
  obtain ⟨p, q, hA0, hV, rfl, hfz, hnd⟩ := hW
  have hA : DataW.TrodAll enc Try.prog W 0 (fun _ => true) true Try.f4.params.toList args.toList ds p := hA0
  rw [Try.params4] at hA hval
  obtain ⟨v0, vs0, d0, ds0, p0, q0, hargs, rfl, rfl, h0, r0⟩ := trodAll_cons hA
  obtain ⟨v1, vs1, d1, ds1, p1, q1, rfl, rfl, rfl, h1, r1⟩ := trodAll_cons r0
  obtain ⟨rfl, rfl, rfl⟩ := trodAll_nil r1
  obtain rfl : args = #[v0, v1] := by cases args; simp_all
  obtain ⟨rfl, rfl⟩ := trodVars_none hV
  obtain ⟨m0, ad0, cap0, rfl, I0⟩ := miIn_open (hval 0 39 v0 rfl rfl) h0
  have lt0 : ∀ x ∈ p0, x.block < W.heap.size := by obtain ⟨m, hm⟩ := h0; exact DataW.trod_lt m _ _ _ hm
  obtain ⟨x1, rfl, I1⟩ := inIn_open (hval 1 43 v1 rfl rfl) h1
  have lt1 : ∀ x ∈ p1, x.block < W.heap.size := by obtain ⟨m, hm⟩ := h1; exact DataW.trod_lt m _ _ _ hm
  clear hA0 hval0
  refine (walk m0 ad0 cap0 x1 W I0 I1).mono fun e W' ⟨he, bel⟩ => ?_
  subst he
  exact ⟨_, rfl, _, _, _, [], _, [], hW', trodAll_mk1 (shut_bool Try.underlying4 _), (trodAll_cons_mk (Below.trod laidOut (by kernel_rfl) (of_decide_eq_true (by kernel_rfl)) h0 bel lt0) (trodAll_cons_mk (Below.trod laidOut (by kernel_rfl) (of_decide_eq_true (by kernel_rfl)) h1 bel lt1) trodAll_mk0)), rfl, bel.frame _, fun h => by cases h⟩

theorem over : Rows.fnExactNoteRow.holds Try.pinned (OpenSpec.ofChange Rows.fnExactNoteSpec) :=
  OpenClaim.holds_of_wide 4 Try.f4 rfl rfl rfl rfl rfl rfl rfl ⟨rfl, rfl, rfl, rfl, rfl⟩ rfl rfl rfl rfl rfl (by kernel_rfl) Try.func4 (by kernel_rfl)
    (of_decide_eq_true (by kernel_rfl)) (by unfold Func.isWrapper; first | (rw [if_pos (by decide +kernel)]; kernel_rfl) | (rw [if_neg (by decide +kernel)]; exact ⟨rfl, rfl⟩))
    (fun os started H enc _ => lifted os started H enc)

theorem proved : Rows.FnExactNoteSaid := over
end Go.Proofs.Ytghmmcenjdbfgab.fnExactNote
namespace Go.Proofs.Ytghmmcenjdbfgab
theorem note_holds : Rows.FnExactNoteSaid := fnExactNote.proved
#print axioms note_holds
end Go.Proofs.Ytghmmcenjdbfgab
