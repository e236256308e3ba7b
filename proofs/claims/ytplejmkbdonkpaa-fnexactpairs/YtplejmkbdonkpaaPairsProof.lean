/- FnExactPairs, proved: at every register, number, minder and life the program's Pairs answers as the specification's, and no argument is written into; no condition. -/
import Derived.Test.YtplejmkbdonkpaaRows
import Derived.Test.YtplejmkbdonkpaaRr5
import Derived.Test.YtplejmkbdonkpaaRr7
import Derived.Test.YtplejmkbdonkpaaRg3
import Derived.Test.YtplejmkbdonkpaaMi2
import Derived.Test.YtplejmkbdonkpaaTakes
import Derived.Deep.Cut
import Derived.WalkKit
import Derived.Below
import Derived.ChangeOld
import Derived.WalkSmall
import Derived.ProofKit
import Derived.OpenShut
import Derived.ShutString
import Derived.BigQuiet
namespace Go.Proofs.Ytplejmkbdonkpaa.fnExactPairs
open Go.ChangeShapes Go.WideShapes Go.ChangeAt Go.RowKit
set_option linter.unusedVariables false

theorem own : ownKnob Try.prog.godebug = none := by kernel_rfl
theorem laidOut : laidOutB Try.prog = true := by kernel_rfl

set_option maxRecDepth 100000 in
theorem intIn_open {H : Type} {enc : TypeId × Value → H} {w : World} {r : Reach} {b0 : Nat} {v : Value} {d : DataW H} {p : List MemPlace} (hv : Value.okWide Try.prog w r b0 3 v) (h : DataW.Trod enc Try.prog w 0 (fun _ => true) true 3 v d p) : ∃ n : Int, v = .int .i64 n ∧ (Lit.int .i64 n).wf = true := by
  obtain ⟨n, rfl, _, _, I⟩ := open_int Try.underlying3 hv h
  exact ⟨n, rfl, I⟩
set_option maxRecDepth 100000 in
theorem boolIn_open {H : Type} {enc : TypeId × Value → H} {w : World} {r : Reach} {b0 : Nat} {v : Value} {d : DataW H} {p : List MemPlace} (hv : Value.okWide Try.prog w r b0 4 v) (h : DataW.Trod enc Try.prog w 0 (fun _ => true) true 4 v d p) : ∃ b : Bool, v = .bool b ∧ True := by
  obtain ⟨b, rfl, _, _⟩ := open_bool Try.underlying4 hv h
  exact ⟨b, rfl, trivial⟩
theorem join_any {P : Program} {md : Region.Mode} {ops : Array Oper} {Q : Exit → Act → World → Prop} {S : World → Prop} {ds : List Deferred} {l : List Value} {W : World} {m : Nat} {lst : Array Bool} (n : Nat) (ls : Array Bool) (R : List Value → List Value → World → Prop) (h1 : ∀ l' W', R l l' W' → wpAnyH P md ops Q S n ls ⟨l'.toArray, ds⟩ W') (h2 : Hid (∀ l' W', R l l' W' → wpAnyH P md ops Q S n ls ⟨l'.toArray, ds⟩ W') → wpAnyH P md ops Q S m lst ⟨l.toArray, ds⟩ W) : wpAnyH P md ops Q S m lst ⟨l.toArray, ds⟩ W := h2 h1
theorem relist {P : Program} {md : Region.Mode} {ops : Array Oper} {Q : Exit → Act → World → Prop} {S : World → Prop} {a : Act} {W : World} {m : Nat} {lst : Array Bool} (n : Nat) (ls : Array Bool) (hn : m = n) (hl : lst = ls) (h : wpAnyH P md ops Q S n ls a W) : wpAnyH P md ops Q S m lst a W := by rw [hn, hl]; exact h
theorem pairsSw (r : Rg) (s : Int) (m : Mi) (ad : Option Addr) (cap : Nat) (p : Int) (w : World) (hv : FView ikEnc w ad m.lg) (hl : m.lg.length ≤ 1048577) :
    Calls Try.prog 32 #[.agg #[.int .i64 r.ep, .int .i64 r.ow, .int .i64 r.pa], .int .i64 s, .agg #[.bool m.up, .int .i64 m.li, .int .i64 m.ep, .slice ad m.lg.length cap, .int .i64 m.sd, .int .i64 m.ac, .int .i64 m.al], .int .i64 p] w fun e w' => e = .returned (.tuple #[.agg #[.int .i64 (pairsR r s m p).ep, .int .i64 (pairsR r s m p).ow, .int .i64 (pairsR r s m p).pa], .bool (pairsB r s m p)]) ∧ Below w.heap.size w w' := pairsS r s m ad cap p w hv hl
theorem pairsIw (r : Rg) (s : Int) (m : Mi) (ad : Option Addr) (cap : Nat) (p : Int) (w : World) (hv : FView ikEnc w ad m.lg) (hl : m.lg.length ≤ 1048577) :
    Calls Try.prog 33 #[.agg #[.int .i64 r.ep, .int .i64 r.ow, .int .i64 r.pa], .int .i64 s, .agg #[.bool m.up, .int .i64 m.li, .int .i64 m.ep, .slice ad m.lg.length cap, .int .i64 m.sd, .int .i64 m.ac, .int .i64 m.al], .int .i64 p] w fun e w' => e = .returned (.tuple #[.agg #[.int .i64 (pairsR r s m p).ep, .int .i64 (pairsR r s m p).ow, .int .i64 (pairsR r s m p).pa], .bool (pairsB r s m p)]) ∧ Below w.heap.size w w' := pairsI r s m ad cap p w hv hl
set_option maxHeartbeats 16000000 in
set_option maxRecDepth 100000 in
theorem walk (rg0 : Rg) (n1 : Int) (m2 : Mi) (ad2 : Option Addr) (cap2 : Nat) (n3 : Int) (w : World) (I0 : True) (I1 : (Lit.int .i64 n1).wf = true) (I2 : MiIn w ad2 cap2 m2) (I3 : (Lit.int .i64 n3).wf = true) :
    Calls Try.prog 7 #[.agg #[.int .i64 rg0.ep, .int .i64 rg0.ow, .int .i64 rg0.pa], .int .i64 n1, .agg #[.bool m2.up, .int .i64 m2.li, .int .i64 m2.ep, .slice ad2 m2.lg.length cap2, .int .i64 m2.sd, .int .i64 m2.ac, .int .i64 m2.al], .int .i64 n3] w fun e w' => e = .returned (.bool true) ∧ Below w.heap.size w w' := by
  obtain ⟨hlm, V2, hn2⟩ := I2
  obtain ⟨y0, hx⟩ : ∃ y_, y_ = (w.alloc (Obj.cells #[.int .i64 rg0.ep, .int .i64 rg0.ow, .int .i64 rg0.pa] 42)).alloc (Obj.cells #[.bool m2.up, .int .i64 m2.li, .int .i64 m2.ep, .slice ad2 m2.lg.length cap2, .int .i64 m2.sd, .int .i64 m2.ac, .int .i64 m2.al] 49) := ⟨_, rfl⟩
  have A0 : RgAt y0 w.heap.size rg0 := by rw [hx]; constructor <;> simp [go_sem]
  have A2 : MiAt y0 (w.heap.size + 1) m2 (.slice ad2 m2.lg.length cap2) := by rw [hx]; constructor <;> simp [go_sem]
  have BW : Below w.heap.size w y0 := by rw [hx]; exact ((Below.refl _ _).alloc (Nat.le_refl _) _).alloc (by simp) _
  have lx0 := A2.lt
  have vb : ∀ a, ad2 = some a → 0 < m2.lg.length → a.block < w.heap.size := V2.lt ikEnc_len (by omega)
  have V2 := V2.below BW vb
  go_enter Try.func7, Try.ntmps7
  go_wp2_with fail
  go_at_call 22
  rw [← hx]
  clear hx
  refine (miSz m2 ad2 cap2 1048576 y0 (by decide) (by decide) hlm).mono ?_
  rintro e y1 ⟨rfl, kq⟩
  have sy1 := kq.size
  have A0 := A0.below kq A0.lt
  have A2 := A2.below kq A2.lt
  have V2 := V2.below kq (V2.lt ikEnc_len (by omega))
  have BW := BW.trans (kq.mono BW.size)
  clear kq
  by_cases hl : m2.lg.length ≤ 1048576
  rotate_left
  · rw [if_neg (by omega)]
    go_wp2
    go_ret
    exact ⟨rfl, BW⟩
  rw [if_pos (by omega)]
  have hlf : 0 ≤ 1048576 - (m2.lg.length : Int) := by omega
  generalize 1048576 - (m2.lg.length : Int) = lf at hlf ⊢
  obtain ⟨o, hO⟩ : ∃ o, pairsB rg0 n1 m2 n3 = o := ⟨_, rfl⟩
  replace hO : Hid _ := hO
  obtain ⟨D, hD⟩ : ∃ D, pairsR rg0 n1 m2 n3 = D := ⟨_, rfl⟩
  replace hD : Hid _ := hD
  go_upto_region 5 with fail
  refine wp_region_held (S := fun Y => Below y1.heap.size y1 Y) (by kernel_rfl) ?_
  change wpAnyH _ _ _ _ _ _ _ _ (World.drew _)
  have hb0 : Below y1.heap.size y1 y1.drew := (Below.refl _ _).drew
  obtain ⟨u0, hy0⟩ : ∃ y_, y_ = y1.drew := ⟨_, rfl⟩
  rw [← hy0] at hb0 ⊢
  clear hy0
  refine join_any 2 #[true, true, true, true, true, true, true, true, true, true, true, false, false] (fun l l' W' => ∃ (P : Nat) (us : List Value), us.length = 6 ∧ l' = l.take 10 ++ (.pointer (some ⟨P, 0, none⟩) :: (l.drop 11).take 9) ++ ((.tuple #[.agg #[.int .i64 D.ep, .int .i64 D.ow, .int .i64 D.pa], .bool o]) :: us) ++ ((.tuple #[.agg #[.int .i64 D.ep, .int .i64 D.ow, .int .i64 D.pa], .bool o]) :: .agg #[.int .i64 D.ep, .int .i64 D.ow, .int .i64 D.pa] :: .bool o :: l.drop 30) ∧ RgBox W' P ⟨0, 0, 0⟩ ∧ y1.heap.size ≤ P ∧ Below y1.heap.size y1 W') ?_ ?_
  rotate_left
  · intro hTT
    refine takeW 0 21 (.agg #[.int .i64 rg0.ep, .int .i64 rg0.ow, .int .i64 rg0.pa]) rfl rfl (by kernel_rfl) (by kernel_rfl) (by kernel_rfl) (fun _ _ _ h => h) (by kernel_rfl) (by (intro Y hSw; obtain ⟨X0, X1, X2⟩ := A0.below hSw A0.lt; go_simp)) (by assumption) ?_
    simp only [List.set_cons_zero, List.set_cons_succ]
    refine takeW 2 23 (.int .i64 n1) rfl rfl (by kernel_rfl) (by kernel_rfl) (by kernel_rfl) (fun _ _ _ h => h) (by kernel_rfl) (by (intro w hSw; go_simp)) (by assumption) ?_
    simp only [List.set_cons_zero, List.set_cons_succ]
    refine takeW 3 24 (.agg #[.bool m2.up, .int .i64 m2.li, .int .i64 m2.ep, .slice ad2 m2.lg.length cap2, .int .i64 m2.sd, .int .i64 m2.ac, .int .i64 m2.al]) rfl rfl (by kernel_rfl) (by kernel_rfl) (by kernel_rfl) (fun _ _ _ h => h) (by kernel_rfl) (by (intro Y hSw; obtain ⟨X0, X1, X2, X3, X4, X5, X6⟩ := A2.below hSw A2.lt; go_simp)) (by assumption) ?_
    simp only [List.set_cons_zero, List.set_cons_succ]
    refine takeW 5 26 (.int .i64 n3) rfl rfl (by kernel_rfl) (by kernel_rfl) (by kernel_rfl) (fun _ _ _ h => h) (by kernel_rfl) (by (intro w hSw; go_simp)) (by assumption) ?_
    simp only [List.set_cons_zero, List.set_cons_succ]
    refine wpAnyH_all (rs := [1, 10]) (by kernel_rfl) (by simp) ?_
    intro i hi; rcases (by simpa using hi : i = 1 ∨ i = 10) with rfl | rfl
    · refine wpOp_step rfl (fun Kz hKz => ?_)
      rw [if_pos (by kernel_rfl)]
      go_simp
      go_at_call 20
      refine (toRg rg0 u0).mono ?_
      rintro e u1 ⟨rfl, kq⟩
      have hb1 : Below y1.heap.size y1 u1 := hb0.trans (kq.mono hb0.size)
      clear kq
      refine hKz _ _ ⟨hb1, ?_⟩
      clear hKz Kz hi
      refine wpAnyH_all (rs := [4, 10]) (by kernel_rfl) (by simp) ?_
      intro i hi; rcases (by simpa using hi : i = 4 ∨ i = 10) with rfl | rfl
      · refine wpOp_step rfl (fun Kz hKz => ?_)
        rw [if_pos (by kernel_rfl)]
        go_simp
        go_at_call 24
        refine (miTo m2 ad2 cap2 u1 (V2.below hb1 (V2.lt ikEnc_len (by omega))) hl).mono ?_
        rintro e u2 ⟨gT, rfl, _, _, oT, kq⟩
        have hb2 : Below y1.heap.size y1 u2 := hb1.trans (kq.mono hb1.size)
        clear kq
        refine hKz _ _ ⟨hb2, ?_⟩
        clear hKz Kz hi
        refine wpAnyH_all (rs := [6, 10]) (by kernel_rfl) (by simp) ?_
        intro i hi; rcases (by simpa using hi : i = 6 ∨ i = 10) with rfl | rfl
        · refine wpOp_step rfl (fun Kz hKz => ?_)
          rw [if_pos (by kernel_rfl)]
          go_simp
          go_at_call 32
          refine (pairsSw rg0 n1 m2 (some ⟨gT, 0, none⟩) m2.lg.length n3 u2 oT.view.2 (by omega)).mono ?_
          rintro e u3 ⟨rfl, kq⟩
          rw [hD.out, hO.out]
          have oT := oT.later kq
          have hb3 : Below y1.heap.size y1 u3 := hb2.trans (kq.mono hb2.size)
          clear kq
          refine hKz _ _ ⟨hb3, ?_⟩
          clear hKz Kz hi
          refine takeW 7 20 (.tuple #[.agg #[.int .i64 D.ep, .int .i64 D.ow, .int .i64 D.pa], .bool o]) rfl rfl (by kernel_rfl) (by kernel_rfl) (by kernel_rfl) (fun _ _ _ h => h) (by kernel_rfl) (by (intro w hSw; go_simp)) (by assumption) ?_
          simp only [List.set_cons_zero, List.set_cons_succ]
          refine takeW 8 28 (.agg #[.int .i64 D.ep, .int .i64 D.ow, .int .i64 D.pa]) rfl rfl (by kernel_rfl) (by kernel_rfl) (by kernel_rfl) (fun _ _ _ h => h) (by kernel_rfl) (by (intro w hSw; go_simp)) (by assumption) ?_
          simp only [List.set_cons_zero, List.set_cons_succ]
          refine takeW 9 29 (.bool o) rfl rfl (by kernel_rfl) (by kernel_rfl) (by kernel_rfl) (fun _ _ _ h => h) (by kernel_rfl) (by (intro w hSw; go_simp)) (by assumption) ?_
          simp only [List.set_cons_zero, List.set_cons_succ]
          refine wpAnyH_all (rs := [10]) (by kernel_rfl) (by simp) ?_
          intro i hi; obtain rfl : i = 10 := by simpa using hi
          refine wpOp_step rfl (fun Kz hKz => ?_)
          rw [if_pos (by kernel_rfl)]
          go_simp
          obtain ⟨u4, hy⟩ : ∃ y_, y_ = u3.alloc (Obj.cells #[.int .i64 0, .int .i64 0, .int .i64 0] 44) := ⟨_, rfl⟩
          have kq : Below u3.heap.size u3 u4 := by rw [hy]; exact below_new _
          have joT0 : ∀ g_, (Value.slice (some ⟨gT, 0, none⟩) m2.lg.length m2.lg.length).ownBlock = some g_ → g_ ≠ u3.heap.size := fun g_ e => by have h1 := (oT.lt g_ e).2; omega
          have oT := oT.later kq
          have F0 : RgBox u4 u3.heap.size ⟨0, 0, 0⟩ := by rw [hy]; refine ⟨?_, fun i => ?_⟩; constructor <;> simp [go_sem]; simp [go_sem]
          have p0 : y1.heap.size ≤ u3.heap.size := hb3.size
          have hb4 : Below y1.heap.size y1 u4 := hb3.trans (kq.mono hb3.size)
          rw [← hy]
          clear hy kq
          refine hKz _ _ ⟨hb4, ?_⟩
          clear hKz Kz hi
          refine relist 2 #[true, true, true, true, true, true, true, true, true, true, true, false, false] (by kernel_rfl) (by kernel_rfl) ?_
          exact hTT.out _ _ ⟨u3.heap.size, [(.agg #[.int .i64 rg0.ep, .int .i64 rg0.ow, .int .i64 rg0.pa]), (.agg #[.int .i64 rg0.ep, .int .i64 rg0.ow, .int .i64 rg0.pa]), (.int .i64 n1), (.agg #[.bool m2.up, .int .i64 m2.li, .int .i64 m2.ep, .slice ad2 m2.lg.length cap2, .int .i64 m2.sd, .int .i64 m2.ac, .int .i64 m2.al]), (.agg #[.bool m2.up, .int .i64 m2.li, .int .i64 m2.ep, .slice (some ⟨gT, 0, none⟩) m2.lg.length m2.lg.length, .int .i64 m2.sd, .int .i64 m2.ac, .int .i64 m2.al]), (.int .i64 n3)], rfl, by kernel_rfl, F0, p0, hb4⟩
        · refine wpOp_step rfl (fun Kz hKz => ?_)
          rw [if_pos (by kernel_rfl)]
          go_simp
          obtain ⟨u3, hy⟩ : ∃ y_, y_ = u2.alloc (Obj.cells #[.int .i64 0, .int .i64 0, .int .i64 0] 44) := ⟨_, rfl⟩
          have kq : Below u2.heap.size u2 u3 := by rw [hy]; exact below_new _
          have joT0 : ∀ g_, (Value.slice (some ⟨gT, 0, none⟩) m2.lg.length m2.lg.length).ownBlock = some g_ → g_ ≠ u2.heap.size := fun g_ e => by have h1 := (oT.lt g_ e).2; omega
          have oT := oT.later kq
          have F0 : RgBox u3 u2.heap.size ⟨0, 0, 0⟩ := by rw [hy]; refine ⟨?_, fun i => ?_⟩; constructor <;> simp [go_sem]; simp [go_sem]
          have p0 : y1.heap.size ≤ u2.heap.size := hb2.size
          have hb3 : Below y1.heap.size y1 u3 := hb2.trans (kq.mono hb2.size)
          rw [← hy]
          clear hy kq
          refine hKz _ _ ⟨hb3, ?_⟩
          clear hKz Kz hi
          refine wpAnyH_all (rs := [6]) (by kernel_rfl) (by simp) ?_
          intro i hi; obtain rfl : i = 6 := by simpa using hi
          refine wpOp_step rfl (fun Kz hKz => ?_)
          rw [if_pos (by kernel_rfl)]
          go_simp
          go_at_call 32
          refine (pairsSw rg0 n1 m2 (some ⟨gT, 0, none⟩) m2.lg.length n3 u3 oT.view.2 (by omega)).mono ?_
          rintro e u4 ⟨rfl, kq⟩
          rw [hD.out, hO.out]
          have oT := oT.later kq
          have F0 := F0.below kq F0.lt
          have hb4 : Below y1.heap.size y1 u4 := hb3.trans (kq.mono hb3.size)
          clear kq
          refine hKz _ _ ⟨hb4, ?_⟩
          clear hKz Kz hi
          refine takeW 7 20 (.tuple #[.agg #[.int .i64 D.ep, .int .i64 D.ow, .int .i64 D.pa], .bool o]) rfl rfl (by kernel_rfl) (by kernel_rfl) (by kernel_rfl) (fun _ _ _ h => h) (by kernel_rfl) (by (intro w hSw; go_simp)) (by assumption) ?_
          simp only [List.set_cons_zero, List.set_cons_succ]
          refine takeW 8 28 (.agg #[.int .i64 D.ep, .int .i64 D.ow, .int .i64 D.pa]) rfl rfl (by kernel_rfl) (by kernel_rfl) (by kernel_rfl) (fun _ _ _ h => h) (by kernel_rfl) (by (intro w hSw; go_simp)) (by assumption) ?_
          simp only [List.set_cons_zero, List.set_cons_succ]
          refine takeW 9 29 (.bool o) rfl rfl (by kernel_rfl) (by kernel_rfl) (by kernel_rfl) (fun _ _ _ h => h) (by kernel_rfl) (by (intro w hSw; go_simp)) (by assumption) ?_
          simp only [List.set_cons_zero, List.set_cons_succ]
          refine relist 2 #[true, true, true, true, true, true, true, true, true, true, true, false, false] (by kernel_rfl) (by kernel_rfl) ?_
          exact hTT.out _ _ ⟨u2.heap.size, [(.agg #[.int .i64 rg0.ep, .int .i64 rg0.ow, .int .i64 rg0.pa]), (.agg #[.int .i64 rg0.ep, .int .i64 rg0.ow, .int .i64 rg0.pa]), (.int .i64 n1), (.agg #[.bool m2.up, .int .i64 m2.li, .int .i64 m2.ep, .slice ad2 m2.lg.length cap2, .int .i64 m2.sd, .int .i64 m2.ac, .int .i64 m2.al]), (.agg #[.bool m2.up, .int .i64 m2.li, .int .i64 m2.ep, .slice (some ⟨gT, 0, none⟩) m2.lg.length m2.lg.length, .int .i64 m2.sd, .int .i64 m2.ac, .int .i64 m2.al]), (.int .i64 n3)], rfl, by kernel_rfl, F0, p0, hb4⟩
      · refine wpOp_step rfl (fun Kz hKz => ?_)
        rw [if_pos (by kernel_rfl)]
        go_simp
        obtain ⟨u2, hy⟩ : ∃ y_, y_ = u1.alloc (Obj.cells #[.int .i64 0, .int .i64 0, .int .i64 0] 44) := ⟨_, rfl⟩
        have kq : Below u1.heap.size u1 u2 := by rw [hy]; exact below_new _
        have F0 : RgBox u2 u1.heap.size ⟨0, 0, 0⟩ := by rw [hy]; refine ⟨?_, fun i => ?_⟩; constructor <;> simp [go_sem]; simp [go_sem]
        have p0 : y1.heap.size ≤ u1.heap.size := hb1.size
        have hb2 : Below y1.heap.size y1 u2 := hb1.trans (kq.mono hb1.size)
        rw [← hy]
        clear hy kq
        refine hKz _ _ ⟨hb2, ?_⟩
        clear hKz Kz hi
        refine wpAnyH_all (rs := [4]) (by kernel_rfl) (by simp) ?_
        intro i hi; obtain rfl : i = 4 := by simpa using hi
        refine wpOp_step rfl (fun Kz hKz => ?_)
        rw [if_pos (by kernel_rfl)]
        go_simp
        go_at_call 24
        refine (miTo m2 ad2 cap2 u2 (V2.below hb2 (V2.lt ikEnc_len (by omega))) hl).mono ?_
        rintro e u3 ⟨gT, rfl, _, _, oT, kq⟩
        have joT0 : ∀ g_, (Value.slice (some ⟨gT, 0, none⟩) m2.lg.length m2.lg.length).ownBlock = some g_ → g_ ≠ u1.heap.size := fun g_ e => by have h1 := (oT.lt g_ e).1; have h2 := F0.lt; omega
        have F0 := F0.below kq F0.lt
        have hb3 : Below y1.heap.size y1 u3 := hb2.trans (kq.mono hb2.size)
        clear kq
        refine hKz _ _ ⟨hb3, ?_⟩
        clear hKz Kz hi
        refine wpAnyH_all (rs := [6]) (by kernel_rfl) (by simp) ?_
        intro i hi; obtain rfl : i = 6 := by simpa using hi
        refine wpOp_step rfl (fun Kz hKz => ?_)
        rw [if_pos (by kernel_rfl)]
        go_simp
        go_at_call 32
        refine (pairsSw rg0 n1 m2 (some ⟨gT, 0, none⟩) m2.lg.length n3 u3 oT.view.2 (by omega)).mono ?_
        rintro e u4 ⟨rfl, kq⟩
        rw [hD.out, hO.out]
        have oT := oT.later kq
        have F0 := F0.below kq F0.lt
        have hb4 : Below y1.heap.size y1 u4 := hb3.trans (kq.mono hb3.size)
        clear kq
        refine hKz _ _ ⟨hb4, ?_⟩
        clear hKz Kz hi
        refine takeW 7 20 (.tuple #[.agg #[.int .i64 D.ep, .int .i64 D.ow, .int .i64 D.pa], .bool o]) rfl rfl (by kernel_rfl) (by kernel_rfl) (by kernel_rfl) (fun _ _ _ h => h) (by kernel_rfl) (by (intro w hSw; go_simp)) (by assumption) ?_
        simp only [List.set_cons_zero, List.set_cons_succ]
        refine takeW 8 28 (.agg #[.int .i64 D.ep, .int .i64 D.ow, .int .i64 D.pa]) rfl rfl (by kernel_rfl) (by kernel_rfl) (by kernel_rfl) (fun _ _ _ h => h) (by kernel_rfl) (by (intro w hSw; go_simp)) (by assumption) ?_
        simp only [List.set_cons_zero, List.set_cons_succ]
        refine takeW 9 29 (.bool o) rfl rfl (by kernel_rfl) (by kernel_rfl) (by kernel_rfl) (fun _ _ _ h => h) (by kernel_rfl) (by (intro w hSw; go_simp)) (by assumption) ?_
        simp only [List.set_cons_zero, List.set_cons_succ]
        refine relist 2 #[true, true, true, true, true, true, true, true, true, true, true, false, false] (by kernel_rfl) (by kernel_rfl) ?_
        exact hTT.out _ _ ⟨u1.heap.size, [(.agg #[.int .i64 rg0.ep, .int .i64 rg0.ow, .int .i64 rg0.pa]), (.agg #[.int .i64 rg0.ep, .int .i64 rg0.ow, .int .i64 rg0.pa]), (.int .i64 n1), (.agg #[.bool m2.up, .int .i64 m2.li, .int .i64 m2.ep, .slice ad2 m2.lg.length cap2, .int .i64 m2.sd, .int .i64 m2.ac, .int .i64 m2.al]), (.agg #[.bool m2.up, .int .i64 m2.li, .int .i64 m2.ep, .slice (some ⟨gT, 0, none⟩) m2.lg.length m2.lg.length, .int .i64 m2.sd, .int .i64 m2.ac, .int .i64 m2.al]), (.int .i64 n3)], rfl, by kernel_rfl, F0, p0, hb4⟩
    · refine wpOp_step rfl (fun Kz hKz => ?_)
      rw [if_pos (by kernel_rfl)]
      go_simp
      obtain ⟨u1, hy⟩ : ∃ y_, y_ = u0.alloc (Obj.cells #[.int .i64 0, .int .i64 0, .int .i64 0] 44) := ⟨_, rfl⟩
      have kq : Below u0.heap.size u0 u1 := by rw [hy]; exact below_new _
      have F0 : RgBox u1 u0.heap.size ⟨0, 0, 0⟩ := by rw [hy]; refine ⟨?_, fun i => ?_⟩; constructor <;> simp [go_sem]; simp [go_sem]
      have p0 : y1.heap.size ≤ u0.heap.size := hb0.size
      have hb1 : Below y1.heap.size y1 u1 := hb0.trans (kq.mono hb0.size)
      rw [← hy]
      clear hy kq
      refine hKz _ _ ⟨hb1, ?_⟩
      clear hKz Kz hi
      refine wpAnyH_all (rs := [1]) (by kernel_rfl) (by simp) ?_
      intro i hi; obtain rfl : i = 1 := by simpa using hi
      refine wpOp_step rfl (fun Kz hKz => ?_)
      rw [if_pos (by kernel_rfl)]
      go_simp
      go_at_call 20
      refine (toRg rg0 u1).mono ?_
      rintro e u2 ⟨rfl, kq⟩
      have F0 := F0.below kq F0.lt
      have hb2 : Below y1.heap.size y1 u2 := hb1.trans (kq.mono hb1.size)
      clear kq
      refine hKz _ _ ⟨hb2, ?_⟩
      clear hKz Kz hi
      refine wpAnyH_all (rs := [4]) (by kernel_rfl) (by simp) ?_
      intro i hi; obtain rfl : i = 4 := by simpa using hi
      refine wpOp_step rfl (fun Kz hKz => ?_)
      rw [if_pos (by kernel_rfl)]
      go_simp
      go_at_call 24
      refine (miTo m2 ad2 cap2 u2 (V2.below hb2 (V2.lt ikEnc_len (by omega))) hl).mono ?_
      rintro e u3 ⟨gT, rfl, _, _, oT, kq⟩
      have joT0 : ∀ g_, (Value.slice (some ⟨gT, 0, none⟩) m2.lg.length m2.lg.length).ownBlock = some g_ → g_ ≠ u0.heap.size := fun g_ e => by have h1 := (oT.lt g_ e).1; have h2 := F0.lt; omega
      have F0 := F0.below kq F0.lt
      have hb3 : Below y1.heap.size y1 u3 := hb2.trans (kq.mono hb2.size)
      clear kq
      refine hKz _ _ ⟨hb3, ?_⟩
      clear hKz Kz hi
      refine wpAnyH_all (rs := [6]) (by kernel_rfl) (by simp) ?_
      intro i hi; obtain rfl : i = 6 := by simpa using hi
      refine wpOp_step rfl (fun Kz hKz => ?_)
      rw [if_pos (by kernel_rfl)]
      go_simp
      go_at_call 32
      refine (pairsSw rg0 n1 m2 (some ⟨gT, 0, none⟩) m2.lg.length n3 u3 oT.view.2 (by omega)).mono ?_
      rintro e u4 ⟨rfl, kq⟩
      rw [hD.out, hO.out]
      have oT := oT.later kq
      have F0 := F0.below kq F0.lt
      have hb4 : Below y1.heap.size y1 u4 := hb3.trans (kq.mono hb3.size)
      clear kq
      refine hKz _ _ ⟨hb4, ?_⟩
      clear hKz Kz hi
      refine takeW 7 20 (.tuple #[.agg #[.int .i64 D.ep, .int .i64 D.ow, .int .i64 D.pa], .bool o]) rfl rfl (by kernel_rfl) (by kernel_rfl) (by kernel_rfl) (fun _ _ _ h => h) (by kernel_rfl) (by (intro w hSw; go_simp)) (by assumption) ?_
      simp only [List.set_cons_zero, List.set_cons_succ]
      refine takeW 8 28 (.agg #[.int .i64 D.ep, .int .i64 D.ow, .int .i64 D.pa]) rfl rfl (by kernel_rfl) (by kernel_rfl) (by kernel_rfl) (fun _ _ _ h => h) (by kernel_rfl) (by (intro w hSw; go_simp)) (by assumption) ?_
      simp only [List.set_cons_zero, List.set_cons_succ]
      refine takeW 9 29 (.bool o) rfl rfl (by kernel_rfl) (by kernel_rfl) (by kernel_rfl) (fun _ _ _ h => h) (by kernel_rfl) (by (intro w hSw; go_simp)) (by assumption) ?_
      simp only [List.set_cons_zero, List.set_cons_succ]
      refine relist 2 #[true, true, true, true, true, true, true, true, true, true, true, false, false] (by kernel_rfl) (by kernel_rfl) ?_
      exact hTT.out _ _ ⟨u0.heap.size, [(.agg #[.int .i64 rg0.ep, .int .i64 rg0.ow, .int .i64 rg0.pa]), (.agg #[.int .i64 rg0.ep, .int .i64 rg0.ow, .int .i64 rg0.pa]), (.int .i64 n1), (.agg #[.bool m2.up, .int .i64 m2.li, .int .i64 m2.ep, .slice ad2 m2.lg.length cap2, .int .i64 m2.sd, .int .i64 m2.ac, .int .i64 m2.al]), (.agg #[.bool m2.up, .int .i64 m2.li, .int .i64 m2.ep, .slice (some ⟨gT, 0, none⟩) m2.lg.length m2.lg.length, .int .i64 m2.sd, .int .i64 m2.ac, .int .i64 m2.al]), (.int .i64 n3)], rfl, by kernel_rfl, F0, p0, hb4⟩
  clear hb0 u0
  rintro l' at0 ⟨PW, us, hul, rfl, F0, p0, ahc0⟩
  obtain ⟨v21, us, rfl⟩ : ∃ a b, us = a :: b := List.exists_cons_of_length_eq_add_one hul
  replace hul := Nat.succ.inj hul
  obtain ⟨v22, us, rfl⟩ : ∃ a b, us = a :: b := List.exists_cons_of_length_eq_add_one hul
  replace hul := Nat.succ.inj hul
  obtain ⟨v23, us, rfl⟩ : ∃ a b, us = a :: b := List.exists_cons_of_length_eq_add_one hul
  replace hul := Nat.succ.inj hul
  obtain ⟨v24, us, rfl⟩ : ∃ a b, us = a :: b := List.exists_cons_of_length_eq_add_one hul
  replace hul := Nat.succ.inj hul
  obtain ⟨v25, us, rfl⟩ : ∃ a b, us = a :: b := List.exists_cons_of_length_eq_add_one hul
  replace hul := Nat.succ.inj hul
  obtain ⟨v26, us, rfl⟩ : ∃ a b, us = a :: b := List.exists_cons_of_length_eq_add_one hul
  replace hul := Nat.succ.inj hul
  obtain rfl : us = [] := List.eq_nil_of_length_eq_zero hul
  clear hul
  simp only [List.take, List.drop, List.cons_append, List.nil_append]
  refine wpAnyH_all (rs := [11]) (by kernel_rfl) (by simp) ?_
  intro i hi; obtain rfl : i = 11 := by simpa using hi
  refine wpOp_step rfl (fun Kz hKz => ?_)
  rw [if_pos (by kernel_rfl)]
  have cc := F0
  obtain ⟨⟨z0, z1, z2⟩, zf⟩ := cc
  have z3 := zf 0
  have z4 := zf 1
  have z5 := zf 2
  go_simp
  clear z0 z1 z2 z3 z4 z5 zf
  obtain ⟨at1, aht1⟩ : ∃ y_, y_ = (((at0.setCell ⟨PW, 0, none⟩ (.int .i64 D.ep)).setCell ⟨PW, 1, none⟩ (.int .i64 D.ow)).setCell ⟨PW, 2, none⟩ (.int .i64 D.pa)) := ⟨_, rfl⟩
  have AW : RgAt at1 PW D := by rw [aht1]; exact (F0.put D).at_
  have ahc1 : Below y1.heap.size y1 at1 := by rw [aht1]; exact below_put3 D ahc0 p0
  rw [← aht1]
  clear aht1 F0 ahc0
  refine hKz _ _ ⟨ahc1, ?_⟩
  clear hKz Kz hi
  refine takeW 12 11 (.bool o) rfl rfl (by kernel_rfl) (by kernel_rfl) (by kernel_rfl) (fun _ _ _ h => h) (by kernel_rfl) (by (intro w hSw; go_simp)) (by assumption) ?_
  simp only [List.set_cons_zero, List.set_cons_succ]
  refine wpAnyH_done (by kernel_rfl) ?_ _
  have ast1 := ahc1.size
  have A0 := A0.below ahc1 A0.lt
  have A2 := A2.below ahc1 A2.lt
  have V2 := V2.below ahc1 (V2.lt ikEnc_len (by omega))
  have BW := BW.trans (ahc1.mono BW.size)
  clear ahc1
  have cc := A2
  obtain ⟨m0_0, m0_1, m0_2, m0_3, m0_4, m0_5, m0_6⟩ := cc
  go_wp2_with fail
  go_at_call 24
  clear m0_0 m0_1 m0_2 m0_3 m0_4 m0_5 m0_6
  refine (miTo m2 ad2 cap2 at1 V2 hl).mono ?_
  rintro e wd2 ⟨gOX, rfl, _, _, OX, kq⟩
  have swd2 := kq.size
  have A0 := A0.below kq A0.lt
  have AW := AW.below kq AW.lt
  have A2 := A2.below kq A2.lt
  have V2 := V2.below kq (V2.lt ikEnc_len (by omega))
  have BW := BW.trans (kq.mono BW.size)
  clear kq
  have iOX : ∀ g, (Value.slice (some ⟨gOX, 0, none⟩) m2.lg.length m2.lg.length).ownBlock = some g → at1.heap.size ≤ g ∧ g < wd2.heap.size := fun g e => OX.lt g e
  obtain ⟨wd3, hwd3⟩ : ∃ y_, y_ = wd2.alloc (Obj.cells #[.bool m2.up, .int .i64 m2.li, .int .i64 m2.ep, .slice (some ⟨gOX, 0, none⟩) m2.lg.length m2.lg.length, .int .i64 m2.sd, .int .i64 m2.ac, .int .i64 m2.al] 26) := ⟨_, rfl⟩
  have AX : MiAt wd3 wd2.heap.size m2 (.slice (some ⟨gOX, 0, none⟩) m2.lg.length m2.lg.length) := by rw [hwd3]; exact MiAt.new wd2 _ _ _
  have kq : Below wd2.heap.size wd2 wd3 := by rw [hwd3]; exact below_new _
  have lwd3 := AX.lt
  have swd3 := kq.size
  have A0 := A0.below kq A0.lt
  have AW := AW.below kq AW.lt
  have A2 := A2.below kq A2.lt
  have V2 := V2.below kq (V2.lt ikEnc_len (by omega))
  have OX := OX.later kq
  have BW := BW.trans (kq.mono BW.size)
  clear kq
  go_upto_region 7 with fail
  rw [← hwd3]
  clear hwd3
  go_upto_region 7 with fail
  refine wp_region_held (S := fun Y => Below wd3.heap.size wd3 Y) (by kernel_rfl) ?_
  change wpAnyH _ _ _ _ _ _ _ _ (World.drew _)
  have hb0 : Below wd3.heap.size wd3 wd3.drew := (Below.refl _ _).drew
  obtain ⟨u0, hy0⟩ : ∃ y_, y_ = wd3.drew := ⟨_, rfl⟩
  rw [← hy0] at hb0 ⊢
  clear hy0
  refine join_any 2 #[true, true, true, true, true, true, true, true, true, true, false, false] (fun l l' W' => ∃ (P : Nat) (us : List Value), us.length = 5 ∧ l' = l.take 13 ++ (.pointer (some ⟨P, 0, none⟩) :: (l.drop 14).take 18) ++ ((.tuple #[.agg #[.int .i64 D.ep, .int .i64 D.ow, .int .i64 D.pa], .bool o]) :: us) ++ ((.tuple #[.agg #[.int .i64 D.ep, .int .i64 D.ow, .int .i64 D.pa], .bool o]) :: .agg #[.int .i64 D.ep, .int .i64 D.ow, .int .i64 D.pa] :: .bool o :: l.drop 41) ∧ RgBox W' P ⟨0, 0, 0⟩ ∧ wd3.heap.size ≤ P ∧ Below wd3.heap.size wd3 W') ?_ ?_
  rotate_left
  · intro hTT
    refine takeW 0 33 (.agg #[.int .i64 rg0.ep, .int .i64 rg0.ow, .int .i64 rg0.pa]) rfl rfl (by kernel_rfl) (by kernel_rfl) (by kernel_rfl) (fun _ _ _ h => h) (by kernel_rfl) (by (intro Y hSw; obtain ⟨X0, X1, X2⟩ := A0.below hSw A0.lt; go_simp)) (by assumption) ?_
    simp only [List.set_cons_zero, List.set_cons_succ]
    refine takeW 2 35 (.int .i64 n1) rfl rfl (by kernel_rfl) (by kernel_rfl) (by kernel_rfl) (fun _ _ _ h => h) (by kernel_rfl) (by (intro w hSw; go_simp)) (by assumption) ?_
    simp only [List.set_cons_zero, List.set_cons_succ]
    refine takeW 3 36 (.agg #[.bool m2.up, .int .i64 m2.li, .int .i64 m2.ep, .slice (some ⟨gOX, 0, none⟩) m2.lg.length m2.lg.length, .int .i64 m2.sd, .int .i64 m2.ac, .int .i64 m2.al]) rfl rfl (by kernel_rfl) (by kernel_rfl) (by kernel_rfl) (fun _ _ _ h => h) (by kernel_rfl) (by (intro Y hSw; obtain ⟨X0, X1, X2, X3, X4, X5, X6⟩ := AX.below hSw AX.lt; go_simp)) (by assumption) ?_
    simp only [List.set_cons_zero, List.set_cons_succ]
    refine takeW 4 37 (.int .i64 n3) rfl rfl (by kernel_rfl) (by kernel_rfl) (by kernel_rfl) (fun _ _ _ h => h) (by kernel_rfl) (by (intro w hSw; go_simp)) (by assumption) ?_
    simp only [List.set_cons_zero, List.set_cons_succ]
    refine wpAnyH_all (rs := [1, 9]) (by kernel_rfl) (by simp) ?_
    intro i hi; rcases (by simpa using hi : i = 1 ∨ i = 9) with rfl | rfl
    · refine wpOp_step rfl (fun Kz hKz => ?_)
      rw [if_pos (by kernel_rfl)]
      go_simp
      go_at_call 20
      refine (toRg rg0 u0).mono ?_
      rintro e u1 ⟨rfl, kq⟩
      have hb1 : Below wd3.heap.size wd3 u1 := hb0.trans (kq.mono hb0.size)
      clear kq
      refine hKz _ _ ⟨hb1, ?_⟩
      clear hKz Kz hi
      refine wpAnyH_all (rs := [5, 9]) (by kernel_rfl) (by simp) ?_
      intro i hi; rcases (by simpa using hi : i = 5 ∨ i = 9) with rfl | rfl
      · refine wpOp_step rfl (fun Kz hKz => ?_)
        rw [if_pos (by kernel_rfl)]
        go_simp
        go_at_call 33
        refine (pairsIw rg0 n1 m2 (some ⟨gOX, 0, none⟩) m2.lg.length n3 u1 (OX.later hb1).view.2 (by omega)).mono ?_
        rintro e u2 ⟨rfl, kq⟩
        rw [hD.out, hO.out]
        have hb2 : Below wd3.heap.size wd3 u2 := hb1.trans (kq.mono hb1.size)
        clear kq
        refine hKz _ _ ⟨hb2, ?_⟩
        clear hKz Kz hi
        refine takeW 6 32 (.tuple #[.agg #[.int .i64 D.ep, .int .i64 D.ow, .int .i64 D.pa], .bool o]) rfl rfl (by kernel_rfl) (by kernel_rfl) (by kernel_rfl) (fun _ _ _ h => h) (by kernel_rfl) (by (intro w hSw; go_simp)) (by assumption) ?_
        simp only [List.set_cons_zero, List.set_cons_succ]
        refine takeW 7 39 (.agg #[.int .i64 D.ep, .int .i64 D.ow, .int .i64 D.pa]) rfl rfl (by kernel_rfl) (by kernel_rfl) (by kernel_rfl) (fun _ _ _ h => h) (by kernel_rfl) (by (intro w hSw; go_simp)) (by assumption) ?_
        simp only [List.set_cons_zero, List.set_cons_succ]
        refine takeW 8 40 (.bool o) rfl rfl (by kernel_rfl) (by kernel_rfl) (by kernel_rfl) (fun _ _ _ h => h) (by kernel_rfl) (by (intro w hSw; go_simp)) (by assumption) ?_
        simp only [List.set_cons_zero, List.set_cons_succ]
        refine wpAnyH_all (rs := [9]) (by kernel_rfl) (by simp) ?_
        intro i hi; obtain rfl : i = 9 := by simpa using hi
        refine wpOp_step rfl (fun Kz hKz => ?_)
        rw [if_pos (by kernel_rfl)]
        go_simp
        obtain ⟨u3, hy⟩ : ∃ y_, y_ = u2.alloc (Obj.cells #[.int .i64 0, .int .i64 0, .int .i64 0] 44) := ⟨_, rfl⟩
        have kq : Below u2.heap.size u2 u3 := by rw [hy]; exact below_new _
        have F0 : RgBox u3 u2.heap.size ⟨0, 0, 0⟩ := by rw [hy]; refine ⟨?_, fun i => ?_⟩; constructor <;> simp [go_sem]; simp [go_sem]
        have p0 : wd3.heap.size ≤ u2.heap.size := hb2.size
        have hb3 : Below wd3.heap.size wd3 u3 := hb2.trans (kq.mono hb2.size)
        rw [← hy]
        clear hy kq
        refine hKz _ _ ⟨hb3, ?_⟩
        clear hKz Kz hi
        refine relist 2 #[true, true, true, true, true, true, true, true, true, true, false, false] (by kernel_rfl) (by kernel_rfl) ?_
        exact hTT.out _ _ ⟨u2.heap.size, [(.agg #[.int .i64 rg0.ep, .int .i64 rg0.ow, .int .i64 rg0.pa]), (.agg #[.int .i64 rg0.ep, .int .i64 rg0.ow, .int .i64 rg0.pa]), (.int .i64 n1), (.agg #[.bool m2.up, .int .i64 m2.li, .int .i64 m2.ep, .slice (some ⟨gOX, 0, none⟩) m2.lg.length m2.lg.length, .int .i64 m2.sd, .int .i64 m2.ac, .int .i64 m2.al]), (.int .i64 n3)], rfl, by kernel_rfl, F0, p0, hb3⟩
      · refine wpOp_step rfl (fun Kz hKz => ?_)
        rw [if_pos (by kernel_rfl)]
        go_simp
        obtain ⟨u2, hy⟩ : ∃ y_, y_ = u1.alloc (Obj.cells #[.int .i64 0, .int .i64 0, .int .i64 0] 44) := ⟨_, rfl⟩
        have kq : Below u1.heap.size u1 u2 := by rw [hy]; exact below_new _
        have F0 : RgBox u2 u1.heap.size ⟨0, 0, 0⟩ := by rw [hy]; refine ⟨?_, fun i => ?_⟩; constructor <;> simp [go_sem]; simp [go_sem]
        have p0 : wd3.heap.size ≤ u1.heap.size := hb1.size
        have hb2 : Below wd3.heap.size wd3 u2 := hb1.trans (kq.mono hb1.size)
        rw [← hy]
        clear hy kq
        refine hKz _ _ ⟨hb2, ?_⟩
        clear hKz Kz hi
        refine wpAnyH_all (rs := [5]) (by kernel_rfl) (by simp) ?_
        intro i hi; obtain rfl : i = 5 := by simpa using hi
        refine wpOp_step rfl (fun Kz hKz => ?_)
        rw [if_pos (by kernel_rfl)]
        go_simp
        go_at_call 33
        refine (pairsIw rg0 n1 m2 (some ⟨gOX, 0, none⟩) m2.lg.length n3 u2 (OX.later hb2).view.2 (by omega)).mono ?_
        rintro e u3 ⟨rfl, kq⟩
        rw [hD.out, hO.out]
        have F0 := F0.below kq F0.lt
        have hb3 : Below wd3.heap.size wd3 u3 := hb2.trans (kq.mono hb2.size)
        clear kq
        refine hKz _ _ ⟨hb3, ?_⟩
        clear hKz Kz hi
        refine takeW 6 32 (.tuple #[.agg #[.int .i64 D.ep, .int .i64 D.ow, .int .i64 D.pa], .bool o]) rfl rfl (by kernel_rfl) (by kernel_rfl) (by kernel_rfl) (fun _ _ _ h => h) (by kernel_rfl) (by (intro w hSw; go_simp)) (by assumption) ?_
        simp only [List.set_cons_zero, List.set_cons_succ]
        refine takeW 7 39 (.agg #[.int .i64 D.ep, .int .i64 D.ow, .int .i64 D.pa]) rfl rfl (by kernel_rfl) (by kernel_rfl) (by kernel_rfl) (fun _ _ _ h => h) (by kernel_rfl) (by (intro w hSw; go_simp)) (by assumption) ?_
        simp only [List.set_cons_zero, List.set_cons_succ]
        refine takeW 8 40 (.bool o) rfl rfl (by kernel_rfl) (by kernel_rfl) (by kernel_rfl) (fun _ _ _ h => h) (by kernel_rfl) (by (intro w hSw; go_simp)) (by assumption) ?_
        simp only [List.set_cons_zero, List.set_cons_succ]
        refine relist 2 #[true, true, true, true, true, true, true, true, true, true, false, false] (by kernel_rfl) (by kernel_rfl) ?_
        exact hTT.out _ _ ⟨u1.heap.size, [(.agg #[.int .i64 rg0.ep, .int .i64 rg0.ow, .int .i64 rg0.pa]), (.agg #[.int .i64 rg0.ep, .int .i64 rg0.ow, .int .i64 rg0.pa]), (.int .i64 n1), (.agg #[.bool m2.up, .int .i64 m2.li, .int .i64 m2.ep, .slice (some ⟨gOX, 0, none⟩) m2.lg.length m2.lg.length, .int .i64 m2.sd, .int .i64 m2.ac, .int .i64 m2.al]), (.int .i64 n3)], rfl, by kernel_rfl, F0, p0, hb3⟩
    · refine wpOp_step rfl (fun Kz hKz => ?_)
      rw [if_pos (by kernel_rfl)]
      go_simp
      obtain ⟨u1, hy⟩ : ∃ y_, y_ = u0.alloc (Obj.cells #[.int .i64 0, .int .i64 0, .int .i64 0] 44) := ⟨_, rfl⟩
      have kq : Below u0.heap.size u0 u1 := by rw [hy]; exact below_new _
      have F0 : RgBox u1 u0.heap.size ⟨0, 0, 0⟩ := by rw [hy]; refine ⟨?_, fun i => ?_⟩; constructor <;> simp [go_sem]; simp [go_sem]
      have p0 : wd3.heap.size ≤ u0.heap.size := hb0.size
      have hb1 : Below wd3.heap.size wd3 u1 := hb0.trans (kq.mono hb0.size)
      rw [← hy]
      clear hy kq
      refine hKz _ _ ⟨hb1, ?_⟩
      clear hKz Kz hi
      refine wpAnyH_all (rs := [1]) (by kernel_rfl) (by simp) ?_
      intro i hi; obtain rfl : i = 1 := by simpa using hi
      refine wpOp_step rfl (fun Kz hKz => ?_)
      rw [if_pos (by kernel_rfl)]
      go_simp
      go_at_call 20
      refine (toRg rg0 u1).mono ?_
      rintro e u2 ⟨rfl, kq⟩
      have F0 := F0.below kq F0.lt
      have hb2 : Below wd3.heap.size wd3 u2 := hb1.trans (kq.mono hb1.size)
      clear kq
      refine hKz _ _ ⟨hb2, ?_⟩
      clear hKz Kz hi
      refine wpAnyH_all (rs := [5]) (by kernel_rfl) (by simp) ?_
      intro i hi; obtain rfl : i = 5 := by simpa using hi
      refine wpOp_step rfl (fun Kz hKz => ?_)
      rw [if_pos (by kernel_rfl)]
      go_simp
      go_at_call 33
      refine (pairsIw rg0 n1 m2 (some ⟨gOX, 0, none⟩) m2.lg.length n3 u2 (OX.later hb2).view.2 (by omega)).mono ?_
      rintro e u3 ⟨rfl, kq⟩
      rw [hD.out, hO.out]
      have F0 := F0.below kq F0.lt
      have hb3 : Below wd3.heap.size wd3 u3 := hb2.trans (kq.mono hb2.size)
      clear kq
      refine hKz _ _ ⟨hb3, ?_⟩
      clear hKz Kz hi
      refine takeW 6 32 (.tuple #[.agg #[.int .i64 D.ep, .int .i64 D.ow, .int .i64 D.pa], .bool o]) rfl rfl (by kernel_rfl) (by kernel_rfl) (by kernel_rfl) (fun _ _ _ h => h) (by kernel_rfl) (by (intro w hSw; go_simp)) (by assumption) ?_
      simp only [List.set_cons_zero, List.set_cons_succ]
      refine takeW 7 39 (.agg #[.int .i64 D.ep, .int .i64 D.ow, .int .i64 D.pa]) rfl rfl (by kernel_rfl) (by kernel_rfl) (by kernel_rfl) (fun _ _ _ h => h) (by kernel_rfl) (by (intro w hSw; go_simp)) (by assumption) ?_
      simp only [List.set_cons_zero, List.set_cons_succ]
      refine takeW 8 40 (.bool o) rfl rfl (by kernel_rfl) (by kernel_rfl) (by kernel_rfl) (fun _ _ _ h => h) (by kernel_rfl) (by (intro w hSw; go_simp)) (by assumption) ?_
      simp only [List.set_cons_zero, List.set_cons_succ]
      refine relist 2 #[true, true, true, true, true, true, true, true, true, true, false, false] (by kernel_rfl) (by kernel_rfl) ?_
      exact hTT.out _ _ ⟨u0.heap.size, [(.agg #[.int .i64 rg0.ep, .int .i64 rg0.ow, .int .i64 rg0.pa]), (.agg #[.int .i64 rg0.ep, .int .i64 rg0.ow, .int .i64 rg0.pa]), (.int .i64 n1), (.agg #[.bool m2.up, .int .i64 m2.li, .int .i64 m2.ep, .slice (some ⟨gOX, 0, none⟩) m2.lg.length m2.lg.length, .int .i64 m2.sd, .int .i64 m2.ac, .int .i64 m2.al]), (.int .i64 n3)], rfl, by kernel_rfl, F0, p0, hb3⟩
  clear hb0 u0
  rintro l' bt0 ⟨PG, us, hul, rfl, F0, p0, bhc0⟩
  obtain ⟨v33, us, rfl⟩ : ∃ a b, us = a :: b := List.exists_cons_of_length_eq_add_one hul
  replace hul := Nat.succ.inj hul
  obtain ⟨v34, us, rfl⟩ : ∃ a b, us = a :: b := List.exists_cons_of_length_eq_add_one hul
  replace hul := Nat.succ.inj hul
  obtain ⟨v35, us, rfl⟩ : ∃ a b, us = a :: b := List.exists_cons_of_length_eq_add_one hul
  replace hul := Nat.succ.inj hul
  obtain ⟨v36, us, rfl⟩ : ∃ a b, us = a :: b := List.exists_cons_of_length_eq_add_one hul
  replace hul := Nat.succ.inj hul
  obtain ⟨v37, us, rfl⟩ : ∃ a b, us = a :: b := List.exists_cons_of_length_eq_add_one hul
  replace hul := Nat.succ.inj hul
  obtain rfl : us = [] := List.eq_nil_of_length_eq_zero hul
  clear hul
  simp only [List.take, List.drop, List.cons_append, List.nil_append]
  refine wpAnyH_all (rs := [10]) (by kernel_rfl) (by simp) ?_
  intro i hi; obtain rfl : i = 10 := by simpa using hi
  refine wpOp_step rfl (fun Kz hKz => ?_)
  rw [if_pos (by kernel_rfl)]
  have cc := F0
  obtain ⟨⟨z0, z1, z2⟩, zf⟩ := cc
  have z3 := zf 0
  have z4 := zf 1
  have z5 := zf 2
  go_simp
  clear z0 z1 z2 z3 z4 z5 zf
  obtain ⟨bt1, bht1⟩ : ∃ y_, y_ = (((bt0.setCell ⟨PG, 0, none⟩ (.int .i64 D.ep)).setCell ⟨PG, 1, none⟩ (.int .i64 D.ow)).setCell ⟨PG, 2, none⟩ (.int .i64 D.pa)) := ⟨_, rfl⟩
  have AG : RgAt bt1 PG D := by rw [bht1]; exact (F0.put D).at_
  have bhc1 : Below wd3.heap.size wd3 bt1 := by rw [bht1]; exact below_put3 D bhc0 p0
  rw [← bht1]
  clear bht1 F0 bhc0
  refine hKz _ _ ⟨bhc1, ?_⟩
  clear hKz Kz hi
  refine takeW 11 14 (.bool o) rfl rfl (by kernel_rfl) (by kernel_rfl) (by kernel_rfl) (fun _ _ _ h => h) (by kernel_rfl) (by (intro w hSw; go_simp)) (by assumption) ?_
  simp only [List.set_cons_zero, List.set_cons_succ]
  refine wpAnyH_done (by kernel_rfl) ?_ _
  have bst1 := bhc1.size
  have A0 := A0.below bhc1 A0.lt
  have AW := AW.below bhc1 AW.lt
  have A2 := A2.below bhc1 A2.lt
  have AX := AX.below bhc1 AX.lt
  have V2 := V2.below bhc1 (V2.lt ikEnc_len (by omega))
  have OX := OX.later bhc1
  have BW := BW.trans (bhc1.mono BW.size)
  clear bhc1
  have cc := AG
  obtain ⟨m0_0, m0_1, m0_2⟩ := cc
  have cc := AW
  obtain ⟨m1_0, m1_1, m1_2⟩ := cc
  go_wp2_with fail
  go_at_call 29
  clear m0_0 m0_1 m0_2 m1_0 m1_1 m1_2
  refine (eqRg D bt1).mono ?_
  rintro e wd5 ⟨rfl, kq⟩
  have swd5 := kq.size
  have A0 := A0.below kq A0.lt
  have AW := AW.below kq AW.lt
  have AG := AG.below kq AG.lt
  have A2 := A2.below kq A2.lt
  have AX := AX.below kq AX.lt
  have V2 := V2.below kq (V2.lt ikEnc_len (by omega))
  have OX := OX.later kq
  have BW := BW.trans (kq.mono BW.size)
  clear kq
  go_upto_region 10 with fail
  refine wp_region_held (S := fun Y => Below wd5.heap.size wd5 Y) (by kernel_rfl) ?_
  change wpAnyH _ _ _ _ _ _ _ _ (World.drew _)
  have hz0 : Below wd5.heap.size wd5 wd5.drew := (Below.refl _ _).drew
  obtain ⟨z0, hy0⟩ : ∃ y_, y_ = wd5.drew := ⟨_, rfl⟩
  rw [← hy0] at hz0 ⊢
  clear hy0
  refine takeW 0 50 (.agg #[.bool m2.up, .int .i64 m2.li, .int .i64 m2.ep, .slice (some ⟨gOX, 0, none⟩) m2.lg.length m2.lg.length, .int .i64 m2.sd, .int .i64 m2.ac, .int .i64 m2.al]) rfl rfl (by kernel_rfl) (by kernel_rfl) (by kernel_rfl) (fun _ _ _ h => h) (by kernel_rfl) (by (intro Y hSw; obtain ⟨X0, X1, X2, X3, X4, X5, X6⟩ := AX.below hSw AX.lt; go_simp)) (by assumption) ?_
  simp only [List.set_cons_zero, List.set_cons_succ]
  refine takeW 1 51 (.agg #[.bool m2.up, .int .i64 m2.li, .int .i64 m2.ep, .slice ad2 m2.lg.length cap2, .int .i64 m2.sd, .int .i64 m2.ac, .int .i64 m2.al]) rfl rfl (by kernel_rfl) (by kernel_rfl) (by kernel_rfl) (fun _ _ _ h => h) (by kernel_rfl) (by (intro Y hSw; obtain ⟨X0, X1, X2, X3, X4, X5, X6⟩ := A2.below hSw A2.lt; go_simp)) (by assumption) ?_
  simp only [List.set_cons_zero, List.set_cons_succ]
  refine wpAnyH_all (rs := [2]) (by kernel_rfl) (by simp) ?_
  intro i hi; obtain rfl : i = 2 := by simpa using hi
  refine wpOp_step rfl (fun Kz hKz => ?_)
  rw [if_pos (by kernel_rfl)]
  go_simp
  go_at_call 24
  refine (miTo m2 ad2 cap2 z0 (V2.below hz0 (V2.lt ikEnc_len (by omega))) hl).mono ?_
  rintro e z1 ⟨gz, rfl, _, _, oz, kq⟩
  have hz1 : Below wd5.heap.size wd5 z1 := hz0.trans (kq.mono hz0.size)
  clear kq
  refine hKz _ _ ⟨hz1, ?_⟩
  clear hKz Kz hi
  refine wpAnyH_all (rs := [3]) (by kernel_rfl) (by simp) ?_
  intro i hi; obtain rfl : i = 3 := by simpa using hi
  refine wpOp_step rfl (fun Kz hKz => ?_)
  rw [if_pos (by kernel_rfl)]
  go_simp
  go_at_call 26
  refine (miEq m2 (some ⟨gOX, 0, none⟩) (some ⟨gz, 0, none⟩) m2.lg.length m2.lg.length z1 (OX.later hz1).view.2 oz.view.2 hl).mono ?_
  rintro e z2 ⟨rfl, kq⟩
  have hz2 : Below wd5.heap.size wd5 z2 := hz1.trans (kq.mono hz1.size)
  clear kq
  refine hKz _ _ ⟨hz2, ?_⟩
  clear hKz Kz hi
  refine takeW 4 54 (.bool false) rfl rfl (by kernel_rfl) (by kernel_rfl) (by kernel_rfl) (fun _ _ _ h => h) (by kernel_rfl) (by (intro w hSw; go_simp)) (by assumption) ?_
  simp only [List.set_cons_zero, List.set_cons_succ]
  refine wpAnyH_done (by kernel_rfl) ?_ _
  have su2 := hz2.size
  have A0 := A0.below hz2 A0.lt
  have AW := AW.below hz2 AW.lt
  have AG := AG.below hz2 AG.lt
  have A2 := A2.below hz2 A2.lt
  have AX := AX.below hz2 AX.lt
  have V2 := V2.below hz2 (V2.lt ikEnc_len (by omega))
  have OX := OX.later hz2
  have BW := BW.trans (hz2.mono BW.size)
  clear hz2
  clear hz0 hz1 oz
  go_wp2
  go_ret
  exact ⟨rfl, BW⟩


set_option maxRecDepth 100000 in
theorem lifted (os : Os) (started : os.Started) (H : Type) (enc : TypeId × Value → H) :
    ReturnsInHanded {} Try.checked os 7 .any (Rows.fnExactPairsSpec.pre6 enc Try.prog Try.f7 Rows.fnExactPairsRow.domain false) (Rows.fnExactPairsSpec.post enc Try.prog Try.f7 false true false false) := by
  refine returnsInHanded_of_change (C := Try.checked) own started (by kernel_rfl) Try.func7
    (ChangeSpec.witness6 (enc := enc) (C := Try.checked) false ⟨#[], #[.agg #[.int .i64 0, .int .i64 0, .int .i64 0], .int .i64 0, .agg #[.bool false, .int .i64 0, .int .i64 0, .slice none 0 0, .int .i64 0, .int .i64 0, .int .i64 0], .int .i64 0], []⟩ 8 (by kernel_rfl) (by kernel_rfl) (by kernel_rfl) (by kernel_rfl)) ?_
  intro W base args ds gs before hval0 hW hcnd _
  have hval : ∀ (j : Nat) t v, Try.f7.params[j]? = some t → args[j]? = some v → Value.okWide Try.prog W .any base t v := hval0
  have hW' := hW
  obtain ⟨p, q, hA0, hV, rfl, hfz, hnd⟩ := hW
  have hA : DataW.TrodAll enc Try.prog W 0 (fun _ => true) true Try.f7.params.toList args.toList ds p := hA0
  rw [Try.params7] at hA hval
  obtain ⟨v0, vs0, d0, ds0, p0, q0, hargs, rfl, rfl, h0, r0⟩ := trodAll_cons hA
  obtain ⟨v1, vs1, d1, ds1, p1, q1, rfl, rfl, rfl, h1, r1⟩ := trodAll_cons r0
  obtain ⟨v2, vs2, d2, ds2, p2, q2, rfl, rfl, rfl, h2, r2⟩ := trodAll_cons r1
  obtain ⟨v3, vs3, d3, ds3, p3, q3, rfl, rfl, rfl, h3, r3⟩ := trodAll_cons r2
  obtain ⟨rfl, rfl, rfl⟩ := trodAll_nil r3
  obtain rfl : args = #[v0, v1, v2, v3] := by cases args; simp_all
  obtain ⟨rfl, rfl⟩ := trodVars_none hV
  obtain ⟨rg0, rfl, I0⟩ := rgIn_open (hval 0 42 v0 rfl rfl) h0
  have lt0 : ∀ x ∈ p0, x.block < W.heap.size := by obtain ⟨m, hm⟩ := h0; exact DataW.trod_lt m _ _ _ hm
  obtain ⟨n1, rfl, I1⟩ := intIn_open (hval 1 3 v1 rfl rfl) h1
  have lt1 : ∀ x ∈ p1, x.block < W.heap.size := by obtain ⟨m, hm⟩ := h1; exact DataW.trod_lt m _ _ _ hm
  obtain ⟨m2, ad2, cap2, rfl, I2⟩ := miIn_open (hval 2 49 v2 rfl rfl) h2
  have lt2 : ∀ x ∈ p2, x.block < W.heap.size := by obtain ⟨m, hm⟩ := h2; exact DataW.trod_lt m _ _ _ hm
  obtain ⟨n3, rfl, I3⟩ := intIn_open (hval 3 3 v3 rfl rfl) h3
  have lt3 : ∀ x ∈ p3, x.block < W.heap.size := by obtain ⟨m, hm⟩ := h3; exact DataW.trod_lt m _ _ _ hm
  clear hA0 hval0
  refine (walk rg0 n1 m2 ad2 cap2 n3 W I0 I1 I2 I3).mono fun e W' ⟨he, bel⟩ => ?_
  subst he
  exact ⟨_, rfl, _, _, _, [], _, [], hW', trodAll_mk1 (shut_bool Try.underlying4 _), (trodAll_cons_mk (Below.trod laidOut (by kernel_rfl) (of_decide_eq_true (by kernel_rfl)) h0 bel lt0) (trodAll_cons_mk (Below.trod laidOut (by kernel_rfl) (of_decide_eq_true (by kernel_rfl)) h1 bel lt1) (trodAll_cons_mk (Below.trod laidOut (by kernel_rfl) (of_decide_eq_true (by kernel_rfl)) h2 bel lt2) (trodAll_cons_mk (Below.trod laidOut (by kernel_rfl) (of_decide_eq_true (by kernel_rfl)) h3 bel lt3) trodAll_mk0)))), rfl, bel.frame _, fun h => by cases h⟩

theorem over : Rows.fnExactPairsRow.holds Try.pinned (OpenSpec.ofChange Rows.fnExactPairsSpec) :=
  OpenClaim.holds_of_wide 7 Try.f7 rfl rfl rfl rfl rfl rfl rfl ⟨rfl, rfl, rfl, rfl, rfl⟩ rfl rfl rfl rfl rfl (by kernel_rfl) Try.func7 (by kernel_rfl)
    (of_decide_eq_true (by kernel_rfl)) (by unfold Func.isWrapper; first | (rw [if_pos (by decide +kernel)]; kernel_rfl) | (rw [if_neg (by decide +kernel)]; exact ⟨rfl, rfl⟩))
    (fun os started H enc _ => lifted os started H enc)

theorem proved : Rows.FnExactPairsSaid := over
end Go.Proofs.Ytplejmkbdonkpaa.fnExactPairs
namespace Go.Proofs.Ytplejmkbdonkpaa
theorem pairs_holds : Rows.FnExactPairsSaid := fnExactPairs.proved
#print axioms pairs_holds
end Go.Proofs.Ytplejmkbdonkpaa
