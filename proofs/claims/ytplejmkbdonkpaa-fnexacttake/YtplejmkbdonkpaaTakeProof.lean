/- FnExactTake, proved: at every register, number and minder the program's Take answers as the specification's, its answer owns its memory, and no argument is written into; no condition. -/
import Derived.Test.YtplejmkbdonkpaaRows
import Derived.Test.YtplejmkbdonkpaaRr6
import Derived.Test.YtplejmkbdonkpaaRr7
import Derived.Test.YtplejmkbdonkpaaRg4
import Derived.Test.YtplejmkbdonkpaaMi2
import Derived.Test.YtplejmkbdonkpaaMi3
import Derived.Test.YtplejmkbdonkpaaTakes
import Derived.Deep.Cut
import Derived.WalkKit
import Derived.Below
import Derived.ChangeOld
import Derived.WalkSmall
import Derived.ProofKit
import Derived.OpenShut
import Derived.ShutString
import Derived.BigQuiet
namespace Go.Proofs.Ytplejmkbdonkpaa.fnExactTake
open Go.ChangeShapes Go.WideShapes Go.ChangeAt Go.RowKit
set_option linter.unusedVariables false

theorem own : ownKnob Try.prog.godebug = none := by kernel_rfl
theorem laidOut : laidOutB Try.prog = true := by kernel_rfl

set_option maxRecDepth 100000 in
theorem intIn_open {H : Type} {enc : TypeId × Value → H} {w : World} {r : Reach} {b0 : Nat} {v : Value} {d : DataW H} {p : List MemPlace} (hv : Value.okWide Try.prog w r b0 3 v) (h : DataW.Trod enc Try.prog w 0 (fun _ => true) true 3 v d p) : ∃ n : Int, v = .int .i64 n ∧ (Lit.int .i64 n).wf = true := by
  obtain ⟨n, rfl, _, _, I⟩ := open_int Try.underlying3 hv h
  exact ⟨n, rfl, I⟩
set_option maxRecDepth 100000 in
theorem boolIn_open {H : Type} {enc : TypeId × Value → H} {w : World} {r : Reach} {b0 : Nat} {v : Value} {d : DataW H} {p : List MemPlace} (hv : Value.okWide Try.prog w r b0 4 v) (h : DataW.Trod enc Try.prog w 0 (fun _ => true) true 4 v d p) : ∃ b : Bool, v = .bool b ∧ True := by
  obtain ⟨b, rfl, _, _⟩ := open_bool Try.underlying4 hv h
  exact ⟨b, rfl, trivial⟩
theorem join_any {P : Program} {md : Region.Mode} {ops : Array Oper} {Q : Exit → Act → World → Prop} {S : World → Prop} {ds : List Deferred} {l : List Value} {W : World} {m : Nat} {lst : Array Bool} (n : Nat) (ls : Array Bool) (R : List Value → List Value → World → Prop) (h1 : ∀ l' W', R l l' W' → wpAnyH P md ops Q S n ls ⟨l'.toArray, ds⟩ W') (h2 : Hid (∀ l' W', R l l' W' → wpAnyH P md ops Q S n ls ⟨l'.toArray, ds⟩ W') → wpAnyH P md ops Q S m lst ⟨l.toArray, ds⟩ W) : wpAnyH P md ops Q S m lst ⟨l.toArray, ds⟩ W := h2 h1
theorem relist {P : Program} {md : Region.Mode} {ops : Array Oper} {Q : Exit → Act → World → Prop} {S : World → Prop} {a : Act} {W : World} {m : Nat} {lst : Array Bool} (n : Nat) (ls : Array Bool) (hn : m = n) (hl : lst = ls) (h : wpAnyH P md ops Q S n ls a W) : wpAnyH P md ops Q S m lst a W := by rw [hn, hl]; exact h
theorem takeMm_lg (r : Rg) (s : Int) (m : Mi) : (takeMm r s m).lg = m.lg := by unfold takeMm; split <;> rfl
theorem takeSw (r : Rg) (s : Int) (m : Mi) (ad : Option Addr) (cap : Nat) (w : World) (hv : FView ikEnc w ad m.lg) (hl : m.lg.length ≤ 1048577) (hn : ad = none → cap = 0) :
    Calls Try.prog 27 #[.agg #[.int .i64 r.ep, .int .i64 r.ow, .int .i64 r.pa], .int .i64 s, .agg #[.bool m.up, .int .i64 m.li, .int .i64 m.ep, .slice ad m.lg.length cap, .int .i64 m.sd, .int .i64 m.ac, .int .i64 m.al]] w fun e w' => ∃ a c, e = .returned (.tuple #[.agg #[.int .i64 (takeR r s m).ep, .int .i64 (takeR r s m).ow, .int .i64 (takeR r s m).pa], .agg #[.bool (takeMm r s m).up, .int .i64 (takeMm r s m).li, .int .i64 (takeMm r s m).ep, .slice a (takeMm r s m).lg.length c, .int .i64 (takeMm r s m).sd, .int .i64 (takeMm r s m).ac, .int .i64 (takeMm r s m).al], .bool (takeB r s m)]) ∧ FOwn ikEnc 8 30 w.heap.size w' (.slice a (takeMm r s m).lg.length c) (takeMm r s m).lg ∧ Below w.heap.size w w' := by
  have h := takeSp r s m ad cap w hv hl hn
  rw [takeMm_lg]
  exact h
theorem takeIw (r : Rg) (s : Int) (m : Mi) (ad : Option Addr) (cap : Nat) (w : World) (hv : FView ikEnc w ad m.lg) (hl : m.lg.length ≤ 1048577) (hn : ad = none → cap = 0) :
    Calls Try.prog 28 #[.agg #[.int .i64 r.ep, .int .i64 r.ow, .int .i64 r.pa], .int .i64 s, .agg #[.bool m.up, .int .i64 m.li, .int .i64 m.ep, .slice ad m.lg.length cap, .int .i64 m.sd, .int .i64 m.ac, .int .i64 m.al]] w fun e w' => ∃ a c, e = .returned (.tuple #[.agg #[.int .i64 (takeR r s m).ep, .int .i64 (takeR r s m).ow, .int .i64 (takeR r s m).pa], .agg #[.bool (takeMm r s m).up, .int .i64 (takeMm r s m).li, .int .i64 (takeMm r s m).ep, .slice a (takeMm r s m).lg.length c, .int .i64 (takeMm r s m).sd, .int .i64 (takeMm r s m).ac, .int .i64 (takeMm r s m).al], .bool (takeB r s m)]) ∧ FOwn ikEnc 8 30 w.heap.size w' (.slice a (takeMm r s m).lg.length c) (takeMm r s m).lg ∧ Below w.heap.size w w' := by
  have h := takeIp r s m ad cap w hv hl
  rw [takeMm_lg]
  exact h
set_option maxHeartbeats 24000000 in
set_option maxRecDepth 100000 in
theorem walk (rg0 : Rg) (n1 : Int) (m2 : Mi) (ad2 : Option Addr) (cap2 : Nat) (w : World) (I0 : True) (I1 : (Lit.int .i64 n1).wf = true) (I2 : MiIn w ad2 cap2 m2) :
    Calls Try.prog 6 #[.agg #[.int .i64 rg0.ep, .int .i64 rg0.ow, .int .i64 rg0.pa], .int .i64 n1, .agg #[.bool m2.up, .int .i64 m2.li, .int .i64 m2.ep, .slice ad2 m2.lg.length cap2, .int .i64 m2.sd, .int .i64 m2.ac, .int .i64 m2.al]] w fun e w' => e = .returned (.bool true) ∧ Below w.heap.size w w' := by
 obtain ⟨hlm, V2, hn2⟩ := I2
 obtain ⟨y0, hx⟩ : ∃ y_, y_ = (w.alloc (Obj.cells #[.int .i64 rg0.ep, .int .i64 rg0.ow, .int .i64 rg0.pa] 42)).alloc (Obj.cells #[.bool m2.up, .int .i64 m2.li, .int .i64 m2.ep, .slice ad2 m2.lg.length cap2, .int .i64 m2.sd, .int .i64 m2.ac, .int .i64 m2.al] 49) := ⟨_, rfl⟩
 have A0 : RgAt y0 w.heap.size rg0 := by rw [hx]; constructor <;> simp [go_sem]
 have A2 : MiAt y0 (w.heap.size + 1) m2 (.slice ad2 m2.lg.length cap2) := by rw [hx]; constructor <;> simp [go_sem]
 have BW : Below w.heap.size w y0 := by rw [hx]; exact ((Below.refl _ _).alloc (Nat.le_refl _) _).alloc (by simp) _
 have lx0 := A2.lt
 have vb : ∀ a, ad2 = some a → 0 < m2.lg.length → a.block < w.heap.size := V2.lt ikEnc_len (by omega)
 have V2 := V2.below BW vb
 go_enter Try.func6, Try.ntmps6
 go_wp2_with fail
 go_at_call 22
 rw [← hx]
 clear hx
 refine (miSz m2 ad2 cap2 1048576 y0 (by decide) (by decide) hlm).mono ?_
 rintro e y1 ⟨rfl, kq⟩
 have sy1 := kq.size
 have A0 := A0.below kq A0.lt
 have A2 := A2.below kq A2.lt
 have V2 := V2.below kq (V2.lt ikEnc_len (by omega))
 have BW := BW.trans (kq.mono BW.size)
 clear kq
 by_cases hl : m2.lg.length ≤ 1048576
 rotate_left
 · rw [if_neg (by omega)]
   go_wp2
   go_ret
   exact ⟨rfl, BW⟩
 rw [if_pos (by omega)]
 have hlf : 0 ≤ 1048576 - (m2.lg.length : Int) := by omega
 generalize 1048576 - (m2.lg.length : Int) = lf at hlf ⊢
 obtain ⟨o, hO⟩ : ∃ o, takeB rg0 n1 m2 = o := ⟨_, rfl⟩
 replace hO : Hid _ := hO
 obtain ⟨E, hE⟩ : ∃ E, takeR rg0 n1 m2 = E := ⟨_, rfl⟩
 replace hE : Hid _ := hE
 obtain ⟨D, hD⟩ : ∃ D, takeMm rg0 n1 m2 = D := ⟨_, rfl⟩
 have hDl : D.lg.length ≤ 1048576 := by rw [← hD, takeMm_lg]; exact hl
 replace hD : Hid _ := hD
 go_upto_region 5 with fail
 refine wp_region_held (S := fun Y => Below y1.heap.size y1 Y) (by kernel_rfl) ?_
 change wpAnyH _ _ _ _ _ _ _ _ (World.drew _)
 have hb0 : Below y1.heap.size y1 y1.drew := (Below.refl _ _).drew
 obtain ⟨u0, hy0⟩ : ∃ y_, y_ = y1.drew := ⟨_, rfl⟩
 rw [← hy0] at hb0 ⊢
 clear hy0
 refine join_any 3 #[true, true, true, true, true, true, true, true, true, true, true, true, false, false, false] (fun l l' W' => ∃ (P P' : Nat) (aW : Option Addr) (cW : Nat) (us : List Value), us.length = 5 ∧ l' = l.take 8 ++ (.pointer (some ⟨P, 0, none⟩) :: .pointer (some ⟨P', 0, none⟩) :: (l.drop 10).take 16) ++ ((.tuple #[.agg #[.int .i64 E.ep, .int .i64 E.ow, .int .i64 E.pa], .agg #[.bool D.up, .int .i64 D.li, .int .i64 D.ep, .slice aW D.lg.length cW, .int .i64 D.sd, .int .i64 D.ac, .int .i64 D.al], .bool o]) :: us) ++ ((.tuple #[.agg #[.int .i64 E.ep, .int .i64 E.ow, .int .i64 E.pa], .agg #[.bool D.up, .int .i64 D.li, .int .i64 D.ep, .slice aW D.lg.length cW, .int .i64 D.sd, .int .i64 D.ac, .int .i64 D.al], .bool o]) :: .agg #[.int .i64 E.ep, .int .i64 E.ow, .int .i64 E.pa] :: .agg #[.bool D.up, .int .i64 D.li, .int .i64 D.ep, .slice aW D.lg.length cW, .int .i64 D.sd, .int .i64 D.ac, .int .i64 D.al] :: .bool o :: l.drop 36) ∧ RgBox W' P ⟨0, 0, 0⟩ ∧ MiBox W' P' ⟨false, 0, 0, [], 0, 0, 0⟩ (.slice none 0 0) ∧ y1.heap.size ≤ P ∧ y1.heap.size ≤ P' ∧ P ≠ P' ∧ FOwn ikEnc 8 30 y1.heap.size W' (.slice aW D.lg.length cW) D.lg ∧ (∀ g_, (Value.slice aW D.lg.length cW).ownBlock = some g_ → g_ ≠ P) ∧ (∀ g_, (Value.slice aW D.lg.length cW).ownBlock = some g_ → g_ ≠ P') ∧ Below y1.heap.size y1 W') ?_ ?_
 rotate_left
 · intro hTT
   refine takeW 0 27 (.agg #[.int .i64 rg0.ep, .int .i64 rg0.ow, .int .i64 rg0.pa]) rfl rfl (by kernel_rfl) (by kernel_rfl) (by kernel_rfl) (fun _ _ _ h => h) (by kernel_rfl) (by (intro Y hSw; obtain ⟨X0, X1, X2⟩ := A0.below hSw A0.lt; go_simp)) (by assumption) ?_
   simp only [List.set_cons_zero, List.set_cons_succ]
   refine takeW 2 29 (.int .i64 n1) rfl rfl (by kernel_rfl) (by kernel_rfl) (by kernel_rfl) (fun _ _ _ h => h) (by kernel_rfl) (by (intro w hSw; go_simp)) (by assumption) ?_
   simp only [List.set_cons_zero, List.set_cons_succ]
   refine takeW 3 30 (.agg #[.bool m2.up, .int .i64 m2.li, .int .i64 m2.ep, .slice ad2 m2.lg.length cap2, .int .i64 m2.sd, .int .i64 m2.ac, .int .i64 m2.al]) rfl rfl (by kernel_rfl) (by kernel_rfl) (by kernel_rfl) (fun _ _ _ h => h) (by kernel_rfl) (by (intro Y hSw; obtain ⟨X0, X1, X2, X3, X4, X5, X6⟩ := A2.below hSw A2.lt; go_simp)) (by assumption) ?_
   simp only [List.set_cons_zero, List.set_cons_succ]
   refine wpAnyH_all (rs := [1, 10, 11]) (by kernel_rfl) (by simp) ?_
   intro i hi; rcases (by simpa using hi : i = 1 ∨ i = 10 ∨ i = 11) with rfl | rfl | rfl
   · refine wpOp_step rfl (fun Kz hZ => ?_)
     rw [if_pos (by kernel_rfl)]
     go_simp
     go_at_call 20
     refine (toRg rg0 u0).mono ?_
     rintro e u1 ⟨rfl, kq⟩
     have hb1 : Below y1.heap.size y1 u1 := hb0.trans (kq.mono hb0.size)
     clear kq
     refine hZ _ _ ⟨hb1, ?_⟩
     clear hZ Kz hi
     refine wpAnyH_all (rs := [4, 10, 11]) (by kernel_rfl) (by simp) ?_
     intro i hi; rcases (by simpa using hi : i = 4 ∨ i = 10 ∨ i = 11) with rfl | rfl | rfl
     · refine wpOp_step rfl (fun Kz hZ => ?_)
       rw [if_pos (by kernel_rfl)]
       go_simp
       go_at_call 24
       refine (miTo m2 ad2 cap2 u1 (V2.below hb1 (V2.lt ikEnc_len (by omega))) hl).mono ?_
       rintro e u2 ⟨gT, rfl, _, _, oT, kq⟩
       have hb2 : Below y1.heap.size y1 u2 := hb1.trans (kq.mono hb1.size)
       clear kq
       refine hZ _ _ ⟨hb2, ?_⟩
       clear hZ Kz hi
       refine wpAnyH_all (rs := [5, 10, 11]) (by kernel_rfl) (by simp) ?_
       intro i hi; rcases (by simpa using hi : i = 5 ∨ i = 10 ∨ i = 11) with rfl | rfl | rfl
       · refine wpOp_step rfl (fun Kz hZ => ?_)
         rw [if_pos (by kernel_rfl)]
         go_simp
         go_at_call 27
         refine (takeSw rg0 n1 m2 (some ⟨gT, 0, none⟩) m2.lg.length u2 oT.view.2 (by omega) (fun e => by cases e)).mono ?_
         rintro e u3 ⟨aW, cW, rfl, OW, kq⟩
         rw [hD.out] at OW ⊢
         rw [hE.out, hO.out]
         have bsW := hb2.size
         have oT := oT.later kq
         have hb3 : Below y1.heap.size y1 u3 := hb2.trans (kq.mono hb2.size)
         clear kq
         refine hZ _ _ ⟨hb3, ?_⟩
         clear hZ Kz hi
         refine takeW 6 26 (.tuple #[.agg #[.int .i64 E.ep, .int .i64 E.ow, .int .i64 E.pa], .agg #[.bool D.up, .int .i64 D.li, .int .i64 D.ep, .slice aW D.lg.length cW, .int .i64 D.sd, .int .i64 D.ac, .int .i64 D.al], .bool o]) rfl rfl (by kernel_rfl) (by kernel_rfl) (by kernel_rfl) (fun _ _ _ h => h) (by kernel_rfl) (by (intro w hSw; go_simp)) (by assumption) ?_
         simp only [List.set_cons_zero, List.set_cons_succ]
         refine takeW 7 33 (.agg #[.int .i64 E.ep, .int .i64 E.ow, .int .i64 E.pa]) rfl rfl (by kernel_rfl) (by kernel_rfl) (by kernel_rfl) (fun _ _ _ h => h) (by kernel_rfl) (by (intro w hSw; go_simp)) (by assumption) ?_
         simp only [List.set_cons_zero, List.set_cons_succ]
         refine takeW 8 34 (.agg #[.bool D.up, .int .i64 D.li, .int .i64 D.ep, .slice aW D.lg.length cW, .int .i64 D.sd, .int .i64 D.ac, .int .i64 D.al]) rfl rfl (by kernel_rfl) (by kernel_rfl) (by kernel_rfl) (fun _ _ _ h => h) (by kernel_rfl) (by (intro w hSw; go_simp)) (by assumption) ?_
         simp only [List.set_cons_zero, List.set_cons_succ]
         refine takeW 9 35 (.bool o) rfl rfl (by kernel_rfl) (by kernel_rfl) (by kernel_rfl) (fun _ _ _ h => h) (by kernel_rfl) (by (intro w hSw; go_simp)) (by assumption) ?_
         simp only [List.set_cons_zero, List.set_cons_succ]
         refine wpAnyH_all (rs := [10, 11]) (by kernel_rfl) (by simp) ?_
         intro i hi; rcases (by simpa using hi : i = 10 ∨ i = 11) with rfl | rfl
         · refine wpOp_step rfl (fun Kz hZ => ?_)
           rw [if_pos (by kernel_rfl)]
           go_simp
           obtain ⟨u4, hy⟩ : ∃ y_, y_ = u3.alloc (Obj.cells #[.int .i64 0, .int .i64 0, .int .i64 0] 44) := ⟨_, rfl⟩
           have kq : Below u3.heap.size u3 u4 := by rw [hy]; exact below_new _
           have joT0 : ∀ g_, (Value.slice (some ⟨gT, 0, none⟩) m2.lg.length m2.lg.length).ownBlock = some g_ → g_ ≠ u3.heap.size := fun g_ e => by have h1 := (oT.lt g_ e).2; omega
           have jOW0 : ∀ g_, (Value.slice aW D.lg.length cW).ownBlock = some g_ → g_ ≠ u3.heap.size := fun g_ e => by have h1 := (OW.lt g_ e).2; omega
           have oT := oT.later kq
           have OW := OW.later kq
           have F0 : RgBox u4 u3.heap.size ⟨0, 0, 0⟩ := by rw [hy]; refine ⟨?_, fun i => ?_⟩; constructor <;> simp [go_sem]; simp [go_sem]
           have p0 : y1.heap.size ≤ u3.heap.size := hb3.size
           have hb4 : Below y1.heap.size y1 u4 := hb3.trans (kq.mono hb3.size)
           rw [← hy]
           clear hy kq
           refine hZ _ _ ⟨hb4, ?_⟩
           clear hZ Kz hi
           refine wpAnyH_all (rs := [11]) (by kernel_rfl) (by simp) ?_
           intro i hi; obtain rfl : i = 11 := by simpa using hi
           refine wpOp_step rfl (fun Kz hZ => ?_)
           rw [if_pos (by kernel_rfl)]
           go_simp
           obtain ⟨u5, hy⟩ : ∃ y_, y_ = u4.alloc (Obj.cells #[.bool false, .int .i64 0, .int .i64 0, .slice none 0 0, .int .i64 0, .int .i64 0, .int .i64 0] 26) := ⟨_, rfl⟩
           have kq : Below u4.heap.size u4 u5 := by rw [hy]; exact below_new _
           have joT1 : ∀ g_, (Value.slice (some ⟨gT, 0, none⟩) m2.lg.length m2.lg.length).ownBlock = some g_ → g_ ≠ u4.heap.size := fun g_ e => by have h1 := (oT.lt g_ e).2; omega
           have jOW1 : ∀ g_, (Value.slice aW D.lg.length cW).ownBlock = some g_ → g_ ≠ u4.heap.size := fun g_ e => by have h1 := (OW.lt g_ e).2; omega
           have n01 : u3.heap.size ≠ u4.heap.size := by have h2 := F0.lt; omega
           have oT := oT.later kq
           have OW := OW.later kq
           have F0 := F0.below kq F0.lt
           have F1 : MiBox u5 u4.heap.size ⟨false, 0, 0, [], 0, 0, 0⟩ (.slice none 0 0) := by rw [hy]; constructor <;> simp [go_sem]
           have p1 : y1.heap.size ≤ u4.heap.size := hb4.size
           have hb5 : Below y1.heap.size y1 u5 := hb4.trans (kq.mono hb4.size)
           rw [← hy]
           clear hy kq
           refine hZ _ _ ⟨hb5, ?_⟩
           clear hZ Kz hi
           refine relist 3 #[true, true, true, true, true, true, true, true, true, true, true, true, false, false, false] (by kernel_rfl) (by kernel_rfl) ?_
           exact hTT.out _ _ ⟨u3.heap.size, u4.heap.size, aW, cW, [(.agg #[.int .i64 rg0.ep, .int .i64 rg0.ow, .int .i64 rg0.pa]), (.agg #[.int .i64 rg0.ep, .int .i64 rg0.ow, .int .i64 rg0.pa]), (.int .i64 n1), (.agg #[.bool m2.up, .int .i64 m2.li, .int .i64 m2.ep, .slice ad2 m2.lg.length cap2, .int .i64 m2.sd, .int .i64 m2.ac, .int .i64 m2.al]), (.agg #[.bool m2.up, .int .i64 m2.li, .int .i64 m2.ep, .slice (some ⟨gT, 0, none⟩) m2.lg.length m2.lg.length, .int .i64 m2.sd, .int .i64 m2.ac, .int .i64 m2.al])], rfl, by kernel_rfl, F0, F1, p0, p1, n01, OW.base bsW, jOW0, jOW1, hb5⟩
         · refine wpOp_step rfl (fun Kz hZ => ?_)
           rw [if_pos (by kernel_rfl)]
           go_simp
           obtain ⟨u4, hy⟩ : ∃ y_, y_ = u3.alloc (Obj.cells #[.bool false, .int .i64 0, .int .i64 0, .slice none 0 0, .int .i64 0, .int .i64 0, .int .i64 0] 26) := ⟨_, rfl⟩
           have kq : Below u3.heap.size u3 u4 := by rw [hy]; exact below_new _
           have joT1 : ∀ g_, (Value.slice (some ⟨gT, 0, none⟩) m2.lg.length m2.lg.length).ownBlock = some g_ → g_ ≠ u3.heap.size := fun g_ e => by have h1 := (oT.lt g_ e).2; omega
           have jOW1 : ∀ g_, (Value.slice aW D.lg.length cW).ownBlock = some g_ → g_ ≠ u3.heap.size := fun g_ e => by have h1 := (OW.lt g_ e).2; omega
           have oT := oT.later kq
           have OW := OW.later kq
           have F1 : MiBox u4 u3.heap.size ⟨false, 0, 0, [], 0, 0, 0⟩ (.slice none 0 0) := by rw [hy]; constructor <;> simp [go_sem]
           have p1 : y1.heap.size ≤ u3.heap.size := hb3.size
           have hb4 : Below y1.heap.size y1 u4 := hb3.trans (kq.mono hb3.size)
           rw [← hy]
           clear hy kq
           refine hZ _ _ ⟨hb4, ?_⟩
           clear hZ Kz hi
           refine wpAnyH_all (rs := [10]) (by kernel_rfl) (by simp) ?_
           intro i hi; obtain rfl : i = 10 := by simpa using hi
           refine wpOp_step rfl (fun Kz hZ => ?_)
           rw [if_pos (by kernel_rfl)]
           go_simp
           obtain ⟨u5, hy⟩ : ∃ y_, y_ = u4.alloc (Obj.cells #[.int .i64 0, .int .i64 0, .int .i64 0] 44) := ⟨_, rfl⟩
           have kq : Below u4.heap.size u4 u5 := by rw [hy]; exact below_new _
           have joT0 : ∀ g_, (Value.slice (some ⟨gT, 0, none⟩) m2.lg.length m2.lg.length).ownBlock = some g_ → g_ ≠ u4.heap.size := fun g_ e => by have h1 := (oT.lt g_ e).2; omega
           have jOW0 : ∀ g_, (Value.slice aW D.lg.length cW).ownBlock = some g_ → g_ ≠ u4.heap.size := fun g_ e => by have h1 := (OW.lt g_ e).2; omega
           have n01 : u4.heap.size ≠ u3.heap.size := by have h2 := F1.lt; omega
           have oT := oT.later kq
           have OW := OW.later kq
           have F1 := F1.below kq F1.lt
           have F0 : RgBox u5 u4.heap.size ⟨0, 0, 0⟩ := by rw [hy]; refine ⟨?_, fun i => ?_⟩; constructor <;> simp [go_sem]; simp [go_sem]
           have p0 : y1.heap.size ≤ u4.heap.size := hb4.size
           have hb5 : Below y1.heap.size y1 u5 := hb4.trans (kq.mono hb4.size)
           rw [← hy]
           clear hy kq
           refine hZ _ _ ⟨hb5, ?_⟩
           clear hZ Kz hi
           refine relist 3 #[true, true, true, true, true, true, true, true, true, true, true, true, false, false, false] (by kernel_rfl) (by kernel_rfl) ?_
           exact hTT.out _ _ ⟨u4.heap.size, u3.heap.size, aW, cW, [(.agg #[.int .i64 rg0.ep, .int .i64 rg0.ow, .int .i64 rg0.pa]), (.agg #[.int .i64 rg0.ep, .int .i64 rg0.ow, .int .i64 rg0.pa]), (.int .i64 n1), (.agg #[.bool m2.up, .int .i64 m2.li, .int .i64 m2.ep, .slice ad2 m2.lg.length cap2, .int .i64 m2.sd, .int .i64 m2.ac, .int .i64 m2.al]), (.agg #[.bool m2.up, .int .i64 m2.li, .int .i64 m2.ep, .slice (some ⟨gT, 0, none⟩) m2.lg.length m2.lg.length, .int .i64 m2.sd, .int .i64 m2.ac, .int .i64 m2.al])], rfl, by kernel_rfl, F0, F1, p0, p1, n01, OW.base bsW, jOW0, jOW1, hb5⟩
       · refine wpOp_step rfl (fun Kz hZ => ?_)
         rw [if_pos (by kernel_rfl)]
         go_simp
         obtain ⟨u3, hy⟩ : ∃ y_, y_ = u2.alloc (Obj.cells #[.int .i64 0, .int .i64 0, .int .i64 0] 44) := ⟨_, rfl⟩
         have kq : Below u2.heap.size u2 u3 := by rw [hy]; exact below_new _
         have joT0 : ∀ g_, (Value.slice (some ⟨gT, 0, none⟩) m2.lg.length m2.lg.length).ownBlock = some g_ → g_ ≠ u2.heap.size := fun g_ e => by have h1 := (oT.lt g_ e).2; omega
         have oT := oT.later kq
         have F0 : RgBox u3 u2.heap.size ⟨0, 0, 0⟩ := by rw [hy]; refine ⟨?_, fun i => ?_⟩; constructor <;> simp [go_sem]; simp [go_sem]
         have p0 : y1.heap.size ≤ u2.heap.size := hb2.size
         have hb3 : Below y1.heap.size y1 u3 := hb2.trans (kq.mono hb2.size)
         rw [← hy]
         clear hy kq
         refine hZ _ _ ⟨hb3, ?_⟩
         clear hZ Kz hi
         refine wpAnyH_all (rs := [5, 11]) (by kernel_rfl) (by simp) ?_
         intro i hi; rcases (by simpa using hi : i = 5 ∨ i = 11) with rfl | rfl
         · refine wpOp_step rfl (fun Kz hZ => ?_)
           rw [if_pos (by kernel_rfl)]
           go_simp
           go_at_call 27
           refine (takeSw rg0 n1 m2 (some ⟨gT, 0, none⟩) m2.lg.length u3 oT.view.2 (by omega) (fun e => by cases e)).mono ?_
           rintro e u4 ⟨aW, cW, rfl, OW, kq⟩
           rw [hD.out] at OW ⊢
           rw [hE.out, hO.out]
           have bsW := hb3.size
           have jOW0 : ∀ g_, (Value.slice aW D.lg.length cW).ownBlock = some g_ → g_ ≠ u2.heap.size := fun g_ e => by have h1 := (OW.lt g_ e).1; have h2 := F0.lt; omega
           have oT := oT.later kq
           have F0 := F0.below kq F0.lt
           have hb4 : Below y1.heap.size y1 u4 := hb3.trans (kq.mono hb3.size)
           clear kq
           refine hZ _ _ ⟨hb4, ?_⟩
           clear hZ Kz hi
           refine takeW 6 26 (.tuple #[.agg #[.int .i64 E.ep, .int .i64 E.ow, .int .i64 E.pa], .agg #[.bool D.up, .int .i64 D.li, .int .i64 D.ep, .slice aW D.lg.length cW, .int .i64 D.sd, .int .i64 D.ac, .int .i64 D.al], .bool o]) rfl rfl (by kernel_rfl) (by kernel_rfl) (by kernel_rfl) (fun _ _ _ h => h) (by kernel_rfl) (by (intro w hSw; go_simp)) (by assumption) ?_
           simp only [List.set_cons_zero, List.set_cons_succ]
           refine takeW 7 33 (.agg #[.int .i64 E.ep, .int .i64 E.ow, .int .i64 E.pa]) rfl rfl (by kernel_rfl) (by kernel_rfl) (by kernel_rfl) (fun _ _ _ h => h) (by kernel_rfl) (by (intro w hSw; go_simp)) (by assumption) ?_
           simp only [List.set_cons_zero, List.set_cons_succ]
           refine takeW 8 34 (.agg #[.bool D.up, .int .i64 D.li, .int .i64 D.ep, .slice aW D.lg.length cW, .int .i64 D.sd, .int .i64 D.ac, .int .i64 D.al]) rfl rfl (by kernel_rfl) (by kernel_rfl) (by kernel_rfl) (fun _ _ _ h => h) (by kernel_rfl) (by (intro w hSw; go_simp)) (by assumption) ?_
           simp only [List.set_cons_zero, List.set_cons_succ]
           refine takeW 9 35 (.bool o) rfl rfl (by kernel_rfl) (by kernel_rfl) (by kernel_rfl) (fun _ _ _ h => h) (by kernel_rfl) (by (intro w hSw; go_simp)) (by assumption) ?_
           simp only [List.set_cons_zero, List.set_cons_succ]
           refine wpAnyH_all (rs := [11]) (by kernel_rfl) (by simp) ?_
           intro i hi; obtain rfl : i = 11 := by simpa using hi
           refine wpOp_step rfl (fun Kz hZ => ?_)
           rw [if_pos (by kernel_rfl)]
           go_simp
           obtain ⟨u5, hy⟩ : ∃ y_, y_ = u4.alloc (Obj.cells #[.bool false, .int .i64 0, .int .i64 0, .slice none 0 0, .int .i64 0, .int .i64 0, .int .i64 0] 26) := ⟨_, rfl⟩
           have kq : Below u4.heap.size u4 u5 := by rw [hy]; exact below_new _
           have joT1 : ∀ g_, (Value.slice (some ⟨gT, 0, none⟩) m2.lg.length m2.lg.length).ownBlock = some g_ → g_ ≠ u4.heap.size := fun g_ e => by have h1 := (oT.lt g_ e).2; omega
           have jOW1 : ∀ g_, (Value.slice aW D.lg.length cW).ownBlock = some g_ → g_ ≠ u4.heap.size := fun g_ e => by have h1 := (OW.lt g_ e).2; omega
           have n01 : u2.heap.size ≠ u4.heap.size := by have h2 := F0.lt; omega
           have oT := oT.later kq
           have OW := OW.later kq
           have F0 := F0.below kq F0.lt
           have F1 : MiBox u5 u4.heap.size ⟨false, 0, 0, [], 0, 0, 0⟩ (.slice none 0 0) := by rw [hy]; constructor <;> simp [go_sem]
           have p1 : y1.heap.size ≤ u4.heap.size := hb4.size
           have hb5 : Below y1.heap.size y1 u5 := hb4.trans (kq.mono hb4.size)
           rw [← hy]
           clear hy kq
           refine hZ _ _ ⟨hb5, ?_⟩
           clear hZ Kz hi
           refine relist 3 #[true, true, true, true, true, true, true, true, true, true, true, true, false, false, false] (by kernel_rfl) (by kernel_rfl) ?_
           exact hTT.out _ _ ⟨u2.heap.size, u4.heap.size, aW, cW, [(.agg #[.int .i64 rg0.ep, .int .i64 rg0.ow, .int .i64 rg0.pa]), (.agg #[.int .i64 rg0.ep, .int .i64 rg0.ow, .int .i64 rg0.pa]), (.int .i64 n1), (.agg #[.bool m2.up, .int .i64 m2.li, .int .i64 m2.ep, .slice ad2 m2.lg.length cap2, .int .i64 m2.sd, .int .i64 m2.ac, .int .i64 m2.al]), (.agg #[.bool m2.up, .int .i64 m2.li, .int .i64 m2.ep, .slice (some ⟨gT, 0, none⟩) m2.lg.length m2.lg.length, .int .i64 m2.sd, .int .i64 m2.ac, .int .i64 m2.al])], rfl, by kernel_rfl, F0, F1, p0, p1, n01, OW.base bsW, jOW0, jOW1, hb5⟩
         · refine wpOp_step rfl (fun Kz hZ => ?_)
           rw [if_pos (by kernel_rfl)]
           go_simp
           obtain ⟨u4, hy⟩ : ∃ y_, y_ = u3.alloc (Obj.cells #[.bool false, .int .i64 0, .int .i64 0, .slice none 0 0, .int .i64 0, .int .i64 0, .int .i64 0] 26) := ⟨_, rfl⟩
           have kq : Below u3.heap.size u3 u4 := by rw [hy]; exact below_new _
           have joT1 : ∀ g_, (Value.slice (some ⟨gT, 0, none⟩) m2.lg.length m2.lg.length).ownBlock = some g_ → g_ ≠ u3.heap.size := fun g_ e => by have h1 := (oT.lt g_ e).2; omega
           have n01 : u2.heap.size ≠ u3.heap.size := by have h2 := F0.lt; omega
           have oT := oT.later kq
           have F0 := F0.below kq F0.lt
           have F1 : MiBox u4 u3.heap.size ⟨false, 0, 0, [], 0, 0, 0⟩ (.slice none 0 0) := by rw [hy]; constructor <;> simp [go_sem]
           have p1 : y1.heap.size ≤ u3.heap.size := hb3.size
           have hb4 : Below y1.heap.size y1 u4 := hb3.trans (kq.mono hb3.size)
           rw [← hy]
           clear hy kq
           refine hZ _ _ ⟨hb4, ?_⟩
           clear hZ Kz hi
           refine wpAnyH_all (rs := [5]) (by kernel_rfl) (by simp) ?_
           intro i hi; obtain rfl : i = 5 := by simpa using hi
           refine wpOp_step rfl (fun Kz hZ => ?_)
           rw [if_pos (by kernel_rfl)]
           go_simp
           go_at_call 27
           refine (takeSw rg0 n1 m2 (some ⟨gT, 0, none⟩) m2.lg.length u4 oT.view.2 (by omega) (fun e => by cases e)).mono ?_
           rintro e u5 ⟨aW, cW, rfl, OW, kq⟩
           rw [hD.out] at OW ⊢
           rw [hE.out, hO.out]
           have bsW := hb4.size
           have jOW0 : ∀ g_, (Value.slice aW D.lg.length cW).ownBlock = some g_ → g_ ≠ u2.heap.size := fun g_ e => by have h1 := (OW.lt g_ e).1; have h2 := F0.lt; omega
           have jOW1 : ∀ g_, (Value.slice aW D.lg.length cW).ownBlock = some g_ → g_ ≠ u3.heap.size := fun g_ e => by have h1 := (OW.lt g_ e).1; have h2 := F1.lt; omega
           have oT := oT.later kq
           have F0 := F0.below kq F0.lt
           have F1 := F1.below kq F1.lt
           have hb5 : Below y1.heap.size y1 u5 := hb4.trans (kq.mono hb4.size)
           clear kq
           refine hZ _ _ ⟨hb5, ?_⟩
           clear hZ Kz hi
           refine takeW 6 26 (.tuple #[.agg #[.int .i64 E.ep, .int .i64 E.ow, .int .i64 E.pa], .agg #[.bool D.up, .int .i64 D.li, .int .i64 D.ep, .slice aW D.lg.length cW, .int .i64 D.sd, .int .i64 D.ac, .int .i64 D.al], .bool o]) rfl rfl (by kernel_rfl) (by kernel_rfl) (by kernel_rfl) (fun _ _ _ h => h) (by kernel_rfl) (by (intro w hSw; go_simp)) (by assumption) ?_
           simp only [List.set_cons_zero, List.set_cons_succ]
           refine takeW 7 33 (.agg #[.int .i64 E.ep, .int .i64 E.ow, .int .i64 E.pa]) rfl rfl (by kernel_rfl) (by kernel_rfl) (by kernel_rfl) (fun _ _ _ h => h) (by kernel_rfl) (by (intro w hSw; go_simp)) (by assumption) ?_
           simp only [List.set_cons_zero, List.set_cons_succ]
           refine takeW 8 34 (.agg #[.bool D.up, .int .i64 D.li, .int .i64 D.ep, .slice aW D.lg.length cW, .int .i64 D.sd, .int .i64 D.ac, .int .i64 D.al]) rfl rfl (by kernel_rfl) (by kernel_rfl) (by kernel_rfl) (fun _ _ _ h => h) (by kernel_rfl) (by (intro w hSw; go_simp)) (by assumption) ?_
           simp only [List.set_cons_zero, List.set_cons_succ]
           refine takeW 9 35 (.bool o) rfl rfl (by kernel_rfl) (by kernel_rfl) (by kernel_rfl) (fun _ _ _ h => h) (by kernel_rfl) (by (intro w hSw; go_simp)) (by assumption) ?_
           simp only [List.set_cons_zero, List.set_cons_succ]
           refine relist 3 #[true, true, true, true, true, true, true, true, true, true, true, true, false, false, false] (by kernel_rfl) (by kernel_rfl) ?_
           exact hTT.out _ _ ⟨u2.heap.size, u3.heap.size, aW, cW, [(.agg #[.int .i64 rg0.ep, .int .i64 rg0.ow, .int .i64 rg0.pa]), (.agg #[.int .i64 rg0.ep, .int .i64 rg0.ow, .int .i64 rg0.pa]), (.int .i64 n1), (.agg #[.bool m2.up, .int .i64 m2.li, .int .i64 m2.ep, .slice ad2 m2.lg.length cap2, .int .i64 m2.sd, .int .i64 m2.ac, .int .i64 m2.al]), (.agg #[.bool m2.up, .int .i64 m2.li, .int .i64 m2.ep, .slice (some ⟨gT, 0, none⟩) m2.lg.length m2.lg.length, .int .i64 m2.sd, .int .i64 m2.ac, .int .i64 m2.al])], rfl, by kernel_rfl, F0, F1, p0, p1, n01, OW.base bsW, jOW0, jOW1, hb5⟩
       · refine wpOp_step rfl (fun Kz hZ => ?_)
         rw [if_pos (by kernel_rfl)]
         go_simp
         obtain ⟨u3, hy⟩ : ∃ y_, y_ = u2.alloc (Obj.cells #[.bool false, .int .i64 0, .int .i64 0, .slice none 0 0, .int .i64 0, .int .i64 0, .int .i64 0] 26) := ⟨_, rfl⟩
         have kq : Below u2.heap.size u2 u3 := by rw [hy]; exact below_new _
         have joT1 : ∀ g_, (Value.slice (some ⟨gT, 0, none⟩) m2.lg.length m2.lg.length).ownBlock = some g_ → g_ ≠ u2.heap.size := fun g_ e => by have h1 := (oT.lt g_ e).2; omega
         have oT := oT.later kq
         have F1 : MiBox u3 u2.heap.size ⟨false, 0, 0, [], 0, 0, 0⟩ (.slice none 0 0) := by rw [hy]; constructor <;> simp [go_sem]
         have p1 : y1.heap.size ≤ u2.heap.size := hb2.size
         have hb3 : Below y1.heap.size y1 u3 := hb2.trans (kq.mono hb2.size)
         rw [← hy]
         clear hy kq
         refine hZ _ _ ⟨hb3, ?_⟩
         clear hZ Kz hi
         refine wpAnyH_all (rs := [5, 10]) (by kernel_rfl) (by simp) ?_
         intro i hi; rcases (by simpa using hi : i = 5 ∨ i = 10) with rfl | rfl
         · refine wpOp_step rfl (fun Kz hZ => ?_)
           rw [if_pos (by kernel_rfl)]
           go_simp
           go_at_call 27
           refine (takeSw rg0 n1 m2 (some ⟨gT, 0, none⟩) m2.lg.length u3 oT.view.2 (by omega) (fun e => by cases e)).mono ?_
           rintro e u4 ⟨aW, cW, rfl, OW, kq⟩
           rw [hD.out] at OW ⊢
           rw [hE.out, hO.out]
           have bsW := hb3.size
           have jOW1 : ∀ g_, (Value.slice aW D.lg.length cW).ownBlock = some g_ → g_ ≠ u2.heap.size := fun g_ e => by have h1 := (OW.lt g_ e).1; have h2 := F1.lt; omega
           have oT := oT.later kq
           have F1 := F1.below kq F1.lt
           have hb4 : Below y1.heap.size y1 u4 := hb3.trans (kq.mono hb3.size)
           clear kq
           refine hZ _ _ ⟨hb4, ?_⟩
           clear hZ Kz hi
           refine takeW 6 26 (.tuple #[.agg #[.int .i64 E.ep, .int .i64 E.ow, .int .i64 E.pa], .agg #[.bool D.up, .int .i64 D.li, .int .i64 D.ep, .slice aW D.lg.length cW, .int .i64 D.sd, .int .i64 D.ac, .int .i64 D.al], .bool o]) rfl rfl (by kernel_rfl) (by kernel_rfl) (by kernel_rfl) (fun _ _ _ h => h) (by kernel_rfl) (by (intro w hSw; go_simp)) (by assumption) ?_
           simp only [List.set_cons_zero, List.set_cons_succ]
           refine takeW 7 33 (.agg #[.int .i64 E.ep, .int .i64 E.ow, .int .i64 E.pa]) rfl rfl (by kernel_rfl) (by kernel_rfl) (by kernel_rfl) (fun _ _ _ h => h) (by kernel_rfl) (by (intro w hSw; go_simp)) (by assumption) ?_
           simp only [List.set_cons_zero, List.set_cons_succ]
           refine takeW 8 34 (.agg #[.bool D.up, .int .i64 D.li, .int .i64 D.ep, .slice aW D.lg.length cW, .int .i64 D.sd, .int .i64 D.ac, .int .i64 D.al]) rfl rfl (by kernel_rfl) (by kernel_rfl) (by kernel_rfl) (fun _ _ _ h => h) (by kernel_rfl) (by (intro w hSw; go_simp)) (by assumption) ?_
           simp only [List.set_cons_zero, List.set_cons_succ]
           refine takeW 9 35 (.bool o) rfl rfl (by kernel_rfl) (by kernel_rfl) (by kernel_rfl) (fun _ _ _ h => h) (by kernel_rfl) (by (intro w hSw; go_simp)) (by assumption) ?_
           simp only [List.set_cons_zero, List.set_cons_succ]
           refine wpAnyH_all (rs := [10]) (by kernel_rfl) (by simp) ?_
           intro i hi; obtain rfl : i = 10 := by simpa using hi
           refine wpOp_step rfl (fun Kz hZ => ?_)
           rw [if_pos (by kernel_rfl)]
           go_simp
           obtain ⟨u5, hy⟩ : ∃ y_, y_ = u4.alloc (Obj.cells #[.int .i64 0, .int .i64 0, .int .i64 0] 44) := ⟨_, rfl⟩
           have kq : Below u4.heap.size u4 u5 := by rw [hy]; exact below_new _
           have joT0 : ∀ g_, (Value.slice (some ⟨gT, 0, none⟩) m2.lg.length m2.lg.length).ownBlock = some g_ → g_ ≠ u4.heap.size := fun g_ e => by have h1 := (oT.lt g_ e).2; omega
           have jOW0 : ∀ g_, (Value.slice aW D.lg.length cW).ownBlock = some g_ → g_ ≠ u4.heap.size := fun g_ e => by have h1 := (OW.lt g_ e).2; omega
           have n01 : u4.heap.size ≠ u2.heap.size := by have h2 := F1.lt; omega
           have oT := oT.later kq
           have OW := OW.later kq
           have F1 := F1.below kq F1.lt
           have F0 : RgBox u5 u4.heap.size ⟨0, 0, 0⟩ := by rw [hy]; refine ⟨?_, fun i => ?_⟩; constructor <;> simp [go_sem]; simp [go_sem]
           have p0 : y1.heap.size ≤ u4.heap.size := hb4.size
           have hb5 : Below y1.heap.size y1 u5 := hb4.trans (kq.mono hb4.size)
           rw [← hy]
           clear hy kq
           refine hZ _ _ ⟨hb5, ?_⟩
           clear hZ Kz hi
           refine relist 3 #[true, true, true, true, true, true, true, true, true, true, true, true, false, false, false] (by kernel_rfl) (by kernel_rfl) ?_
           exact hTT.out _ _ ⟨u4.heap.size, u2.heap.size, aW, cW, [(.agg #[.int .i64 rg0.ep, .int .i64 rg0.ow, .int .i64 rg0.pa]), (.agg #[.int .i64 rg0.ep, .int .i64 rg0.ow, .int .i64 rg0.pa]), (.int .i64 n1), (.agg #[.bool m2.up, .int .i64 m2.li, .int .i64 m2.ep, .slice ad2 m2.lg.length cap2, .int .i64 m2.sd, .int .i64 m2.ac, .int .i64 m2.al]), (.agg #[.bool m2.up, .int .i64 m2.li, .int .i64 m2.ep, .slice (some ⟨gT, 0, none⟩) m2.lg.length m2.lg.length, .int .i64 m2.sd, .int .i64 m2.ac, .int .i64 m2.al])], rfl, by kernel_rfl, F0, F1, p0, p1, n01, OW.base bsW, jOW0, jOW1, hb5⟩
         · refine wpOp_step rfl (fun Kz hZ => ?_)
           rw [if_pos (by kernel_rfl)]
           go_simp
           obtain ⟨u4, hy⟩ : ∃ y_, y_ = u3.alloc (Obj.cells #[.int .i64 0, .int .i64 0, .int .i64 0] 44) := ⟨_, rfl⟩
           have kq : Below u3.heap.size u3 u4 := by rw [hy]; exact below_new _
           have joT0 : ∀ g_, (Value.slice (some ⟨gT, 0, none⟩) m2.lg.length m2.lg.length).ownBlock = some g_ → g_ ≠ u3.heap.size := fun g_ e => by have h1 := (oT.lt g_ e).2; omega
           have n01 : u3.heap.size ≠ u2.heap.size := by have h2 := F1.lt; omega
           have oT := oT.later kq
           have F1 := F1.below kq F1.lt
           have F0 : RgBox u4 u3.heap.size ⟨0, 0, 0⟩ := by rw [hy]; refine ⟨?_, fun i => ?_⟩; constructor <;> simp [go_sem]; simp [go_sem]
           have p0 : y1.heap.size ≤ u3.heap.size := hb3.size
           have hb4 : Below y1.heap.size y1 u4 := hb3.trans (kq.mono hb3.size)
           rw [← hy]
           clear hy kq
           refine hZ _ _ ⟨hb4, ?_⟩
           clear hZ Kz hi
           refine wpAnyH_all (rs := [5]) (by kernel_rfl) (by simp) ?_
           intro i hi; obtain rfl : i = 5 := by simpa using hi
           refine wpOp_step rfl (fun Kz hZ => ?_)
           rw [if_pos (by kernel_rfl)]
           go_simp
           go_at_call 27
           refine (takeSw rg0 n1 m2 (some ⟨gT, 0, none⟩) m2.lg.length u4 oT.view.2 (by omega) (fun e => by cases e)).mono ?_
           rintro e u5 ⟨aW, cW, rfl, OW, kq⟩
           rw [hD.out] at OW ⊢
           rw [hE.out, hO.out]
           have bsW := hb4.size
           have jOW1 : ∀ g_, (Value.slice aW D.lg.length cW).ownBlock = some g_ → g_ ≠ u2.heap.size := fun g_ e => by have h1 := (OW.lt g_ e).1; have h2 := F1.lt; omega
           have jOW0 : ∀ g_, (Value.slice aW D.lg.length cW).ownBlock = some g_ → g_ ≠ u3.heap.size := fun g_ e => by have h1 := (OW.lt g_ e).1; have h2 := F0.lt; omega
           have oT := oT.later kq
           have F1 := F1.below kq F1.lt
           have F0 := F0.below kq F0.lt
           have hb5 : Below y1.heap.size y1 u5 := hb4.trans (kq.mono hb4.size)
           clear kq
           refine hZ _ _ ⟨hb5, ?_⟩
           clear hZ Kz hi
           refine takeW 6 26 (.tuple #[.agg #[.int .i64 E.ep, .int .i64 E.ow, .int .i64 E.pa], .agg #[.bool D.up, .int .i64 D.li, .int .i64 D.ep, .slice aW D.lg.length cW, .int .i64 D.sd, .int .i64 D.ac, .int .i64 D.al], .bool o]) rfl rfl (by kernel_rfl) (by kernel_rfl) (by kernel_rfl) (fun _ _ _ h => h) (by kernel_rfl) (by (intro w hSw; go_simp)) (by assumption) ?_
           simp only [List.set_cons_zero, List.set_cons_succ]
           refine takeW 7 33 (.agg #[.int .i64 E.ep, .int .i64 E.ow, .int .i64 E.pa]) rfl rfl (by kernel_rfl) (by kernel_rfl) (by kernel_rfl) (fun _ _ _ h => h) (by kernel_rfl) (by (intro w hSw; go_simp)) (by assumption) ?_
           simp only [List.set_cons_zero, List.set_cons_succ]
           refine takeW 8 34 (.agg #[.bool D.up, .int .i64 D.li, .int .i64 D.ep, .slice aW D.lg.length cW, .int .i64 D.sd, .int .i64 D.ac, .int .i64 D.al]) rfl rfl (by kernel_rfl) (by kernel_rfl) (by kernel_rfl) (fun _ _ _ h => h) (by kernel_rfl) (by (intro w hSw; go_simp)) (by assumption) ?_
           simp only [List.set_cons_zero, List.set_cons_succ]
           refine takeW 9 35 (.bool o) rfl rfl (by kernel_rfl) (by kernel_rfl) (by kernel_rfl) (fun _ _ _ h => h) (by kernel_rfl) (by (intro w hSw; go_simp)) (by assumption) ?_
           simp only [List.set_cons_zero, List.set_cons_succ]
           refine relist 3 #[true, true, true, true, true, true, true, true, true, true, true, true, false, false, false] (by kernel_rfl) (by kernel_rfl) ?_
           exact hTT.out _ _ ⟨u3.heap.size, u2.heap.size, aW, cW, [(.agg #[.int .i64 rg0.ep, .int .i64 rg0.ow, .int .i64 rg0.pa]), (.agg #[.int .i64 rg0.ep, .int .i64 rg0.ow, .int .i64 rg0.pa]), (.int .i64 n1), (.agg #[.bool m2.up, .int .i64 m2.li, .int .i64 m2.ep, .slice ad2 m2.lg.length cap2, .int .i64 m2.sd, .int .i64 m2.ac, .int .i64 m2.al]), (.agg #[.bool m2.up, .int .i64 m2.li, .int .i64 m2.ep, .slice (some ⟨gT, 0, none⟩) m2.lg.length m2.lg.length, .int .i64 m2.sd, .int .i64 m2.ac, .int .i64 m2.al])], rfl, by kernel_rfl, F0, F1, p0, p1, n01, OW.base bsW, jOW0, jOW1, hb5⟩
     · refine wpOp_step rfl (fun Kz hZ => ?_)
       rw [if_pos (by kernel_rfl)]
       go_simp
       obtain ⟨u2, hy⟩ : ∃ y_, y_ = u1.alloc (Obj.cells #[.int .i64 0, .int .i64 0, .int .i64 0] 44) := ⟨_, rfl⟩
       have kq : Below u1.heap.size u1 u2 := by rw [hy]; exact below_new _
       have F0 : RgBox u2 u1.heap.size ⟨0, 0, 0⟩ := by rw [hy]; refine ⟨?_, fun i => ?_⟩; constructor <;> simp [go_sem]; simp [go_sem]
       have p0 : y1.heap.size ≤ u1.heap.size := hb1.size
       have hb2 : Below y1.heap.size y1 u2 := hb1.trans (kq.mono hb1.size)
       rw [← hy]
       clear hy kq
       refine hZ _ _ ⟨hb2, ?_⟩
       clear hZ Kz hi
       refine wpAnyH_all (rs := [4, 11]) (by kernel_rfl) (by simp) ?_
       intro i hi; rcases (by simpa using hi : i = 4 ∨ i = 11) with rfl | rfl
       · refine wpOp_step rfl (fun Kz hZ => ?_)
         rw [if_pos (by kernel_rfl)]
         go_simp
         go_at_call 24
         refine (miTo m2 ad2 cap2 u2 (V2.below hb2 (V2.lt ikEnc_len (by omega))) hl).mono ?_
         rintro e u3 ⟨gT, rfl, _, _, oT, kq⟩
         have joT0 : ∀ g_, (Value.slice (some ⟨gT, 0, none⟩) m2.lg.length m2.lg.length).ownBlock = some g_ → g_ ≠ u1.heap.size := fun g_ e => by have h1 := (oT.lt g_ e).1; have h2 := F0.lt; omega
         have F0 := F0.below kq F0.lt
         have hb3 : Below y1.heap.size y1 u3 := hb2.trans (kq.mono hb2.size)
         clear kq
         refine hZ _ _ ⟨hb3, ?_⟩
         clear hZ Kz hi
         refine wpAnyH_all (rs := [5, 11]) (by kernel_rfl) (by simp) ?_
         intro i hi; rcases (by simpa using hi : i = 5 ∨ i = 11) with rfl | rfl
         · refine wpOp_step rfl (fun Kz hZ => ?_)
           rw [if_pos (by kernel_rfl)]
           go_simp
           go_at_call 27
           refine (takeSw rg0 n1 m2 (some ⟨gT, 0, none⟩) m2.lg.length u3 oT.view.2 (by omega) (fun e => by cases e)).mono ?_
           rintro e u4 ⟨aW, cW, rfl, OW, kq⟩
           rw [hD.out] at OW ⊢
           rw [hE.out, hO.out]
           have bsW := hb3.size
           have jOW0 : ∀ g_, (Value.slice aW D.lg.length cW).ownBlock = some g_ → g_ ≠ u1.heap.size := fun g_ e => by have h1 := (OW.lt g_ e).1; have h2 := F0.lt; omega
           have oT := oT.later kq
           have F0 := F0.below kq F0.lt
           have hb4 : Below y1.heap.size y1 u4 := hb3.trans (kq.mono hb3.size)
           clear kq
           refine hZ _ _ ⟨hb4, ?_⟩
           clear hZ Kz hi
           refine takeW 6 26 (.tuple #[.agg #[.int .i64 E.ep, .int .i64 E.ow, .int .i64 E.pa], .agg #[.bool D.up, .int .i64 D.li, .int .i64 D.ep, .slice aW D.lg.length cW, .int .i64 D.sd, .int .i64 D.ac, .int .i64 D.al], .bool o]) rfl rfl (by kernel_rfl) (by kernel_rfl) (by kernel_rfl) (fun _ _ _ h => h) (by kernel_rfl) (by (intro w hSw; go_simp)) (by assumption) ?_
           simp only [List.set_cons_zero, List.set_cons_succ]
           refine takeW 7 33 (.agg #[.int .i64 E.ep, .int .i64 E.ow, .int .i64 E.pa]) rfl rfl (by kernel_rfl) (by kernel_rfl) (by kernel_rfl) (fun _ _ _ h => h) (by kernel_rfl) (by (intro w hSw; go_simp)) (by assumption) ?_
           simp only [List.set_cons_zero, List.set_cons_succ]
           refine takeW 8 34 (.agg #[.bool D.up, .int .i64 D.li, .int .i64 D.ep, .slice aW D.lg.length cW, .int .i64 D.sd, .int .i64 D.ac, .int .i64 D.al]) rfl rfl (by kernel_rfl) (by kernel_rfl) (by kernel_rfl) (fun _ _ _ h => h) (by kernel_rfl) (by (intro w hSw; go_simp)) (by assumption) ?_
           simp only [List.set_cons_zero, List.set_cons_succ]
           refine takeW 9 35 (.bool o) rfl rfl (by kernel_rfl) (by kernel_rfl) (by kernel_rfl) (fun _ _ _ h => h) (by kernel_rfl) (by (intro w hSw; go_simp)) (by assumption) ?_
           simp only [List.set_cons_zero, List.set_cons_succ]
           refine wpAnyH_all (rs := [11]) (by kernel_rfl) (by simp) ?_
           intro i hi; obtain rfl : i = 11 := by simpa using hi
           refine wpOp_step rfl (fun Kz hZ => ?_)
           rw [if_pos (by kernel_rfl)]
           go_simp
           obtain ⟨u5, hy⟩ : ∃ y_, y_ = u4.alloc (Obj.cells #[.bool false, .int .i64 0, .int .i64 0, .slice none 0 0, .int .i64 0, .int .i64 0, .int .i64 0] 26) := ⟨_, rfl⟩
           have kq : Below u4.heap.size u4 u5 := by rw [hy]; exact below_new _
           have joT1 : ∀ g_, (Value.slice (some ⟨gT, 0, none⟩) m2.lg.length m2.lg.length).ownBlock = some g_ → g_ ≠ u4.heap.size := fun g_ e => by have h1 := (oT.lt g_ e).2; omega
           have jOW1 : ∀ g_, (Value.slice aW D.lg.length cW).ownBlock = some g_ → g_ ≠ u4.heap.size := fun g_ e => by have h1 := (OW.lt g_ e).2; omega
           have n01 : u1.heap.size ≠ u4.heap.size := by have h2 := F0.lt; omega
           have oT := oT.later kq
           have OW := OW.later kq
           have F0 := F0.below kq F0.lt
           have F1 : MiBox u5 u4.heap.size ⟨false, 0, 0, [], 0, 0, 0⟩ (.slice none 0 0) := by rw [hy]; constructor <;> simp [go_sem]
           have p1 : y1.heap.size ≤ u4.heap.size := hb4.size
           have hb5 : Below y1.heap.size y1 u5 := hb4.trans (kq.mono hb4.size)
           rw [← hy]
           clear hy kq
           refine hZ _ _ ⟨hb5, ?_⟩
           clear hZ Kz hi
           refine relist 3 #[true, true, true, true, true, true, true, true, true, true, true, true, false, false, false] (by kernel_rfl) (by kernel_rfl) ?_
           exact hTT.out _ _ ⟨u1.heap.size, u4.heap.size, aW, cW, [(.agg #[.int .i64 rg0.ep, .int .i64 rg0.ow, .int .i64 rg0.pa]), (.agg #[.int .i64 rg0.ep, .int .i64 rg0.ow, .int .i64 rg0.pa]), (.int .i64 n1), (.agg #[.bool m2.up, .int .i64 m2.li, .int .i64 m2.ep, .slice ad2 m2.lg.length cap2, .int .i64 m2.sd, .int .i64 m2.ac, .int .i64 m2.al]), (.agg #[.bool m2.up, .int .i64 m2.li, .int .i64 m2.ep, .slice (some ⟨gT, 0, none⟩) m2.lg.length m2.lg.length, .int .i64 m2.sd, .int .i64 m2.ac, .int .i64 m2.al])], rfl, by kernel_rfl, F0, F1, p0, p1, n01, OW.base bsW, jOW0, jOW1, hb5⟩
         · refine wpOp_step rfl (fun Kz hZ => ?_)
           rw [if_pos (by kernel_rfl)]
           go_simp
           obtain ⟨u4, hy⟩ : ∃ y_, y_ = u3.alloc (Obj.cells #[.bool false, .int .i64 0, .int .i64 0, .slice none 0 0, .int .i64 0, .int .i64 0, .int .i64 0] 26) := ⟨_, rfl⟩
           have kq : Below u3.heap.size u3 u4 := by rw [hy]; exact below_new _
           have joT1 : ∀ g_, (Value.slice (some ⟨gT, 0, none⟩) m2.lg.length m2.lg.length).ownBlock = some g_ → g_ ≠ u3.heap.size := fun g_ e => by have h1 := (oT.lt g_ e).2; omega
           have n01 : u1.heap.size ≠ u3.heap.size := by have h2 := F0.lt; omega
           have oT := oT.later kq
           have F0 := F0.below kq F0.lt
           have F1 : MiBox u4 u3.heap.size ⟨false, 0, 0, [], 0, 0, 0⟩ (.slice none 0 0) := by rw [hy]; constructor <;> simp [go_sem]
           have p1 : y1.heap.size ≤ u3.heap.size := hb3.size
           have hb4 : Below y1.heap.size y1 u4 := hb3.trans (kq.mono hb3.size)
           rw [← hy]
           clear hy kq
           refine hZ _ _ ⟨hb4, ?_⟩
           clear hZ Kz hi
           refine wpAnyH_all (rs := [5]) (by kernel_rfl) (by simp) ?_
           intro i hi; obtain rfl : i = 5 := by simpa using hi
           refine wpOp_step rfl (fun Kz hZ => ?_)
           rw [if_pos (by kernel_rfl)]
           go_simp
           go_at_call 27
           refine (takeSw rg0 n1 m2 (some ⟨gT, 0, none⟩) m2.lg.length u4 oT.view.2 (by omega) (fun e => by cases e)).mono ?_
           rintro e u5 ⟨aW, cW, rfl, OW, kq⟩
           rw [hD.out] at OW ⊢
           rw [hE.out, hO.out]
           have bsW := hb4.size
           have jOW0 : ∀ g_, (Value.slice aW D.lg.length cW).ownBlock = some g_ → g_ ≠ u1.heap.size := fun g_ e => by have h1 := (OW.lt g_ e).1; have h2 := F0.lt; omega
           have jOW1 : ∀ g_, (Value.slice aW D.lg.length cW).ownBlock = some g_ → g_ ≠ u3.heap.size := fun g_ e => by have h1 := (OW.lt g_ e).1; have h2 := F1.lt; omega
           have oT := oT.later kq
           have F0 := F0.below kq F0.lt
           have F1 := F1.below kq F1.lt
           have hb5 : Below y1.heap.size y1 u5 := hb4.trans (kq.mono hb4.size)
           clear kq
           refine hZ _ _ ⟨hb5, ?_⟩
           clear hZ Kz hi
           refine takeW 6 26 (.tuple #[.agg #[.int .i64 E.ep, .int .i64 E.ow, .int .i64 E.pa], .agg #[.bool D.up, .int .i64 D.li, .int .i64 D.ep, .slice aW D.lg.length cW, .int .i64 D.sd, .int .i64 D.ac, .int .i64 D.al], .bool o]) rfl rfl (by kernel_rfl) (by kernel_rfl) (by kernel_rfl) (fun _ _ _ h => h) (by kernel_rfl) (by (intro w hSw; go_simp)) (by assumption) ?_
           simp only [List.set_cons_zero, List.set_cons_succ]
           refine takeW 7 33 (.agg #[.int .i64 E.ep, .int .i64 E.ow, .int .i64 E.pa]) rfl rfl (by kernel_rfl) (by kernel_rfl) (by kernel_rfl) (fun _ _ _ h => h) (by kernel_rfl) (by (intro w hSw; go_simp)) (by assumption) ?_
           simp only [List.set_cons_zero, List.set_cons_succ]
           refine takeW 8 34 (.agg #[.bool D.up, .int .i64 D.li, .int .i64 D.ep, .slice aW D.lg.length cW, .int .i64 D.sd, .int .i64 D.ac, .int .i64 D.al]) rfl rfl (by kernel_rfl) (by kernel_rfl) (by kernel_rfl) (fun _ _ _ h => h) (by kernel_rfl) (by (intro w hSw; go_simp)) (by assumption) ?_
           simp only [List.set_cons_zero, List.set_cons_succ]
           refine takeW 9 35 (.bool o) rfl rfl (by kernel_rfl) (by kernel_rfl) (by kernel_rfl) (fun _ _ _ h => h) (by kernel_rfl) (by (intro w hSw; go_simp)) (by assumption) ?_
           simp only [List.set_cons_zero, List.set_cons_succ]
           refine relist 3 #[true, true, true, true, true, true, true, true, true, true, true, true, false, false, false] (by kernel_rfl) (by kernel_rfl) ?_
           exact hTT.out _ _ ⟨u1.heap.size, u3.heap.size, aW, cW, [(.agg #[.int .i64 rg0.ep, .int .i64 rg0.ow, .int .i64 rg0.pa]), (.agg #[.int .i64 rg0.ep, .int .i64 rg0.ow, .int .i64 rg0.pa]), (.int .i64 n1), (.agg #[.bool m2.up, .int .i64 m2.li, .int .i64 m2.ep, .slice ad2 m2.lg.length cap2, .int .i64 m2.sd, .int .i64 m2.ac, .int .i64 m2.al]), (.agg #[.bool m2.up, .int .i64 m2.li, .int .i64 m2.ep, .slice (some ⟨gT, 0, none⟩) m2.lg.length m2.lg.length, .int .i64 m2.sd, .int .i64 m2.ac, .int .i64 m2.al])], rfl, by kernel_rfl, F0, F1, p0, p1, n01, OW.base bsW, jOW0, jOW1, hb5⟩
       · refine wpOp_step rfl (fun Kz hZ => ?_)
         rw [if_pos (by kernel_rfl)]
         go_simp
         obtain ⟨u3, hy⟩ : ∃ y_, y_ = u2.alloc (Obj.cells #[.bool false, .int .i64 0, .int .i64 0, .slice none 0 0, .int .i64 0, .int .i64 0, .int .i64 0] 26) := ⟨_, rfl⟩
         have kq : Below u2.heap.size u2 u3 := by rw [hy]; exact below_new _
         have n01 : u1.heap.size ≠ u2.heap.size := by have h2 := F0.lt; omega
         have F0 := F0.below kq F0.lt
         have F1 : MiBox u3 u2.heap.size ⟨false, 0, 0, [], 0, 0, 0⟩ (.slice none 0 0) := by rw [hy]; constructor <;> simp [go_sem]
         have p1 : y1.heap.size ≤ u2.heap.size := hb2.size
         have hb3 : Below y1.heap.size y1 u3 := hb2.trans (kq.mono hb2.size)
         rw [← hy]
         clear hy kq
         refine hZ _ _ ⟨hb3, ?_⟩
         clear hZ Kz hi
         refine wpAnyH_all (rs := [4]) (by kernel_rfl) (by simp) ?_
         intro i hi; obtain rfl : i = 4 := by simpa using hi
         refine wpOp_step rfl (fun Kz hZ => ?_)
         rw [if_pos (by kernel_rfl)]
         go_simp
         go_at_call 24
         refine (miTo m2 ad2 cap2 u3 (V2.below hb3 (V2.lt ikEnc_len (by omega))) hl).mono ?_
         rintro e u4 ⟨gT, rfl, _, _, oT, kq⟩
         have joT0 : ∀ g_, (Value.slice (some ⟨gT, 0, none⟩) m2.lg.length m2.lg.length).ownBlock = some g_ → g_ ≠ u1.heap.size := fun g_ e => by have h1 := (oT.lt g_ e).1; have h2 := F0.lt; omega
         have joT1 : ∀ g_, (Value.slice (some ⟨gT, 0, none⟩) m2.lg.length m2.lg.length).ownBlock = some g_ → g_ ≠ u2.heap.size := fun g_ e => by have h1 := (oT.lt g_ e).1; have h2 := F1.lt; omega
         have F0 := F0.below kq F0.lt
         have F1 := F1.below kq F1.lt
         have hb4 : Below y1.heap.size y1 u4 := hb3.trans (kq.mono hb3.size)
         clear kq
         refine hZ _ _ ⟨hb4, ?_⟩
         clear hZ Kz hi
         refine wpAnyH_all (rs := [5]) (by kernel_rfl) (by simp) ?_
         intro i hi; obtain rfl : i = 5 := by simpa using hi
         refine wpOp_step rfl (fun Kz hZ => ?_)
         rw [if_pos (by kernel_rfl)]
         go_simp
         go_at_call 27
         refine (takeSw rg0 n1 m2 (some ⟨gT, 0, none⟩) m2.lg.length u4 oT.view.2 (by omega) (fun e => by cases e)).mono ?_
         rintro e u5 ⟨aW, cW, rfl, OW, kq⟩
         rw [hD.out] at OW ⊢
         rw [hE.out, hO.out]
         have bsW := hb4.size
         have jOW0 : ∀ g_, (Value.slice aW D.lg.length cW).ownBlock = some g_ → g_ ≠ u1.heap.size := fun g_ e => by have h1 := (OW.lt g_ e).1; have h2 := F0.lt; omega
         have jOW1 : ∀ g_, (Value.slice aW D.lg.length cW).ownBlock = some g_ → g_ ≠ u2.heap.size := fun g_ e => by have h1 := (OW.lt g_ e).1; have h2 := F1.lt; omega
         have oT := oT.later kq
         have F0 := F0.below kq F0.lt
         have F1 := F1.below kq F1.lt
         have hb5 : Below y1.heap.size y1 u5 := hb4.trans (kq.mono hb4.size)
         clear kq
         refine hZ _ _ ⟨hb5, ?_⟩
         clear hZ Kz hi
         refine takeW 6 26 (.tuple #[.agg #[.int .i64 E.ep, .int .i64 E.ow, .int .i64 E.pa], .agg #[.bool D.up, .int .i64 D.li, .int .i64 D.ep, .slice aW D.lg.length cW, .int .i64 D.sd, .int .i64 D.ac, .int .i64 D.al], .bool o]) rfl rfl (by kernel_rfl) (by kernel_rfl) (by kernel_rfl) (fun _ _ _ h => h) (by kernel_rfl) (by (intro w hSw; go_simp)) (by assumption) ?_
         simp only [List.set_cons_zero, List.set_cons_succ]
         refine takeW 7 33 (.agg #[.int .i64 E.ep, .int .i64 E.ow, .int .i64 E.pa]) rfl rfl (by kernel_rfl) (by kernel_rfl) (by kernel_rfl) (fun _ _ _ h => h) (by kernel_rfl) (by (intro w hSw; go_simp)) (by assumption) ?_
         simp only [List.set_cons_zero, List.set_cons_succ]
         refine takeW 8 34 (.agg #[.bool D.up, .int .i64 D.li, .int .i64 D.ep, .slice aW D.lg.length cW, .int .i64 D.sd, .int .i64 D.ac, .int .i64 D.al]) rfl rfl (by kernel_rfl) (by kernel_rfl) (by kernel_rfl) (fun _ _ _ h => h) (by kernel_rfl) (by (intro w hSw; go_simp)) (by assumption) ?_
         simp only [List.set_cons_zero, List.set_cons_succ]
         refine takeW 9 35 (.bool o) rfl rfl (by kernel_rfl) (by kernel_rfl) (by kernel_rfl) (fun _ _ _ h => h) (by kernel_rfl) (by (intro w hSw; go_simp)) (by assumption) ?_
         simp only [List.set_cons_zero, List.set_cons_succ]
         refine relist 3 #[true, true, true, true, true, true, true, true, true, true, true, true, false, false, false] (by kernel_rfl) (by kernel_rfl) ?_
         exact hTT.out _ _ ⟨u1.heap.size, u2.heap.size, aW, cW, [(.agg #[.int .i64 rg0.ep, .int .i64 rg0.ow, .int .i64 rg0.pa]), (.agg #[.int .i64 rg0.ep, .int .i64 rg0.ow, .int .i64 rg0.pa]), (.int .i64 n1), (.agg #[.bool m2.up, .int .i64 m2.li, .int .i64 m2.ep, .slice ad2 m2.lg.length cap2, .int .i64 m2.sd, .int .i64 m2.ac, .int .i64 m2.al]), (.agg #[.bool m2.up, .int .i64 m2.li, .int .i64 m2.ep, .slice (some ⟨gT, 0, none⟩) m2.lg.length m2.lg.length, .int .i64 m2.sd, .int .i64 m2.ac, .int .i64 m2.al])], rfl, by kernel_rfl, F0, F1, p0, p1, n01, OW.base bsW, jOW0, jOW1, hb5⟩
     · refine wpOp_step rfl (fun Kz hZ => ?_)
       rw [if_pos (by kernel_rfl)]
       go_simp
       obtain ⟨u2, hy⟩ : ∃ y_, y_ = u1.alloc (Obj.cells #[.bool false, .int .i64 0, .int .i64 0, .slice none 0 0, .int .i64 0, .int .i64 0, .int .i64 0] 26) := ⟨_, rfl⟩
       have kq : Below u1.heap.size u1 u2 := by rw [hy]; exact below_new _
       have F1 : MiBox u2 u1.heap.size ⟨false, 0, 0, [], 0, 0, 0⟩ (.slice none 0 0) := by rw [hy]; constructor <;> simp [go_sem]
       have p1 : y1.heap.size ≤ u1.heap.size := hb1.size
       have hb2 : Below y1.heap.size y1 u2 := hb1.trans (kq.mono hb1.size)
       rw [← hy]
       clear hy kq
       refine hZ _ _ ⟨hb2, ?_⟩
       clear hZ Kz hi
       refine wpAnyH_all (rs := [4, 10]) (by kernel_rfl) (by simp) ?_
       intro i hi; rcases (by simpa using hi : i = 4 ∨ i = 10) with rfl | rfl
       · refine wpOp_step rfl (fun Kz hZ => ?_)
         rw [if_pos (by kernel_rfl)]
         go_simp
         go_at_call 24
         refine (miTo m2 ad2 cap2 u2 (V2.below hb2 (V2.lt ikEnc_len (by omega))) hl).mono ?_
         rintro e u3 ⟨gT, rfl, _, _, oT, kq⟩
         have joT1 : ∀ g_, (Value.slice (some ⟨gT, 0, none⟩) m2.lg.length m2.lg.length).ownBlock = some g_ → g_ ≠ u1.heap.size := fun g_ e => by have h1 := (oT.lt g_ e).1; have h2 := F1.lt; omega
         have F1 := F1.below kq F1.lt
         have hb3 : Below y1.heap.size y1 u3 := hb2.trans (kq.mono hb2.size)
         clear kq
         refine hZ _ _ ⟨hb3, ?_⟩
         clear hZ Kz hi
         refine wpAnyH_all (rs := [5, 10]) (by kernel_rfl) (by simp) ?_
         intro i hi; rcases (by simpa using hi : i = 5 ∨ i = 10) with rfl | rfl
         · refine wpOp_step rfl (fun Kz hZ => ?_)
           rw [if_pos (by kernel_rfl)]
           go_simp
           go_at_call 27
           refine (takeSw rg0 n1 m2 (some ⟨gT, 0, none⟩) m2.lg.length u3 oT.view.2 (by omega) (fun e => by cases e)).mono ?_
           rintro e u4 ⟨aW, cW, rfl, OW, kq⟩
           rw [hD.out] at OW ⊢
           rw [hE.out, hO.out]
           have bsW := hb3.size
           have jOW1 : ∀ g_, (Value.slice aW D.lg.length cW).ownBlock = some g_ → g_ ≠ u1.heap.size := fun g_ e => by have h1 := (OW.lt g_ e).1; have h2 := F1.lt; omega
           have oT := oT.later kq
           have F1 := F1.below kq F1.lt
           have hb4 : Below y1.heap.size y1 u4 := hb3.trans (kq.mono hb3.size)
           clear kq
           refine hZ _ _ ⟨hb4, ?_⟩
           clear hZ Kz hi
           refine takeW 6 26 (.tuple #[.agg #[.int .i64 E.ep, .int .i64 E.ow, .int .i64 E.pa], .agg #[.bool D.up, .int .i64 D.li, .int .i64 D.ep, .slice aW D.lg.length cW, .int .i64 D.sd, .int .i64 D.ac, .int .i64 D.al], .bool o]) rfl rfl (by kernel_rfl) (by kernel_rfl) (by kernel_rfl) (fun _ _ _ h => h) (by kernel_rfl) (by (intro w hSw; go_simp)) (by assumption) ?_
           simp only [List.set_cons_zero, List.set_cons_succ]
           refine takeW 7 33 (.agg #[.int .i64 E.ep, .int .i64 E.ow, .int .i64 E.pa]) rfl rfl (by kernel_rfl) (by kernel_rfl) (by kernel_rfl) (fun _ _ _ h => h) (by kernel_rfl) (by (intro w hSw; go_simp)) (by assumption) ?_
           simp only [List.set_cons_zero, List.set_cons_succ]
           refine takeW 8 34 (.agg #[.bool D.up, .int .i64 D.li, .int .i64 D.ep, .slice aW D.lg.length cW, .int .i64 D.sd, .int .i64 D.ac, .int .i64 D.al]) rfl rfl (by kernel_rfl) (by kernel_rfl) (by kernel_rfl) (fun _ _ _ h => h) (by kernel_rfl) (by (intro w hSw; go_simp)) (by assumption) ?_
           simp only [List.set_cons_zero, List.set_cons_succ]
           refine takeW 9 35 (.bool o) rfl rfl (by kernel_rfl) (by kernel_rfl) (by kernel_rfl) (fun _ _ _ h => h) (by kernel_rfl) (by (intro w hSw; go_simp)) (by assumption) ?_
           simp only [List.set_cons_zero, List.set_cons_succ]
           refine wpAnyH_all (rs := [10]) (by kernel_rfl) (by simp) ?_
           intro i hi; obtain rfl : i = 10 := by simpa using hi
           refine wpOp_step rfl (fun Kz hZ => ?_)
           rw [if_pos (by kernel_rfl)]
           go_simp
           obtain ⟨u5, hy⟩ : ∃ y_, y_ = u4.alloc (Obj.cells #[.int .i64 0, .int .i64 0, .int .i64 0] 44) := ⟨_, rfl⟩
           have kq : Below u4.heap.size u4 u5 := by rw [hy]; exact below_new _
           have joT0 : ∀ g_, (Value.slice (some ⟨gT, 0, none⟩) m2.lg.length m2.lg.length).ownBlock = some g_ → g_ ≠ u4.heap.size := fun g_ e => by have h1 := (oT.lt g_ e).2; omega
           have jOW0 : ∀ g_, (Value.slice aW D.lg.length cW).ownBlock = some g_ → g_ ≠ u4.heap.size := fun g_ e => by have h1 := (OW.lt g_ e).2; omega
           have n01 : u4.heap.size ≠ u1.heap.size := by have h2 := F1.lt; omega
           have oT := oT.later kq
           have OW := OW.later kq
           have F1 := F1.below kq F1.lt
           have F0 : RgBox u5 u4.heap.size ⟨0, 0, 0⟩ := by rw [hy]; refine ⟨?_, fun i => ?_⟩; constructor <;> simp [go_sem]; simp [go_sem]
           have p0 : y1.heap.size ≤ u4.heap.size := hb4.size
           have hb5 : Below y1.heap.size y1 u5 := hb4.trans (kq.mono hb4.size)
           rw [← hy]
           clear hy kq
           refine hZ _ _ ⟨hb5, ?_⟩
           clear hZ Kz hi
           refine relist 3 #[true, true, true, true, true, true, true, true, true, true, true, true, false, false, false] (by kernel_rfl) (by kernel_rfl) ?_
           exact hTT.out _ _ ⟨u4.heap.size, u1.heap.size, aW, cW, [(.agg #[.int .i64 rg0.ep, .int .i64 rg0.ow, .int .i64 rg0.pa]), (.agg #[.int .i64 rg0.ep, .int .i64 rg0.ow, .int .i64 rg0.pa]), (.int .i64 n1), (.agg #[.bool m2.up, .int .i64 m2.li, .int .i64 m2.ep, .slice ad2 m2.lg.length cap2, .int .i64 m2.sd, .int .i64 m2.ac, .int .i64 m2.al]), (.agg #[.bool m2.up, .int .i64 m2.li, .int .i64 m2.ep, .slice (some ⟨gT, 0, none⟩) m2.lg.length m2.lg.length, .int .i64 m2.sd, .int .i64 m2.ac, .int .i64 m2.al])], rfl, by kernel_rfl, F0, F1, p0, p1, n01, OW.base bsW, jOW0, jOW1, hb5⟩
         · refine wpOp_step rfl (fun Kz hZ => ?_)
           rw [if_pos (by kernel_rfl)]
           go_simp
           obtain ⟨u4, hy⟩ : ∃ y_, y_ = u3.alloc (Obj.cells #[.int .i64 0, .int .i64 0, .int .i64 0] 44) := ⟨_, rfl⟩
           have kq : Below u3.heap.size u3 u4 := by rw [hy]; exact below_new _
           have joT0 : ∀ g_, (Value.slice (some ⟨gT, 0, none⟩) m2.lg.length m2.lg.length).ownBlock = some g_ → g_ ≠ u3.heap.size := fun g_ e => by have h1 := (oT.lt g_ e).2; omega
           have n01 : u3.heap.size ≠ u1.heap.size := by have h2 := F1.lt; omega
           have oT := oT.later kq
           have F1 := F1.below kq F1.lt
           have F0 : RgBox u4 u3.heap.size ⟨0, 0, 0⟩ := by rw [hy]; refine ⟨?_, fun i => ?_⟩; constructor <;> simp [go_sem]; simp [go_sem]
           have p0 : y1.heap.size ≤ u3.heap.size := hb3.size
           have hb4 : Below y1.heap.size y1 u4 := hb3.trans (kq.mono hb3.size)
           rw [← hy]
           clear hy kq
           refine hZ _ _ ⟨hb4, ?_⟩
           clear hZ Kz hi
           refine wpAnyH_all (rs := [5]) (by kernel_rfl) (by simp) ?_
           intro i hi; obtain rfl : i = 5 := by simpa using hi
           refine wpOp_step rfl (fun Kz hZ => ?_)
           rw [if_pos (by kernel_rfl)]
           go_simp
           go_at_call 27
           refine (takeSw rg0 n1 m2 (some ⟨gT, 0, none⟩) m2.lg.length u4 oT.view.2 (by omega) (fun e => by cases e)).mono ?_
           rintro e u5 ⟨aW, cW, rfl, OW, kq⟩
           rw [hD.out] at OW ⊢
           rw [hE.out, hO.out]
           have bsW := hb4.size
           have jOW1 : ∀ g_, (Value.slice aW D.lg.length cW).ownBlock = some g_ → g_ ≠ u1.heap.size := fun g_ e => by have h1 := (OW.lt g_ e).1; have h2 := F1.lt; omega
           have jOW0 : ∀ g_, (Value.slice aW D.lg.length cW).ownBlock = some g_ → g_ ≠ u3.heap.size := fun g_ e => by have h1 := (OW.lt g_ e).1; have h2 := F0.lt; omega
           have oT := oT.later kq
           have F1 := F1.below kq F1.lt
           have F0 := F0.below kq F0.lt
           have hb5 : Below y1.heap.size y1 u5 := hb4.trans (kq.mono hb4.size)
           clear kq
           refine hZ _ _ ⟨hb5, ?_⟩
           clear hZ Kz hi
           refine takeW 6 26 (.tuple #[.agg #[.int .i64 E.ep, .int .i64 E.ow, .int .i64 E.pa], .agg #[.bool D.up, .int .i64 D.li, .int .i64 D.ep, .slice aW D.lg.length cW, .int .i64 D.sd, .int .i64 D.ac, .int .i64 D.al], .bool o]) rfl rfl (by kernel_rfl) (by kernel_rfl) (by kernel_rfl) (fun _ _ _ h => h) (by kernel_rfl) (by (intro w hSw; go_simp)) (by assumption) ?_
           simp only [List.set_cons_zero, List.set_cons_succ]
           refine takeW 7 33 (.agg #[.int .i64 E.ep, .int .i64 E.ow, .int .i64 E.pa]) rfl rfl (by kernel_rfl) (by kernel_rfl) (by kernel_rfl) (fun _ _ _ h => h) (by kernel_rfl) (by (intro w hSw; go_simp)) (by assumption) ?_
           simp only [List.set_cons_zero, List.set_cons_succ]
           refine takeW 8 34 (.agg #[.bool D.up, .int .i64 D.li, .int .i64 D.ep, .slice aW D.lg.length cW, .int .i64 D.sd, .int .i64 D.ac, .int .i64 D.al]) rfl rfl (by kernel_rfl) (by kernel_rfl) (by kernel_rfl) (fun _ _ _ h => h) (by kernel_rfl) (by (intro w hSw; go_simp)) (by assumption) ?_
           simp only [List.set_cons_zero, List.set_cons_succ]
           refine takeW 9 35 (.bool o) rfl rfl (by kernel_rfl) (by kernel_rfl) (by kernel_rfl) (fun _ _ _ h => h) (by kernel_rfl) (by (intro w hSw; go_simp)) (by assumption) ?_
           simp only [List.set_cons_zero, List.set_cons_succ]
           refine relist 3 #[true, true, true, true, true, true, true, true, true, true, true, true, false, false, false] (by kernel_rfl) (by kernel_rfl) ?_
           exact hTT.out _ _ ⟨u3.heap.size, u1.heap.size, aW, cW, [(.agg #[.int .i64 rg0.ep, .int .i64 rg0.ow, .int .i64 rg0.pa]), (.agg #[.int .i64 rg0.ep, .int .i64 rg0.ow, .int .i64 rg0.pa]), (.int .i64 n1), (.agg #[.bool m2.up, .int .i64 m2.li, .int .i64 m2.ep, .slice ad2 m2.lg.length cap2, .int .i64 m2.sd, .int .i64 m2.ac, .int .i64 m2.al]), (.agg #[.bool m2.up, .int .i64 m2.li, .int .i64 m2.ep, .slice (some ⟨gT, 0, none⟩) m2.lg.length m2.lg.length, .int .i64 m2.sd, .int .i64 m2.ac, .int .i64 m2.al])], rfl, by kernel_rfl, F0, F1, p0, p1, n01, OW.base bsW, jOW0, jOW1, hb5⟩
       · refine wpOp_step rfl (fun Kz hZ => ?_)
         rw [if_pos (by kernel_rfl)]
         go_simp
         obtain ⟨u3, hy⟩ : ∃ y_, y_ = u2.alloc (Obj.cells #[.int .i64 0, .int .i64 0, .int .i64 0] 44) := ⟨_, rfl⟩
         have kq : Below u2.heap.size u2 u3 := by rw [hy]; exact below_new _
         have n01 : u2.heap.size ≠ u1.heap.size := by have h2 := F1.lt; omega
         have F1 := F1.below kq F1.lt
         have F0 : RgBox u3 u2.heap.size ⟨0, 0, 0⟩ := by rw [hy]; refine ⟨?_, fun i => ?_⟩; constructor <;> simp [go_sem]; simp [go_sem]
         have p0 : y1.heap.size ≤ u2.heap.size := hb2.size
         have hb3 : Below y1.heap.size y1 u3 := hb2.trans (kq.mono hb2.size)
         rw [← hy]
         clear hy kq
         refine hZ _ _ ⟨hb3, ?_⟩
         clear hZ Kz hi
         refine wpAnyH_all (rs := [4]) (by kernel_rfl) (by simp) ?_
         intro i hi; obtain rfl : i = 4 := by simpa using hi
         refine wpOp_step rfl (fun Kz hZ => ?_)
         rw [if_pos (by kernel_rfl)]
         go_simp
         go_at_call 24
         refine (miTo m2 ad2 cap2 u3 (V2.below hb3 (V2.lt ikEnc_len (by omega))) hl).mono ?_
         rintro e u4 ⟨gT, rfl, _, _, oT, kq⟩
         have joT1 : ∀ g_, (Value.slice (some ⟨gT, 0, none⟩) m2.lg.length m2.lg.length).ownBlock = some g_ → g_ ≠ u1.heap.size := fun g_ e => by have h1 := (oT.lt g_ e).1; have h2 := F1.lt; omega
         have joT0 : ∀ g_, (Value.slice (some ⟨gT, 0, none⟩) m2.lg.length m2.lg.length).ownBlock = some g_ → g_ ≠ u2.heap.size := fun g_ e => by have h1 := (oT.lt g_ e).1; have h2 := F0.lt; omega
         have F1 := F1.below kq F1.lt
         have F0 := F0.below kq F0.lt
         have hb4 : Below y1.heap.size y1 u4 := hb3.trans (kq.mono hb3.size)
         clear kq
         refine hZ _ _ ⟨hb4, ?_⟩
         clear hZ Kz hi
         refine wpAnyH_all (rs := [5]) (by kernel_rfl) (by simp) ?_
         intro i hi; obtain rfl : i = 5 := by simpa using hi
         refine wpOp_step rfl (fun Kz hZ => ?_)
         rw [if_pos (by kernel_rfl)]
         go_simp
         go_at_call 27
         refine (takeSw rg0 n1 m2 (some ⟨gT, 0, none⟩) m2.lg.length u4 oT.view.2 (by omega) (fun e => by cases e)).mono ?_
         rintro e u5 ⟨aW, cW, rfl, OW, kq⟩
         rw [hD.out] at OW ⊢
         rw [hE.out, hO.out]
         have bsW := hb4.size
         have jOW1 : ∀ g_, (Value.slice aW D.lg.length cW).ownBlock = some g_ → g_ ≠ u1.heap.size := fun g_ e => by have h1 := (OW.lt g_ e).1; have h2 := F1.lt; omega
         have jOW0 : ∀ g_, (Value.slice aW D.lg.length cW).ownBlock = some g_ → g_ ≠ u2.heap.size := fun g_ e => by have h1 := (OW.lt g_ e).1; have h2 := F0.lt; omega
         have oT := oT.later kq
         have F1 := F1.below kq F1.lt
         have F0 := F0.below kq F0.lt
         have hb5 : Below y1.heap.size y1 u5 := hb4.trans (kq.mono hb4.size)
         clear kq
         refine hZ _ _ ⟨hb5, ?_⟩
         clear hZ Kz hi
         refine takeW 6 26 (.tuple #[.agg #[.int .i64 E.ep, .int .i64 E.ow, .int .i64 E.pa], .agg #[.bool D.up, .int .i64 D.li, .int .i64 D.ep, .slice aW D.lg.length cW, .int .i64 D.sd, .int .i64 D.ac, .int .i64 D.al], .bool o]) rfl rfl (by kernel_rfl) (by kernel_rfl) (by kernel_rfl) (fun _ _ _ h => h) (by kernel_rfl) (by (intro w hSw; go_simp)) (by assumption) ?_
         simp only [List.set_cons_zero, List.set_cons_succ]
         refine takeW 7 33 (.agg #[.int .i64 E.ep, .int .i64 E.ow, .int .i64 E.pa]) rfl rfl (by kernel_rfl) (by kernel_rfl) (by kernel_rfl) (fun _ _ _ h => h) (by kernel_rfl) (by (intro w hSw; go_simp)) (by assumption) ?_
         simp only [List.set_cons_zero, List.set_cons_succ]
         refine takeW 8 34 (.agg #[.bool D.up, .int .i64 D.li, .int .i64 D.ep, .slice aW D.lg.length cW, .int .i64 D.sd, .int .i64 D.ac, .int .i64 D.al]) rfl rfl (by kernel_rfl) (by kernel_rfl) (by kernel_rfl) (fun _ _ _ h => h) (by kernel_rfl) (by (intro w hSw; go_simp)) (by assumption) ?_
         simp only [List.set_cons_zero, List.set_cons_succ]
         refine takeW 9 35 (.bool o) rfl rfl (by kernel_rfl) (by kernel_rfl) (by kernel_rfl) (fun _ _ _ h => h) (by kernel_rfl) (by (intro w hSw; go_simp)) (by assumption) ?_
         simp only [List.set_cons_zero, List.set_cons_succ]
         refine relist 3 #[true, true, true, true, true, true, true, true, true, true, true, true, false, false, false] (by kernel_rfl) (by kernel_rfl) ?_
         exact hTT.out _ _ ⟨u2.heap.size, u1.heap.size, aW, cW, [(.agg #[.int .i64 rg0.ep, .int .i64 rg0.ow, .int .i64 rg0.pa]), (.agg #[.int .i64 rg0.ep, .int .i64 rg0.ow, .int .i64 rg0.pa]), (.int .i64 n1), (.agg #[.bool m2.up, .int .i64 m2.li, .int .i64 m2.ep, .slice ad2 m2.lg.length cap2, .int .i64 m2.sd, .int .i64 m2.ac, .int .i64 m2.al]), (.agg #[.bool m2.up, .int .i64 m2.li, .int .i64 m2.ep, .slice (some ⟨gT, 0, none⟩) m2.lg.length m2.lg.length, .int .i64 m2.sd, .int .i64 m2.ac, .int .i64 m2.al])], rfl, by kernel_rfl, F0, F1, p0, p1, n01, OW.base bsW, jOW0, jOW1, hb5⟩
   · refine wpOp_step rfl (fun Kz hZ => ?_)
     rw [if_pos (by kernel_rfl)]
     go_simp
     obtain ⟨u1, hy⟩ : ∃ y_, y_ = u0.alloc (Obj.cells #[.int .i64 0, .int .i64 0, .int .i64 0] 44) := ⟨_, rfl⟩
     have kq : Below u0.heap.size u0 u1 := by rw [hy]; exact below_new _
     have F0 : RgBox u1 u0.heap.size ⟨0, 0, 0⟩ := by rw [hy]; refine ⟨?_, fun i => ?_⟩; constructor <;> simp [go_sem]; simp [go_sem]
     have p0 : y1.heap.size ≤ u0.heap.size := hb0.size
     have hb1 : Below y1.heap.size y1 u1 := hb0.trans (kq.mono hb0.size)
     rw [← hy]
     clear hy kq
     refine hZ _ _ ⟨hb1, ?_⟩
     clear hZ Kz hi
     refine wpAnyH_all (rs := [1, 11]) (by kernel_rfl) (by simp) ?_
     intro i hi; rcases (by simpa using hi : i = 1 ∨ i = 11) with rfl | rfl
     · refine wpOp_step rfl (fun Kz hZ => ?_)
       rw [if_pos (by kernel_rfl)]
       go_simp
       go_at_call 20
       refine (toRg rg0 u1).mono ?_
       rintro e u2 ⟨rfl, kq⟩
       have F0 := F0.below kq F0.lt
       have hb2 : Below y1.heap.size y1 u2 := hb1.trans (kq.mono hb1.size)
       clear kq
       refine hZ _ _ ⟨hb2, ?_⟩
       clear hZ Kz hi
       refine wpAnyH_all (rs := [4, 11]) (by kernel_rfl) (by simp) ?_
       intro i hi; rcases (by simpa using hi : i = 4 ∨ i = 11) with rfl | rfl
       · refine wpOp_step rfl (fun Kz hZ => ?_)
         rw [if_pos (by kernel_rfl)]
         go_simp
         go_at_call 24
         refine (miTo m2 ad2 cap2 u2 (V2.below hb2 (V2.lt ikEnc_len (by omega))) hl).mono ?_
         rintro e u3 ⟨gT, rfl, _, _, oT, kq⟩
         have joT0 : ∀ g_, (Value.slice (some ⟨gT, 0, none⟩) m2.lg.length m2.lg.length).ownBlock = some g_ → g_ ≠ u0.heap.size := fun g_ e => by have h1 := (oT.lt g_ e).1; have h2 := F0.lt; omega
         have F0 := F0.below kq F0.lt
         have hb3 : Below y1.heap.size y1 u3 := hb2.trans (kq.mono hb2.size)
         clear kq
         refine hZ _ _ ⟨hb3, ?_⟩
         clear hZ Kz hi
         refine wpAnyH_all (rs := [5, 11]) (by kernel_rfl) (by simp) ?_
         intro i hi; rcases (by simpa using hi : i = 5 ∨ i = 11) with rfl | rfl
         · refine wpOp_step rfl (fun Kz hZ => ?_)
           rw [if_pos (by kernel_rfl)]
           go_simp
           go_at_call 27
           refine (takeSw rg0 n1 m2 (some ⟨gT, 0, none⟩) m2.lg.length u3 oT.view.2 (by omega) (fun e => by cases e)).mono ?_
           rintro e u4 ⟨aW, cW, rfl, OW, kq⟩
           rw [hD.out] at OW ⊢
           rw [hE.out, hO.out]
           have bsW := hb3.size
           have jOW0 : ∀ g_, (Value.slice aW D.lg.length cW).ownBlock = some g_ → g_ ≠ u0.heap.size := fun g_ e => by have h1 := (OW.lt g_ e).1; have h2 := F0.lt; omega
           have oT := oT.later kq
           have F0 := F0.below kq F0.lt
           have hb4 : Below y1.heap.size y1 u4 := hb3.trans (kq.mono hb3.size)
           clear kq
           refine hZ _ _ ⟨hb4, ?_⟩
           clear hZ Kz hi
           refine takeW 6 26 (.tuple #[.agg #[.int .i64 E.ep, .int .i64 E.ow, .int .i64 E.pa], .agg #[.bool D.up, .int .i64 D.li, .int .i64 D.ep, .slice aW D.lg.length cW, .int .i64 D.sd, .int .i64 D.ac, .int .i64 D.al], .bool o]) rfl rfl (by kernel_rfl) (by kernel_rfl) (by kernel_rfl) (fun _ _ _ h => h) (by kernel_rfl) (by (intro w hSw; go_simp)) (by assumption) ?_
           simp only [List.set_cons_zero, List.set_cons_succ]
           refine takeW 7 33 (.agg #[.int .i64 E.ep, .int .i64 E.ow, .int .i64 E.pa]) rfl rfl (by kernel_rfl) (by kernel_rfl) (by kernel_rfl) (fun _ _ _ h => h) (by kernel_rfl) (by (intro w hSw; go_simp)) (by assumption) ?_
           simp only [List.set_cons_zero, List.set_cons_succ]
           refine takeW 8 34 (.agg #[.bool D.up, .int .i64 D.li, .int .i64 D.ep, .slice aW D.lg.length cW, .int .i64 D.sd, .int .i64 D.ac, .int .i64 D.al]) rfl rfl (by kernel_rfl) (by kernel_rfl) (by kernel_rfl) (fun _ _ _ h => h) (by kernel_rfl) (by (intro w hSw; go_simp)) (by assumption) ?_
           simp only [List.set_cons_zero, List.set_cons_succ]
           refine takeW 9 35 (.bool o) rfl rfl (by kernel_rfl) (by kernel_rfl) (by kernel_rfl) (fun _ _ _ h => h) (by kernel_rfl) (by (intro w hSw; go_simp)) (by assumption) ?_
           simp only [List.set_cons_zero, List.set_cons_succ]
           refine wpAnyH_all (rs := [11]) (by kernel_rfl) (by simp) ?_
           intro i hi; obtain rfl : i = 11 := by simpa using hi
           refine wpOp_step rfl (fun Kz hZ => ?_)
           rw [if_pos (by kernel_rfl)]
           go_simp
           obtain ⟨u5, hy⟩ : ∃ y_, y_ = u4.alloc (Obj.cells #[.bool false, .int .i64 0, .int .i64 0, .slice none 0 0, .int .i64 0, .int .i64 0, .int .i64 0] 26) := ⟨_, rfl⟩
           have kq : Below u4.heap.size u4 u5 := by rw [hy]; exact below_new _
           have joT1 : ∀ g_, (Value.slice (some ⟨gT, 0, none⟩) m2.lg.length m2.lg.length).ownBlock = some g_ → g_ ≠ u4.heap.size := fun g_ e => by have h1 := (oT.lt g_ e).2; omega
           have jOW1 : ∀ g_, (Value.slice aW D.lg.length cW).ownBlock = some g_ → g_ ≠ u4.heap.size := fun g_ e => by have h1 := (OW.lt g_ e).2; omega
           have n01 : u0.heap.size ≠ u4.heap.size := by have h2 := F0.lt; omega
           have oT := oT.later kq
           have OW := OW.later kq
           have F0 := F0.below kq F0.lt
           have F1 : MiBox u5 u4.heap.size ⟨false, 0, 0, [], 0, 0, 0⟩ (.slice none 0 0) := by rw [hy]; constructor <;> simp [go_sem]
           have p1 : y1.heap.size ≤ u4.heap.size := hb4.size
           have hb5 : Below y1.heap.size y1 u5 := hb4.trans (kq.mono hb4.size)
           rw [← hy]
           clear hy kq
           refine hZ _ _ ⟨hb5, ?_⟩
           clear hZ Kz hi
           refine relist 3 #[true, true, true, true, true, true, true, true, true, true, true, true, false, false, false] (by kernel_rfl) (by kernel_rfl) ?_
           exact hTT.out _ _ ⟨u0.heap.size, u4.heap.size, aW, cW, [(.agg #[.int .i64 rg0.ep, .int .i64 rg0.ow, .int .i64 rg0.pa]), (.agg #[.int .i64 rg0.ep, .int .i64 rg0.ow, .int .i64 rg0.pa]), (.int .i64 n1), (.agg #[.bool m2.up, .int .i64 m2.li, .int .i64 m2.ep, .slice ad2 m2.lg.length cap2, .int .i64 m2.sd, .int .i64 m2.ac, .int .i64 m2.al]), (.agg #[.bool m2.up, .int .i64 m2.li, .int .i64 m2.ep, .slice (some ⟨gT, 0, none⟩) m2.lg.length m2.lg.length, .int .i64 m2.sd, .int .i64 m2.ac, .int .i64 m2.al])], rfl, by kernel_rfl, F0, F1, p0, p1, n01, OW.base bsW, jOW0, jOW1, hb5⟩
         · refine wpOp_step rfl (fun Kz hZ => ?_)
           rw [if_pos (by kernel_rfl)]
           go_simp
           obtain ⟨u4, hy⟩ : ∃ y_, y_ = u3.alloc (Obj.cells #[.bool false, .int .i64 0, .int .i64 0, .slice none 0 0, .int .i64 0, .int .i64 0, .int .i64 0] 26) := ⟨_, rfl⟩
           have kq : Below u3.heap.size u3 u4 := by rw [hy]; exact below_new _
           have joT1 : ∀ g_, (Value.slice (some ⟨gT, 0, none⟩) m2.lg.length m2.lg.length).ownBlock = some g_ → g_ ≠ u3.heap.size := fun g_ e => by have h1 := (oT.lt g_ e).2; omega
           have n01 : u0.heap.size ≠ u3.heap.size := by have h2 := F0.lt; omega
           have oT := oT.later kq
           have F0 := F0.below kq F0.lt
           have F1 : MiBox u4 u3.heap.size ⟨false, 0, 0, [], 0, 0, 0⟩ (.slice none 0 0) := by rw [hy]; constructor <;> simp [go_sem]
           have p1 : y1.heap.size ≤ u3.heap.size := hb3.size
           have hb4 : Below y1.heap.size y1 u4 := hb3.trans (kq.mono hb3.size)
           rw [← hy]
           clear hy kq
           refine hZ _ _ ⟨hb4, ?_⟩
           clear hZ Kz hi
           refine wpAnyH_all (rs := [5]) (by kernel_rfl) (by simp) ?_
           intro i hi; obtain rfl : i = 5 := by simpa using hi
           refine wpOp_step rfl (fun Kz hZ => ?_)
           rw [if_pos (by kernel_rfl)]
           go_simp
           go_at_call 27
           refine (takeSw rg0 n1 m2 (some ⟨gT, 0, none⟩) m2.lg.length u4 oT.view.2 (by omega) (fun e => by cases e)).mono ?_
           rintro e u5 ⟨aW, cW, rfl, OW, kq⟩
           rw [hD.out] at OW ⊢
           rw [hE.out, hO.out]
           have bsW := hb4.size
           have jOW0 : ∀ g_, (Value.slice aW D.lg.length cW).ownBlock = some g_ → g_ ≠ u0.heap.size := fun g_ e => by have h1 := (OW.lt g_ e).1; have h2 := F0.lt; omega
           have jOW1 : ∀ g_, (Value.slice aW D.lg.length cW).ownBlock = some g_ → g_ ≠ u3.heap.size := fun g_ e => by have h1 := (OW.lt g_ e).1; have h2 := F1.lt; omega
           have oT := oT.later kq
           have F0 := F0.below kq F0.lt
           have F1 := F1.below kq F1.lt
           have hb5 : Below y1.heap.size y1 u5 := hb4.trans (kq.mono hb4.size)
           clear kq
           refine hZ _ _ ⟨hb5, ?_⟩
           clear hZ Kz hi
           refine takeW 6 26 (.tuple #[.agg #[.int .i64 E.ep, .int .i64 E.ow, .int .i64 E.pa], .agg #[.bool D.up, .int .i64 D.li, .int .i64 D.ep, .slice aW D.lg.length cW, .int .i64 D.sd, .int .i64 D.ac, .int .i64 D.al], .bool o]) rfl rfl (by kernel_rfl) (by kernel_rfl) (by kernel_rfl) (fun _ _ _ h => h) (by kernel_rfl) (by (intro w hSw; go_simp)) (by assumption) ?_
           simp only [List.set_cons_zero, List.set_cons_succ]
           refine takeW 7 33 (.agg #[.int .i64 E.ep, .int .i64 E.ow, .int .i64 E.pa]) rfl rfl (by kernel_rfl) (by kernel_rfl) (by kernel_rfl) (fun _ _ _ h => h) (by kernel_rfl) (by (intro w hSw; go_simp)) (by assumption) ?_
           simp only [List.set_cons_zero, List.set_cons_succ]
           refine takeW 8 34 (.agg #[.bool D.up, .int .i64 D.li, .int .i64 D.ep, .slice aW D.lg.length cW, .int .i64 D.sd, .int .i64 D.ac, .int .i64 D.al]) rfl rfl (by kernel_rfl) (by kernel_rfl) (by kernel_rfl) (fun _ _ _ h => h) (by kernel_rfl) (by (intro w hSw; go_simp)) (by assumption) ?_
           simp only [List.set_cons_zero, List.set_cons_succ]
           refine takeW 9 35 (.bool o) rfl rfl (by kernel_rfl) (by kernel_rfl) (by kernel_rfl) (fun _ _ _ h => h) (by kernel_rfl) (by (intro w hSw; go_simp)) (by assumption) ?_
           simp only [List.set_cons_zero, List.set_cons_succ]
           refine relist 3 #[true, true, true, true, true, true, true, true, true, true, true, true, false, false, false] (by kernel_rfl) (by kernel_rfl) ?_
           exact hTT.out _ _ ⟨u0.heap.size, u3.heap.size, aW, cW, [(.agg #[.int .i64 rg0.ep, .int .i64 rg0.ow, .int .i64 rg0.pa]), (.agg #[.int .i64 rg0.ep, .int .i64 rg0.ow, .int .i64 rg0.pa]), (.int .i64 n1), (.agg #[.bool m2.up, .int .i64 m2.li, .int .i64 m2.ep, .slice ad2 m2.lg.length cap2, .int .i64 m2.sd, .int .i64 m2.ac, .int .i64 m2.al]), (.agg #[.bool m2.up, .int .i64 m2.li, .int .i64 m2.ep, .slice (some ⟨gT, 0, none⟩) m2.lg.length m2.lg.length, .int .i64 m2.sd, .int .i64 m2.ac, .int .i64 m2.al])], rfl, by kernel_rfl, F0, F1, p0, p1, n01, OW.base bsW, jOW0, jOW1, hb5⟩
       · refine wpOp_step rfl (fun Kz hZ => ?_)
         rw [if_pos (by kernel_rfl)]
         go_simp
         obtain ⟨u3, hy⟩ : ∃ y_, y_ = u2.alloc (Obj.cells #[.bool false, .int .i64 0, .int .i64 0, .slice none 0 0, .int .i64 0, .int .i64 0, .int .i64 0] 26) := ⟨_, rfl⟩
         have kq : Below u2.heap.size u2 u3 := by rw [hy]; exact below_new _
         have n01 : u0.heap.size ≠ u2.heap.size := by have h2 := F0.lt; omega
         have F0 := F0.below kq F0.lt
         have F1 : MiBox u3 u2.heap.size ⟨false, 0, 0, [], 0, 0, 0⟩ (.slice none 0 0) := by rw [hy]; constructor <;> simp [go_sem]
         have p1 : y1.heap.size ≤ u2.heap.size := hb2.size
         have hb3 : Below y1.heap.size y1 u3 := hb2.trans (kq.mono hb2.size)
         rw [← hy]
         clear hy kq
         refine hZ _ _ ⟨hb3, ?_⟩
         clear hZ Kz hi
         refine wpAnyH_all (rs := [4]) (by kernel_rfl) (by simp) ?_
         intro i hi; obtain rfl : i = 4 := by simpa using hi
         refine wpOp_step rfl (fun Kz hZ => ?_)
         rw [if_pos (by kernel_rfl)]
         go_simp
         go_at_call 24
         refine (miTo m2 ad2 cap2 u3 (V2.below hb3 (V2.lt ikEnc_len (by omega))) hl).mono ?_
         rintro e u4 ⟨gT, rfl, _, _, oT, kq⟩
         have joT0 : ∀ g_, (Value.slice (some ⟨gT, 0, none⟩) m2.lg.length m2.lg.length).ownBlock = some g_ → g_ ≠ u0.heap.size := fun g_ e => by have h1 := (oT.lt g_ e).1; have h2 := F0.lt; omega
         have joT1 : ∀ g_, (Value.slice (some ⟨gT, 0, none⟩) m2.lg.length m2.lg.length).ownBlock = some g_ → g_ ≠ u2.heap.size := fun g_ e => by have h1 := (oT.lt g_ e).1; have h2 := F1.lt; omega
         have F0 := F0.below kq F0.lt
         have F1 := F1.below kq F1.lt
         have hb4 : Below y1.heap.size y1 u4 := hb3.trans (kq.mono hb3.size)
         clear kq
         refine hZ _ _ ⟨hb4, ?_⟩
         clear hZ Kz hi
         refine wpAnyH_all (rs := [5]) (by kernel_rfl) (by simp) ?_
         intro i hi; obtain rfl : i = 5 := by simpa using hi
         refine wpOp_step rfl (fun Kz hZ => ?_)
         rw [if_pos (by kernel_rfl)]
         go_simp
         go_at_call 27
         refine (takeSw rg0 n1 m2 (some ⟨gT, 0, none⟩) m2.lg.length u4 oT.view.2 (by omega) (fun e => by cases e)).mono ?_
         rintro e u5 ⟨aW, cW, rfl, OW, kq⟩
         rw [hD.out] at OW ⊢
         rw [hE.out, hO.out]
         have bsW := hb4.size
         have jOW0 : ∀ g_, (Value.slice aW D.lg.length cW).ownBlock = some g_ → g_ ≠ u0.heap.size := fun g_ e => by have h1 := (OW.lt g_ e).1; have h2 := F0.lt; omega
         have jOW1 : ∀ g_, (Value.slice aW D.lg.length cW).ownBlock = some g_ → g_ ≠ u2.heap.size := fun g_ e => by have h1 := (OW.lt g_ e).1; have h2 := F1.lt; omega
         have oT := oT.later kq
         have F0 := F0.below kq F0.lt
         have F1 := F1.below kq F1.lt
         have hb5 : Below y1.heap.size y1 u5 := hb4.trans (kq.mono hb4.size)
         clear kq
         refine hZ _ _ ⟨hb5, ?_⟩
         clear hZ Kz hi
         refine takeW 6 26 (.tuple #[.agg #[.int .i64 E.ep, .int .i64 E.ow, .int .i64 E.pa], .agg #[.bool D.up, .int .i64 D.li, .int .i64 D.ep, .slice aW D.lg.length cW, .int .i64 D.sd, .int .i64 D.ac, .int .i64 D.al], .bool o]) rfl rfl (by kernel_rfl) (by kernel_rfl) (by kernel_rfl) (fun _ _ _ h => h) (by kernel_rfl) (by (intro w hSw; go_simp)) (by assumption) ?_
         simp only [List.set_cons_zero, List.set_cons_succ]
         refine takeW 7 33 (.agg #[.int .i64 E.ep, .int .i64 E.ow, .int .i64 E.pa]) rfl rfl (by kernel_rfl) (by kernel_rfl) (by kernel_rfl) (fun _ _ _ h => h) (by kernel_rfl) (by (intro w hSw; go_simp)) (by assumption) ?_
         simp only [List.set_cons_zero, List.set_cons_succ]
         refine takeW 8 34 (.agg #[.bool D.up, .int .i64 D.li, .int .i64 D.ep, .slice aW D.lg.length cW, .int .i64 D.sd, .int .i64 D.ac, .int .i64 D.al]) rfl rfl (by kernel_rfl) (by kernel_rfl) (by kernel_rfl) (fun _ _ _ h => h) (by kernel_rfl) (by (intro w hSw; go_simp)) (by assumption) ?_
         simp only [List.set_cons_zero, List.set_cons_succ]
         refine takeW 9 35 (.bool o) rfl rfl (by kernel_rfl) (by kernel_rfl) (by kernel_rfl) (fun _ _ _ h => h) (by kernel_rfl) (by (intro w hSw; go_simp)) (by assumption) ?_
         simp only [List.set_cons_zero, List.set_cons_succ]
         refine relist 3 #[true, true, true, true, true, true, true, true, true, true, true, true, false, false, false] (by kernel_rfl) (by kernel_rfl) ?_
         exact hTT.out _ _ ⟨u0.heap.size, u2.heap.size, aW, cW, [(.agg #[.int .i64 rg0.ep, .int .i64 rg0.ow, .int .i64 rg0.pa]), (.agg #[.int .i64 rg0.ep, .int .i64 rg0.ow, .int .i64 rg0.pa]), (.int .i64 n1), (.agg #[.bool m2.up, .int .i64 m2.li, .int .i64 m2.ep, .slice ad2 m2.lg.length cap2, .int .i64 m2.sd, .int .i64 m2.ac, .int .i64 m2.al]), (.agg #[.bool m2.up, .int .i64 m2.li, .int .i64 m2.ep, .slice (some ⟨gT, 0, none⟩) m2.lg.length m2.lg.length, .int .i64 m2.sd, .int .i64 m2.ac, .int .i64 m2.al])], rfl, by kernel_rfl, F0, F1, p0, p1, n01, OW.base bsW, jOW0, jOW1, hb5⟩
     · refine wpOp_step rfl (fun Kz hZ => ?_)
       rw [if_pos (by kernel_rfl)]
       go_simp
       obtain ⟨u2, hy⟩ : ∃ y_, y_ = u1.alloc (Obj.cells #[.bool false, .int .i64 0, .int .i64 0, .slice none 0 0, .int .i64 0, .int .i64 0, .int .i64 0] 26) := ⟨_, rfl⟩
       have kq : Below u1.heap.size u1 u2 := by rw [hy]; exact below_new _
       have n01 : u0.heap.size ≠ u1.heap.size := by have h2 := F0.lt; omega
       have F0 := F0.below kq F0.lt
       have F1 : MiBox u2 u1.heap.size ⟨false, 0, 0, [], 0, 0, 0⟩ (.slice none 0 0) := by rw [hy]; constructor <;> simp [go_sem]
       have p1 : y1.heap.size ≤ u1.heap.size := hb1.size
       have hb2 : Below y1.heap.size y1 u2 := hb1.trans (kq.mono hb1.size)
       rw [← hy]
       clear hy kq
       refine hZ _ _ ⟨hb2, ?_⟩
       clear hZ Kz hi
       refine wpAnyH_all (rs := [1]) (by kernel_rfl) (by simp) ?_
       intro i hi; obtain rfl : i = 1 := by simpa using hi
       refine wpOp_step rfl (fun Kz hZ => ?_)
       rw [if_pos (by kernel_rfl)]
       go_simp
       go_at_call 20
       refine (toRg rg0 u2).mono ?_
       rintro e u3 ⟨rfl, kq⟩
       have F0 := F0.below kq F0.lt
       have F1 := F1.below kq F1.lt
       have hb3 : Below y1.heap.size y1 u3 := hb2.trans (kq.mono hb2.size)
       clear kq
       refine hZ _ _ ⟨hb3, ?_⟩
       clear hZ Kz hi
       refine wpAnyH_all (rs := [4]) (by kernel_rfl) (by simp) ?_
       intro i hi; obtain rfl : i = 4 := by simpa using hi
       refine wpOp_step rfl (fun Kz hZ => ?_)
       rw [if_pos (by kernel_rfl)]
       go_simp
       go_at_call 24
       refine (miTo m2 ad2 cap2 u3 (V2.below hb3 (V2.lt ikEnc_len (by omega))) hl).mono ?_
       rintro e u4 ⟨gT, rfl, _, _, oT, kq⟩
       have joT0 : ∀ g_, (Value.slice (some ⟨gT, 0, none⟩) m2.lg.length m2.lg.length).ownBlock = some g_ → g_ ≠ u0.heap.size := fun g_ e => by have h1 := (oT.lt g_ e).1; have h2 := F0.lt; omega
       have joT1 : ∀ g_, (Value.slice (some ⟨gT, 0, none⟩) m2.lg.length m2.lg.length).ownBlock = some g_ → g_ ≠ u1.heap.size := fun g_ e => by have h1 := (oT.lt g_ e).1; have h2 := F1.lt; omega
       have F0 := F0.below kq F0.lt
       have F1 := F1.below kq F1.lt
       have hb4 : Below y1.heap.size y1 u4 := hb3.trans (kq.mono hb3.size)
       clear kq
       refine hZ _ _ ⟨hb4, ?_⟩
       clear hZ Kz hi
       refine wpAnyH_all (rs := [5]) (by kernel_rfl) (by simp) ?_
       intro i hi; obtain rfl : i = 5 := by simpa using hi
       refine wpOp_step rfl (fun Kz hZ => ?_)
       rw [if_pos (by kernel_rfl)]
       go_simp
       go_at_call 27
       refine (takeSw rg0 n1 m2 (some ⟨gT, 0, none⟩) m2.lg.length u4 oT.view.2 (by omega) (fun e => by cases e)).mono ?_
       rintro e u5 ⟨aW, cW, rfl, OW, kq⟩
       rw [hD.out] at OW ⊢
       rw [hE.out, hO.out]
       have bsW := hb4.size
       have jOW0 : ∀ g_, (Value.slice aW D.lg.length cW).ownBlock = some g_ → g_ ≠ u0.heap.size := fun g_ e => by have h1 := (OW.lt g_ e).1; have h2 := F0.lt; omega
       have jOW1 : ∀ g_, (Value.slice aW D.lg.length cW).ownBlock = some g_ → g_ ≠ u1.heap.size := fun g_ e => by have h1 := (OW.lt g_ e).1; have h2 := F1.lt; omega
       have oT := oT.later kq
       have F0 := F0.below kq F0.lt
       have F1 := F1.below kq F1.lt
       have hb5 : Below y1.heap.size y1 u5 := hb4.trans (kq.mono hb4.size)
       clear kq
       refine hZ _ _ ⟨hb5, ?_⟩
       clear hZ Kz hi
       refine takeW 6 26 (.tuple #[.agg #[.int .i64 E.ep, .int .i64 E.ow, .int .i64 E.pa], .agg #[.bool D.up, .int .i64 D.li, .int .i64 D.ep, .slice aW D.lg.length cW, .int .i64 D.sd, .int .i64 D.ac, .int .i64 D.al], .bool o]) rfl rfl (by kernel_rfl) (by kernel_rfl) (by kernel_rfl) (fun _ _ _ h => h) (by kernel_rfl) (by (intro w hSw; go_simp)) (by assumption) ?_
       simp only [List.set_cons_zero, List.set_cons_succ]
       refine takeW 7 33 (.agg #[.int .i64 E.ep, .int .i64 E.ow, .int .i64 E.pa]) rfl rfl (by kernel_rfl) (by kernel_rfl) (by kernel_rfl) (fun _ _ _ h => h) (by kernel_rfl) (by (intro w hSw; go_simp)) (by assumption) ?_
       simp only [List.set_cons_zero, List.set_cons_succ]
       refine takeW 8 34 (.agg #[.bool D.up, .int .i64 D.li, .int .i64 D.ep, .slice aW D.lg.length cW, .int .i64 D.sd, .int .i64 D.ac, .int .i64 D.al]) rfl rfl (by kernel_rfl) (by kernel_rfl) (by kernel_rfl) (fun _ _ _ h => h) (by kernel_rfl) (by (intro w hSw; go_simp)) (by assumption) ?_
       simp only [List.set_cons_zero, List.set_cons_succ]
       refine takeW 9 35 (.bool o) rfl rfl (by kernel_rfl) (by kernel_rfl) (by kernel_rfl) (fun _ _ _ h => h) (by kernel_rfl) (by (intro w hSw; go_simp)) (by assumption) ?_
       simp only [List.set_cons_zero, List.set_cons_succ]
       refine relist 3 #[true, true, true, true, true, true, true, true, true, true, true, true, false, false, false] (by kernel_rfl) (by kernel_rfl) ?_
       exact hTT.out _ _ ⟨u0.heap.size, u1.heap.size, aW, cW, [(.agg #[.int .i64 rg0.ep, .int .i64 rg0.ow, .int .i64 rg0.pa]), (.agg #[.int .i64 rg0.ep, .int .i64 rg0.ow, .int .i64 rg0.pa]), (.int .i64 n1), (.agg #[.bool m2.up, .int .i64 m2.li, .int .i64 m2.ep, .slice ad2 m2.lg.length cap2, .int .i64 m2.sd, .int .i64 m2.ac, .int .i64 m2.al]), (.agg #[.bool m2.up, .int .i64 m2.li, .int .i64 m2.ep, .slice (some ⟨gT, 0, none⟩) m2.lg.length m2.lg.length, .int .i64 m2.sd, .int .i64 m2.ac, .int .i64 m2.al])], rfl, by kernel_rfl, F0, F1, p0, p1, n01, OW.base bsW, jOW0, jOW1, hb5⟩
   · refine wpOp_step rfl (fun Kz hZ => ?_)
     rw [if_pos (by kernel_rfl)]
     go_simp
     obtain ⟨u1, hy⟩ : ∃ y_, y_ = u0.alloc (Obj.cells #[.bool false, .int .i64 0, .int .i64 0, .slice none 0 0, .int .i64 0, .int .i64 0, .int .i64 0] 26) := ⟨_, rfl⟩
     have kq : Below u0.heap.size u0 u1 := by rw [hy]; exact below_new _
     have F1 : MiBox u1 u0.heap.size ⟨false, 0, 0, [], 0, 0, 0⟩ (.slice none 0 0) := by rw [hy]; constructor <;> simp [go_sem]
     have p1 : y1.heap.size ≤ u0.heap.size := hb0.size
     have hb1 : Below y1.heap.size y1 u1 := hb0.trans (kq.mono hb0.size)
     rw [← hy]
     clear hy kq
     refine hZ _ _ ⟨hb1, ?_⟩
     clear hZ Kz hi
     refine wpAnyH_all (rs := [1, 10]) (by kernel_rfl) (by simp) ?_
     intro i hi; rcases (by simpa using hi : i = 1 ∨ i = 10) with rfl | rfl
     · refine wpOp_step rfl (fun Kz hZ => ?_)
       rw [if_pos (by kernel_rfl)]
       go_simp
       go_at_call 20
       refine (toRg rg0 u1).mono ?_
       rintro e u2 ⟨rfl, kq⟩
       have F1 := F1.below kq F1.lt
       have hb2 : Below y1.heap.size y1 u2 := hb1.trans (kq.mono hb1.size)
       clear kq
       refine hZ _ _ ⟨hb2, ?_⟩
       clear hZ Kz hi
       refine wpAnyH_all (rs := [4, 10]) (by kernel_rfl) (by simp) ?_
       intro i hi; rcases (by simpa using hi : i = 4 ∨ i = 10) with rfl | rfl
       · refine wpOp_step rfl (fun Kz hZ => ?_)
         rw [if_pos (by kernel_rfl)]
         go_simp
         go_at_call 24
         refine (miTo m2 ad2 cap2 u2 (V2.below hb2 (V2.lt ikEnc_len (by omega))) hl).mono ?_
         rintro e u3 ⟨gT, rfl, _, _, oT, kq⟩
         have joT1 : ∀ g_, (Value.slice (some ⟨gT, 0, none⟩) m2.lg.length m2.lg.length).ownBlock = some g_ → g_ ≠ u0.heap.size := fun g_ e => by have h1 := (oT.lt g_ e).1; have h2 := F1.lt; omega
         have F1 := F1.below kq F1.lt
         have hb3 : Below y1.heap.size y1 u3 := hb2.trans (kq.mono hb2.size)
         clear kq
         refine hZ _ _ ⟨hb3, ?_⟩
         clear hZ Kz hi
         refine wpAnyH_all (rs := [5, 10]) (by kernel_rfl) (by simp) ?_
         intro i hi; rcases (by simpa using hi : i = 5 ∨ i = 10) with rfl | rfl
         · refine wpOp_step rfl (fun Kz hZ => ?_)
           rw [if_pos (by kernel_rfl)]
           go_simp
           go_at_call 27
           refine (takeSw rg0 n1 m2 (some ⟨gT, 0, none⟩) m2.lg.length u3 oT.view.2 (by omega) (fun e => by cases e)).mono ?_
           rintro e u4 ⟨aW, cW, rfl, OW, kq⟩
           rw [hD.out] at OW ⊢
           rw [hE.out, hO.out]
           have bsW := hb3.size
           have jOW1 : ∀ g_, (Value.slice aW D.lg.length cW).ownBlock = some g_ → g_ ≠ u0.heap.size := fun g_ e => by have h1 := (OW.lt g_ e).1; have h2 := F1.lt; omega
           have oT := oT.later kq
           have F1 := F1.below kq F1.lt
           have hb4 : Below y1.heap.size y1 u4 := hb3.trans (kq.mono hb3.size)
           clear kq
           refine hZ _ _ ⟨hb4, ?_⟩
           clear hZ Kz hi
           refine takeW 6 26 (.tuple #[.agg #[.int .i64 E.ep, .int .i64 E.ow, .int .i64 E.pa], .agg #[.bool D.up, .int .i64 D.li, .int .i64 D.ep, .slice aW D.lg.length cW, .int .i64 D.sd, .int .i64 D.ac, .int .i64 D.al], .bool o]) rfl rfl (by kernel_rfl) (by kernel_rfl) (by kernel_rfl) (fun _ _ _ h => h) (by kernel_rfl) (by (intro w hSw; go_simp)) (by assumption) ?_
           simp only [List.set_cons_zero, List.set_cons_succ]
           refine takeW 7 33 (.agg #[.int .i64 E.ep, .int .i64 E.ow, .int .i64 E.pa]) rfl rfl (by kernel_rfl) (by kernel_rfl) (by kernel_rfl) (fun _ _ _ h => h) (by kernel_rfl) (by (intro w hSw; go_simp)) (by assumption) ?_
           simp only [List.set_cons_zero, List.set_cons_succ]
           refine takeW 8 34 (.agg #[.bool D.up, .int .i64 D.li, .int .i64 D.ep, .slice aW D.lg.length cW, .int .i64 D.sd, .int .i64 D.ac, .int .i64 D.al]) rfl rfl (by kernel_rfl) (by kernel_rfl) (by kernel_rfl) (fun _ _ _ h => h) (by kernel_rfl) (by (intro w hSw; go_simp)) (by assumption) ?_
           simp only [List.set_cons_zero, List.set_cons_succ]
           refine takeW 9 35 (.bool o) rfl rfl (by kernel_rfl) (by kernel_rfl) (by kernel_rfl) (fun _ _ _ h => h) (by kernel_rfl) (by (intro w hSw; go_simp)) (by assumption) ?_
           simp only [List.set_cons_zero, List.set_cons_succ]
           refine wpAnyH_all (rs := [10]) (by kernel_rfl) (by simp) ?_
           intro i hi; obtain rfl : i = 10 := by simpa using hi
           refine wpOp_step rfl (fun Kz hZ => ?_)
           rw [if_pos (by kernel_rfl)]
           go_simp
           obtain ⟨u5, hy⟩ : ∃ y_, y_ = u4.alloc (Obj.cells #[.int .i64 0, .int .i64 0, .int .i64 0] 44) := ⟨_, rfl⟩
           have kq : Below u4.heap.size u4 u5 := by rw [hy]; exact below_new _
           have joT0 : ∀ g_, (Value.slice (some ⟨gT, 0, none⟩) m2.lg.length m2.lg.length).ownBlock = some g_ → g_ ≠ u4.heap.size := fun g_ e => by have h1 := (oT.lt g_ e).2; omega
           have jOW0 : ∀ g_, (Value.slice aW D.lg.length cW).ownBlock = some g_ → g_ ≠ u4.heap.size := fun g_ e => by have h1 := (OW.lt g_ e).2; omega
           have n01 : u4.heap.size ≠ u0.heap.size := by have h2 := F1.lt; omega
           have oT := oT.later kq
           have OW := OW.later kq
           have F1 := F1.below kq F1.lt
           have F0 : RgBox u5 u4.heap.size ⟨0, 0, 0⟩ := by rw [hy]; refine ⟨?_, fun i => ?_⟩; constructor <;> simp [go_sem]; simp [go_sem]
           have p0 : y1.heap.size ≤ u4.heap.size := hb4.size
           have hb5 : Below y1.heap.size y1 u5 := hb4.trans (kq.mono hb4.size)
           rw [← hy]
           clear hy kq
           refine hZ _ _ ⟨hb5, ?_⟩
           clear hZ Kz hi
           refine relist 3 #[true, true, true, true, true, true, true, true, true, true, true, true, false, false, false] (by kernel_rfl) (by kernel_rfl) ?_
           exact hTT.out _ _ ⟨u4.heap.size, u0.heap.size, aW, cW, [(.agg #[.int .i64 rg0.ep, .int .i64 rg0.ow, .int .i64 rg0.pa]), (.agg #[.int .i64 rg0.ep, .int .i64 rg0.ow, .int .i64 rg0.pa]), (.int .i64 n1), (.agg #[.bool m2.up, .int .i64 m2.li, .int .i64 m2.ep, .slice ad2 m2.lg.length cap2, .int .i64 m2.sd, .int .i64 m2.ac, .int .i64 m2.al]), (.agg #[.bool m2.up, .int .i64 m2.li, .int .i64 m2.ep, .slice (some ⟨gT, 0, none⟩) m2.lg.length m2.lg.length, .int .i64 m2.sd, .int .i64 m2.ac, .int .i64 m2.al])], rfl, by kernel_rfl, F0, F1, p0, p1, n01, OW.base bsW, jOW0, jOW1, hb5⟩
         · refine wpOp_step rfl (fun Kz hZ => ?_)
           rw [if_pos (by kernel_rfl)]
           go_simp
           obtain ⟨u4, hy⟩ : ∃ y_, y_ = u3.alloc (Obj.cells #[.int .i64 0, .int .i64 0, .int .i64 0] 44) := ⟨_, rfl⟩
           have kq : Below u3.heap.size u3 u4 := by rw [hy]; exact below_new _
           have joT0 : ∀ g_, (Value.slice (some ⟨gT, 0, none⟩) m2.lg.length m2.lg.length).ownBlock = some g_ → g_ ≠ u3.heap.size := fun g_ e => by have h1 := (oT.lt g_ e).2; omega
           have n01 : u3.heap.size ≠ u0.heap.size := by have h2 := F1.lt; omega
           have oT := oT.later kq
           have F1 := F1.below kq F1.lt
           have F0 : RgBox u4 u3.heap.size ⟨0, 0, 0⟩ := by rw [hy]; refine ⟨?_, fun i => ?_⟩; constructor <;> simp [go_sem]; simp [go_sem]
           have p0 : y1.heap.size ≤ u3.heap.size := hb3.size
           have hb4 : Below y1.heap.size y1 u4 := hb3.trans (kq.mono hb3.size)
           rw [← hy]
           clear hy kq
           refine hZ _ _ ⟨hb4, ?_⟩
           clear hZ Kz hi
           refine wpAnyH_all (rs := [5]) (by kernel_rfl) (by simp) ?_
           intro i hi; obtain rfl : i = 5 := by simpa using hi
           refine wpOp_step rfl (fun Kz hZ => ?_)
           rw [if_pos (by kernel_rfl)]
           go_simp
           go_at_call 27
           refine (takeSw rg0 n1 m2 (some ⟨gT, 0, none⟩) m2.lg.length u4 oT.view.2 (by omega) (fun e => by cases e)).mono ?_
           rintro e u5 ⟨aW, cW, rfl, OW, kq⟩
           rw [hD.out] at OW ⊢
           rw [hE.out, hO.out]
           have bsW := hb4.size
           have jOW1 : ∀ g_, (Value.slice aW D.lg.length cW).ownBlock = some g_ → g_ ≠ u0.heap.size := fun g_ e => by have h1 := (OW.lt g_ e).1; have h2 := F1.lt; omega
           have jOW0 : ∀ g_, (Value.slice aW D.lg.length cW).ownBlock = some g_ → g_ ≠ u3.heap.size := fun g_ e => by have h1 := (OW.lt g_ e).1; have h2 := F0.lt; omega
           have oT := oT.later kq
           have F1 := F1.below kq F1.lt
           have F0 := F0.below kq F0.lt
           have hb5 : Below y1.heap.size y1 u5 := hb4.trans (kq.mono hb4.size)
           clear kq
           refine hZ _ _ ⟨hb5, ?_⟩
           clear hZ Kz hi
           refine takeW 6 26 (.tuple #[.agg #[.int .i64 E.ep, .int .i64 E.ow, .int .i64 E.pa], .agg #[.bool D.up, .int .i64 D.li, .int .i64 D.ep, .slice aW D.lg.length cW, .int .i64 D.sd, .int .i64 D.ac, .int .i64 D.al], .bool o]) rfl rfl (by kernel_rfl) (by kernel_rfl) (by kernel_rfl) (fun _ _ _ h => h) (by kernel_rfl) (by (intro w hSw; go_simp)) (by assumption) ?_
           simp only [List.set_cons_zero, List.set_cons_succ]
           refine takeW 7 33 (.agg #[.int .i64 E.ep, .int .i64 E.ow, .int .i64 E.pa]) rfl rfl (by kernel_rfl) (by kernel_rfl) (by kernel_rfl) (fun _ _ _ h => h) (by kernel_rfl) (by (intro w hSw; go_simp)) (by assumption) ?_
           simp only [List.set_cons_zero, List.set_cons_succ]
           refine takeW 8 34 (.agg #[.bool D.up, .int .i64 D.li, .int .i64 D.ep, .slice aW D.lg.length cW, .int .i64 D.sd, .int .i64 D.ac, .int .i64 D.al]) rfl rfl (by kernel_rfl) (by kernel_rfl) (by kernel_rfl) (fun _ _ _ h => h) (by kernel_rfl) (by (intro w hSw; go_simp)) (by assumption) ?_
           simp only [List.set_cons_zero, List.set_cons_succ]
           refine takeW 9 35 (.bool o) rfl rfl (by kernel_rfl) (by kernel_rfl) (by kernel_rfl) (fun _ _ _ h => h) (by kernel_rfl) (by (intro w hSw; go_simp)) (by assumption) ?_
           simp only [List.set_cons_zero, List.set_cons_succ]
           refine relist 3 #[true, true, true, true, true, true, true, true, true, true, true, true, false, false, false] (by kernel_rfl) (by kernel_rfl) ?_
           exact hTT.out _ _ ⟨u3.heap.size, u0.heap.size, aW, cW, [(.agg #[.int .i64 rg0.ep, .int .i64 rg0.ow, .int .i64 rg0.pa]), (.agg #[.int .i64 rg0.ep, .int .i64 rg0.ow, .int .i64 rg0.pa]), (.int .i64 n1), (.agg #[.bool m2.up, .int .i64 m2.li, .int .i64 m2.ep, .slice ad2 m2.lg.length cap2, .int .i64 m2.sd, .int .i64 m2.ac, .int .i64 m2.al]), (.agg #[.bool m2.up, .int .i64 m2.li, .int .i64 m2.ep, .slice (some ⟨gT, 0, none⟩) m2.lg.length m2.lg.length, .int .i64 m2.sd, .int .i64 m2.ac, .int .i64 m2.al])], rfl, by kernel_rfl, F0, F1, p0, p1, n01, OW.base bsW, jOW0, jOW1, hb5⟩
       · refine wpOp_step rfl (fun Kz hZ => ?_)
         rw [if_pos (by kernel_rfl)]
         go_simp
         obtain ⟨u3, hy⟩ : ∃ y_, y_ = u2.alloc (Obj.cells #[.int .i64 0, .int .i64 0, .int .i64 0] 44) := ⟨_, rfl⟩
         have kq : Below u2.heap.size u2 u3 := by rw [hy]; exact below_new _
         have n01 : u2.heap.size ≠ u0.heap.size := by have h2 := F1.lt; omega
         have F1 := F1.below kq F1.lt
         have F0 : RgBox u3 u2.heap.size ⟨0, 0, 0⟩ := by rw [hy]; refine ⟨?_, fun i => ?_⟩; constructor <;> simp [go_sem]; simp [go_sem]
         have p0 : y1.heap.size ≤ u2.heap.size := hb2.size
         have hb3 : Below y1.heap.size y1 u3 := hb2.trans (kq.mono hb2.size)
         rw [← hy]
         clear hy kq
         refine hZ _ _ ⟨hb3, ?_⟩
         clear hZ Kz hi
         refine wpAnyH_all (rs := [4]) (by kernel_rfl) (by simp) ?_
         intro i hi; obtain rfl : i = 4 := by simpa using hi
         refine wpOp_step rfl (fun Kz hZ => ?_)
         rw [if_pos (by kernel_rfl)]
         go_simp
         go_at_call 24
         refine (miTo m2 ad2 cap2 u3 (V2.below hb3 (V2.lt ikEnc_len (by omega))) hl).mono ?_
         rintro e u4 ⟨gT, rfl, _, _, oT, kq⟩
         have joT1 : ∀ g_, (Value.slice (some ⟨gT, 0, none⟩) m2.lg.length m2.lg.length).ownBlock = some g_ → g_ ≠ u0.heap.size := fun g_ e => by have h1 := (oT.lt g_ e).1; have h2 := F1.lt; omega
         have joT0 : ∀ g_, (Value.slice (some ⟨gT, 0, none⟩) m2.lg.length m2.lg.length).ownBlock = some g_ → g_ ≠ u2.heap.size := fun g_ e => by have h1 := (oT.lt g_ e).1; have h2 := F0.lt; omega
         have F1 := F1.below kq F1.lt
         have F0 := F0.below kq F0.lt
         have hb4 : Below y1.heap.size y1 u4 := hb3.trans (kq.mono hb3.size)
         clear kq
         refine hZ _ _ ⟨hb4, ?_⟩
         clear hZ Kz hi
         refine wpAnyH_all (rs := [5]) (by kernel_rfl) (by simp) ?_
         intro i hi; obtain rfl : i = 5 := by simpa using hi
         refine wpOp_step rfl (fun Kz hZ => ?_)
         rw [if_pos (by kernel_rfl)]
         go_simp
         go_at_call 27
         refine (takeSw rg0 n1 m2 (some ⟨gT, 0, none⟩) m2.lg.length u4 oT.view.2 (by omega) (fun e => by cases e)).mono ?_
         rintro e u5 ⟨aW, cW, rfl, OW, kq⟩
         rw [hD.out] at OW ⊢
         rw [hE.out, hO.out]
         have bsW := hb4.size
         have jOW1 : ∀ g_, (Value.slice aW D.lg.length cW).ownBlock = some g_ → g_ ≠ u0.heap.size := fun g_ e => by have h1 := (OW.lt g_ e).1; have h2 := F1.lt; omega
         have jOW0 : ∀ g_, (Value.slice aW D.lg.length cW).ownBlock = some g_ → g_ ≠ u2.heap.size := fun g_ e => by have h1 := (OW.lt g_ e).1; have h2 := F0.lt; omega
         have oT := oT.later kq
         have F1 := F1.below kq F1.lt
         have F0 := F0.below kq F0.lt
         have hb5 : Below y1.heap.size y1 u5 := hb4.trans (kq.mono hb4.size)
         clear kq
         refine hZ _ _ ⟨hb5, ?_⟩
         clear hZ Kz hi
         refine takeW 6 26 (.tuple #[.agg #[.int .i64 E.ep, .int .i64 E.ow, .int .i64 E.pa], .agg #[.bool D.up, .int .i64 D.li, .int .i64 D.ep, .slice aW D.lg.length cW, .int .i64 D.sd, .int .i64 D.ac, .int .i64 D.al], .bool o]) rfl rfl (by kernel_rfl) (by kernel_rfl) (by kernel_rfl) (fun _ _ _ h => h) (by kernel_rfl) (by (intro w hSw; go_simp)) (by assumption) ?_
         simp only [List.set_cons_zero, List.set_cons_succ]
         refine takeW 7 33 (.agg #[.int .i64 E.ep, .int .i64 E.ow, .int .i64 E.pa]) rfl rfl (by kernel_rfl) (by kernel_rfl) (by kernel_rfl) (fun _ _ _ h => h) (by kernel_rfl) (by (intro w hSw; go_simp)) (by assumption) ?_
         simp only [List.set_cons_zero, List.set_cons_succ]
         refine takeW 8 34 (.agg #[.bool D.up, .int .i64 D.li, .int .i64 D.ep, .slice aW D.lg.length cW, .int .i64 D.sd, .int .i64 D.ac, .int .i64 D.al]) rfl rfl (by kernel_rfl) (by kernel_rfl) (by kernel_rfl) (fun _ _ _ h => h) (by kernel_rfl) (by (intro w hSw; go_simp)) (by assumption) ?_
         simp only [List.set_cons_zero, List.set_cons_succ]
         refine takeW 9 35 (.bool o) rfl rfl (by kernel_rfl) (by kernel_rfl) (by kernel_rfl) (fun _ _ _ h => h) (by kernel_rfl) (by (intro w hSw; go_simp)) (by assumption) ?_
         simp only [List.set_cons_zero, List.set_cons_succ]
         refine relist 3 #[true, true, true, true, true, true, true, true, true, true, true, true, false, false, false] (by kernel_rfl) (by kernel_rfl) ?_
         exact hTT.out _ _ ⟨u2.heap.size, u0.heap.size, aW, cW, [(.agg #[.int .i64 rg0.ep, .int .i64 rg0.ow, .int .i64 rg0.pa]), (.agg #[.int .i64 rg0.ep, .int .i64 rg0.ow, .int .i64 rg0.pa]), (.int .i64 n1), (.agg #[.bool m2.up, .int .i64 m2.li, .int .i64 m2.ep, .slice ad2 m2.lg.length cap2, .int .i64 m2.sd, .int .i64 m2.ac, .int .i64 m2.al]), (.agg #[.bool m2.up, .int .i64 m2.li, .int .i64 m2.ep, .slice (some ⟨gT, 0, none⟩) m2.lg.length m2.lg.length, .int .i64 m2.sd, .int .i64 m2.ac, .int .i64 m2.al])], rfl, by kernel_rfl, F0, F1, p0, p1, n01, OW.base bsW, jOW0, jOW1, hb5⟩
     · refine wpOp_step rfl (fun Kz hZ => ?_)
       rw [if_pos (by kernel_rfl)]
       go_simp
       obtain ⟨u2, hy⟩ : ∃ y_, y_ = u1.alloc (Obj.cells #[.int .i64 0, .int .i64 0, .int .i64 0] 44) := ⟨_, rfl⟩
       have kq : Below u1.heap.size u1 u2 := by rw [hy]; exact below_new _
       have n01 : u1.heap.size ≠ u0.heap.size := by have h2 := F1.lt; omega
       have F1 := F1.below kq F1.lt
       have F0 : RgBox u2 u1.heap.size ⟨0, 0, 0⟩ := by rw [hy]; refine ⟨?_, fun i => ?_⟩; constructor <;> simp [go_sem]; simp [go_sem]
       have p0 : y1.heap.size ≤ u1.heap.size := hb1.size
       have hb2 : Below y1.heap.size y1 u2 := hb1.trans (kq.mono hb1.size)
       rw [← hy]
       clear hy kq
       refine hZ _ _ ⟨hb2, ?_⟩
       clear hZ Kz hi
       refine wpAnyH_all (rs := [1]) (by kernel_rfl) (by simp) ?_
       intro i hi; obtain rfl : i = 1 := by simpa using hi
       refine wpOp_step rfl (fun Kz hZ => ?_)
       rw [if_pos (by kernel_rfl)]
       go_simp
       go_at_call 20
       refine (toRg rg0 u2).mono ?_
       rintro e u3 ⟨rfl, kq⟩
       have F1 := F1.below kq F1.lt
       have F0 := F0.below kq F0.lt
       have hb3 : Below y1.heap.size y1 u3 := hb2.trans (kq.mono hb2.size)
       clear kq
       refine hZ _ _ ⟨hb3, ?_⟩
       clear hZ Kz hi
       refine wpAnyH_all (rs := [4]) (by kernel_rfl) (by simp) ?_
       intro i hi; obtain rfl : i = 4 := by simpa using hi
       refine wpOp_step rfl (fun Kz hZ => ?_)
       rw [if_pos (by kernel_rfl)]
       go_simp
       go_at_call 24
       refine (miTo m2 ad2 cap2 u3 (V2.below hb3 (V2.lt ikEnc_len (by omega))) hl).mono ?_
       rintro e u4 ⟨gT, rfl, _, _, oT, kq⟩
       have joT1 : ∀ g_, (Value.slice (some ⟨gT, 0, none⟩) m2.lg.length m2.lg.length).ownBlock = some g_ → g_ ≠ u0.heap.size := fun g_ e => by have h1 := (oT.lt g_ e).1; have h2 := F1.lt; omega
       have joT0 : ∀ g_, (Value.slice (some ⟨gT, 0, none⟩) m2.lg.length m2.lg.length).ownBlock = some g_ → g_ ≠ u1.heap.size := fun g_ e => by have h1 := (oT.lt g_ e).1; have h2 := F0.lt; omega
       have F1 := F1.below kq F1.lt
       have F0 := F0.below kq F0.lt
       have hb4 : Below y1.heap.size y1 u4 := hb3.trans (kq.mono hb3.size)
       clear kq
       refine hZ _ _ ⟨hb4, ?_⟩
       clear hZ Kz hi
       refine wpAnyH_all (rs := [5]) (by kernel_rfl) (by simp) ?_
       intro i hi; obtain rfl : i = 5 := by simpa using hi
       refine wpOp_step rfl (fun Kz hZ => ?_)
       rw [if_pos (by kernel_rfl)]
       go_simp
       go_at_call 27
       refine (takeSw rg0 n1 m2 (some ⟨gT, 0, none⟩) m2.lg.length u4 oT.view.2 (by omega) (fun e => by cases e)).mono ?_
       rintro e u5 ⟨aW, cW, rfl, OW, kq⟩
       rw [hD.out] at OW ⊢
       rw [hE.out, hO.out]
       have bsW := hb4.size
       have jOW1 : ∀ g_, (Value.slice aW D.lg.length cW).ownBlock = some g_ → g_ ≠ u0.heap.size := fun g_ e => by have h1 := (OW.lt g_ e).1; have h2 := F1.lt; omega
       have jOW0 : ∀ g_, (Value.slice aW D.lg.length cW).ownBlock = some g_ → g_ ≠ u1.heap.size := fun g_ e => by have h1 := (OW.lt g_ e).1; have h2 := F0.lt; omega
       have oT := oT.later kq
       have F1 := F1.below kq F1.lt
       have F0 := F0.below kq F0.lt
       have hb5 : Below y1.heap.size y1 u5 := hb4.trans (kq.mono hb4.size)
       clear kq
       refine hZ _ _ ⟨hb5, ?_⟩
       clear hZ Kz hi
       refine takeW 6 26 (.tuple #[.agg #[.int .i64 E.ep, .int .i64 E.ow, .int .i64 E.pa], .agg #[.bool D.up, .int .i64 D.li, .int .i64 D.ep, .slice aW D.lg.length cW, .int .i64 D.sd, .int .i64 D.ac, .int .i64 D.al], .bool o]) rfl rfl (by kernel_rfl) (by kernel_rfl) (by kernel_rfl) (fun _ _ _ h => h) (by kernel_rfl) (by (intro w hSw; go_simp)) (by assumption) ?_
       simp only [List.set_cons_zero, List.set_cons_succ]
       refine takeW 7 33 (.agg #[.int .i64 E.ep, .int .i64 E.ow, .int .i64 E.pa]) rfl rfl (by kernel_rfl) (by kernel_rfl) (by kernel_rfl) (fun _ _ _ h => h) (by kernel_rfl) (by (intro w hSw; go_simp)) (by assumption) ?_
       simp only [List.set_cons_zero, List.set_cons_succ]
       refine takeW 8 34 (.agg #[.bool D.up, .int .i64 D.li, .int .i64 D.ep, .slice aW D.lg.length cW, .int .i64 D.sd, .int .i64 D.ac, .int .i64 D.al]) rfl rfl (by kernel_rfl) (by kernel_rfl) (by kernel_rfl) (fun _ _ _ h => h) (by kernel_rfl) (by (intro w hSw; go_simp)) (by assumption) ?_
       simp only [List.set_cons_zero, List.set_cons_succ]
       refine takeW 9 35 (.bool o) rfl rfl (by kernel_rfl) (by kernel_rfl) (by kernel_rfl) (fun _ _ _ h => h) (by kernel_rfl) (by (intro w hSw; go_simp)) (by assumption) ?_
       simp only [List.set_cons_zero, List.set_cons_succ]
       refine relist 3 #[true, true, true, true, true, true, true, true, true, true, true, true, false, false, false] (by kernel_rfl) (by kernel_rfl) ?_
       exact hTT.out _ _ ⟨u1.heap.size, u0.heap.size, aW, cW, [(.agg #[.int .i64 rg0.ep, .int .i64 rg0.ow, .int .i64 rg0.pa]), (.agg #[.int .i64 rg0.ep, .int .i64 rg0.ow, .int .i64 rg0.pa]), (.int .i64 n1), (.agg #[.bool m2.up, .int .i64 m2.li, .int .i64 m2.ep, .slice ad2 m2.lg.length cap2, .int .i64 m2.sd, .int .i64 m2.ac, .int .i64 m2.al]), (.agg #[.bool m2.up, .int .i64 m2.li, .int .i64 m2.ep, .slice (some ⟨gT, 0, none⟩) m2.lg.length m2.lg.length, .int .i64 m2.sd, .int .i64 m2.ac, .int .i64 m2.al])], rfl, by kernel_rfl, F0, F1, p0, p1, n01, OW.base bsW, jOW0, jOW1, hb5⟩
 clear hb0 u0
 rintro l' at0 ⟨PW, MW, aW, cW, us, hul, rfl, F0, F1, p0, p1, n01, OW, jOW0, jOW1, ahc0⟩
 obtain ⟨v27, us, rfl⟩ : ∃ a b, us = a :: b := List.exists_cons_of_length_eq_add_one hul
 replace hul := Nat.succ.inj hul
 obtain ⟨v28, us, rfl⟩ : ∃ a b, us = a :: b := List.exists_cons_of_length_eq_add_one hul
 replace hul := Nat.succ.inj hul
 obtain ⟨v29, us, rfl⟩ : ∃ a b, us = a :: b := List.exists_cons_of_length_eq_add_one hul
 replace hul := Nat.succ.inj hul
 obtain ⟨v30, us, rfl⟩ : ∃ a b, us = a :: b := List.exists_cons_of_length_eq_add_one hul
 replace hul := Nat.succ.inj hul
 obtain ⟨v31, us, rfl⟩ : ∃ a b, us = a :: b := List.exists_cons_of_length_eq_add_one hul
 replace hul := Nat.succ.inj hul
 obtain rfl : us = [] := List.eq_nil_of_length_eq_zero hul
 clear hul
 simp only [List.take, List.drop, List.cons_append, List.nil_append]
 refine wpAnyH_all (rs := [12]) (by kernel_rfl) (by simp) ?_
 intro i hi; obtain rfl : i = 12 := by simpa using hi
 refine wpOp_step rfl (fun Kz hZ => ?_)
 rw [if_pos (by kernel_rfl)]
 have cc := F0
 obtain ⟨⟨z0, z1, z2⟩, zf⟩ := cc
 have z3 := zf 0
 have z4 := zf 1
 have z5 := zf 2
 go_simp
 clear z0 z1 z2 z3 z4 z5 zf
 obtain ⟨at1, aht1⟩ : ∃ y_, y_ = (((at0.setCell ⟨PW, 0, none⟩ (.int .i64 E.ep)).setCell ⟨PW, 1, none⟩ (.int .i64 E.ow)).setCell ⟨PW, 2, none⟩ (.int .i64 E.pa)) := ⟨_, rfl⟩
 have QW : RgAt at1 PW E := by rw [aht1]; exact (F0.put E).at_
 have kp : ∀ k, k ≠ PW → at1.heap[k]? = at0.heap[k]? := fun k hk => by rw [aht1]; exact heap_put3 _ _ _ E hk
 have F1 := F1.keep (kp _ (fun e => n01 e.symm))
 have OW := OW.keep (fun g e => kp g (jOW0 g e))
 have ahc1 : Below y1.heap.size y1 at1 := by rw [aht1]; exact below_put3 E ahc0 p0
 rw [← aht1]
 clear aht1 F0 ahc0 kp
 refine hZ _ _ ⟨ahc1, ?_⟩
 clear hZ Kz hi
 refine wpAnyH_all (rs := [13]) (by kernel_rfl) (by simp) ?_
 intro i hi; obtain rfl : i = 13 := by simpa using hi
 refine wpOp_step rfl (fun Kz hZ => ?_)
 rw [if_pos (by kernel_rfl)]
 have cc := F1
 obtain ⟨z0, z1, z2, z3, z4, z5, z6, zf⟩ := cc
 have y0 := zf 0
 have y1 := zf 1
 have y2 := zf 2
 have y3 := zf 3
 have y4 := zf 4
 have y5 := zf 5
 have y6 := zf 6
 go_simp
 clear z0 z1 z2 z3 z4 z5 z6 zf y0 y1 y2 y3 y4 y5 y6
 obtain ⟨at2, aht2⟩ : ∃ y_, y_ = (((((((at1.setCell ⟨MW, 0, none⟩ (.bool D.up)).setCell ⟨MW, 1, none⟩ (.int .i64 D.li)).setCell ⟨MW, 2, none⟩ (.int .i64 D.ep)).setCell ⟨MW, 3, none⟩ (.slice aW D.lg.length cW)).setCell ⟨MW, 4, none⟩ (.int .i64 D.sd)).setCell ⟨MW, 5, none⟩ (.int .i64 D.ac)).setCell ⟨MW, 6, none⟩ (.int .i64 D.al)) := ⟨_, rfl⟩
 have AW : MiAt at2 MW D (.slice aW D.lg.length cW) := by rw [aht2]; exact (F1.put D _).at_
 have kp : ∀ k, k ≠ MW → at2.heap[k]? = at1.heap[k]? := fun k hk => by rw [aht2]; exact heap_put7 _ _ _ D _ hk
 have QW := QW.keep (kp _ n01)
 have OW := OW.keep (fun g e => kp g (jOW1 g e))
 have ahc2 : Below y1.heap.size y1 at2 := by rw [aht2]; exact below_put7 D _ ahc1 p1
 rw [← aht2]
 clear aht2 F1 ahc1 kp n01
 refine hZ _ _ ⟨ahc2, ?_⟩
 clear hZ Kz hi
 refine takeW 14 10 (.bool o) rfl rfl (by kernel_rfl) (by kernel_rfl) (by kernel_rfl) (fun _ _ _ h => h) (by kernel_rfl) (by (intro w hSw; go_simp)) (by assumption) ?_
 simp only [List.set_cons_zero, List.set_cons_succ]
 refine wpAnyH_done (by kernel_rfl) ?_ _
 have ast2 := ahc2.size
 have A0 := A0.below ahc2 A0.lt
 have A2 := A2.below ahc2 A2.lt
 have V2 := V2.below ahc2 (V2.lt ikEnc_len (by omega))
 have BW := BW.trans (ahc2.mono BW.size)
 clear ahc2
 have lqW := QW.lt
 have lmW := AW.lt
 have iOW : ∀ g, (Value.slice aW D.lg.length cW).ownBlock = some g → y1.heap.size ≤ g ∧ g < at2.heap.size := fun g e => OW.lt g e
 have cc := A2
 obtain ⟨m0_0, m0_1, m0_2, m0_3, m0_4, m0_5, m0_6⟩ := cc
 go_wp2_with fail
 go_at_call 24
 clear m0_0 m0_1 m0_2 m0_3 m0_4 m0_5 m0_6
 refine (miTo m2 ad2 cap2 at2 V2 hl).mono ?_
 rintro e wd1 ⟨gOX, rfl, _, _, OX, kq⟩
 have swd1 := kq.size
 have A0 := A0.below kq A0.lt
 have QW := QW.below kq QW.lt
 have A2 := A2.below kq A2.lt
 have AW := AW.below kq AW.lt
 have V2 := V2.below kq (V2.lt ikEnc_len (by omega))
 have OW := OW.later kq
 have BW := BW.trans (kq.mono BW.size)
 clear kq
 have iOX : ∀ g, (Value.slice (some ⟨gOX, 0, none⟩) m2.lg.length m2.lg.length).ownBlock = some g → at2.heap.size ≤ g ∧ g < wd1.heap.size := fun g e => OX.lt g e
 obtain ⟨wd2, hwd2⟩ : ∃ y_, y_ = wd1.alloc (Obj.cells #[.bool m2.up, .int .i64 m2.li, .int .i64 m2.ep, .slice (some ⟨gOX, 0, none⟩) m2.lg.length m2.lg.length, .int .i64 m2.sd, .int .i64 m2.ac, .int .i64 m2.al] 26) := ⟨_, rfl⟩
 have AX : MiAt wd2 wd1.heap.size m2 (.slice (some ⟨gOX, 0, none⟩) m2.lg.length m2.lg.length) := by rw [hwd2]; exact MiAt.new wd1 _ _ _
 have kq : Below wd1.heap.size wd1 wd2 := by rw [hwd2]; exact below_new _
 have lwd2 := AX.lt
 have swd2 := kq.size
 have A0 := A0.below kq A0.lt
 have QW := QW.below kq QW.lt
 have A2 := A2.below kq A2.lt
 have AW := AW.below kq AW.lt
 have V2 := V2.below kq (V2.lt ikEnc_len (by omega))
 have OW := OW.later kq
 have OX := OX.later kq
 have BW := BW.trans (kq.mono BW.size)
 clear kq
 go_upto_region 7 with fail
 rw [← hwd2]
 clear hwd2
 go_upto_region 7 with fail
 refine wp_region_held (S := fun Y => Below wd2.heap.size wd2 Y) (by kernel_rfl) ?_
 change wpAnyH _ _ _ _ _ _ _ _ (World.drew _)
 have hb0 : Below wd2.heap.size wd2 wd2.drew := (Below.refl _ _).drew
 obtain ⟨u0, hy0⟩ : ∃ y_, y_ = wd2.drew := ⟨_, rfl⟩
 rw [← hy0] at hb0 ⊢
 clear hy0
 refine join_any 3 #[true, true, true, true, true, true, true, true, true, true, true, false, false, false] (fun l l' W' => ∃ (P P' : Nat) (aG : Option Addr) (cG : Nat) (us : List Value), us.length = 4 ∧ l' = l.take 12 ++ (.pointer (some ⟨P, 0, none⟩) :: .pointer (some ⟨P', 0, none⟩) :: (l.drop 14).take 24) ++ ((.tuple #[.agg #[.int .i64 E.ep, .int .i64 E.ow, .int .i64 E.pa], .agg #[.bool D.up, .int .i64 D.li, .int .i64 D.ep, .slice aG D.lg.length cG, .int .i64 D.sd, .int .i64 D.ac, .int .i64 D.al], .bool o]) :: us) ++ ((.tuple #[.agg #[.int .i64 E.ep, .int .i64 E.ow, .int .i64 E.pa], .agg #[.bool D.up, .int .i64 D.li, .int .i64 D.ep, .slice aG D.lg.length cG, .int .i64 D.sd, .int .i64 D.ac, .int .i64 D.al], .bool o]) :: .agg #[.int .i64 E.ep, .int .i64 E.ow, .int .i64 E.pa] :: .agg #[.bool D.up, .int .i64 D.li, .int .i64 D.ep, .slice aG D.lg.length cG, .int .i64 D.sd, .int .i64 D.ac, .int .i64 D.al] :: .bool o :: l.drop 47) ∧ RgBox W' P ⟨0, 0, 0⟩ ∧ MiBox W' P' ⟨false, 0, 0, [], 0, 0, 0⟩ (.slice none 0 0) ∧ wd2.heap.size ≤ P ∧ wd2.heap.size ≤ P' ∧ P ≠ P' ∧ FOwn ikEnc 8 30 wd2.heap.size W' (.slice aG D.lg.length cG) D.lg ∧ (∀ g_, (Value.slice aG D.lg.length cG).ownBlock = some g_ → g_ ≠ P) ∧ (∀ g_, (Value.slice aG D.lg.length cG).ownBlock = some g_ → g_ ≠ P') ∧ Below wd2.heap.size wd2 W') ?_ ?_
 rotate_left
 · intro hTT
   refine takeW 0 39 (.agg #[.int .i64 rg0.ep, .int .i64 rg0.ow, .int .i64 rg0.pa]) rfl rfl (by kernel_rfl) (by kernel_rfl) (by kernel_rfl) (fun _ _ _ h => h) (by kernel_rfl) (by (intro Y hSw; obtain ⟨X0, X1, X2⟩ := A0.below hSw A0.lt; go_simp)) (by assumption) ?_
   simp only [List.set_cons_zero, List.set_cons_succ]
   refine takeW 2 41 (.int .i64 n1) rfl rfl (by kernel_rfl) (by kernel_rfl) (by kernel_rfl) (fun _ _ _ h => h) (by kernel_rfl) (by (intro w hSw; go_simp)) (by assumption) ?_
   simp only [List.set_cons_zero, List.set_cons_succ]
   refine takeW 3 42 (.agg #[.bool m2.up, .int .i64 m2.li, .int .i64 m2.ep, .slice (some ⟨gOX, 0, none⟩) m2.lg.length m2.lg.length, .int .i64 m2.sd, .int .i64 m2.ac, .int .i64 m2.al]) rfl rfl (by kernel_rfl) (by kernel_rfl) (by kernel_rfl) (fun _ _ _ h => h) (by kernel_rfl) (by (intro Y hSw; obtain ⟨X0, X1, X2, X3, X4, X5, X6⟩ := AX.below hSw AX.lt; go_simp)) (by assumption) ?_
   simp only [List.set_cons_zero, List.set_cons_succ]
   refine wpAnyH_all (rs := [1, 9, 10]) (by kernel_rfl) (by simp) ?_
   intro i hi; rcases (by simpa using hi : i = 1 ∨ i = 9 ∨ i = 10) with rfl | rfl | rfl
   · refine wpOp_step rfl (fun Kz hZ => ?_)
     rw [if_pos (by kernel_rfl)]
     go_simp
     go_at_call 20
     refine (toRg rg0 u0).mono ?_
     rintro e u1 ⟨rfl, kq⟩
     have hb1 : Below wd2.heap.size wd2 u1 := hb0.trans (kq.mono hb0.size)
     clear kq
     refine hZ _ _ ⟨hb1, ?_⟩
     clear hZ Kz hi
     refine wpAnyH_all (rs := [4, 9, 10]) (by kernel_rfl) (by simp) ?_
     intro i hi; rcases (by simpa using hi : i = 4 ∨ i = 9 ∨ i = 10) with rfl | rfl | rfl
     · refine wpOp_step rfl (fun Kz hZ => ?_)
       rw [if_pos (by kernel_rfl)]
       go_simp
       go_at_call 28
       refine (takeIw rg0 n1 m2 (some ⟨gOX, 0, none⟩) m2.lg.length u1 (OX.later hb1).view.2 (by omega) (fun e => by cases e)).mono ?_
       rintro e u2 ⟨aG, cG, rfl, OG, kq⟩
       rw [hD.out] at OG ⊢
       rw [hE.out, hO.out]
       have bsG := hb1.size
       have hb2 : Below wd2.heap.size wd2 u2 := hb1.trans (kq.mono hb1.size)
       clear kq
       refine hZ _ _ ⟨hb2, ?_⟩
       clear hZ Kz hi
       refine takeW 5 38 (.tuple #[.agg #[.int .i64 E.ep, .int .i64 E.ow, .int .i64 E.pa], .agg #[.bool D.up, .int .i64 D.li, .int .i64 D.ep, .slice aG D.lg.length cG, .int .i64 D.sd, .int .i64 D.ac, .int .i64 D.al], .bool o]) rfl rfl (by kernel_rfl) (by kernel_rfl) (by kernel_rfl) (fun _ _ _ h => h) (by kernel_rfl) (by (intro w hSw; go_simp)) (by assumption) ?_
       simp only [List.set_cons_zero, List.set_cons_succ]
       refine takeW 6 44 (.agg #[.int .i64 E.ep, .int .i64 E.ow, .int .i64 E.pa]) rfl rfl (by kernel_rfl) (by kernel_rfl) (by kernel_rfl) (fun _ _ _ h => h) (by kernel_rfl) (by (intro w hSw; go_simp)) (by assumption) ?_
       simp only [List.set_cons_zero, List.set_cons_succ]
       refine takeW 7 45 (.agg #[.bool D.up, .int .i64 D.li, .int .i64 D.ep, .slice aG D.lg.length cG, .int .i64 D.sd, .int .i64 D.ac, .int .i64 D.al]) rfl rfl (by kernel_rfl) (by kernel_rfl) (by kernel_rfl) (fun _ _ _ h => h) (by kernel_rfl) (by (intro w hSw; go_simp)) (by assumption) ?_
       simp only [List.set_cons_zero, List.set_cons_succ]
       refine takeW 8 46 (.bool o) rfl rfl (by kernel_rfl) (by kernel_rfl) (by kernel_rfl) (fun _ _ _ h => h) (by kernel_rfl) (by (intro w hSw; go_simp)) (by assumption) ?_
       simp only [List.set_cons_zero, List.set_cons_succ]
       refine wpAnyH_all (rs := [9, 10]) (by kernel_rfl) (by simp) ?_
       intro i hi; rcases (by simpa using hi : i = 9 ∨ i = 10) with rfl | rfl
       · refine wpOp_step rfl (fun Kz hZ => ?_)
         rw [if_pos (by kernel_rfl)]
         go_simp
         obtain ⟨u3, hy⟩ : ∃ y_, y_ = u2.alloc (Obj.cells #[.int .i64 0, .int .i64 0, .int .i64 0] 44) := ⟨_, rfl⟩
         have kq : Below u2.heap.size u2 u3 := by rw [hy]; exact below_new _
         have jOG0 : ∀ g_, (Value.slice aG D.lg.length cG).ownBlock = some g_ → g_ ≠ u2.heap.size := fun g_ e => by have h1 := (OG.lt g_ e).2; omega
         have OG := OG.later kq
         have F0 : RgBox u3 u2.heap.size ⟨0, 0, 0⟩ := by rw [hy]; refine ⟨?_, fun i => ?_⟩; constructor <;> simp [go_sem]; simp [go_sem]
         have p0 : wd2.heap.size ≤ u2.heap.size := hb2.size
         have hb3 : Below wd2.heap.size wd2 u3 := hb2.trans (kq.mono hb2.size)
         rw [← hy]
         clear hy kq
         refine hZ _ _ ⟨hb3, ?_⟩
         clear hZ Kz hi
         refine wpAnyH_all (rs := [10]) (by kernel_rfl) (by simp) ?_
         intro i hi; obtain rfl : i = 10 := by simpa using hi
         refine wpOp_step rfl (fun Kz hZ => ?_)
         rw [if_pos (by kernel_rfl)]
         go_simp
         obtain ⟨u4, hy⟩ : ∃ y_, y_ = u3.alloc (Obj.cells #[.bool false, .int .i64 0, .int .i64 0, .slice none 0 0, .int .i64 0, .int .i64 0, .int .i64 0] 26) := ⟨_, rfl⟩
         have kq : Below u3.heap.size u3 u4 := by rw [hy]; exact below_new _
         have jOG1 : ∀ g_, (Value.slice aG D.lg.length cG).ownBlock = some g_ → g_ ≠ u3.heap.size := fun g_ e => by have h1 := (OG.lt g_ e).2; omega
         have n01 : u2.heap.size ≠ u3.heap.size := by have h2 := F0.lt; omega
         have OG := OG.later kq
         have F0 := F0.below kq F0.lt
         have F1 : MiBox u4 u3.heap.size ⟨false, 0, 0, [], 0, 0, 0⟩ (.slice none 0 0) := by rw [hy]; constructor <;> simp [go_sem]
         have p1 : wd2.heap.size ≤ u3.heap.size := hb3.size
         have hb4 : Below wd2.heap.size wd2 u4 := hb3.trans (kq.mono hb3.size)
         rw [← hy]
         clear hy kq
         refine hZ _ _ ⟨hb4, ?_⟩
         clear hZ Kz hi
         refine relist 3 #[true, true, true, true, true, true, true, true, true, true, true, false, false, false] (by kernel_rfl) (by kernel_rfl) ?_
         exact hTT.out _ _ ⟨u2.heap.size, u3.heap.size, aG, cG, [(.agg #[.int .i64 rg0.ep, .int .i64 rg0.ow, .int .i64 rg0.pa]), (.agg #[.int .i64 rg0.ep, .int .i64 rg0.ow, .int .i64 rg0.pa]), (.int .i64 n1), (.agg #[.bool m2.up, .int .i64 m2.li, .int .i64 m2.ep, .slice (some ⟨gOX, 0, none⟩) m2.lg.length m2.lg.length, .int .i64 m2.sd, .int .i64 m2.ac, .int .i64 m2.al])], rfl, by kernel_rfl, F0, F1, p0, p1, n01, OG.base bsG, jOG0, jOG1, hb4⟩
       · refine wpOp_step rfl (fun Kz hZ => ?_)
         rw [if_pos (by kernel_rfl)]
         go_simp
         obtain ⟨u3, hy⟩ : ∃ y_, y_ = u2.alloc (Obj.cells #[.bool false, .int .i64 0, .int .i64 0, .slice none 0 0, .int .i64 0, .int .i64 0, .int .i64 0] 26) := ⟨_, rfl⟩
         have kq : Below u2.heap.size u2 u3 := by rw [hy]; exact below_new _
         have jOG1 : ∀ g_, (Value.slice aG D.lg.length cG).ownBlock = some g_ → g_ ≠ u2.heap.size := fun g_ e => by have h1 := (OG.lt g_ e).2; omega
         have OG := OG.later kq
         have F1 : MiBox u3 u2.heap.size ⟨false, 0, 0, [], 0, 0, 0⟩ (.slice none 0 0) := by rw [hy]; constructor <;> simp [go_sem]
         have p1 : wd2.heap.size ≤ u2.heap.size := hb2.size
         have hb3 : Below wd2.heap.size wd2 u3 := hb2.trans (kq.mono hb2.size)
         rw [← hy]
         clear hy kq
         refine hZ _ _ ⟨hb3, ?_⟩
         clear hZ Kz hi
         refine wpAnyH_all (rs := [9]) (by kernel_rfl) (by simp) ?_
         intro i hi; obtain rfl : i = 9 := by simpa using hi
         refine wpOp_step rfl (fun Kz hZ => ?_)
         rw [if_pos (by kernel_rfl)]
         go_simp
         obtain ⟨u4, hy⟩ : ∃ y_, y_ = u3.alloc (Obj.cells #[.int .i64 0, .int .i64 0, .int .i64 0] 44) := ⟨_, rfl⟩
         have kq : Below u3.heap.size u3 u4 := by rw [hy]; exact below_new _
         have jOG0 : ∀ g_, (Value.slice aG D.lg.length cG).ownBlock = some g_ → g_ ≠ u3.heap.size := fun g_ e => by have h1 := (OG.lt g_ e).2; omega
         have n01 : u3.heap.size ≠ u2.heap.size := by have h2 := F1.lt; omega
         have OG := OG.later kq
         have F1 := F1.below kq F1.lt
         have F0 : RgBox u4 u3.heap.size ⟨0, 0, 0⟩ := by rw [hy]; refine ⟨?_, fun i => ?_⟩; constructor <;> simp [go_sem]; simp [go_sem]
         have p0 : wd2.heap.size ≤ u3.heap.size := hb3.size
         have hb4 : Below wd2.heap.size wd2 u4 := hb3.trans (kq.mono hb3.size)
         rw [← hy]
         clear hy kq
         refine hZ _ _ ⟨hb4, ?_⟩
         clear hZ Kz hi
         refine relist 3 #[true, true, true, true, true, true, true, true, true, true, true, false, false, false] (by kernel_rfl) (by kernel_rfl) ?_
         exact hTT.out _ _ ⟨u3.heap.size, u2.heap.size, aG, cG, [(.agg #[.int .i64 rg0.ep, .int .i64 rg0.ow, .int .i64 rg0.pa]), (.agg #[.int .i64 rg0.ep, .int .i64 rg0.ow, .int .i64 rg0.pa]), (.int .i64 n1), (.agg #[.bool m2.up, .int .i64 m2.li, .int .i64 m2.ep, .slice (some ⟨gOX, 0, none⟩) m2.lg.length m2.lg.length, .int .i64 m2.sd, .int .i64 m2.ac, .int .i64 m2.al])], rfl, by kernel_rfl, F0, F1, p0, p1, n01, OG.base bsG, jOG0, jOG1, hb4⟩
     · refine wpOp_step rfl (fun Kz hZ => ?_)
       rw [if_pos (by kernel_rfl)]
       go_simp
       obtain ⟨u2, hy⟩ : ∃ y_, y_ = u1.alloc (Obj.cells #[.int .i64 0, .int .i64 0, .int .i64 0] 44) := ⟨_, rfl⟩
       have kq : Below u1.heap.size u1 u2 := by rw [hy]; exact below_new _
       have F0 : RgBox u2 u1.heap.size ⟨0, 0, 0⟩ := by rw [hy]; refine ⟨?_, fun i => ?_⟩; constructor <;> simp [go_sem]; simp [go_sem]
       have p0 : wd2.heap.size ≤ u1.heap.size := hb1.size
       have hb2 : Below wd2.heap.size wd2 u2 := hb1.trans (kq.mono hb1.size)
       rw [← hy]
       clear hy kq
       refine hZ _ _ ⟨hb2, ?_⟩
       clear hZ Kz hi
       refine wpAnyH_all (rs := [4, 10]) (by kernel_rfl) (by simp) ?_
       intro i hi; rcases (by simpa using hi : i = 4 ∨ i = 10) with rfl | rfl
       · refine wpOp_step rfl (fun Kz hZ => ?_)
         rw [if_pos (by kernel_rfl)]
         go_simp
         go_at_call 28
         refine (takeIw rg0 n1 m2 (some ⟨gOX, 0, none⟩) m2.lg.length u2 (OX.later hb2).view.2 (by omega) (fun e => by cases e)).mono ?_
         rintro e u3 ⟨aG, cG, rfl, OG, kq⟩
         rw [hD.out] at OG ⊢
         rw [hE.out, hO.out]
         have bsG := hb2.size
         have jOG0 : ∀ g_, (Value.slice aG D.lg.length cG).ownBlock = some g_ → g_ ≠ u1.heap.size := fun g_ e => by have h1 := (OG.lt g_ e).1; have h2 := F0.lt; omega
         have F0 := F0.below kq F0.lt
         have hb3 : Below wd2.heap.size wd2 u3 := hb2.trans (kq.mono hb2.size)
         clear kq
         refine hZ _ _ ⟨hb3, ?_⟩
         clear hZ Kz hi
         refine takeW 5 38 (.tuple #[.agg #[.int .i64 E.ep, .int .i64 E.ow, .int .i64 E.pa], .agg #[.bool D.up, .int .i64 D.li, .int .i64 D.ep, .slice aG D.lg.length cG, .int .i64 D.sd, .int .i64 D.ac, .int .i64 D.al], .bool o]) rfl rfl (by kernel_rfl) (by kernel_rfl) (by kernel_rfl) (fun _ _ _ h => h) (by kernel_rfl) (by (intro w hSw; go_simp)) (by assumption) ?_
         simp only [List.set_cons_zero, List.set_cons_succ]
         refine takeW 6 44 (.agg #[.int .i64 E.ep, .int .i64 E.ow, .int .i64 E.pa]) rfl rfl (by kernel_rfl) (by kernel_rfl) (by kernel_rfl) (fun _ _ _ h => h) (by kernel_rfl) (by (intro w hSw; go_simp)) (by assumption) ?_
         simp only [List.set_cons_zero, List.set_cons_succ]
         refine takeW 7 45 (.agg #[.bool D.up, .int .i64 D.li, .int .i64 D.ep, .slice aG D.lg.length cG, .int .i64 D.sd, .int .i64 D.ac, .int .i64 D.al]) rfl rfl (by kernel_rfl) (by kernel_rfl) (by kernel_rfl) (fun _ _ _ h => h) (by kernel_rfl) (by (intro w hSw; go_simp)) (by assumption) ?_
         simp only [List.set_cons_zero, List.set_cons_succ]
         refine takeW 8 46 (.bool o) rfl rfl (by kernel_rfl) (by kernel_rfl) (by kernel_rfl) (fun _ _ _ h => h) (by kernel_rfl) (by (intro w hSw; go_simp)) (by assumption) ?_
         simp only [List.set_cons_zero, List.set_cons_succ]
         refine wpAnyH_all (rs := [10]) (by kernel_rfl) (by simp) ?_
         intro i hi; obtain rfl : i = 10 := by simpa using hi
         refine wpOp_step rfl (fun Kz hZ => ?_)
         rw [if_pos (by kernel_rfl)]
         go_simp
         obtain ⟨u4, hy⟩ : ∃ y_, y_ = u3.alloc (Obj.cells #[.bool false, .int .i64 0, .int .i64 0, .slice none 0 0, .int .i64 0, .int .i64 0, .int .i64 0] 26) := ⟨_, rfl⟩
         have kq : Below u3.heap.size u3 u4 := by rw [hy]; exact below_new _
         have jOG1 : ∀ g_, (Value.slice aG D.lg.length cG).ownBlock = some g_ → g_ ≠ u3.heap.size := fun g_ e => by have h1 := (OG.lt g_ e).2; omega
         have n01 : u1.heap.size ≠ u3.heap.size := by have h2 := F0.lt; omega
         have OG := OG.later kq
         have F0 := F0.below kq F0.lt
         have F1 : MiBox u4 u3.heap.size ⟨false, 0, 0, [], 0, 0, 0⟩ (.slice none 0 0) := by rw [hy]; constructor <;> simp [go_sem]
         have p1 : wd2.heap.size ≤ u3.heap.size := hb3.size
         have hb4 : Below wd2.heap.size wd2 u4 := hb3.trans (kq.mono hb3.size)
         rw [← hy]
         clear hy kq
         refine hZ _ _ ⟨hb4, ?_⟩
         clear hZ Kz hi
         refine relist 3 #[true, true, true, true, true, true, true, true, true, true, true, false, false, false] (by kernel_rfl) (by kernel_rfl) ?_
         exact hTT.out _ _ ⟨u1.heap.size, u3.heap.size, aG, cG, [(.agg #[.int .i64 rg0.ep, .int .i64 rg0.ow, .int .i64 rg0.pa]), (.agg #[.int .i64 rg0.ep, .int .i64 rg0.ow, .int .i64 rg0.pa]), (.int .i64 n1), (.agg #[.bool m2.up, .int .i64 m2.li, .int .i64 m2.ep, .slice (some ⟨gOX, 0, none⟩) m2.lg.length m2.lg.length, .int .i64 m2.sd, .int .i64 m2.ac, .int .i64 m2.al])], rfl, by kernel_rfl, F0, F1, p0, p1, n01, OG.base bsG, jOG0, jOG1, hb4⟩
       · refine wpOp_step rfl (fun Kz hZ => ?_)
         rw [if_pos (by kernel_rfl)]
         go_simp
         obtain ⟨u3, hy⟩ : ∃ y_, y_ = u2.alloc (Obj.cells #[.bool false, .int .i64 0, .int .i64 0, .slice none 0 0, .int .i64 0, .int .i64 0, .int .i64 0] 26) := ⟨_, rfl⟩
         have kq : Below u2.heap.size u2 u3 := by rw [hy]; exact below_new _
         have n01 : u1.heap.size ≠ u2.heap.size := by have h2 := F0.lt; omega
         have F0 := F0.below kq F0.lt
         have F1 : MiBox u3 u2.heap.size ⟨false, 0, 0, [], 0, 0, 0⟩ (.slice none 0 0) := by rw [hy]; constructor <;> simp [go_sem]
         have p1 : wd2.heap.size ≤ u2.heap.size := hb2.size
         have hb3 : Below wd2.heap.size wd2 u3 := hb2.trans (kq.mono hb2.size)
         rw [← hy]
         clear hy kq
         refine hZ _ _ ⟨hb3, ?_⟩
         clear hZ Kz hi
         refine wpAnyH_all (rs := [4]) (by kernel_rfl) (by simp) ?_
         intro i hi; obtain rfl : i = 4 := by simpa using hi
         refine wpOp_step rfl (fun Kz hZ => ?_)
         rw [if_pos (by kernel_rfl)]
         go_simp
         go_at_call 28
         refine (takeIw rg0 n1 m2 (some ⟨gOX, 0, none⟩) m2.lg.length u3 (OX.later hb3).view.2 (by omega) (fun e => by cases e)).mono ?_
         rintro e u4 ⟨aG, cG, rfl, OG, kq⟩
         rw [hD.out] at OG ⊢
         rw [hE.out, hO.out]
         have bsG := hb3.size
         have jOG0 : ∀ g_, (Value.slice aG D.lg.length cG).ownBlock = some g_ → g_ ≠ u1.heap.size := fun g_ e => by have h1 := (OG.lt g_ e).1; have h2 := F0.lt; omega
         have jOG1 : ∀ g_, (Value.slice aG D.lg.length cG).ownBlock = some g_ → g_ ≠ u2.heap.size := fun g_ e => by have h1 := (OG.lt g_ e).1; have h2 := F1.lt; omega
         have F0 := F0.below kq F0.lt
         have F1 := F1.below kq F1.lt
         have hb4 : Below wd2.heap.size wd2 u4 := hb3.trans (kq.mono hb3.size)
         clear kq
         refine hZ _ _ ⟨hb4, ?_⟩
         clear hZ Kz hi
         refine takeW 5 38 (.tuple #[.agg #[.int .i64 E.ep, .int .i64 E.ow, .int .i64 E.pa], .agg #[.bool D.up, .int .i64 D.li, .int .i64 D.ep, .slice aG D.lg.length cG, .int .i64 D.sd, .int .i64 D.ac, .int .i64 D.al], .bool o]) rfl rfl (by kernel_rfl) (by kernel_rfl) (by kernel_rfl) (fun _ _ _ h => h) (by kernel_rfl) (by (intro w hSw; go_simp)) (by assumption) ?_
         simp only [List.set_cons_zero, List.set_cons_succ]
         refine takeW 6 44 (.agg #[.int .i64 E.ep, .int .i64 E.ow, .int .i64 E.pa]) rfl rfl (by kernel_rfl) (by kernel_rfl) (by kernel_rfl) (fun _ _ _ h => h) (by kernel_rfl) (by (intro w hSw; go_simp)) (by assumption) ?_
         simp only [List.set_cons_zero, List.set_cons_succ]
         refine takeW 7 45 (.agg #[.bool D.up, .int .i64 D.li, .int .i64 D.ep, .slice aG D.lg.length cG, .int .i64 D.sd, .int .i64 D.ac, .int .i64 D.al]) rfl rfl (by kernel_rfl) (by kernel_rfl) (by kernel_rfl) (fun _ _ _ h => h) (by kernel_rfl) (by (intro w hSw; go_simp)) (by assumption) ?_
         simp only [List.set_cons_zero, List.set_cons_succ]
         refine takeW 8 46 (.bool o) rfl rfl (by kernel_rfl) (by kernel_rfl) (by kernel_rfl) (fun _ _ _ h => h) (by kernel_rfl) (by (intro w hSw; go_simp)) (by assumption) ?_
         simp only [List.set_cons_zero, List.set_cons_succ]
         refine relist 3 #[true, true, true, true, true, true, true, true, true, true, true, false, false, false] (by kernel_rfl) (by kernel_rfl) ?_
         exact hTT.out _ _ ⟨u1.heap.size, u2.heap.size, aG, cG, [(.agg #[.int .i64 rg0.ep, .int .i64 rg0.ow, .int .i64 rg0.pa]), (.agg #[.int .i64 rg0.ep, .int .i64 rg0.ow, .int .i64 rg0.pa]), (.int .i64 n1), (.agg #[.bool m2.up, .int .i64 m2.li, .int .i64 m2.ep, .slice (some ⟨gOX, 0, none⟩) m2.lg.length m2.lg.length, .int .i64 m2.sd, .int .i64 m2.ac, .int .i64 m2.al])], rfl, by kernel_rfl, F0, F1, p0, p1, n01, OG.base bsG, jOG0, jOG1, hb4⟩
     · refine wpOp_step rfl (fun Kz hZ => ?_)
       rw [if_pos (by kernel_rfl)]
       go_simp
       obtain ⟨u2, hy⟩ : ∃ y_, y_ = u1.alloc (Obj.cells #[.bool false, .int .i64 0, .int .i64 0, .slice none 0 0, .int .i64 0, .int .i64 0, .int .i64 0] 26) := ⟨_, rfl⟩
       have kq : Below u1.heap.size u1 u2 := by rw [hy]; exact below_new _
       have F1 : MiBox u2 u1.heap.size ⟨false, 0, 0, [], 0, 0, 0⟩ (.slice none 0 0) := by rw [hy]; constructor <;> simp [go_sem]
       have p1 : wd2.heap.size ≤ u1.heap.size := hb1.size
       have hb2 : Below wd2.heap.size wd2 u2 := hb1.trans (kq.mono hb1.size)
       rw [← hy]
       clear hy kq
       refine hZ _ _ ⟨hb2, ?_⟩
       clear hZ Kz hi
       refine wpAnyH_all (rs := [4, 9]) (by kernel_rfl) (by simp) ?_
       intro i hi; rcases (by simpa using hi : i = 4 ∨ i = 9) with rfl | rfl
       · refine wpOp_step rfl (fun Kz hZ => ?_)
         rw [if_pos (by kernel_rfl)]
         go_simp
         go_at_call 28
         refine (takeIw rg0 n1 m2 (some ⟨gOX, 0, none⟩) m2.lg.length u2 (OX.later hb2).view.2 (by omega) (fun e => by cases e)).mono ?_
         rintro e u3 ⟨aG, cG, rfl, OG, kq⟩
         rw [hD.out] at OG ⊢
         rw [hE.out, hO.out]
         have bsG := hb2.size
         have jOG1 : ∀ g_, (Value.slice aG D.lg.length cG).ownBlock = some g_ → g_ ≠ u1.heap.size := fun g_ e => by have h1 := (OG.lt g_ e).1; have h2 := F1.lt; omega
         have F1 := F1.below kq F1.lt
         have hb3 : Below wd2.heap.size wd2 u3 := hb2.trans (kq.mono hb2.size)
         clear kq
         refine hZ _ _ ⟨hb3, ?_⟩
         clear hZ Kz hi
         refine takeW 5 38 (.tuple #[.agg #[.int .i64 E.ep, .int .i64 E.ow, .int .i64 E.pa], .agg #[.bool D.up, .int .i64 D.li, .int .i64 D.ep, .slice aG D.lg.length cG, .int .i64 D.sd, .int .i64 D.ac, .int .i64 D.al], .bool o]) rfl rfl (by kernel_rfl) (by kernel_rfl) (by kernel_rfl) (fun _ _ _ h => h) (by kernel_rfl) (by (intro w hSw; go_simp)) (by assumption) ?_
         simp only [List.set_cons_zero, List.set_cons_succ]
         refine takeW 6 44 (.agg #[.int .i64 E.ep, .int .i64 E.ow, .int .i64 E.pa]) rfl rfl (by kernel_rfl) (by kernel_rfl) (by kernel_rfl) (fun _ _ _ h => h) (by kernel_rfl) (by (intro w hSw; go_simp)) (by assumption) ?_
         simp only [List.set_cons_zero, List.set_cons_succ]
         refine takeW 7 45 (.agg #[.bool D.up, .int .i64 D.li, .int .i64 D.ep, .slice aG D.lg.length cG, .int .i64 D.sd, .int .i64 D.ac, .int .i64 D.al]) rfl rfl (by kernel_rfl) (by kernel_rfl) (by kernel_rfl) (fun _ _ _ h => h) (by kernel_rfl) (by (intro w hSw; go_simp)) (by assumption) ?_
         simp only [List.set_cons_zero, List.set_cons_succ]
         refine takeW 8 46 (.bool o) rfl rfl (by kernel_rfl) (by kernel_rfl) (by kernel_rfl) (fun _ _ _ h => h) (by kernel_rfl) (by (intro w hSw; go_simp)) (by assumption) ?_
         simp only [List.set_cons_zero, List.set_cons_succ]
         refine wpAnyH_all (rs := [9]) (by kernel_rfl) (by simp) ?_
         intro i hi; obtain rfl : i = 9 := by simpa using hi
         refine wpOp_step rfl (fun Kz hZ => ?_)
         rw [if_pos (by kernel_rfl)]
         go_simp
         obtain ⟨u4, hy⟩ : ∃ y_, y_ = u3.alloc (Obj.cells #[.int .i64 0, .int .i64 0, .int .i64 0] 44) := ⟨_, rfl⟩
         have kq : Below u3.heap.size u3 u4 := by rw [hy]; exact below_new _
         have jOG0 : ∀ g_, (Value.slice aG D.lg.length cG).ownBlock = some g_ → g_ ≠ u3.heap.size := fun g_ e => by have h1 := (OG.lt g_ e).2; omega
         have n01 : u3.heap.size ≠ u1.heap.size := by have h2 := F1.lt; omega
         have OG := OG.later kq
         have F1 := F1.below kq F1.lt
         have F0 : RgBox u4 u3.heap.size ⟨0, 0, 0⟩ := by rw [hy]; refine ⟨?_, fun i => ?_⟩; constructor <;> simp [go_sem]; simp [go_sem]
         have p0 : wd2.heap.size ≤ u3.heap.size := hb3.size
         have hb4 : Below wd2.heap.size wd2 u4 := hb3.trans (kq.mono hb3.size)
         rw [← hy]
         clear hy kq
         refine hZ _ _ ⟨hb4, ?_⟩
         clear hZ Kz hi
         refine relist 3 #[true, true, true, true, true, true, true, true, true, true, true, false, false, false] (by kernel_rfl) (by kernel_rfl) ?_
         exact hTT.out _ _ ⟨u3.heap.size, u1.heap.size, aG, cG, [(.agg #[.int .i64 rg0.ep, .int .i64 rg0.ow, .int .i64 rg0.pa]), (.agg #[.int .i64 rg0.ep, .int .i64 rg0.ow, .int .i64 rg0.pa]), (.int .i64 n1), (.agg #[.bool m2.up, .int .i64 m2.li, .int .i64 m2.ep, .slice (some ⟨gOX, 0, none⟩) m2.lg.length m2.lg.length, .int .i64 m2.sd, .int .i64 m2.ac, .int .i64 m2.al])], rfl, by kernel_rfl, F0, F1, p0, p1, n01, OG.base bsG, jOG0, jOG1, hb4⟩
       · refine wpOp_step rfl (fun Kz hZ => ?_)
         rw [if_pos (by kernel_rfl)]
         go_simp
         obtain ⟨u3, hy⟩ : ∃ y_, y_ = u2.alloc (Obj.cells #[.int .i64 0, .int .i64 0, .int .i64 0] 44) := ⟨_, rfl⟩
         have kq : Below u2.heap.size u2 u3 := by rw [hy]; exact below_new _
         have n01 : u2.heap.size ≠ u1.heap.size := by have h2 := F1.lt; omega
         have F1 := F1.below kq F1.lt
         have F0 : RgBox u3 u2.heap.size ⟨0, 0, 0⟩ := by rw [hy]; refine ⟨?_, fun i => ?_⟩; constructor <;> simp [go_sem]; simp [go_sem]
         have p0 : wd2.heap.size ≤ u2.heap.size := hb2.size
         have hb3 : Below wd2.heap.size wd2 u3 := hb2.trans (kq.mono hb2.size)
         rw [← hy]
         clear hy kq
         refine hZ _ _ ⟨hb3, ?_⟩
         clear hZ Kz hi
         refine wpAnyH_all (rs := [4]) (by kernel_rfl) (by simp) ?_
         intro i hi; obtain rfl : i = 4 := by simpa using hi
         refine wpOp_step rfl (fun Kz hZ => ?_)
         rw [if_pos (by kernel_rfl)]
         go_simp
         go_at_call 28
         refine (takeIw rg0 n1 m2 (some ⟨gOX, 0, none⟩) m2.lg.length u3 (OX.later hb3).view.2 (by omega) (fun e => by cases e)).mono ?_
         rintro e u4 ⟨aG, cG, rfl, OG, kq⟩
         rw [hD.out] at OG ⊢
         rw [hE.out, hO.out]
         have bsG := hb3.size
         have jOG1 : ∀ g_, (Value.slice aG D.lg.length cG).ownBlock = some g_ → g_ ≠ u1.heap.size := fun g_ e => by have h1 := (OG.lt g_ e).1; have h2 := F1.lt; omega
         have jOG0 : ∀ g_, (Value.slice aG D.lg.length cG).ownBlock = some g_ → g_ ≠ u2.heap.size := fun g_ e => by have h1 := (OG.lt g_ e).1; have h2 := F0.lt; omega
         have F1 := F1.below kq F1.lt
         have F0 := F0.below kq F0.lt
         have hb4 : Below wd2.heap.size wd2 u4 := hb3.trans (kq.mono hb3.size)
         clear kq
         refine hZ _ _ ⟨hb4, ?_⟩
         clear hZ Kz hi
         refine takeW 5 38 (.tuple #[.agg #[.int .i64 E.ep, .int .i64 E.ow, .int .i64 E.pa], .agg #[.bool D.up, .int .i64 D.li, .int .i64 D.ep, .slice aG D.lg.length cG, .int .i64 D.sd, .int .i64 D.ac, .int .i64 D.al], .bool o]) rfl rfl (by kernel_rfl) (by kernel_rfl) (by kernel_rfl) (fun _ _ _ h => h) (by kernel_rfl) (by (intro w hSw; go_simp)) (by assumption) ?_
         simp only [List.set_cons_zero, List.set_cons_succ]
         refine takeW 6 44 (.agg #[.int .i64 E.ep, .int .i64 E.ow, .int .i64 E.pa]) rfl rfl (by kernel_rfl) (by kernel_rfl) (by kernel_rfl) (fun _ _ _ h => h) (by kernel_rfl) (by (intro w hSw; go_simp)) (by assumption) ?_
         simp only [List.set_cons_zero, List.set_cons_succ]
         refine takeW 7 45 (.agg #[.bool D.up, .int .i64 D.li, .int .i64 D.ep, .slice aG D.lg.length cG, .int .i64 D.sd, .int .i64 D.ac, .int .i64 D.al]) rfl rfl (by kernel_rfl) (by kernel_rfl) (by kernel_rfl) (fun _ _ _ h => h) (by kernel_rfl) (by (intro w hSw; go_simp)) (by assumption) ?_
         simp only [List.set_cons_zero, List.set_cons_succ]
         refine takeW 8 46 (.bool o) rfl rfl (by kernel_rfl) (by kernel_rfl) (by kernel_rfl) (fun _ _ _ h => h) (by kernel_rfl) (by (intro w hSw; go_simp)) (by assumption) ?_
         simp only [List.set_cons_zero, List.set_cons_succ]
         refine relist 3 #[true, true, true, true, true, true, true, true, true, true, true, false, false, false] (by kernel_rfl) (by kernel_rfl) ?_
         exact hTT.out _ _ ⟨u2.heap.size, u1.heap.size, aG, cG, [(.agg #[.int .i64 rg0.ep, .int .i64 rg0.ow, .int .i64 rg0.pa]), (.agg #[.int .i64 rg0.ep, .int .i64 rg0.ow, .int .i64 rg0.pa]), (.int .i64 n1), (.agg #[.bool m2.up, .int .i64 m2.li, .int .i64 m2.ep, .slice (some ⟨gOX, 0, none⟩) m2.lg.length m2.lg.length, .int .i64 m2.sd, .int .i64 m2.ac, .int .i64 m2.al])], rfl, by kernel_rfl, F0, F1, p0, p1, n01, OG.base bsG, jOG0, jOG1, hb4⟩
   · refine wpOp_step rfl (fun Kz hZ => ?_)
     rw [if_pos (by kernel_rfl)]
     go_simp
     obtain ⟨u1, hy⟩ : ∃ y_, y_ = u0.alloc (Obj.cells #[.int .i64 0, .int .i64 0, .int .i64 0] 44) := ⟨_, rfl⟩
     have kq : Below u0.heap.size u0 u1 := by rw [hy]; exact below_new _
     have F0 : RgBox u1 u0.heap.size ⟨0, 0, 0⟩ := by rw [hy]; refine ⟨?_, fun i => ?_⟩; constructor <;> simp [go_sem]; simp [go_sem]
     have p0 : wd2.heap.size ≤ u0.heap.size := hb0.size
     have hb1 : Below wd2.heap.size wd2 u1 := hb0.trans (kq.mono hb0.size)
     rw [← hy]
     clear hy kq
     refine hZ _ _ ⟨hb1, ?_⟩
     clear hZ Kz hi
     refine wpAnyH_all (rs := [1, 10]) (by kernel_rfl) (by simp) ?_
     intro i hi; rcases (by simpa using hi : i = 1 ∨ i = 10) with rfl | rfl
     · refine wpOp_step rfl (fun Kz hZ => ?_)
       rw [if_pos (by kernel_rfl)]
       go_simp
       go_at_call 20
       refine (toRg rg0 u1).mono ?_
       rintro e u2 ⟨rfl, kq⟩
       have F0 := F0.below kq F0.lt
       have hb2 : Below wd2.heap.size wd2 u2 := hb1.trans (kq.mono hb1.size)
       clear kq
       refine hZ _ _ ⟨hb2, ?_⟩
       clear hZ Kz hi
       refine wpAnyH_all (rs := [4, 10]) (by kernel_rfl) (by simp) ?_
       intro i hi; rcases (by simpa using hi : i = 4 ∨ i = 10) with rfl | rfl
       · refine wpOp_step rfl (fun Kz hZ => ?_)
         rw [if_pos (by kernel_rfl)]
         go_simp
         go_at_call 28
         refine (takeIw rg0 n1 m2 (some ⟨gOX, 0, none⟩) m2.lg.length u2 (OX.later hb2).view.2 (by omega) (fun e => by cases e)).mono ?_
         rintro e u3 ⟨aG, cG, rfl, OG, kq⟩
         rw [hD.out] at OG ⊢
         rw [hE.out, hO.out]
         have bsG := hb2.size
         have jOG0 : ∀ g_, (Value.slice aG D.lg.length cG).ownBlock = some g_ → g_ ≠ u0.heap.size := fun g_ e => by have h1 := (OG.lt g_ e).1; have h2 := F0.lt; omega
         have F0 := F0.below kq F0.lt
         have hb3 : Below wd2.heap.size wd2 u3 := hb2.trans (kq.mono hb2.size)
         clear kq
         refine hZ _ _ ⟨hb3, ?_⟩
         clear hZ Kz hi
         refine takeW 5 38 (.tuple #[.agg #[.int .i64 E.ep, .int .i64 E.ow, .int .i64 E.pa], .agg #[.bool D.up, .int .i64 D.li, .int .i64 D.ep, .slice aG D.lg.length cG, .int .i64 D.sd, .int .i64 D.ac, .int .i64 D.al], .bool o]) rfl rfl (by kernel_rfl) (by kernel_rfl) (by kernel_rfl) (fun _ _ _ h => h) (by kernel_rfl) (by (intro w hSw; go_simp)) (by assumption) ?_
         simp only [List.set_cons_zero, List.set_cons_succ]
         refine takeW 6 44 (.agg #[.int .i64 E.ep, .int .i64 E.ow, .int .i64 E.pa]) rfl rfl (by kernel_rfl) (by kernel_rfl) (by kernel_rfl) (fun _ _ _ h => h) (by kernel_rfl) (by (intro w hSw; go_simp)) (by assumption) ?_
         simp only [List.set_cons_zero, List.set_cons_succ]
         refine takeW 7 45 (.agg #[.bool D.up, .int .i64 D.li, .int .i64 D.ep, .slice aG D.lg.length cG, .int .i64 D.sd, .int .i64 D.ac, .int .i64 D.al]) rfl rfl (by kernel_rfl) (by kernel_rfl) (by kernel_rfl) (fun _ _ _ h => h) (by kernel_rfl) (by (intro w hSw; go_simp)) (by assumption) ?_
         simp only [List.set_cons_zero, List.set_cons_succ]
         refine takeW 8 46 (.bool o) rfl rfl (by kernel_rfl) (by kernel_rfl) (by kernel_rfl) (fun _ _ _ h => h) (by kernel_rfl) (by (intro w hSw; go_simp)) (by assumption) ?_
         simp only [List.set_cons_zero, List.set_cons_succ]
         refine wpAnyH_all (rs := [10]) (by kernel_rfl) (by simp) ?_
         intro i hi; obtain rfl : i = 10 := by simpa using hi
         refine wpOp_step rfl (fun Kz hZ => ?_)
         rw [if_pos (by kernel_rfl)]
         go_simp
         obtain ⟨u4, hy⟩ : ∃ y_, y_ = u3.alloc (Obj.cells #[.bool false, .int .i64 0, .int .i64 0, .slice none 0 0, .int .i64 0, .int .i64 0, .int .i64 0] 26) := ⟨_, rfl⟩
         have kq : Below u3.heap.size u3 u4 := by rw [hy]; exact below_new _
         have jOG1 : ∀ g_, (Value.slice aG D.lg.length cG).ownBlock = some g_ → g_ ≠ u3.heap.size := fun g_ e => by have h1 := (OG.lt g_ e).2; omega
         have n01 : u0.heap.size ≠ u3.heap.size := by have h2 := F0.lt; omega
         have OG := OG.later kq
         have F0 := F0.below kq F0.lt
         have F1 : MiBox u4 u3.heap.size ⟨false, 0, 0, [], 0, 0, 0⟩ (.slice none 0 0) := by rw [hy]; constructor <;> simp [go_sem]
         have p1 : wd2.heap.size ≤ u3.heap.size := hb3.size
         have hb4 : Below wd2.heap.size wd2 u4 := hb3.trans (kq.mono hb3.size)
         rw [← hy]
         clear hy kq
         refine hZ _ _ ⟨hb4, ?_⟩
         clear hZ Kz hi
         refine relist 3 #[true, true, true, true, true, true, true, true, true, true, true, false, false, false] (by kernel_rfl) (by kernel_rfl) ?_
         exact hTT.out _ _ ⟨u0.heap.size, u3.heap.size, aG, cG, [(.agg #[.int .i64 rg0.ep, .int .i64 rg0.ow, .int .i64 rg0.pa]), (.agg #[.int .i64 rg0.ep, .int .i64 rg0.ow, .int .i64 rg0.pa]), (.int .i64 n1), (.agg #[.bool m2.up, .int .i64 m2.li, .int .i64 m2.ep, .slice (some ⟨gOX, 0, none⟩) m2.lg.length m2.lg.length, .int .i64 m2.sd, .int .i64 m2.ac, .int .i64 m2.al])], rfl, by kernel_rfl, F0, F1, p0, p1, n01, OG.base bsG, jOG0, jOG1, hb4⟩
       · refine wpOp_step rfl (fun Kz hZ => ?_)
         rw [if_pos (by kernel_rfl)]
         go_simp
         obtain ⟨u3, hy⟩ : ∃ y_, y_ = u2.alloc (Obj.cells #[.bool false, .int .i64 0, .int .i64 0, .slice none 0 0, .int .i64 0, .int .i64 0, .int .i64 0] 26) := ⟨_, rfl⟩
         have kq : Below u2.heap.size u2 u3 := by rw [hy]; exact below_new _
         have n01 : u0.heap.size ≠ u2.heap.size := by have h2 := F0.lt; omega
         have F0 := F0.below kq F0.lt
         have F1 : MiBox u3 u2.heap.size ⟨false, 0, 0, [], 0, 0, 0⟩ (.slice none 0 0) := by rw [hy]; constructor <;> simp [go_sem]
         have p1 : wd2.heap.size ≤ u2.heap.size := hb2.size
         have hb3 : Below wd2.heap.size wd2 u3 := hb2.trans (kq.mono hb2.size)
         rw [← hy]
         clear hy kq
         refine hZ _ _ ⟨hb3, ?_⟩
         clear hZ Kz hi
         refine wpAnyH_all (rs := [4]) (by kernel_rfl) (by simp) ?_
         intro i hi; obtain rfl : i = 4 := by simpa using hi
         refine wpOp_step rfl (fun Kz hZ => ?_)
         rw [if_pos (by kernel_rfl)]
         go_simp
         go_at_call 28
         refine (takeIw rg0 n1 m2 (some ⟨gOX, 0, none⟩) m2.lg.length u3 (OX.later hb3).view.2 (by omega) (fun e => by cases e)).mono ?_
         rintro e u4 ⟨aG, cG, rfl, OG, kq⟩
         rw [hD.out] at OG ⊢
         rw [hE.out, hO.out]
         have bsG := hb3.size
         have jOG0 : ∀ g_, (Value.slice aG D.lg.length cG).ownBlock = some g_ → g_ ≠ u0.heap.size := fun g_ e => by have h1 := (OG.lt g_ e).1; have h2 := F0.lt; omega
         have jOG1 : ∀ g_, (Value.slice aG D.lg.length cG).ownBlock = some g_ → g_ ≠ u2.heap.size := fun g_ e => by have h1 := (OG.lt g_ e).1; have h2 := F1.lt; omega
         have F0 := F0.below kq F0.lt
         have F1 := F1.below kq F1.lt
         have hb4 : Below wd2.heap.size wd2 u4 := hb3.trans (kq.mono hb3.size)
         clear kq
         refine hZ _ _ ⟨hb4, ?_⟩
         clear hZ Kz hi
         refine takeW 5 38 (.tuple #[.agg #[.int .i64 E.ep, .int .i64 E.ow, .int .i64 E.pa], .agg #[.bool D.up, .int .i64 D.li, .int .i64 D.ep, .slice aG D.lg.length cG, .int .i64 D.sd, .int .i64 D.ac, .int .i64 D.al], .bool o]) rfl rfl (by kernel_rfl) (by kernel_rfl) (by kernel_rfl) (fun _ _ _ h => h) (by kernel_rfl) (by (intro w hSw; go_simp)) (by assumption) ?_
         simp only [List.set_cons_zero, List.set_cons_succ]
         refine takeW 6 44 (.agg #[.int .i64 E.ep, .int .i64 E.ow, .int .i64 E.pa]) rfl rfl (by kernel_rfl) (by kernel_rfl) (by kernel_rfl) (fun _ _ _ h => h) (by kernel_rfl) (by (intro w hSw; go_simp)) (by assumption) ?_
         simp only [List.set_cons_zero, List.set_cons_succ]
         refine takeW 7 45 (.agg #[.bool D.up, .int .i64 D.li, .int .i64 D.ep, .slice aG D.lg.length cG, .int .i64 D.sd, .int .i64 D.ac, .int .i64 D.al]) rfl rfl (by kernel_rfl) (by kernel_rfl) (by kernel_rfl) (fun _ _ _ h => h) (by kernel_rfl) (by (intro w hSw; go_simp)) (by assumption) ?_
         simp only [List.set_cons_zero, List.set_cons_succ]
         refine takeW 8 46 (.bool o) rfl rfl (by kernel_rfl) (by kernel_rfl) (by kernel_rfl) (fun _ _ _ h => h) (by kernel_rfl) (by (intro w hSw; go_simp)) (by assumption) ?_
         simp only [List.set_cons_zero, List.set_cons_succ]
         refine relist 3 #[true, true, true, true, true, true, true, true, true, true, true, false, false, false] (by kernel_rfl) (by kernel_rfl) ?_
         exact hTT.out _ _ ⟨u0.heap.size, u2.heap.size, aG, cG, [(.agg #[.int .i64 rg0.ep, .int .i64 rg0.ow, .int .i64 rg0.pa]), (.agg #[.int .i64 rg0.ep, .int .i64 rg0.ow, .int .i64 rg0.pa]), (.int .i64 n1), (.agg #[.bool m2.up, .int .i64 m2.li, .int .i64 m2.ep, .slice (some ⟨gOX, 0, none⟩) m2.lg.length m2.lg.length, .int .i64 m2.sd, .int .i64 m2.ac, .int .i64 m2.al])], rfl, by kernel_rfl, F0, F1, p0, p1, n01, OG.base bsG, jOG0, jOG1, hb4⟩
     · refine wpOp_step rfl (fun Kz hZ => ?_)
       rw [if_pos (by kernel_rfl)]
       go_simp
       obtain ⟨u2, hy⟩ : ∃ y_, y_ = u1.alloc (Obj.cells #[.bool false, .int .i64 0, .int .i64 0, .slice none 0 0, .int .i64 0, .int .i64 0, .int .i64 0] 26) := ⟨_, rfl⟩
       have kq : Below u1.heap.size u1 u2 := by rw [hy]; exact below_new _
       have n01 : u0.heap.size ≠ u1.heap.size := by have h2 := F0.lt; omega
       have F0 := F0.below kq F0.lt
       have F1 : MiBox u2 u1.heap.size ⟨false, 0, 0, [], 0, 0, 0⟩ (.slice none 0 0) := by rw [hy]; constructor <;> simp [go_sem]
       have p1 : wd2.heap.size ≤ u1.heap.size := hb1.size
       have hb2 : Below wd2.heap.size wd2 u2 := hb1.trans (kq.mono hb1.size)
       rw [← hy]
       clear hy kq
       refine hZ _ _ ⟨hb2, ?_⟩
       clear hZ Kz hi
       refine wpAnyH_all (rs := [1]) (by kernel_rfl) (by simp) ?_
       intro i hi; obtain rfl : i = 1 := by simpa using hi
       refine wpOp_step rfl (fun Kz hZ => ?_)
       rw [if_pos (by kernel_rfl)]
       go_simp
       go_at_call 20
       refine (toRg rg0 u2).mono ?_
       rintro e u3 ⟨rfl, kq⟩
       have F0 := F0.below kq F0.lt
       have F1 := F1.below kq F1.lt
       have hb3 : Below wd2.heap.size wd2 u3 := hb2.trans (kq.mono hb2.size)
       clear kq
       refine hZ _ _ ⟨hb3, ?_⟩
       clear hZ Kz hi
       refine wpAnyH_all (rs := [4]) (by kernel_rfl) (by simp) ?_
       intro i hi; obtain rfl : i = 4 := by simpa using hi
       refine wpOp_step rfl (fun Kz hZ => ?_)
       rw [if_pos (by kernel_rfl)]
       go_simp
       go_at_call 28
       refine (takeIw rg0 n1 m2 (some ⟨gOX, 0, none⟩) m2.lg.length u3 (OX.later hb3).view.2 (by omega) (fun e => by cases e)).mono ?_
       rintro e u4 ⟨aG, cG, rfl, OG, kq⟩
       rw [hD.out] at OG ⊢
       rw [hE.out, hO.out]
       have bsG := hb3.size
       have jOG0 : ∀ g_, (Value.slice aG D.lg.length cG).ownBlock = some g_ → g_ ≠ u0.heap.size := fun g_ e => by have h1 := (OG.lt g_ e).1; have h2 := F0.lt; omega
       have jOG1 : ∀ g_, (Value.slice aG D.lg.length cG).ownBlock = some g_ → g_ ≠ u1.heap.size := fun g_ e => by have h1 := (OG.lt g_ e).1; have h2 := F1.lt; omega
       have F0 := F0.below kq F0.lt
       have F1 := F1.below kq F1.lt
       have hb4 : Below wd2.heap.size wd2 u4 := hb3.trans (kq.mono hb3.size)
       clear kq
       refine hZ _ _ ⟨hb4, ?_⟩
       clear hZ Kz hi
       refine takeW 5 38 (.tuple #[.agg #[.int .i64 E.ep, .int .i64 E.ow, .int .i64 E.pa], .agg #[.bool D.up, .int .i64 D.li, .int .i64 D.ep, .slice aG D.lg.length cG, .int .i64 D.sd, .int .i64 D.ac, .int .i64 D.al], .bool o]) rfl rfl (by kernel_rfl) (by kernel_rfl) (by kernel_rfl) (fun _ _ _ h => h) (by kernel_rfl) (by (intro w hSw; go_simp)) (by assumption) ?_
       simp only [List.set_cons_zero, List.set_cons_succ]
       refine takeW 6 44 (.agg #[.int .i64 E.ep, .int .i64 E.ow, .int .i64 E.pa]) rfl rfl (by kernel_rfl) (by kernel_rfl) (by kernel_rfl) (fun _ _ _ h => h) (by kernel_rfl) (by (intro w hSw; go_simp)) (by assumption) ?_
       simp only [List.set_cons_zero, List.set_cons_succ]
       refine takeW 7 45 (.agg #[.bool D.up, .int .i64 D.li, .int .i64 D.ep, .slice aG D.lg.length cG, .int .i64 D.sd, .int .i64 D.ac, .int .i64 D.al]) rfl rfl (by kernel_rfl) (by kernel_rfl) (by kernel_rfl) (fun _ _ _ h => h) (by kernel_rfl) (by (intro w hSw; go_simp)) (by assumption) ?_
       simp only [List.set_cons_zero, List.set_cons_succ]
       refine takeW 8 46 (.bool o) rfl rfl (by kernel_rfl) (by kernel_rfl) (by kernel_rfl) (fun _ _ _ h => h) (by kernel_rfl) (by (intro w hSw; go_simp)) (by assumption) ?_
       simp only [List.set_cons_zero, List.set_cons_succ]
       refine relist 3 #[true, true, true, true, true, true, true, true, true, true, true, false, false, false] (by kernel_rfl) (by kernel_rfl) ?_
       exact hTT.out _ _ ⟨u0.heap.size, u1.heap.size, aG, cG, [(.agg #[.int .i64 rg0.ep, .int .i64 rg0.ow, .int .i64 rg0.pa]), (.agg #[.int .i64 rg0.ep, .int .i64 rg0.ow, .int .i64 rg0.pa]), (.int .i64 n1), (.agg #[.bool m2.up, .int .i64 m2.li, .int .i64 m2.ep, .slice (some ⟨gOX, 0, none⟩) m2.lg.length m2.lg.length, .int .i64 m2.sd, .int .i64 m2.ac, .int .i64 m2.al])], rfl, by kernel_rfl, F0, F1, p0, p1, n01, OG.base bsG, jOG0, jOG1, hb4⟩
   · refine wpOp_step rfl (fun Kz hZ => ?_)
     rw [if_pos (by kernel_rfl)]
     go_simp
     obtain ⟨u1, hy⟩ : ∃ y_, y_ = u0.alloc (Obj.cells #[.bool false, .int .i64 0, .int .i64 0, .slice none 0 0, .int .i64 0, .int .i64 0, .int .i64 0] 26) := ⟨_, rfl⟩
     have kq : Below u0.heap.size u0 u1 := by rw [hy]; exact below_new _
     have F1 : MiBox u1 u0.heap.size ⟨false, 0, 0, [], 0, 0, 0⟩ (.slice none 0 0) := by rw [hy]; constructor <;> simp [go_sem]
     have p1 : wd2.heap.size ≤ u0.heap.size := hb0.size
     have hb1 : Below wd2.heap.size wd2 u1 := hb0.trans (kq.mono hb0.size)
     rw [← hy]
     clear hy kq
     refine hZ _ _ ⟨hb1, ?_⟩
     clear hZ Kz hi
     refine wpAnyH_all (rs := [1, 9]) (by kernel_rfl) (by simp) ?_
     intro i hi; rcases (by simpa using hi : i = 1 ∨ i = 9) with rfl | rfl
     · refine wpOp_step rfl (fun Kz hZ => ?_)
       rw [if_pos (by kernel_rfl)]
       go_simp
       go_at_call 20
       refine (toRg rg0 u1).mono ?_
       rintro e u2 ⟨rfl, kq⟩
       have F1 := F1.below kq F1.lt
       have hb2 : Below wd2.heap.size wd2 u2 := hb1.trans (kq.mono hb1.size)
       clear kq
       refine hZ _ _ ⟨hb2, ?_⟩
       clear hZ Kz hi
       refine wpAnyH_all (rs := [4, 9]) (by kernel_rfl) (by simp) ?_
       intro i hi; rcases (by simpa using hi : i = 4 ∨ i = 9) with rfl | rfl
       · refine wpOp_step rfl (fun Kz hZ => ?_)
         rw [if_pos (by kernel_rfl)]
         go_simp
         go_at_call 28
         refine (takeIw rg0 n1 m2 (some ⟨gOX, 0, none⟩) m2.lg.length u2 (OX.later hb2).view.2 (by omega) (fun e => by cases e)).mono ?_
         rintro e u3 ⟨aG, cG, rfl, OG, kq⟩
         rw [hD.out] at OG ⊢
         rw [hE.out, hO.out]
         have bsG := hb2.size
         have jOG1 : ∀ g_, (Value.slice aG D.lg.length cG).ownBlock = some g_ → g_ ≠ u0.heap.size := fun g_ e => by have h1 := (OG.lt g_ e).1; have h2 := F1.lt; omega
         have F1 := F1.below kq F1.lt
         have hb3 : Below wd2.heap.size wd2 u3 := hb2.trans (kq.mono hb2.size)
         clear kq
         refine hZ _ _ ⟨hb3, ?_⟩
         clear hZ Kz hi
         refine takeW 5 38 (.tuple #[.agg #[.int .i64 E.ep, .int .i64 E.ow, .int .i64 E.pa], .agg #[.bool D.up, .int .i64 D.li, .int .i64 D.ep, .slice aG D.lg.length cG, .int .i64 D.sd, .int .i64 D.ac, .int .i64 D.al], .bool o]) rfl rfl (by kernel_rfl) (by kernel_rfl) (by kernel_rfl) (fun _ _ _ h => h) (by kernel_rfl) (by (intro w hSw; go_simp)) (by assumption) ?_
         simp only [List.set_cons_zero, List.set_cons_succ]
         refine takeW 6 44 (.agg #[.int .i64 E.ep, .int .i64 E.ow, .int .i64 E.pa]) rfl rfl (by kernel_rfl) (by kernel_rfl) (by kernel_rfl) (fun _ _ _ h => h) (by kernel_rfl) (by (intro w hSw; go_simp)) (by assumption) ?_
         simp only [List.set_cons_zero, List.set_cons_succ]
         refine takeW 7 45 (.agg #[.bool D.up, .int .i64 D.li, .int .i64 D.ep, .slice aG D.lg.length cG, .int .i64 D.sd, .int .i64 D.ac, .int .i64 D.al]) rfl rfl (by kernel_rfl) (by kernel_rfl) (by kernel_rfl) (fun _ _ _ h => h) (by kernel_rfl) (by (intro w hSw; go_simp)) (by assumption) ?_
         simp only [List.set_cons_zero, List.set_cons_succ]
         refine takeW 8 46 (.bool o) rfl rfl (by kernel_rfl) (by kernel_rfl) (by kernel_rfl) (fun _ _ _ h => h) (by kernel_rfl) (by (intro w hSw; go_simp)) (by assumption) ?_
         simp only [List.set_cons_zero, List.set_cons_succ]
         refine wpAnyH_all (rs := [9]) (by kernel_rfl) (by simp) ?_
         intro i hi; obtain rfl : i = 9 := by simpa using hi
         refine wpOp_step rfl (fun Kz hZ => ?_)
         rw [if_pos (by kernel_rfl)]
         go_simp
         obtain ⟨u4, hy⟩ : ∃ y_, y_ = u3.alloc (Obj.cells #[.int .i64 0, .int .i64 0, .int .i64 0] 44) := ⟨_, rfl⟩
         have kq : Below u3.heap.size u3 u4 := by rw [hy]; exact below_new _
         have jOG0 : ∀ g_, (Value.slice aG D.lg.length cG).ownBlock = some g_ → g_ ≠ u3.heap.size := fun g_ e => by have h1 := (OG.lt g_ e).2; omega
         have n01 : u3.heap.size ≠ u0.heap.size := by have h2 := F1.lt; omega
         have OG := OG.later kq
         have F1 := F1.below kq F1.lt
         have F0 : RgBox u4 u3.heap.size ⟨0, 0, 0⟩ := by rw [hy]; refine ⟨?_, fun i => ?_⟩; constructor <;> simp [go_sem]; simp [go_sem]
         have p0 : wd2.heap.size ≤ u3.heap.size := hb3.size
         have hb4 : Below wd2.heap.size wd2 u4 := hb3.trans (kq.mono hb3.size)
         rw [← hy]
         clear hy kq
         refine hZ _ _ ⟨hb4, ?_⟩
         clear hZ Kz hi
         refine relist 3 #[true, true, true, true, true, true, true, true, true, true, true, false, false, false] (by kernel_rfl) (by kernel_rfl) ?_
         exact hTT.out _ _ ⟨u3.heap.size, u0.heap.size, aG, cG, [(.agg #[.int .i64 rg0.ep, .int .i64 rg0.ow, .int .i64 rg0.pa]), (.agg #[.int .i64 rg0.ep, .int .i64 rg0.ow, .int .i64 rg0.pa]), (.int .i64 n1), (.agg #[.bool m2.up, .int .i64 m2.li, .int .i64 m2.ep, .slice (some ⟨gOX, 0, none⟩) m2.lg.length m2.lg.length, .int .i64 m2.sd, .int .i64 m2.ac, .int .i64 m2.al])], rfl, by kernel_rfl, F0, F1, p0, p1, n01, OG.base bsG, jOG0, jOG1, hb4⟩
       · refine wpOp_step rfl (fun Kz hZ => ?_)
         rw [if_pos (by kernel_rfl)]
         go_simp
         obtain ⟨u3, hy⟩ : ∃ y_, y_ = u2.alloc (Obj.cells #[.int .i64 0, .int .i64 0, .int .i64 0] 44) := ⟨_, rfl⟩
         have kq : Below u2.heap.size u2 u3 := by rw [hy]; exact below_new _
         have n01 : u2.heap.size ≠ u0.heap.size := by have h2 := F1.lt; omega
         have F1 := F1.below kq F1.lt
         have F0 : RgBox u3 u2.heap.size ⟨0, 0, 0⟩ := by rw [hy]; refine ⟨?_, fun i => ?_⟩; constructor <;> simp [go_sem]; simp [go_sem]
         have p0 : wd2.heap.size ≤ u2.heap.size := hb2.size
         have hb3 : Below wd2.heap.size wd2 u3 := hb2.trans (kq.mono hb2.size)
         rw [← hy]
         clear hy kq
         refine hZ _ _ ⟨hb3, ?_⟩
         clear hZ Kz hi
         refine wpAnyH_all (rs := [4]) (by kernel_rfl) (by simp) ?_
         intro i hi; obtain rfl : i = 4 := by simpa using hi
         refine wpOp_step rfl (fun Kz hZ => ?_)
         rw [if_pos (by kernel_rfl)]
         go_simp
         go_at_call 28
         refine (takeIw rg0 n1 m2 (some ⟨gOX, 0, none⟩) m2.lg.length u3 (OX.later hb3).view.2 (by omega) (fun e => by cases e)).mono ?_
         rintro e u4 ⟨aG, cG, rfl, OG, kq⟩
         rw [hD.out] at OG ⊢
         rw [hE.out, hO.out]
         have bsG := hb3.size
         have jOG1 : ∀ g_, (Value.slice aG D.lg.length cG).ownBlock = some g_ → g_ ≠ u0.heap.size := fun g_ e => by have h1 := (OG.lt g_ e).1; have h2 := F1.lt; omega
         have jOG0 : ∀ g_, (Value.slice aG D.lg.length cG).ownBlock = some g_ → g_ ≠ u2.heap.size := fun g_ e => by have h1 := (OG.lt g_ e).1; have h2 := F0.lt; omega
         have F1 := F1.below kq F1.lt
         have F0 := F0.below kq F0.lt
         have hb4 : Below wd2.heap.size wd2 u4 := hb3.trans (kq.mono hb3.size)
         clear kq
         refine hZ _ _ ⟨hb4, ?_⟩
         clear hZ Kz hi
         refine takeW 5 38 (.tuple #[.agg #[.int .i64 E.ep, .int .i64 E.ow, .int .i64 E.pa], .agg #[.bool D.up, .int .i64 D.li, .int .i64 D.ep, .slice aG D.lg.length cG, .int .i64 D.sd, .int .i64 D.ac, .int .i64 D.al], .bool o]) rfl rfl (by kernel_rfl) (by kernel_rfl) (by kernel_rfl) (fun _ _ _ h => h) (by kernel_rfl) (by (intro w hSw; go_simp)) (by assumption) ?_
         simp only [List.set_cons_zero, List.set_cons_succ]
         refine takeW 6 44 (.agg #[.int .i64 E.ep, .int .i64 E.ow, .int .i64 E.pa]) rfl rfl (by kernel_rfl) (by kernel_rfl) (by kernel_rfl) (fun _ _ _ h => h) (by kernel_rfl) (by (intro w hSw; go_simp)) (by assumption) ?_
         simp only [List.set_cons_zero, List.set_cons_succ]
         refine takeW 7 45 (.agg #[.bool D.up, .int .i64 D.li, .int .i64 D.ep, .slice aG D.lg.length cG, .int .i64 D.sd, .int .i64 D.ac, .int .i64 D.al]) rfl rfl (by kernel_rfl) (by kernel_rfl) (by kernel_rfl) (fun _ _ _ h => h) (by kernel_rfl) (by (intro w hSw; go_simp)) (by assumption) ?_
         simp only [List.set_cons_zero, List.set_cons_succ]
         refine takeW 8 46 (.bool o) rfl rfl (by kernel_rfl) (by kernel_rfl) (by kernel_rfl) (fun _ _ _ h => h) (by kernel_rfl) (by (intro w hSw; go_simp)) (by assumption) ?_
         simp only [List.set_cons_zero, List.set_cons_succ]
         refine relist 3 #[true, true, true, true, true, true, true, true, true, true, true, false, false, false] (by kernel_rfl) (by kernel_rfl) ?_
         exact hTT.out _ _ ⟨u2.heap.size, u0.heap.size, aG, cG, [(.agg #[.int .i64 rg0.ep, .int .i64 rg0.ow, .int .i64 rg0.pa]), (.agg #[.int .i64 rg0.ep, .int .i64 rg0.ow, .int .i64 rg0.pa]), (.int .i64 n1), (.agg #[.bool m2.up, .int .i64 m2.li, .int .i64 m2.ep, .slice (some ⟨gOX, 0, none⟩) m2.lg.length m2.lg.length, .int .i64 m2.sd, .int .i64 m2.ac, .int .i64 m2.al])], rfl, by kernel_rfl, F0, F1, p0, p1, n01, OG.base bsG, jOG0, jOG1, hb4⟩
     · refine wpOp_step rfl (fun Kz hZ => ?_)
       rw [if_pos (by kernel_rfl)]
       go_simp
       obtain ⟨u2, hy⟩ : ∃ y_, y_ = u1.alloc (Obj.cells #[.int .i64 0, .int .i64 0, .int .i64 0] 44) := ⟨_, rfl⟩
       have kq : Below u1.heap.size u1 u2 := by rw [hy]; exact below_new _
       have n01 : u1.heap.size ≠ u0.heap.size := by have h2 := F1.lt; omega
       have F1 := F1.below kq F1.lt
       have F0 : RgBox u2 u1.heap.size ⟨0, 0, 0⟩ := by rw [hy]; refine ⟨?_, fun i => ?_⟩; constructor <;> simp [go_sem]; simp [go_sem]
       have p0 : wd2.heap.size ≤ u1.heap.size := hb1.size
       have hb2 : Below wd2.heap.size wd2 u2 := hb1.trans (kq.mono hb1.size)
       rw [← hy]
       clear hy kq
       refine hZ _ _ ⟨hb2, ?_⟩
       clear hZ Kz hi
       refine wpAnyH_all (rs := [1]) (by kernel_rfl) (by simp) ?_
       intro i hi; obtain rfl : i = 1 := by simpa using hi
       refine wpOp_step rfl (fun Kz hZ => ?_)
       rw [if_pos (by kernel_rfl)]
       go_simp
       go_at_call 20
       refine (toRg rg0 u2).mono ?_
       rintro e u3 ⟨rfl, kq⟩
       have F1 := F1.below kq F1.lt
       have F0 := F0.below kq F0.lt
       have hb3 : Below wd2.heap.size wd2 u3 := hb2.trans (kq.mono hb2.size)
       clear kq
       refine hZ _ _ ⟨hb3, ?_⟩
       clear hZ Kz hi
       refine wpAnyH_all (rs := [4]) (by kernel_rfl) (by simp) ?_
       intro i hi; obtain rfl : i = 4 := by simpa using hi
       refine wpOp_step rfl (fun Kz hZ => ?_)
       rw [if_pos (by kernel_rfl)]
       go_simp
       go_at_call 28
       refine (takeIw rg0 n1 m2 (some ⟨gOX, 0, none⟩) m2.lg.length u3 (OX.later hb3).view.2 (by omega) (fun e => by cases e)).mono ?_
       rintro e u4 ⟨aG, cG, rfl, OG, kq⟩
       rw [hD.out] at OG ⊢
       rw [hE.out, hO.out]
       have bsG := hb3.size
       have jOG1 : ∀ g_, (Value.slice aG D.lg.length cG).ownBlock = some g_ → g_ ≠ u0.heap.size := fun g_ e => by have h1 := (OG.lt g_ e).1; have h2 := F1.lt; omega
       have jOG0 : ∀ g_, (Value.slice aG D.lg.length cG).ownBlock = some g_ → g_ ≠ u1.heap.size := fun g_ e => by have h1 := (OG.lt g_ e).1; have h2 := F0.lt; omega
       have F1 := F1.below kq F1.lt
       have F0 := F0.below kq F0.lt
       have hb4 : Below wd2.heap.size wd2 u4 := hb3.trans (kq.mono hb3.size)
       clear kq
       refine hZ _ _ ⟨hb4, ?_⟩
       clear hZ Kz hi
       refine takeW 5 38 (.tuple #[.agg #[.int .i64 E.ep, .int .i64 E.ow, .int .i64 E.pa], .agg #[.bool D.up, .int .i64 D.li, .int .i64 D.ep, .slice aG D.lg.length cG, .int .i64 D.sd, .int .i64 D.ac, .int .i64 D.al], .bool o]) rfl rfl (by kernel_rfl) (by kernel_rfl) (by kernel_rfl) (fun _ _ _ h => h) (by kernel_rfl) (by (intro w hSw; go_simp)) (by assumption) ?_
       simp only [List.set_cons_zero, List.set_cons_succ]
       refine takeW 6 44 (.agg #[.int .i64 E.ep, .int .i64 E.ow, .int .i64 E.pa]) rfl rfl (by kernel_rfl) (by kernel_rfl) (by kernel_rfl) (fun _ _ _ h => h) (by kernel_rfl) (by (intro w hSw; go_simp)) (by assumption) ?_
       simp only [List.set_cons_zero, List.set_cons_succ]
       refine takeW 7 45 (.agg #[.bool D.up, .int .i64 D.li, .int .i64 D.ep, .slice aG D.lg.length cG, .int .i64 D.sd, .int .i64 D.ac, .int .i64 D.al]) rfl rfl (by kernel_rfl) (by kernel_rfl) (by kernel_rfl) (fun _ _ _ h => h) (by kernel_rfl) (by (intro w hSw; go_simp)) (by assumption) ?_
       simp only [List.set_cons_zero, List.set_cons_succ]
       refine takeW 8 46 (.bool o) rfl rfl (by kernel_rfl) (by kernel_rfl) (by kernel_rfl) (fun _ _ _ h => h) (by kernel_rfl) (by (intro w hSw; go_simp)) (by assumption) ?_
       simp only [List.set_cons_zero, List.set_cons_succ]
       refine relist 3 #[true, true, true, true, true, true, true, true, true, true, true, false, false, false] (by kernel_rfl) (by kernel_rfl) ?_
       exact hTT.out _ _ ⟨u1.heap.size, u0.heap.size, aG, cG, [(.agg #[.int .i64 rg0.ep, .int .i64 rg0.ow, .int .i64 rg0.pa]), (.agg #[.int .i64 rg0.ep, .int .i64 rg0.ow, .int .i64 rg0.pa]), (.int .i64 n1), (.agg #[.bool m2.up, .int .i64 m2.li, .int .i64 m2.ep, .slice (some ⟨gOX, 0, none⟩) m2.lg.length m2.lg.length, .int .i64 m2.sd, .int .i64 m2.ac, .int .i64 m2.al])], rfl, by kernel_rfl, F0, F1, p0, p1, n01, OG.base bsG, jOG0, jOG1, hb4⟩
 clear hb0 u0
 rintro l' bt0 ⟨PG, MG, aG, cG, us, hul, rfl, F0, F1, p0, p1, n01, OG, jOG0, jOG1, bhc0⟩
 obtain ⟨v39, us, rfl⟩ : ∃ a b, us = a :: b := List.exists_cons_of_length_eq_add_one hul
 replace hul := Nat.succ.inj hul
 obtain ⟨v40, us, rfl⟩ : ∃ a b, us = a :: b := List.exists_cons_of_length_eq_add_one hul
 replace hul := Nat.succ.inj hul
 obtain ⟨v41, us, rfl⟩ : ∃ a b, us = a :: b := List.exists_cons_of_length_eq_add_one hul
 replace hul := Nat.succ.inj hul
 obtain ⟨v42, us, rfl⟩ : ∃ a b, us = a :: b := List.exists_cons_of_length_eq_add_one hul
 replace hul := Nat.succ.inj hul
 obtain rfl : us = [] := List.eq_nil_of_length_eq_zero hul
 clear hul
 simp only [List.take, List.drop, List.cons_append, List.nil_append]
 refine wpAnyH_all (rs := [11]) (by kernel_rfl) (by simp) ?_
 intro i hi; obtain rfl : i = 11 := by simpa using hi
 refine wpOp_step rfl (fun Kz hZ => ?_)
 rw [if_pos (by kernel_rfl)]
 have cc := F0
 obtain ⟨⟨z0, z1, z2⟩, zf⟩ := cc
 have z3 := zf 0
 have z4 := zf 1
 have z5 := zf 2
 go_simp
 clear z0 z1 z2 z3 z4 z5 zf
 obtain ⟨bt1, bht1⟩ : ∃ y_, y_ = (((bt0.setCell ⟨PG, 0, none⟩ (.int .i64 E.ep)).setCell ⟨PG, 1, none⟩ (.int .i64 E.ow)).setCell ⟨PG, 2, none⟩ (.int .i64 E.pa)) := ⟨_, rfl⟩
 have QG : RgAt bt1 PG E := by rw [bht1]; exact (F0.put E).at_
 have kp : ∀ k, k ≠ PG → bt1.heap[k]? = bt0.heap[k]? := fun k hk => by rw [bht1]; exact heap_put3 _ _ _ E hk
 have F1 := F1.keep (kp _ (fun e => n01 e.symm))
 have OG := OG.keep (fun g e => kp g (jOG0 g e))
 have bhc1 : Below wd2.heap.size wd2 bt1 := by rw [bht1]; exact below_put3 E bhc0 p0
 rw [← bht1]
 clear bht1 F0 bhc0 kp
 refine hZ _ _ ⟨bhc1, ?_⟩
 clear hZ Kz hi
 refine wpAnyH_all (rs := [12]) (by kernel_rfl) (by simp) ?_
 intro i hi; obtain rfl : i = 12 := by simpa using hi
 refine wpOp_step rfl (fun Kz hZ => ?_)
 rw [if_pos (by kernel_rfl)]
 have cc := F1
 obtain ⟨z0, z1, z2, z3, z4, z5, z6, zf⟩ := cc
 have y0 := zf 0
 have y1 := zf 1
 have y2 := zf 2
 have y3 := zf 3
 have y4 := zf 4
 have y5 := zf 5
 have y6 := zf 6
 go_simp
 clear z0 z1 z2 z3 z4 z5 z6 zf y0 y1 y2 y3 y4 y5 y6
 obtain ⟨bt2, bht2⟩ : ∃ y_, y_ = (((((((bt1.setCell ⟨MG, 0, none⟩ (.bool D.up)).setCell ⟨MG, 1, none⟩ (.int .i64 D.li)).setCell ⟨MG, 2, none⟩ (.int .i64 D.ep)).setCell ⟨MG, 3, none⟩ (.slice aG D.lg.length cG)).setCell ⟨MG, 4, none⟩ (.int .i64 D.sd)).setCell ⟨MG, 5, none⟩ (.int .i64 D.ac)).setCell ⟨MG, 6, none⟩ (.int .i64 D.al)) := ⟨_, rfl⟩
 have AG : MiAt bt2 MG D (.slice aG D.lg.length cG) := by rw [bht2]; exact (F1.put D _).at_
 have kp : ∀ k, k ≠ MG → bt2.heap[k]? = bt1.heap[k]? := fun k hk => by rw [bht2]; exact heap_put7 _ _ _ D _ hk
 have QG := QG.keep (kp _ n01)
 have OG := OG.keep (fun g e => kp g (jOG1 g e))
 have bhc2 : Below wd2.heap.size wd2 bt2 := by rw [bht2]; exact below_put7 D _ bhc1 p1
 rw [← bht2]
 clear bht2 F1 bhc1 kp n01
 refine hZ _ _ ⟨bhc2, ?_⟩
 clear hZ Kz hi
 refine takeW 13 14 (.bool o) rfl rfl (by kernel_rfl) (by kernel_rfl) (by kernel_rfl) (fun _ _ _ h => h) (by kernel_rfl) (by (intro w hSw; go_simp)) (by assumption) ?_
 simp only [List.set_cons_zero, List.set_cons_succ]
 refine wpAnyH_done (by kernel_rfl) ?_ _
 have bst2 := bhc2.size
 have A0 := A0.below bhc2 A0.lt
 have QW := QW.below bhc2 QW.lt
 have A2 := A2.below bhc2 A2.lt
 have AW := AW.below bhc2 AW.lt
 have AX := AX.below bhc2 AX.lt
 have V2 := V2.below bhc2 (V2.lt ikEnc_len (by omega))
 have OW := OW.later bhc2
 have OX := OX.later bhc2
 have BW := BW.trans (bhc2.mono BW.size)
 clear bhc2
 have lqG := QG.lt
 have lmG := AG.lt
 have iOG : ∀ g, (Value.slice aG D.lg.length cG).ownBlock = some g → wd2.heap.size ≤ g ∧ g < bt2.heap.size := fun g e => OG.lt g e
 have cc := QG
 obtain ⟨m0_0, m0_1, m0_2⟩ := cc
 have cc := QW
 obtain ⟨m1_0, m1_1, m1_2⟩ := cc
 go_wp2_with fail
 go_at_call 29
 clear m0_0 m0_1 m0_2 m1_0 m1_1 m1_2
 refine (eqRg E bt2).mono ?_
 rintro e wd3 ⟨rfl, kq⟩
 have swd3 := kq.size
 have A0 := A0.below kq A0.lt
 have QW := QW.below kq QW.lt
 have QG := QG.below kq QG.lt
 have A2 := A2.below kq A2.lt
 have AW := AW.below kq AW.lt
 have AX := AX.below kq AX.lt
 have AG := AG.below kq AG.lt
 have V2 := V2.below kq (V2.lt ikEnc_len (by omega))
 have OW := OW.later kq
 have OX := OX.later kq
 have OG := OG.later kq
 have BW := BW.trans (kq.mono BW.size)
 clear kq
 have cc := AG
 obtain ⟨m0_0, m0_1, m0_2, m0_3, m0_4, m0_5, m0_6⟩ := cc
 have cc := AW
 obtain ⟨m1_0, m1_1, m1_2, m1_3, m1_4, m1_5, m1_6⟩ := cc
 go_wp2_with fail
 go_at_call 26
 clear m0_0 m0_1 m0_2 m0_3 m0_4 m0_5 m0_6 m1_0 m1_1 m1_2 m1_3 m1_4 m1_5 m1_6
 refine (miEq D aG aW cG cW wd3 OG.view.2 OW.view.2 hDl).mono ?_
 rintro e wd4 ⟨rfl, kq⟩
 have swd4 := kq.size
 have A0 := A0.below kq A0.lt
 have QW := QW.below kq QW.lt
 have QG := QG.below kq QG.lt
 have A2 := A2.below kq A2.lt
 have AW := AW.below kq AW.lt
 have AX := AX.below kq AX.lt
 have AG := AG.below kq AG.lt
 have V2 := V2.below kq (V2.lt ikEnc_len (by omega))
 have OW := OW.later kq
 have OX := OX.later kq
 have OG := OG.later kq
 have BW := BW.trans (kq.mono BW.size)
 clear kq
 go_upto_region 10 with fail
 refine wp_region_held (S := fun Y => Below wd4.heap.size wd4 Y) (by kernel_rfl) ?_
 change wpAnyH _ _ _ _ _ _ _ _ (World.drew _)
 have hz0 : Below wd4.heap.size wd4 wd4.drew := (Below.refl _ _).drew
 obtain ⟨z0, hy0⟩ : ∃ y_, y_ = wd4.drew := ⟨_, rfl⟩
 rw [← hy0] at hz0 ⊢
 clear hy0
 refine takeW 0 62 (.agg #[.bool m2.up, .int .i64 m2.li, .int .i64 m2.ep, .slice (some ⟨gOX, 0, none⟩) m2.lg.length m2.lg.length, .int .i64 m2.sd, .int .i64 m2.ac, .int .i64 m2.al]) rfl rfl (by kernel_rfl) (by kernel_rfl) (by kernel_rfl) (fun _ _ _ h => h) (by kernel_rfl) (by (intro Y hSw; obtain ⟨X0, X1, X2, X3, X4, X5, X6⟩ := AX.below hSw AX.lt; go_simp)) (by assumption) ?_
 simp only [List.set_cons_zero, List.set_cons_succ]
 refine takeW 1 63 (.agg #[.bool m2.up, .int .i64 m2.li, .int .i64 m2.ep, .slice ad2 m2.lg.length cap2, .int .i64 m2.sd, .int .i64 m2.ac, .int .i64 m2.al]) rfl rfl (by kernel_rfl) (by kernel_rfl) (by kernel_rfl) (fun _ _ _ h => h) (by kernel_rfl) (by (intro Y hSw; obtain ⟨X0, X1, X2, X3, X4, X5, X6⟩ := A2.below hSw A2.lt; go_simp)) (by assumption) ?_
 simp only [List.set_cons_zero, List.set_cons_succ]
 refine wpAnyH_all (rs := [2]) (by kernel_rfl) (by simp) ?_
 intro i hi; obtain rfl : i = 2 := by simpa using hi
 refine wpOp_step rfl (fun Kz hZ => ?_)
 rw [if_pos (by kernel_rfl)]
 go_simp
 go_at_call 24
 refine (miTo m2 ad2 cap2 z0 (V2.below hz0 (V2.lt ikEnc_len (by omega))) hl).mono ?_
 rintro e z1 ⟨gz, rfl, _, _, oz, kq⟩
 have hz1 : Below wd4.heap.size wd4 z1 := hz0.trans (kq.mono hz0.size)
 clear kq
 refine hZ _ _ ⟨hz1, ?_⟩
 clear hZ Kz hi
 refine wpAnyH_all (rs := [3]) (by kernel_rfl) (by simp) ?_
 intro i hi; obtain rfl : i = 3 := by simpa using hi
 refine wpOp_step rfl (fun Kz hZ => ?_)
 rw [if_pos (by kernel_rfl)]
 go_simp
 go_at_call 26
 refine (miEq m2 (some ⟨gOX, 0, none⟩) (some ⟨gz, 0, none⟩) m2.lg.length m2.lg.length z1 (OX.later hz1).view.2 oz.view.2 hl).mono ?_
 rintro e z2 ⟨rfl, kq⟩
 have hz2 : Below wd4.heap.size wd4 z2 := hz1.trans (kq.mono hz1.size)
 clear kq
 refine hZ _ _ ⟨hz2, ?_⟩
 clear hZ Kz hi
 refine takeW 4 66 (.bool false) rfl rfl (by kernel_rfl) (by kernel_rfl) (by kernel_rfl) (fun _ _ _ h => h) (by kernel_rfl) (by (intro w hSw; go_simp)) (by assumption) ?_
 simp only [List.set_cons_zero, List.set_cons_succ]
 refine wpAnyH_done (by kernel_rfl) ?_ _
 have su2 := hz2.size
 have A0 := A0.below hz2 A0.lt
 have QW := QW.below hz2 QW.lt
 have QG := QG.below hz2 QG.lt
 have A2 := A2.below hz2 A2.lt
 have AW := AW.below hz2 AW.lt
 have AX := AX.below hz2 AX.lt
 have AG := AG.below hz2 AG.lt
 have V2 := V2.below hz2 (V2.lt ikEnc_len (by omega))
 have OW := OW.later hz2
 have OX := OX.later hz2
 have OG := OG.later hz2
 have BW := BW.trans (hz2.mono BW.size)
 clear hz2
 clear hz0 hz1 oz
 have sz2' : w.heap.size ≤ z2.heap.size := BW.size
 have cc := AX
 obtain ⟨m0_0, m0_1, m0_2, m0_3, m0_4, m0_5, m0_6⟩ := cc
 go_wp2_with fail
 go_at_call 30
 clear m0_0 m0_1 m0_2 m0_3 m0_4 m0_5 m0_6
 refine (miMark m2 (some ⟨gOX, 0, none⟩) m2.lg.length 1 _ z2 OX (by omega) (by decide) (by decide)).mono ?_
 rintro e wd5 ⟨rfl, OX', gq⟩
 have swd5 := gq.size
 have V2 := V2.carry (fun a e p => gq.block _ (V2.lt ikEnc_len (by omega) a e p) (fun e2 => by have := iOX _ e2.symm; have := vb a e p; omega))
 have OW := OW.keep (fun g' e' => gq.block g' (OW.lt g' e').2 (fun e2 => by have := iOX _ e2.symm; have := iOW _ e'; omega))
 have OG := OG.keep (fun g' e' => gq.block g' (OG.lt g' e').2 (fun e2 => by have := iOX _ e2.symm; have := iOG _ e'; omega))
 have A2 := A2.keep (gq.block _ A2.lt (fun e => by have := iOX _ e.symm; omega))
 have AW := AW.keep (gq.block _ AW.lt (fun e => by have := iOX _ e.symm; omega))
 have AX := AX.keep (gq.block _ AX.lt (fun e => by have := iOX _ e.symm; omega))
 have AG := AG.keep (gq.block _ AG.lt (fun e => by have := iOX _ e.symm; omega))
 have A0 := A0.keep (gq.block _ A0.lt (fun e => by have := iOX _ e.symm; omega))
 have QW := QW.keep (gq.block _ QW.lt (fun e => by have := iOX _ e.symm; omega))
 have QG := QG.keep (gq.block _ QG.lt (fun e => by have := iOX _ e.symm; omega))
 have BW := BW.grown gq BW.size (fun g' e => by have := iOX _ e; omega)
 clear gq
 have OX := OX'
 clear OX'
 have hk0 : ¬ (1 + 8 * (m2.lg.length : Int) < 0) := by omega
 have hk1 : decide (1 + 8 * (m2.lg.length : Int) < 0) = false := decide_eq_false hk0
 have cc := QG
 obtain ⟨m0_0, m0_1, m0_2⟩ := cc
 have cc := QW
 obtain ⟨m1_0, m1_1, m1_2⟩ := cc
 go_wp2_with fail
 go_at_call 29
 clear m0_0 m0_1 m0_2 m1_0 m1_1 m1_2
 refine (eqRg E wd5).mono ?_
 rintro e wd6 ⟨rfl, kq⟩
 have swd6 := kq.size
 have A0 := A0.below kq A0.lt
 have QW := QW.below kq QW.lt
 have QG := QG.below kq QG.lt
 have A2 := A2.below kq A2.lt
 have AW := AW.below kq AW.lt
 have AX := AX.below kq AX.lt
 have AG := AG.below kq AG.lt
 have V2 := V2.below kq (V2.lt ikEnc_len (by omega))
 have OW := OW.later kq
 have OG := OG.later kq
 have BW := BW.trans (kq.mono BW.size)
 clear kq
 have cc := AG
 obtain ⟨m0_0, m0_1, m0_2, m0_3, m0_4, m0_5, m0_6⟩ := cc
 have cc := AW
 obtain ⟨m1_0, m1_1, m1_2, m1_3, m1_4, m1_5, m1_6⟩ := cc
 go_wp2_with fail
 go_at_call 26
 clear m0_0 m0_1 m0_2 m0_3 m0_4 m0_5 m0_6 m1_0 m1_1 m1_2 m1_3 m1_4 m1_5 m1_6
 refine (miEq D aG aW cG cW wd6 OG.view.2 OW.view.2 hDl).mono ?_
 rintro e wd7 ⟨rfl, kq⟩
 have swd7 := kq.size
 have A0 := A0.below kq A0.lt
 have QW := QW.below kq QW.lt
 have QG := QG.below kq QG.lt
 have A2 := A2.below kq A2.lt
 have AW := AW.below kq AW.lt
 have AX := AX.below kq AX.lt
 have AG := AG.below kq AG.lt
 have V2 := V2.below kq (V2.lt ikEnc_len (by omega))
 have OW := OW.later kq
 have OG := OG.later kq
 have BW := BW.trans (kq.mono BW.size)
 clear kq
 have cc := AG
 obtain ⟨m0_0, m0_1, m0_2, m0_3, m0_4, m0_5, m0_6⟩ := cc
 go_wp2_with fail
 go_at_call 30
 clear m0_0 m0_1 m0_2 m0_3 m0_4 m0_5 m0_6
 refine (miMark D (aG) cG 1 _ wd7 OG (by omega) (by decide) (by decide)).mono ?_
 rintro e wd8 ⟨rfl, OG', gq⟩
 have swd8 := gq.size
 have V2 := V2.carry (fun a e p => gq.block _ (V2.lt ikEnc_len (by omega) a e p) (fun e2 => by have := iOG _ e2.symm; have := vb a e p; omega))
 have OW := OW.keep (fun g' e' => gq.block g' (OW.lt g' e').2 (fun e2 => by have := iOG _ e2.symm; have := iOW _ e'; omega))
 have A2 := A2.keep (gq.block _ A2.lt (fun e => by have := iOG _ e.symm; omega))
 have AW := AW.keep (gq.block _ AW.lt (fun e => by have := iOG _ e.symm; omega))
 have AX := AX.keep (gq.block _ AX.lt (fun e => by have := iOG _ e.symm; omega))
 have AG := AG.keep (gq.block _ AG.lt (fun e => jOG1 _ e.symm rfl))
 have A0 := A0.keep (gq.block _ A0.lt (fun e => by have := iOG _ e.symm; omega))
 have QW := QW.keep (gq.block _ QW.lt (fun e => by have := iOG _ e.symm; omega))
 have QG := QG.keep (gq.block _ QG.lt (fun e => jOG0 _ e.symm rfl))
 have BW := BW.grown gq BW.size (fun g' e => by have := iOG _ e; omega)
 clear gq
 have OG := OG'
 clear OG'
 obtain ⟨m, hm⟩ : ∃ m, m = 1 + 8 * (D.lg.length : Int) := ⟨_, rfl⟩
 have m00 : ¬ m < 0 := by omega
 rw [← hm]
 replace hm : Hid _ := hm
 have hml : ((List.range D.lg.length).map (ikMk 1)).length = D.lg.length := by simp
 have cc := AG
 obtain ⟨m0_0, m0_1, m0_2, m0_3, m0_4, m0_5, m0_6⟩ := cc
 go_wp2_with fail
 go_at_call 31
 clear m0_0 m0_1 m0_2 m0_3 m0_4 m0_5 m0_6
 refine (miHeld D aG cG 1 wd8 (by have := OG.view.2; exact this) hDl (by decide) (by decide)).mono ?_
 rintro e wd9 ⟨rfl, kq⟩
 have swd9 := kq.size
 have A0 := A0.below kq A0.lt
 have QW := QW.below kq QW.lt
 have QG := QG.below kq QG.lt
 have A2 := A2.below kq A2.lt
 have AW := AW.below kq AW.lt
 have AX := AX.below kq AX.lt
 have AG := AG.below kq AG.lt
 have V2 := V2.below kq (V2.lt ikEnc_len (by omega))
 have OW := OW.later kq
 have OG := OG.later kq
 have BW := BW.trans (kq.mono BW.size)
 clear kq
 rw [← hm.out]
 go_upto_region 24 with fail
 refine wp_region_held (S := fun Y => Below wd9.heap.size wd9 Y) (by kernel_rfl) ?_
 change wpAnyH _ _ _ _ _ _ _ _ (World.drew _)
 have hb0 : Below wd9.heap.size wd9 wd9.drew := (Below.refl _ _).drew
 obtain ⟨u0, hy0⟩ : ∃ y_, y_ = wd9.drew := ⟨_, rfl⟩
 rw [← hy0] at hb0 ⊢
 clear hy0
 refine join_any 3 #[true, true, true, true, true, true, true, true, true, true, true, true, false, false, false] (fun l l' W' => ∃ (P P' : Nat) (aH : Option Addr) (cH : Nat) (us : List Value), us.length = 5 ∧ l' = l.take 18 ++ (.pointer (some ⟨P, 0, none⟩) :: .pointer (some ⟨P', 0, none⟩) :: (l.drop 20).take 80) ++ ((.tuple #[.agg #[.int .i64 E.ep, .int .i64 E.ow, .int .i64 E.pa], .agg #[.bool D.up, .int .i64 D.li, .int .i64 D.ep, .slice aH D.lg.length cH, .int .i64 D.sd, .int .i64 D.ac, .int .i64 D.al], .bool o]) :: us) ++ ((.tuple #[.agg #[.int .i64 E.ep, .int .i64 E.ow, .int .i64 E.pa], .agg #[.bool D.up, .int .i64 D.li, .int .i64 D.ep, .slice aH D.lg.length cH, .int .i64 D.sd, .int .i64 D.ac, .int .i64 D.al], .bool o]) :: .agg #[.int .i64 E.ep, .int .i64 E.ow, .int .i64 E.pa] :: .agg #[.bool D.up, .int .i64 D.li, .int .i64 D.ep, .slice aH D.lg.length cH, .int .i64 D.sd, .int .i64 D.ac, .int .i64 D.al] :: .bool o :: l.drop 110) ∧ RgBox W' P ⟨0, 0, 0⟩ ∧ MiBox W' P' ⟨false, 0, 0, [], 0, 0, 0⟩ (.slice none 0 0) ∧ wd9.heap.size ≤ P ∧ wd9.heap.size ≤ P' ∧ P ≠ P' ∧ FOwn ikEnc 8 30 wd9.heap.size W' (.slice aH D.lg.length cH) D.lg ∧ (∀ g_, (Value.slice aH D.lg.length cH).ownBlock = some g_ → g_ ≠ P) ∧ (∀ g_, (Value.slice aH D.lg.length cH).ownBlock = some g_ → g_ ≠ P') ∧ Below wd9.heap.size wd9 W') ?_ ?_
 rotate_left
 · intro hTT
   refine takeW 0 101 (.agg #[.int .i64 rg0.ep, .int .i64 rg0.ow, .int .i64 rg0.pa]) rfl rfl (by kernel_rfl) (by kernel_rfl) (by kernel_rfl) (fun _ _ _ h => h) (by kernel_rfl) (by (intro Y hSw; obtain ⟨X0, X1, X2⟩ := A0.below hSw A0.lt; go_simp)) (by assumption) ?_
   simp only [List.set_cons_zero, List.set_cons_succ]
   refine takeW 2 103 (.int .i64 n1) rfl rfl (by kernel_rfl) (by kernel_rfl) (by kernel_rfl) (fun _ _ _ h => h) (by kernel_rfl) (by (intro w hSw; go_simp)) (by assumption) ?_
   simp only [List.set_cons_zero, List.set_cons_succ]
   refine takeW 3 104 (.agg #[.bool m2.up, .int .i64 m2.li, .int .i64 m2.ep, .slice ad2 m2.lg.length cap2, .int .i64 m2.sd, .int .i64 m2.ac, .int .i64 m2.al]) rfl rfl (by kernel_rfl) (by kernel_rfl) (by kernel_rfl) (fun _ _ _ h => h) (by kernel_rfl) (by (intro Y hSw; obtain ⟨X0, X1, X2, X3, X4, X5, X6⟩ := A2.below hSw A2.lt; go_simp)) (by assumption) ?_
   simp only [List.set_cons_zero, List.set_cons_succ]
   refine wpAnyH_all (rs := [1, 10, 11]) (by kernel_rfl) (by simp) ?_
   intro i hi; rcases (by simpa using hi : i = 1 ∨ i = 10 ∨ i = 11) with rfl | rfl | rfl
   · refine wpOp_step rfl (fun Kz hZ => ?_)
     rw [if_pos (by kernel_rfl)]
     go_simp
     go_at_call 20
     refine (toRg rg0 u0).mono ?_
     rintro e u1 ⟨rfl, kq⟩
     have hb1 : Below wd9.heap.size wd9 u1 := hb0.trans (kq.mono hb0.size)
     clear kq
     refine hZ _ _ ⟨hb1, ?_⟩
     clear hZ Kz hi
     refine wpAnyH_all (rs := [4, 10, 11]) (by kernel_rfl) (by simp) ?_
     intro i hi; rcases (by simpa using hi : i = 4 ∨ i = 10 ∨ i = 11) with rfl | rfl | rfl
     · refine wpOp_step rfl (fun Kz hZ => ?_)
       rw [if_pos (by kernel_rfl)]
       go_simp
       go_at_call 24
       refine (miTo m2 ad2 cap2 u1 (V2.below hb1 (V2.lt ikEnc_len (by omega))) hl).mono ?_
       rintro e u2 ⟨gT, rfl, _, _, oT, kq⟩
       have hb2 : Below wd9.heap.size wd9 u2 := hb1.trans (kq.mono hb1.size)
       clear kq
       refine hZ _ _ ⟨hb2, ?_⟩
       clear hZ Kz hi
       refine wpAnyH_all (rs := [5, 10, 11]) (by kernel_rfl) (by simp) ?_
       intro i hi; rcases (by simpa using hi : i = 5 ∨ i = 10 ∨ i = 11) with rfl | rfl | rfl
       · refine wpOp_step rfl (fun Kz hZ => ?_)
         rw [if_pos (by kernel_rfl)]
         go_simp
         go_at_call 28
         refine (takeIw rg0 n1 m2 (some ⟨gT, 0, none⟩) m2.lg.length u2 oT.view.2 (by omega) (fun e => by cases e)).mono ?_
         rintro e u3 ⟨aH, cH, rfl, OH, kq⟩
         rw [hD.out] at OH ⊢
         rw [hE.out, hO.out]
         have bsH := hb2.size
         have oT := oT.later kq
         have hb3 : Below wd9.heap.size wd9 u3 := hb2.trans (kq.mono hb2.size)
         clear kq
         refine hZ _ _ ⟨hb3, ?_⟩
         clear hZ Kz hi
         refine takeW 6 100 (.tuple #[.agg #[.int .i64 E.ep, .int .i64 E.ow, .int .i64 E.pa], .agg #[.bool D.up, .int .i64 D.li, .int .i64 D.ep, .slice aH D.lg.length cH, .int .i64 D.sd, .int .i64 D.ac, .int .i64 D.al], .bool o]) rfl rfl (by kernel_rfl) (by kernel_rfl) (by kernel_rfl) (fun _ _ _ h => h) (by kernel_rfl) (by (intro w hSw; go_simp)) (by assumption) ?_
         simp only [List.set_cons_zero, List.set_cons_succ]
         refine takeW 7 107 (.agg #[.int .i64 E.ep, .int .i64 E.ow, .int .i64 E.pa]) rfl rfl (by kernel_rfl) (by kernel_rfl) (by kernel_rfl) (fun _ _ _ h => h) (by kernel_rfl) (by (intro w hSw; go_simp)) (by assumption) ?_
         simp only [List.set_cons_zero, List.set_cons_succ]
         refine takeW 8 108 (.agg #[.bool D.up, .int .i64 D.li, .int .i64 D.ep, .slice aH D.lg.length cH, .int .i64 D.sd, .int .i64 D.ac, .int .i64 D.al]) rfl rfl (by kernel_rfl) (by kernel_rfl) (by kernel_rfl) (fun _ _ _ h => h) (by kernel_rfl) (by (intro w hSw; go_simp)) (by assumption) ?_
         simp only [List.set_cons_zero, List.set_cons_succ]
         refine takeW 9 109 (.bool o) rfl rfl (by kernel_rfl) (by kernel_rfl) (by kernel_rfl) (fun _ _ _ h => h) (by kernel_rfl) (by (intro w hSw; go_simp)) (by assumption) ?_
         simp only [List.set_cons_zero, List.set_cons_succ]
         refine wpAnyH_all (rs := [10, 11]) (by kernel_rfl) (by simp) ?_
         intro i hi; rcases (by simpa using hi : i = 10 ∨ i = 11) with rfl | rfl
         · refine wpOp_step rfl (fun Kz hZ => ?_)
           rw [if_pos (by kernel_rfl)]
           go_simp
           obtain ⟨u4, hy⟩ : ∃ y_, y_ = u3.alloc (Obj.cells #[.int .i64 0, .int .i64 0, .int .i64 0] 44) := ⟨_, rfl⟩
           have kq : Below u3.heap.size u3 u4 := by rw [hy]; exact below_new _
           have joT0 : ∀ g_, (Value.slice (some ⟨gT, 0, none⟩) m2.lg.length m2.lg.length).ownBlock = some g_ → g_ ≠ u3.heap.size := fun g_ e => by have h1 := (oT.lt g_ e).2; omega
           have jOH0 : ∀ g_, (Value.slice aH D.lg.length cH).ownBlock = some g_ → g_ ≠ u3.heap.size := fun g_ e => by have h1 := (OH.lt g_ e).2; omega
           have oT := oT.later kq
           have OH := OH.later kq
           have F0 : RgBox u4 u3.heap.size ⟨0, 0, 0⟩ := by rw [hy]; refine ⟨?_, fun i => ?_⟩; constructor <;> simp [go_sem]; simp [go_sem]
           have p0 : wd9.heap.size ≤ u3.heap.size := hb3.size
           have hb4 : Below wd9.heap.size wd9 u4 := hb3.trans (kq.mono hb3.size)
           rw [← hy]
           clear hy kq
           refine hZ _ _ ⟨hb4, ?_⟩
           clear hZ Kz hi
           refine wpAnyH_all (rs := [11]) (by kernel_rfl) (by simp) ?_
           intro i hi; obtain rfl : i = 11 := by simpa using hi
           refine wpOp_step rfl (fun Kz hZ => ?_)
           rw [if_pos (by kernel_rfl)]
           go_simp
           obtain ⟨u5, hy⟩ : ∃ y_, y_ = u4.alloc (Obj.cells #[.bool false, .int .i64 0, .int .i64 0, .slice none 0 0, .int .i64 0, .int .i64 0, .int .i64 0] 26) := ⟨_, rfl⟩
           have kq : Below u4.heap.size u4 u5 := by rw [hy]; exact below_new _
           have joT1 : ∀ g_, (Value.slice (some ⟨gT, 0, none⟩) m2.lg.length m2.lg.length).ownBlock = some g_ → g_ ≠ u4.heap.size := fun g_ e => by have h1 := (oT.lt g_ e).2; omega
           have jOH1 : ∀ g_, (Value.slice aH D.lg.length cH).ownBlock = some g_ → g_ ≠ u4.heap.size := fun g_ e => by have h1 := (OH.lt g_ e).2; omega
           have n01 : u3.heap.size ≠ u4.heap.size := by have h2 := F0.lt; omega
           have oT := oT.later kq
           have OH := OH.later kq
           have F0 := F0.below kq F0.lt
           have F1 : MiBox u5 u4.heap.size ⟨false, 0, 0, [], 0, 0, 0⟩ (.slice none 0 0) := by rw [hy]; constructor <;> simp [go_sem]
           have p1 : wd9.heap.size ≤ u4.heap.size := hb4.size
           have hb5 : Below wd9.heap.size wd9 u5 := hb4.trans (kq.mono hb4.size)
           rw [← hy]
           clear hy kq
           refine hZ _ _ ⟨hb5, ?_⟩
           clear hZ Kz hi
           refine relist 3 #[true, true, true, true, true, true, true, true, true, true, true, true, false, false, false] (by kernel_rfl) (by kernel_rfl) ?_
           exact hTT.out _ _ ⟨u3.heap.size, u4.heap.size, aH, cH, [(.agg #[.int .i64 rg0.ep, .int .i64 rg0.ow, .int .i64 rg0.pa]), (.agg #[.int .i64 rg0.ep, .int .i64 rg0.ow, .int .i64 rg0.pa]), (.int .i64 n1), (.agg #[.bool m2.up, .int .i64 m2.li, .int .i64 m2.ep, .slice ad2 m2.lg.length cap2, .int .i64 m2.sd, .int .i64 m2.ac, .int .i64 m2.al]), (.agg #[.bool m2.up, .int .i64 m2.li, .int .i64 m2.ep, .slice (some ⟨gT, 0, none⟩) m2.lg.length m2.lg.length, .int .i64 m2.sd, .int .i64 m2.ac, .int .i64 m2.al])], rfl, by kernel_rfl, F0, F1, p0, p1, n01, OH.base bsH, jOH0, jOH1, hb5⟩
         · refine wpOp_step rfl (fun Kz hZ => ?_)
           rw [if_pos (by kernel_rfl)]
           go_simp
           obtain ⟨u4, hy⟩ : ∃ y_, y_ = u3.alloc (Obj.cells #[.bool false, .int .i64 0, .int .i64 0, .slice none 0 0, .int .i64 0, .int .i64 0, .int .i64 0] 26) := ⟨_, rfl⟩
           have kq : Below u3.heap.size u3 u4 := by rw [hy]; exact below_new _
           have joT1 : ∀ g_, (Value.slice (some ⟨gT, 0, none⟩) m2.lg.length m2.lg.length).ownBlock = some g_ → g_ ≠ u3.heap.size := fun g_ e => by have h1 := (oT.lt g_ e).2; omega
           have jOH1 : ∀ g_, (Value.slice aH D.lg.length cH).ownBlock = some g_ → g_ ≠ u3.heap.size := fun g_ e => by have h1 := (OH.lt g_ e).2; omega
           have oT := oT.later kq
           have OH := OH.later kq
           have F1 : MiBox u4 u3.heap.size ⟨false, 0, 0, [], 0, 0, 0⟩ (.slice none 0 0) := by rw [hy]; constructor <;> simp [go_sem]
           have p1 : wd9.heap.size ≤ u3.heap.size := hb3.size
           have hb4 : Below wd9.heap.size wd9 u4 := hb3.trans (kq.mono hb3.size)
           rw [← hy]
           clear hy kq
           refine hZ _ _ ⟨hb4, ?_⟩
           clear hZ Kz hi
           refine wpAnyH_all (rs := [10]) (by kernel_rfl) (by simp) ?_
           intro i hi; obtain rfl : i = 10 := by simpa using hi
           refine wpOp_step rfl (fun Kz hZ => ?_)
           rw [if_pos (by kernel_rfl)]
           go_simp
           obtain ⟨u5, hy⟩ : ∃ y_, y_ = u4.alloc (Obj.cells #[.int .i64 0, .int .i64 0, .int .i64 0] 44) := ⟨_, rfl⟩
           have kq : Below u4.heap.size u4 u5 := by rw [hy]; exact below_new _
           have joT0 : ∀ g_, (Value.slice (some ⟨gT, 0, none⟩) m2.lg.length m2.lg.length).ownBlock = some g_ → g_ ≠ u4.heap.size := fun g_ e => by have h1 := (oT.lt g_ e).2; omega
           have jOH0 : ∀ g_, (Value.slice aH D.lg.length cH).ownBlock = some g_ → g_ ≠ u4.heap.size := fun g_ e => by have h1 := (OH.lt g_ e).2; omega
           have n01 : u4.heap.size ≠ u3.heap.size := by have h2 := F1.lt; omega
           have oT := oT.later kq
           have OH := OH.later kq
           have F1 := F1.below kq F1.lt
           have F0 : RgBox u5 u4.heap.size ⟨0, 0, 0⟩ := by rw [hy]; refine ⟨?_, fun i => ?_⟩; constructor <;> simp [go_sem]; simp [go_sem]
           have p0 : wd9.heap.size ≤ u4.heap.size := hb4.size
           have hb5 : Below wd9.heap.size wd9 u5 := hb4.trans (kq.mono hb4.size)
           rw [← hy]
           clear hy kq
           refine hZ _ _ ⟨hb5, ?_⟩
           clear hZ Kz hi
           refine relist 3 #[true, true, true, true, true, true, true, true, true, true, true, true, false, false, false] (by kernel_rfl) (by kernel_rfl) ?_
           exact hTT.out _ _ ⟨u4.heap.size, u3.heap.size, aH, cH, [(.agg #[.int .i64 rg0.ep, .int .i64 rg0.ow, .int .i64 rg0.pa]), (.agg #[.int .i64 rg0.ep, .int .i64 rg0.ow, .int .i64 rg0.pa]), (.int .i64 n1), (.agg #[.bool m2.up, .int .i64 m2.li, .int .i64 m2.ep, .slice ad2 m2.lg.length cap2, .int .i64 m2.sd, .int .i64 m2.ac, .int .i64 m2.al]), (.agg #[.bool m2.up, .int .i64 m2.li, .int .i64 m2.ep, .slice (some ⟨gT, 0, none⟩) m2.lg.length m2.lg.length, .int .i64 m2.sd, .int .i64 m2.ac, .int .i64 m2.al])], rfl, by kernel_rfl, F0, F1, p0, p1, n01, OH.base bsH, jOH0, jOH1, hb5⟩
       · refine wpOp_step rfl (fun Kz hZ => ?_)
         rw [if_pos (by kernel_rfl)]
         go_simp
         obtain ⟨u3, hy⟩ : ∃ y_, y_ = u2.alloc (Obj.cells #[.int .i64 0, .int .i64 0, .int .i64 0] 44) := ⟨_, rfl⟩
         have kq : Below u2.heap.size u2 u3 := by rw [hy]; exact below_new _
         have joT0 : ∀ g_, (Value.slice (some ⟨gT, 0, none⟩) m2.lg.length m2.lg.length).ownBlock = some g_ → g_ ≠ u2.heap.size := fun g_ e => by have h1 := (oT.lt g_ e).2; omega
         have oT := oT.later kq
         have F0 : RgBox u3 u2.heap.size ⟨0, 0, 0⟩ := by rw [hy]; refine ⟨?_, fun i => ?_⟩; constructor <;> simp [go_sem]; simp [go_sem]
         have p0 : wd9.heap.size ≤ u2.heap.size := hb2.size
         have hb3 : Below wd9.heap.size wd9 u3 := hb2.trans (kq.mono hb2.size)
         rw [← hy]
         clear hy kq
         refine hZ _ _ ⟨hb3, ?_⟩
         clear hZ Kz hi
         refine wpAnyH_all (rs := [5, 11]) (by kernel_rfl) (by simp) ?_
         intro i hi; rcases (by simpa using hi : i = 5 ∨ i = 11) with rfl | rfl
         · refine wpOp_step rfl (fun Kz hZ => ?_)
           rw [if_pos (by kernel_rfl)]
           go_simp
           go_at_call 28
           refine (takeIw rg0 n1 m2 (some ⟨gT, 0, none⟩) m2.lg.length u3 oT.view.2 (by omega) (fun e => by cases e)).mono ?_
           rintro e u4 ⟨aH, cH, rfl, OH, kq⟩
           rw [hD.out] at OH ⊢
           rw [hE.out, hO.out]
           have bsH := hb3.size
           have jOH0 : ∀ g_, (Value.slice aH D.lg.length cH).ownBlock = some g_ → g_ ≠ u2.heap.size := fun g_ e => by have h1 := (OH.lt g_ e).1; have h2 := F0.lt; omega
           have oT := oT.later kq
           have F0 := F0.below kq F0.lt
           have hb4 : Below wd9.heap.size wd9 u4 := hb3.trans (kq.mono hb3.size)
           clear kq
           refine hZ _ _ ⟨hb4, ?_⟩
           clear hZ Kz hi
           refine takeW 6 100 (.tuple #[.agg #[.int .i64 E.ep, .int .i64 E.ow, .int .i64 E.pa], .agg #[.bool D.up, .int .i64 D.li, .int .i64 D.ep, .slice aH D.lg.length cH, .int .i64 D.sd, .int .i64 D.ac, .int .i64 D.al], .bool o]) rfl rfl (by kernel_rfl) (by kernel_rfl) (by kernel_rfl) (fun _ _ _ h => h) (by kernel_rfl) (by (intro w hSw; go_simp)) (by assumption) ?_
           simp only [List.set_cons_zero, List.set_cons_succ]
           refine takeW 7 107 (.agg #[.int .i64 E.ep, .int .i64 E.ow, .int .i64 E.pa]) rfl rfl (by kernel_rfl) (by kernel_rfl) (by kernel_rfl) (fun _ _ _ h => h) (by kernel_rfl) (by (intro w hSw; go_simp)) (by assumption) ?_
           simp only [List.set_cons_zero, List.set_cons_succ]
           refine takeW 8 108 (.agg #[.bool D.up, .int .i64 D.li, .int .i64 D.ep, .slice aH D.lg.length cH, .int .i64 D.sd, .int .i64 D.ac, .int .i64 D.al]) rfl rfl (by kernel_rfl) (by kernel_rfl) (by kernel_rfl) (fun _ _ _ h => h) (by kernel_rfl) (by (intro w hSw; go_simp)) (by assumption) ?_
           simp only [List.set_cons_zero, List.set_cons_succ]
           refine takeW 9 109 (.bool o) rfl rfl (by kernel_rfl) (by kernel_rfl) (by kernel_rfl) (fun _ _ _ h => h) (by kernel_rfl) (by (intro w hSw; go_simp)) (by assumption) ?_
           simp only [List.set_cons_zero, List.set_cons_succ]
           refine wpAnyH_all (rs := [11]) (by kernel_rfl) (by simp) ?_
           intro i hi; obtain rfl : i = 11 := by simpa using hi
           refine wpOp_step rfl (fun Kz hZ => ?_)
           rw [if_pos (by kernel_rfl)]
           go_simp
           obtain ⟨u5, hy⟩ : ∃ y_, y_ = u4.alloc (Obj.cells #[.bool false, .int .i64 0, .int .i64 0, .slice none 0 0, .int .i64 0, .int .i64 0, .int .i64 0] 26) := ⟨_, rfl⟩
           have kq : Below u4.heap.size u4 u5 := by rw [hy]; exact below_new _
           have joT1 : ∀ g_, (Value.slice (some ⟨gT, 0, none⟩) m2.lg.length m2.lg.length).ownBlock = some g_ → g_ ≠ u4.heap.size := fun g_ e => by have h1 := (oT.lt g_ e).2; omega
           have jOH1 : ∀ g_, (Value.slice aH D.lg.length cH).ownBlock = some g_ → g_ ≠ u4.heap.size := fun g_ e => by have h1 := (OH.lt g_ e).2; omega
           have n01 : u2.heap.size ≠ u4.heap.size := by have h2 := F0.lt; omega
           have oT := oT.later kq
           have OH := OH.later kq
           have F0 := F0.below kq F0.lt
           have F1 : MiBox u5 u4.heap.size ⟨false, 0, 0, [], 0, 0, 0⟩ (.slice none 0 0) := by rw [hy]; constructor <;> simp [go_sem]
           have p1 : wd9.heap.size ≤ u4.heap.size := hb4.size
           have hb5 : Below wd9.heap.size wd9 u5 := hb4.trans (kq.mono hb4.size)
           rw [← hy]
           clear hy kq
           refine hZ _ _ ⟨hb5, ?_⟩
           clear hZ Kz hi
           refine relist 3 #[true, true, true, true, true, true, true, true, true, true, true, true, false, false, false] (by kernel_rfl) (by kernel_rfl) ?_
           exact hTT.out _ _ ⟨u2.heap.size, u4.heap.size, aH, cH, [(.agg #[.int .i64 rg0.ep, .int .i64 rg0.ow, .int .i64 rg0.pa]), (.agg #[.int .i64 rg0.ep, .int .i64 rg0.ow, .int .i64 rg0.pa]), (.int .i64 n1), (.agg #[.bool m2.up, .int .i64 m2.li, .int .i64 m2.ep, .slice ad2 m2.lg.length cap2, .int .i64 m2.sd, .int .i64 m2.ac, .int .i64 m2.al]), (.agg #[.bool m2.up, .int .i64 m2.li, .int .i64 m2.ep, .slice (some ⟨gT, 0, none⟩) m2.lg.length m2.lg.length, .int .i64 m2.sd, .int .i64 m2.ac, .int .i64 m2.al])], rfl, by kernel_rfl, F0, F1, p0, p1, n01, OH.base bsH, jOH0, jOH1, hb5⟩
         · refine wpOp_step rfl (fun Kz hZ => ?_)
           rw [if_pos (by kernel_rfl)]
           go_simp
           obtain ⟨u4, hy⟩ : ∃ y_, y_ = u3.alloc (Obj.cells #[.bool false, .int .i64 0, .int .i64 0, .slice none 0 0, .int .i64 0, .int .i64 0, .int .i64 0] 26) := ⟨_, rfl⟩
           have kq : Below u3.heap.size u3 u4 := by rw [hy]; exact below_new _
           have joT1 : ∀ g_, (Value.slice (some ⟨gT, 0, none⟩) m2.lg.length m2.lg.length).ownBlock = some g_ → g_ ≠ u3.heap.size := fun g_ e => by have h1 := (oT.lt g_ e).2; omega
           have n01 : u2.heap.size ≠ u3.heap.size := by have h2 := F0.lt; omega
           have oT := oT.later kq
           have F0 := F0.below kq F0.lt
           have F1 : MiBox u4 u3.heap.size ⟨false, 0, 0, [], 0, 0, 0⟩ (.slice none 0 0) := by rw [hy]; constructor <;> simp [go_sem]
           have p1 : wd9.heap.size ≤ u3.heap.size := hb3.size
           have hb4 : Below wd9.heap.size wd9 u4 := hb3.trans (kq.mono hb3.size)
           rw [← hy]
           clear hy kq
           refine hZ _ _ ⟨hb4, ?_⟩
           clear hZ Kz hi
           refine wpAnyH_all (rs := [5]) (by kernel_rfl) (by simp) ?_
           intro i hi; obtain rfl : i = 5 := by simpa using hi
           refine wpOp_step rfl (fun Kz hZ => ?_)
           rw [if_pos (by kernel_rfl)]
           go_simp
           go_at_call 28
           refine (takeIw rg0 n1 m2 (some ⟨gT, 0, none⟩) m2.lg.length u4 oT.view.2 (by omega) (fun e => by cases e)).mono ?_
           rintro e u5 ⟨aH, cH, rfl, OH, kq⟩
           rw [hD.out] at OH ⊢
           rw [hE.out, hO.out]
           have bsH := hb4.size
           have jOH0 : ∀ g_, (Value.slice aH D.lg.length cH).ownBlock = some g_ → g_ ≠ u2.heap.size := fun g_ e => by have h1 := (OH.lt g_ e).1; have h2 := F0.lt; omega
           have jOH1 : ∀ g_, (Value.slice aH D.lg.length cH).ownBlock = some g_ → g_ ≠ u3.heap.size := fun g_ e => by have h1 := (OH.lt g_ e).1; have h2 := F1.lt; omega
           have oT := oT.later kq
           have F0 := F0.below kq F0.lt
           have F1 := F1.below kq F1.lt
           have hb5 : Below wd9.heap.size wd9 u5 := hb4.trans (kq.mono hb4.size)
           clear kq
           refine hZ _ _ ⟨hb5, ?_⟩
           clear hZ Kz hi
           refine takeW 6 100 (.tuple #[.agg #[.int .i64 E.ep, .int .i64 E.ow, .int .i64 E.pa], .agg #[.bool D.up, .int .i64 D.li, .int .i64 D.ep, .slice aH D.lg.length cH, .int .i64 D.sd, .int .i64 D.ac, .int .i64 D.al], .bool o]) rfl rfl (by kernel_rfl) (by kernel_rfl) (by kernel_rfl) (fun _ _ _ h => h) (by kernel_rfl) (by (intro w hSw; go_simp)) (by assumption) ?_
           simp only [List.set_cons_zero, List.set_cons_succ]
           refine takeW 7 107 (.agg #[.int .i64 E.ep, .int .i64 E.ow, .int .i64 E.pa]) rfl rfl (by kernel_rfl) (by kernel_rfl) (by kernel_rfl) (fun _ _ _ h => h) (by kernel_rfl) (by (intro w hSw; go_simp)) (by assumption) ?_
           simp only [List.set_cons_zero, List.set_cons_succ]
           refine takeW 8 108 (.agg #[.bool D.up, .int .i64 D.li, .int .i64 D.ep, .slice aH D.lg.length cH, .int .i64 D.sd, .int .i64 D.ac, .int .i64 D.al]) rfl rfl (by kernel_rfl) (by kernel_rfl) (by kernel_rfl) (fun _ _ _ h => h) (by kernel_rfl) (by (intro w hSw; go_simp)) (by assumption) ?_
           simp only [List.set_cons_zero, List.set_cons_succ]
           refine takeW 9 109 (.bool o) rfl rfl (by kernel_rfl) (by kernel_rfl) (by kernel_rfl) (fun _ _ _ h => h) (by kernel_rfl) (by (intro w hSw; go_simp)) (by assumption) ?_
           simp only [List.set_cons_zero, List.set_cons_succ]
           refine relist 3 #[true, true, true, true, true, true, true, true, true, true, true, true, false, false, false] (by kernel_rfl) (by kernel_rfl) ?_
           exact hTT.out _ _ ⟨u2.heap.size, u3.heap.size, aH, cH, [(.agg #[.int .i64 rg0.ep, .int .i64 rg0.ow, .int .i64 rg0.pa]), (.agg #[.int .i64 rg0.ep, .int .i64 rg0.ow, .int .i64 rg0.pa]), (.int .i64 n1), (.agg #[.bool m2.up, .int .i64 m2.li, .int .i64 m2.ep, .slice ad2 m2.lg.length cap2, .int .i64 m2.sd, .int .i64 m2.ac, .int .i64 m2.al]), (.agg #[.bool m2.up, .int .i64 m2.li, .int .i64 m2.ep, .slice (some ⟨gT, 0, none⟩) m2.lg.length m2.lg.length, .int .i64 m2.sd, .int .i64 m2.ac, .int .i64 m2.al])], rfl, by kernel_rfl, F0, F1, p0, p1, n01, OH.base bsH, jOH0, jOH1, hb5⟩
       · refine wpOp_step rfl (fun Kz hZ => ?_)
         rw [if_pos (by kernel_rfl)]
         go_simp
         obtain ⟨u3, hy⟩ : ∃ y_, y_ = u2.alloc (Obj.cells #[.bool false, .int .i64 0, .int .i64 0, .slice none 0 0, .int .i64 0, .int .i64 0, .int .i64 0] 26) := ⟨_, rfl⟩
         have kq : Below u2.heap.size u2 u3 := by rw [hy]; exact below_new _
         have joT1 : ∀ g_, (Value.slice (some ⟨gT, 0, none⟩) m2.lg.length m2.lg.length).ownBlock = some g_ → g_ ≠ u2.heap.size := fun g_ e => by have h1 := (oT.lt g_ e).2; omega
         have oT := oT.later kq
         have F1 : MiBox u3 u2.heap.size ⟨false, 0, 0, [], 0, 0, 0⟩ (.slice none 0 0) := by rw [hy]; constructor <;> simp [go_sem]
         have p1 : wd9.heap.size ≤ u2.heap.size := hb2.size
         have hb3 : Below wd9.heap.size wd9 u3 := hb2.trans (kq.mono hb2.size)
         rw [← hy]
         clear hy kq
         refine hZ _ _ ⟨hb3, ?_⟩
         clear hZ Kz hi
         refine wpAnyH_all (rs := [5, 10]) (by kernel_rfl) (by simp) ?_
         intro i hi; rcases (by simpa using hi : i = 5 ∨ i = 10) with rfl | rfl
         · refine wpOp_step rfl (fun Kz hZ => ?_)
           rw [if_pos (by kernel_rfl)]
           go_simp
           go_at_call 28
           refine (takeIw rg0 n1 m2 (some ⟨gT, 0, none⟩) m2.lg.length u3 oT.view.2 (by omega) (fun e => by cases e)).mono ?_
           rintro e u4 ⟨aH, cH, rfl, OH, kq⟩
           rw [hD.out] at OH ⊢
           rw [hE.out, hO.out]
           have bsH := hb3.size
           have jOH1 : ∀ g_, (Value.slice aH D.lg.length cH).ownBlock = some g_ → g_ ≠ u2.heap.size := fun g_ e => by have h1 := (OH.lt g_ e).1; have h2 := F1.lt; omega
           have oT := oT.later kq
           have F1 := F1.below kq F1.lt
           have hb4 : Below wd9.heap.size wd9 u4 := hb3.trans (kq.mono hb3.size)
           clear kq
           refine hZ _ _ ⟨hb4, ?_⟩
           clear hZ Kz hi
           refine takeW 6 100 (.tuple #[.agg #[.int .i64 E.ep, .int .i64 E.ow, .int .i64 E.pa], .agg #[.bool D.up, .int .i64 D.li, .int .i64 D.ep, .slice aH D.lg.length cH, .int .i64 D.sd, .int .i64 D.ac, .int .i64 D.al], .bool o]) rfl rfl (by kernel_rfl) (by kernel_rfl) (by kernel_rfl) (fun _ _ _ h => h) (by kernel_rfl) (by (intro w hSw; go_simp)) (by assumption) ?_
           simp only [List.set_cons_zero, List.set_cons_succ]
           refine takeW 7 107 (.agg #[.int .i64 E.ep, .int .i64 E.ow, .int .i64 E.pa]) rfl rfl (by kernel_rfl) (by kernel_rfl) (by kernel_rfl) (fun _ _ _ h => h) (by kernel_rfl) (by (intro w hSw; go_simp)) (by assumption) ?_
           simp only [List.set_cons_zero, List.set_cons_succ]
           refine takeW 8 108 (.agg #[.bool D.up, .int .i64 D.li, .int .i64 D.ep, .slice aH D.lg.length cH, .int .i64 D.sd, .int .i64 D.ac, .int .i64 D.al]) rfl rfl (by kernel_rfl) (by kernel_rfl) (by kernel_rfl) (fun _ _ _ h => h) (by kernel_rfl) (by (intro w hSw; go_simp)) (by assumption) ?_
           simp only [List.set_cons_zero, List.set_cons_succ]
           refine takeW 9 109 (.bool o) rfl rfl (by kernel_rfl) (by kernel_rfl) (by kernel_rfl) (fun _ _ _ h => h) (by kernel_rfl) (by (intro w hSw; go_simp)) (by assumption) ?_
           simp only [List.set_cons_zero, List.set_cons_succ]
           refine wpAnyH_all (rs := [10]) (by kernel_rfl) (by simp) ?_
           intro i hi; obtain rfl : i = 10 := by simpa using hi
           refine wpOp_step rfl (fun Kz hZ => ?_)
           rw [if_pos (by kernel_rfl)]
           go_simp
           obtain ⟨u5, hy⟩ : ∃ y_, y_ = u4.alloc (Obj.cells #[.int .i64 0, .int .i64 0, .int .i64 0] 44) := ⟨_, rfl⟩
           have kq : Below u4.heap.size u4 u5 := by rw [hy]; exact below_new _
           have joT0 : ∀ g_, (Value.slice (some ⟨gT, 0, none⟩) m2.lg.length m2.lg.length).ownBlock = some g_ → g_ ≠ u4.heap.size := fun g_ e => by have h1 := (oT.lt g_ e).2; omega
           have jOH0 : ∀ g_, (Value.slice aH D.lg.length cH).ownBlock = some g_ → g_ ≠ u4.heap.size := fun g_ e => by have h1 := (OH.lt g_ e).2; omega
           have n01 : u4.heap.size ≠ u2.heap.size := by have h2 := F1.lt; omega
           have oT := oT.later kq
           have OH := OH.later kq
           have F1 := F1.below kq F1.lt
           have F0 : RgBox u5 u4.heap.size ⟨0, 0, 0⟩ := by rw [hy]; refine ⟨?_, fun i => ?_⟩; constructor <;> simp [go_sem]; simp [go_sem]
           have p0 : wd9.heap.size ≤ u4.heap.size := hb4.size
           have hb5 : Below wd9.heap.size wd9 u5 := hb4.trans (kq.mono hb4.size)
           rw [← hy]
           clear hy kq
           refine hZ _ _ ⟨hb5, ?_⟩
           clear hZ Kz hi
           refine relist 3 #[true, true, true, true, true, true, true, true, true, true, true, true, false, false, false] (by kernel_rfl) (by kernel_rfl) ?_
           exact hTT.out _ _ ⟨u4.heap.size, u2.heap.size, aH, cH, [(.agg #[.int .i64 rg0.ep, .int .i64 rg0.ow, .int .i64 rg0.pa]), (.agg #[.int .i64 rg0.ep, .int .i64 rg0.ow, .int .i64 rg0.pa]), (.int .i64 n1), (.agg #[.bool m2.up, .int .i64 m2.li, .int .i64 m2.ep, .slice ad2 m2.lg.length cap2, .int .i64 m2.sd, .int .i64 m2.ac, .int .i64 m2.al]), (.agg #[.bool m2.up, .int .i64 m2.li, .int .i64 m2.ep, .slice (some ⟨gT, 0, none⟩) m2.lg.length m2.lg.length, .int .i64 m2.sd, .int .i64 m2.ac, .int .i64 m2.al])], rfl, by kernel_rfl, F0, F1, p0, p1, n01, OH.base bsH, jOH0, jOH1, hb5⟩
         · refine wpOp_step rfl (fun Kz hZ => ?_)
           rw [if_pos (by kernel_rfl)]
           go_simp
           obtain ⟨u4, hy⟩ : ∃ y_, y_ = u3.alloc (Obj.cells #[.int .i64 0, .int .i64 0, .int .i64 0] 44) := ⟨_, rfl⟩
           have kq : Below u3.heap.size u3 u4 := by rw [hy]; exact below_new _
           have joT0 : ∀ g_, (Value.slice (some ⟨gT, 0, none⟩) m2.lg.length m2.lg.length).ownBlock = some g_ → g_ ≠ u3.heap.size := fun g_ e => by have h1 := (oT.lt g_ e).2; omega
           have n01 : u3.heap.size ≠ u2.heap.size := by have h2 := F1.lt; omega
           have oT := oT.later kq
           have F1 := F1.below kq F1.lt
           have F0 : RgBox u4 u3.heap.size ⟨0, 0, 0⟩ := by rw [hy]; refine ⟨?_, fun i => ?_⟩; constructor <;> simp [go_sem]; simp [go_sem]
           have p0 : wd9.heap.size ≤ u3.heap.size := hb3.size
           have hb4 : Below wd9.heap.size wd9 u4 := hb3.trans (kq.mono hb3.size)
           rw [← hy]
           clear hy kq
           refine hZ _ _ ⟨hb4, ?_⟩
           clear hZ Kz hi
           refine wpAnyH_all (rs := [5]) (by kernel_rfl) (by simp) ?_
           intro i hi; obtain rfl : i = 5 := by simpa using hi
           refine wpOp_step rfl (fun Kz hZ => ?_)
           rw [if_pos (by kernel_rfl)]
           go_simp
           go_at_call 28
           refine (takeIw rg0 n1 m2 (some ⟨gT, 0, none⟩) m2.lg.length u4 oT.view.2 (by omega) (fun e => by cases e)).mono ?_
           rintro e u5 ⟨aH, cH, rfl, OH, kq⟩
           rw [hD.out] at OH ⊢
           rw [hE.out, hO.out]
           have bsH := hb4.size
           have jOH1 : ∀ g_, (Value.slice aH D.lg.length cH).ownBlock = some g_ → g_ ≠ u2.heap.size := fun g_ e => by have h1 := (OH.lt g_ e).1; have h2 := F1.lt; omega
           have jOH0 : ∀ g_, (Value.slice aH D.lg.length cH).ownBlock = some g_ → g_ ≠ u3.heap.size := fun g_ e => by have h1 := (OH.lt g_ e).1; have h2 := F0.lt; omega
           have oT := oT.later kq
           have F1 := F1.below kq F1.lt
           have F0 := F0.below kq F0.lt
           have hb5 : Below wd9.heap.size wd9 u5 := hb4.trans (kq.mono hb4.size)
           clear kq
           refine hZ _ _ ⟨hb5, ?_⟩
           clear hZ Kz hi
           refine takeW 6 100 (.tuple #[.agg #[.int .i64 E.ep, .int .i64 E.ow, .int .i64 E.pa], .agg #[.bool D.up, .int .i64 D.li, .int .i64 D.ep, .slice aH D.lg.length cH, .int .i64 D.sd, .int .i64 D.ac, .int .i64 D.al], .bool o]) rfl rfl (by kernel_rfl) (by kernel_rfl) (by kernel_rfl) (fun _ _ _ h => h) (by kernel_rfl) (by (intro w hSw; go_simp)) (by assumption) ?_
           simp only [List.set_cons_zero, List.set_cons_succ]
           refine takeW 7 107 (.agg #[.int .i64 E.ep, .int .i64 E.ow, .int .i64 E.pa]) rfl rfl (by kernel_rfl) (by kernel_rfl) (by kernel_rfl) (fun _ _ _ h => h) (by kernel_rfl) (by (intro w hSw; go_simp)) (by assumption) ?_
           simp only [List.set_cons_zero, List.set_cons_succ]
           refine takeW 8 108 (.agg #[.bool D.up, .int .i64 D.li, .int .i64 D.ep, .slice aH D.lg.length cH, .int .i64 D.sd, .int .i64 D.ac, .int .i64 D.al]) rfl rfl (by kernel_rfl) (by kernel_rfl) (by kernel_rfl) (fun _ _ _ h => h) (by kernel_rfl) (by (intro w hSw; go_simp)) (by assumption) ?_
           simp only [List.set_cons_zero, List.set_cons_succ]
           refine takeW 9 109 (.bool o) rfl rfl (by kernel_rfl) (by kernel_rfl) (by kernel_rfl) (fun _ _ _ h => h) (by kernel_rfl) (by (intro w hSw; go_simp)) (by assumption) ?_
           simp only [List.set_cons_zero, List.set_cons_succ]
           refine relist 3 #[true, true, true, true, true, true, true, true, true, true, true, true, false, false, false] (by kernel_rfl) (by kernel_rfl) ?_
           exact hTT.out _ _ ⟨u3.heap.size, u2.heap.size, aH, cH, [(.agg #[.int .i64 rg0.ep, .int .i64 rg0.ow, .int .i64 rg0.pa]), (.agg #[.int .i64 rg0.ep, .int .i64 rg0.ow, .int .i64 rg0.pa]), (.int .i64 n1), (.agg #[.bool m2.up, .int .i64 m2.li, .int .i64 m2.ep, .slice ad2 m2.lg.length cap2, .int .i64 m2.sd, .int .i64 m2.ac, .int .i64 m2.al]), (.agg #[.bool m2.up, .int .i64 m2.li, .int .i64 m2.ep, .slice (some ⟨gT, 0, none⟩) m2.lg.length m2.lg.length, .int .i64 m2.sd, .int .i64 m2.ac, .int .i64 m2.al])], rfl, by kernel_rfl, F0, F1, p0, p1, n01, OH.base bsH, jOH0, jOH1, hb5⟩
     · refine wpOp_step rfl (fun Kz hZ => ?_)
       rw [if_pos (by kernel_rfl)]
       go_simp
       obtain ⟨u2, hy⟩ : ∃ y_, y_ = u1.alloc (Obj.cells #[.int .i64 0, .int .i64 0, .int .i64 0] 44) := ⟨_, rfl⟩
       have kq : Below u1.heap.size u1 u2 := by rw [hy]; exact below_new _
       have F0 : RgBox u2 u1.heap.size ⟨0, 0, 0⟩ := by rw [hy]; refine ⟨?_, fun i => ?_⟩; constructor <;> simp [go_sem]; simp [go_sem]
       have p0 : wd9.heap.size ≤ u1.heap.size := hb1.size
       have hb2 : Below wd9.heap.size wd9 u2 := hb1.trans (kq.mono hb1.size)
       rw [← hy]
       clear hy kq
       refine hZ _ _ ⟨hb2, ?_⟩
       clear hZ Kz hi
       refine wpAnyH_all (rs := [4, 11]) (by kernel_rfl) (by simp) ?_
       intro i hi; rcases (by simpa using hi : i = 4 ∨ i = 11) with rfl | rfl
       · refine wpOp_step rfl (fun Kz hZ => ?_)
         rw [if_pos (by kernel_rfl)]
         go_simp
         go_at_call 24
         refine (miTo m2 ad2 cap2 u2 (V2.below hb2 (V2.lt ikEnc_len (by omega))) hl).mono ?_
         rintro e u3 ⟨gT, rfl, _, _, oT, kq⟩
         have joT0 : ∀ g_, (Value.slice (some ⟨gT, 0, none⟩) m2.lg.length m2.lg.length).ownBlock = some g_ → g_ ≠ u1.heap.size := fun g_ e => by have h1 := (oT.lt g_ e).1; have h2 := F0.lt; omega
         have F0 := F0.below kq F0.lt
         have hb3 : Below wd9.heap.size wd9 u3 := hb2.trans (kq.mono hb2.size)
         clear kq
         refine hZ _ _ ⟨hb3, ?_⟩
         clear hZ Kz hi
         refine wpAnyH_all (rs := [5, 11]) (by kernel_rfl) (by simp) ?_
         intro i hi; rcases (by simpa using hi : i = 5 ∨ i = 11) with rfl | rfl
         · refine wpOp_step rfl (fun Kz hZ => ?_)
           rw [if_pos (by kernel_rfl)]
           go_simp
           go_at_call 28
           refine (takeIw rg0 n1 m2 (some ⟨gT, 0, none⟩) m2.lg.length u3 oT.view.2 (by omega) (fun e => by cases e)).mono ?_
           rintro e u4 ⟨aH, cH, rfl, OH, kq⟩
           rw [hD.out] at OH ⊢
           rw [hE.out, hO.out]
           have bsH := hb3.size
           have jOH0 : ∀ g_, (Value.slice aH D.lg.length cH).ownBlock = some g_ → g_ ≠ u1.heap.size := fun g_ e => by have h1 := (OH.lt g_ e).1; have h2 := F0.lt; omega
           have oT := oT.later kq
           have F0 := F0.below kq F0.lt
           have hb4 : Below wd9.heap.size wd9 u4 := hb3.trans (kq.mono hb3.size)
           clear kq
           refine hZ _ _ ⟨hb4, ?_⟩
           clear hZ Kz hi
           refine takeW 6 100 (.tuple #[.agg #[.int .i64 E.ep, .int .i64 E.ow, .int .i64 E.pa], .agg #[.bool D.up, .int .i64 D.li, .int .i64 D.ep, .slice aH D.lg.length cH, .int .i64 D.sd, .int .i64 D.ac, .int .i64 D.al], .bool o]) rfl rfl (by kernel_rfl) (by kernel_rfl) (by kernel_rfl) (fun _ _ _ h => h) (by kernel_rfl) (by (intro w hSw; go_simp)) (by assumption) ?_
           simp only [List.set_cons_zero, List.set_cons_succ]
           refine takeW 7 107 (.agg #[.int .i64 E.ep, .int .i64 E.ow, .int .i64 E.pa]) rfl rfl (by kernel_rfl) (by kernel_rfl) (by kernel_rfl) (fun _ _ _ h => h) (by kernel_rfl) (by (intro w hSw; go_simp)) (by assumption) ?_
           simp only [List.set_cons_zero, List.set_cons_succ]
           refine takeW 8 108 (.agg #[.bool D.up, .int .i64 D.li, .int .i64 D.ep, .slice aH D.lg.length cH, .int .i64 D.sd, .int .i64 D.ac, .int .i64 D.al]) rfl rfl (by kernel_rfl) (by kernel_rfl) (by kernel_rfl) (fun _ _ _ h => h) (by kernel_rfl) (by (intro w hSw; go_simp)) (by assumption) ?_
           simp only [List.set_cons_zero, List.set_cons_succ]
           refine takeW 9 109 (.bool o) rfl rfl (by kernel_rfl) (by kernel_rfl) (by kernel_rfl) (fun _ _ _ h => h) (by kernel_rfl) (by (intro w hSw; go_simp)) (by assumption) ?_
           simp only [List.set_cons_zero, List.set_cons_succ]
           refine wpAnyH_all (rs := [11]) (by kernel_rfl) (by simp) ?_
           intro i hi; obtain rfl : i = 11 := by simpa using hi
           refine wpOp_step rfl (fun Kz hZ => ?_)
           rw [if_pos (by kernel_rfl)]
           go_simp
           obtain ⟨u5, hy⟩ : ∃ y_, y_ = u4.alloc (Obj.cells #[.bool false, .int .i64 0, .int .i64 0, .slice none 0 0, .int .i64 0, .int .i64 0, .int .i64 0] 26) := ⟨_, rfl⟩
           have kq : Below u4.heap.size u4 u5 := by rw [hy]; exact below_new _
           have joT1 : ∀ g_, (Value.slice (some ⟨gT, 0, none⟩) m2.lg.length m2.lg.length).ownBlock = some g_ → g_ ≠ u4.heap.size := fun g_ e => by have h1 := (oT.lt g_ e).2; omega
           have jOH1 : ∀ g_, (Value.slice aH D.lg.length cH).ownBlock = some g_ → g_ ≠ u4.heap.size := fun g_ e => by have h1 := (OH.lt g_ e).2; omega
           have n01 : u1.heap.size ≠ u4.heap.size := by have h2 := F0.lt; omega
           have oT := oT.later kq
           have OH := OH.later kq
           have F0 := F0.below kq F0.lt
           have F1 : MiBox u5 u4.heap.size ⟨false, 0, 0, [], 0, 0, 0⟩ (.slice none 0 0) := by rw [hy]; constructor <;> simp [go_sem]
           have p1 : wd9.heap.size ≤ u4.heap.size := hb4.size
           have hb5 : Below wd9.heap.size wd9 u5 := hb4.trans (kq.mono hb4.size)
           rw [← hy]
           clear hy kq
           refine hZ _ _ ⟨hb5, ?_⟩
           clear hZ Kz hi
           refine relist 3 #[true, true, true, true, true, true, true, true, true, true, true, true, false, false, false] (by kernel_rfl) (by kernel_rfl) ?_
           exact hTT.out _ _ ⟨u1.heap.size, u4.heap.size, aH, cH, [(.agg #[.int .i64 rg0.ep, .int .i64 rg0.ow, .int .i64 rg0.pa]), (.agg #[.int .i64 rg0.ep, .int .i64 rg0.ow, .int .i64 rg0.pa]), (.int .i64 n1), (.agg #[.bool m2.up, .int .i64 m2.li, .int .i64 m2.ep, .slice ad2 m2.lg.length cap2, .int .i64 m2.sd, .int .i64 m2.ac, .int .i64 m2.al]), (.agg #[.bool m2.up, .int .i64 m2.li, .int .i64 m2.ep, .slice (some ⟨gT, 0, none⟩) m2.lg.length m2.lg.length, .int .i64 m2.sd, .int .i64 m2.ac, .int .i64 m2.al])], rfl, by kernel_rfl, F0, F1, p0, p1, n01, OH.base bsH, jOH0, jOH1, hb5⟩
         · refine wpOp_step rfl (fun Kz hZ => ?_)
           rw [if_pos (by kernel_rfl)]
           go_simp
           obtain ⟨u4, hy⟩ : ∃ y_, y_ = u3.alloc (Obj.cells #[.bool false, .int .i64 0, .int .i64 0, .slice none 0 0, .int .i64 0, .int .i64 0, .int .i64 0] 26) := ⟨_, rfl⟩
           have kq : Below u3.heap.size u3 u4 := by rw [hy]; exact below_new _
           have joT1 : ∀ g_, (Value.slice (some ⟨gT, 0, none⟩) m2.lg.length m2.lg.length).ownBlock = some g_ → g_ ≠ u3.heap.size := fun g_ e => by have h1 := (oT.lt g_ e).2; omega
           have n01 : u1.heap.size ≠ u3.heap.size := by have h2 := F0.lt; omega
           have oT := oT.later kq
           have F0 := F0.below kq F0.lt
           have F1 : MiBox u4 u3.heap.size ⟨false, 0, 0, [], 0, 0, 0⟩ (.slice none 0 0) := by rw [hy]; constructor <;> simp [go_sem]
           have p1 : wd9.heap.size ≤ u3.heap.size := hb3.size
           have hb4 : Below wd9.heap.size wd9 u4 := hb3.trans (kq.mono hb3.size)
           rw [← hy]
           clear hy kq
           refine hZ _ _ ⟨hb4, ?_⟩
           clear hZ Kz hi
           refine wpAnyH_all (rs := [5]) (by kernel_rfl) (by simp) ?_
           intro i hi; obtain rfl : i = 5 := by simpa using hi
           refine wpOp_step rfl (fun Kz hZ => ?_)
           rw [if_pos (by kernel_rfl)]
           go_simp
           go_at_call 28
           refine (takeIw rg0 n1 m2 (some ⟨gT, 0, none⟩) m2.lg.length u4 oT.view.2 (by omega) (fun e => by cases e)).mono ?_
           rintro e u5 ⟨aH, cH, rfl, OH, kq⟩
           rw [hD.out] at OH ⊢
           rw [hE.out, hO.out]
           have bsH := hb4.size
           have jOH0 : ∀ g_, (Value.slice aH D.lg.length cH).ownBlock = some g_ → g_ ≠ u1.heap.size := fun g_ e => by have h1 := (OH.lt g_ e).1; have h2 := F0.lt; omega
           have jOH1 : ∀ g_, (Value.slice aH D.lg.length cH).ownBlock = some g_ → g_ ≠ u3.heap.size := fun g_ e => by have h1 := (OH.lt g_ e).1; have h2 := F1.lt; omega
           have oT := oT.later kq
           have F0 := F0.below kq F0.lt
           have F1 := F1.below kq F1.lt
           have hb5 : Below wd9.heap.size wd9 u5 := hb4.trans (kq.mono hb4.size)
           clear kq
           refine hZ _ _ ⟨hb5, ?_⟩
           clear hZ Kz hi
           refine takeW 6 100 (.tuple #[.agg #[.int .i64 E.ep, .int .i64 E.ow, .int .i64 E.pa], .agg #[.bool D.up, .int .i64 D.li, .int .i64 D.ep, .slice aH D.lg.length cH, .int .i64 D.sd, .int .i64 D.ac, .int .i64 D.al], .bool o]) rfl rfl (by kernel_rfl) (by kernel_rfl) (by kernel_rfl) (fun _ _ _ h => h) (by kernel_rfl) (by (intro w hSw; go_simp)) (by assumption) ?_
           simp only [List.set_cons_zero, List.set_cons_succ]
           refine takeW 7 107 (.agg #[.int .i64 E.ep, .int .i64 E.ow, .int .i64 E.pa]) rfl rfl (by kernel_rfl) (by kernel_rfl) (by kernel_rfl) (fun _ _ _ h => h) (by kernel_rfl) (by (intro w hSw; go_simp)) (by assumption) ?_
           simp only [List.set_cons_zero, List.set_cons_succ]
           refine takeW 8 108 (.agg #[.bool D.up, .int .i64 D.li, .int .i64 D.ep, .slice aH D.lg.length cH, .int .i64 D.sd, .int .i64 D.ac, .int .i64 D.al]) rfl rfl (by kernel_rfl) (by kernel_rfl) (by kernel_rfl) (fun _ _ _ h => h) (by kernel_rfl) (by (intro w hSw; go_simp)) (by assumption) ?_
           simp only [List.set_cons_zero, List.set_cons_succ]
           refine takeW 9 109 (.bool o) rfl rfl (by kernel_rfl) (by kernel_rfl) (by kernel_rfl) (fun _ _ _ h => h) (by kernel_rfl) (by (intro w hSw; go_simp)) (by assumption) ?_
           simp only [List.set_cons_zero, List.set_cons_succ]
           refine relist 3 #[true, true, true, true, true, true, true, true, true, true, true, true, false, false, false] (by kernel_rfl) (by kernel_rfl) ?_
           exact hTT.out _ _ ⟨u1.heap.size, u3.heap.size, aH, cH, [(.agg #[.int .i64 rg0.ep, .int .i64 rg0.ow, .int .i64 rg0.pa]), (.agg #[.int .i64 rg0.ep, .int .i64 rg0.ow, .int .i64 rg0.pa]), (.int .i64 n1), (.agg #[.bool m2.up, .int .i64 m2.li, .int .i64 m2.ep, .slice ad2 m2.lg.length cap2, .int .i64 m2.sd, .int .i64 m2.ac, .int .i64 m2.al]), (.agg #[.bool m2.up, .int .i64 m2.li, .int .i64 m2.ep, .slice (some ⟨gT, 0, none⟩) m2.lg.length m2.lg.length, .int .i64 m2.sd, .int .i64 m2.ac, .int .i64 m2.al])], rfl, by kernel_rfl, F0, F1, p0, p1, n01, OH.base bsH, jOH0, jOH1, hb5⟩
       · refine wpOp_step rfl (fun Kz hZ => ?_)
         rw [if_pos (by kernel_rfl)]
         go_simp
         obtain ⟨u3, hy⟩ : ∃ y_, y_ = u2.alloc (Obj.cells #[.bool false, .int .i64 0, .int .i64 0, .slice none 0 0, .int .i64 0, .int .i64 0, .int .i64 0] 26) := ⟨_, rfl⟩
         have kq : Below u2.heap.size u2 u3 := by rw [hy]; exact below_new _
         have n01 : u1.heap.size ≠ u2.heap.size := by have h2 := F0.lt; omega
         have F0 := F0.below kq F0.lt
         have F1 : MiBox u3 u2.heap.size ⟨false, 0, 0, [], 0, 0, 0⟩ (.slice none 0 0) := by rw [hy]; constructor <;> simp [go_sem]
         have p1 : wd9.heap.size ≤ u2.heap.size := hb2.size
         have hb3 : Below wd9.heap.size wd9 u3 := hb2.trans (kq.mono hb2.size)
         rw [← hy]
         clear hy kq
         refine hZ _ _ ⟨hb3, ?_⟩
         clear hZ Kz hi
         refine wpAnyH_all (rs := [4]) (by kernel_rfl) (by simp) ?_
         intro i hi; obtain rfl : i = 4 := by simpa using hi
         refine wpOp_step rfl (fun Kz hZ => ?_)
         rw [if_pos (by kernel_rfl)]
         go_simp
         go_at_call 24
         refine (miTo m2 ad2 cap2 u3 (V2.below hb3 (V2.lt ikEnc_len (by omega))) hl).mono ?_
         rintro e u4 ⟨gT, rfl, _, _, oT, kq⟩
         have joT0 : ∀ g_, (Value.slice (some ⟨gT, 0, none⟩) m2.lg.length m2.lg.length).ownBlock = some g_ → g_ ≠ u1.heap.size := fun g_ e => by have h1 := (oT.lt g_ e).1; have h2 := F0.lt; omega
         have joT1 : ∀ g_, (Value.slice (some ⟨gT, 0, none⟩) m2.lg.length m2.lg.length).ownBlock = some g_ → g_ ≠ u2.heap.size := fun g_ e => by have h1 := (oT.lt g_ e).1; have h2 := F1.lt; omega
         have F0 := F0.below kq F0.lt
         have F1 := F1.below kq F1.lt
         have hb4 : Below wd9.heap.size wd9 u4 := hb3.trans (kq.mono hb3.size)
         clear kq
         refine hZ _ _ ⟨hb4, ?_⟩
         clear hZ Kz hi
         refine wpAnyH_all (rs := [5]) (by kernel_rfl) (by simp) ?_
         intro i hi; obtain rfl : i = 5 := by simpa using hi
         refine wpOp_step rfl (fun Kz hZ => ?_)
         rw [if_pos (by kernel_rfl)]
         go_simp
         go_at_call 28
         refine (takeIw rg0 n1 m2 (some ⟨gT, 0, none⟩) m2.lg.length u4 oT.view.2 (by omega) (fun e => by cases e)).mono ?_
         rintro e u5 ⟨aH, cH, rfl, OH, kq⟩
         rw [hD.out] at OH ⊢
         rw [hE.out, hO.out]
         have bsH := hb4.size
         have jOH0 : ∀ g_, (Value.slice aH D.lg.length cH).ownBlock = some g_ → g_ ≠ u1.heap.size := fun g_ e => by have h1 := (OH.lt g_ e).1; have h2 := F0.lt; omega
         have jOH1 : ∀ g_, (Value.slice aH D.lg.length cH).ownBlock = some g_ → g_ ≠ u2.heap.size := fun g_ e => by have h1 := (OH.lt g_ e).1; have h2 := F1.lt; omega
         have oT := oT.later kq
         have F0 := F0.below kq F0.lt
         have F1 := F1.below kq F1.lt
         have hb5 : Below wd9.heap.size wd9 u5 := hb4.trans (kq.mono hb4.size)
         clear kq
         refine hZ _ _ ⟨hb5, ?_⟩
         clear hZ Kz hi
         refine takeW 6 100 (.tuple #[.agg #[.int .i64 E.ep, .int .i64 E.ow, .int .i64 E.pa], .agg #[.bool D.up, .int .i64 D.li, .int .i64 D.ep, .slice aH D.lg.length cH, .int .i64 D.sd, .int .i64 D.ac, .int .i64 D.al], .bool o]) rfl rfl (by kernel_rfl) (by kernel_rfl) (by kernel_rfl) (fun _ _ _ h => h) (by kernel_rfl) (by (intro w hSw; go_simp)) (by assumption) ?_
         simp only [List.set_cons_zero, List.set_cons_succ]
         refine takeW 7 107 (.agg #[.int .i64 E.ep, .int .i64 E.ow, .int .i64 E.pa]) rfl rfl (by kernel_rfl) (by kernel_rfl) (by kernel_rfl) (fun _ _ _ h => h) (by kernel_rfl) (by (intro w hSw; go_simp)) (by assumption) ?_
         simp only [List.set_cons_zero, List.set_cons_succ]
         refine takeW 8 108 (.agg #[.bool D.up, .int .i64 D.li, .int .i64 D.ep, .slice aH D.lg.length cH, .int .i64 D.sd, .int .i64 D.ac, .int .i64 D.al]) rfl rfl (by kernel_rfl) (by kernel_rfl) (by kernel_rfl) (fun _ _ _ h => h) (by kernel_rfl) (by (intro w hSw; go_simp)) (by assumption) ?_
         simp only [List.set_cons_zero, List.set_cons_succ]
         refine takeW 9 109 (.bool o) rfl rfl (by kernel_rfl) (by kernel_rfl) (by kernel_rfl) (fun _ _ _ h => h) (by kernel_rfl) (by (intro w hSw; go_simp)) (by assumption) ?_
         simp only [List.set_cons_zero, List.set_cons_succ]
         refine relist 3 #[true, true, true, true, true, true, true, true, true, true, true, true, false, false, false] (by kernel_rfl) (by kernel_rfl) ?_
         exact hTT.out _ _ ⟨u1.heap.size, u2.heap.size, aH, cH, [(.agg #[.int .i64 rg0.ep, .int .i64 rg0.ow, .int .i64 rg0.pa]), (.agg #[.int .i64 rg0.ep, .int .i64 rg0.ow, .int .i64 rg0.pa]), (.int .i64 n1), (.agg #[.bool m2.up, .int .i64 m2.li, .int .i64 m2.ep, .slice ad2 m2.lg.length cap2, .int .i64 m2.sd, .int .i64 m2.ac, .int .i64 m2.al]), (.agg #[.bool m2.up, .int .i64 m2.li, .int .i64 m2.ep, .slice (some ⟨gT, 0, none⟩) m2.lg.length m2.lg.length, .int .i64 m2.sd, .int .i64 m2.ac, .int .i64 m2.al])], rfl, by kernel_rfl, F0, F1, p0, p1, n01, OH.base bsH, jOH0, jOH1, hb5⟩
     · refine wpOp_step rfl (fun Kz hZ => ?_)
       rw [if_pos (by kernel_rfl)]
       go_simp
       obtain ⟨u2, hy⟩ : ∃ y_, y_ = u1.alloc (Obj.cells #[.bool false, .int .i64 0, .int .i64 0, .slice none 0 0, .int .i64 0, .int .i64 0, .int .i64 0] 26) := ⟨_, rfl⟩
       have kq : Below u1.heap.size u1 u2 := by rw [hy]; exact below_new _
       have F1 : MiBox u2 u1.heap.size ⟨false, 0, 0, [], 0, 0, 0⟩ (.slice none 0 0) := by rw [hy]; constructor <;> simp [go_sem]
       have p1 : wd9.heap.size ≤ u1.heap.size := hb1.size
       have hb2 : Below wd9.heap.size wd9 u2 := hb1.trans (kq.mono hb1.size)
       rw [← hy]
       clear hy kq
       refine hZ _ _ ⟨hb2, ?_⟩
       clear hZ Kz hi
       refine wpAnyH_all (rs := [4, 10]) (by kernel_rfl) (by simp) ?_
       intro i hi; rcases (by simpa using hi : i = 4 ∨ i = 10) with rfl | rfl
       · refine wpOp_step rfl (fun Kz hZ => ?_)
         rw [if_pos (by kernel_rfl)]
         go_simp
         go_at_call 24
         refine (miTo m2 ad2 cap2 u2 (V2.below hb2 (V2.lt ikEnc_len (by omega))) hl).mono ?_
         rintro e u3 ⟨gT, rfl, _, _, oT, kq⟩
         have joT1 : ∀ g_, (Value.slice (some ⟨gT, 0, none⟩) m2.lg.length m2.lg.length).ownBlock = some g_ → g_ ≠ u1.heap.size := fun g_ e => by have h1 := (oT.lt g_ e).1; have h2 := F1.lt; omega
         have F1 := F1.below kq F1.lt
         have hb3 : Below wd9.heap.size wd9 u3 := hb2.trans (kq.mono hb2.size)
         clear kq
         refine hZ _ _ ⟨hb3, ?_⟩
         clear hZ Kz hi
         refine wpAnyH_all (rs := [5, 10]) (by kernel_rfl) (by simp) ?_
         intro i hi; rcases (by simpa using hi : i = 5 ∨ i = 10) with rfl | rfl
         · refine wpOp_step rfl (fun Kz hZ => ?_)
           rw [if_pos (by kernel_rfl)]
           go_simp
           go_at_call 28
           refine (takeIw rg0 n1 m2 (some ⟨gT, 0, none⟩) m2.lg.length u3 oT.view.2 (by omega) (fun e => by cases e)).mono ?_
           rintro e u4 ⟨aH, cH, rfl, OH, kq⟩
           rw [hD.out] at OH ⊢
           rw [hE.out, hO.out]
           have bsH := hb3.size
           have jOH1 : ∀ g_, (Value.slice aH D.lg.length cH).ownBlock = some g_ → g_ ≠ u1.heap.size := fun g_ e => by have h1 := (OH.lt g_ e).1; have h2 := F1.lt; omega
           have oT := oT.later kq
           have F1 := F1.below kq F1.lt
           have hb4 : Below wd9.heap.size wd9 u4 := hb3.trans (kq.mono hb3.size)
           clear kq
           refine hZ _ _ ⟨hb4, ?_⟩
           clear hZ Kz hi
           refine takeW 6 100 (.tuple #[.agg #[.int .i64 E.ep, .int .i64 E.ow, .int .i64 E.pa], .agg #[.bool D.up, .int .i64 D.li, .int .i64 D.ep, .slice aH D.lg.length cH, .int .i64 D.sd, .int .i64 D.ac, .int .i64 D.al], .bool o]) rfl rfl (by kernel_rfl) (by kernel_rfl) (by kernel_rfl) (fun _ _ _ h => h) (by kernel_rfl) (by (intro w hSw; go_simp)) (by assumption) ?_
           simp only [List.set_cons_zero, List.set_cons_succ]
           refine takeW 7 107 (.agg #[.int .i64 E.ep, .int .i64 E.ow, .int .i64 E.pa]) rfl rfl (by kernel_rfl) (by kernel_rfl) (by kernel_rfl) (fun _ _ _ h => h) (by kernel_rfl) (by (intro w hSw; go_simp)) (by assumption) ?_
           simp only [List.set_cons_zero, List.set_cons_succ]
           refine takeW 8 108 (.agg #[.bool D.up, .int .i64 D.li, .int .i64 D.ep, .slice aH D.lg.length cH, .int .i64 D.sd, .int .i64 D.ac, .int .i64 D.al]) rfl rfl (by kernel_rfl) (by kernel_rfl) (by kernel_rfl) (fun _ _ _ h => h) (by kernel_rfl) (by (intro w hSw; go_simp)) (by assumption) ?_
           simp only [List.set_cons_zero, List.set_cons_succ]
           refine takeW 9 109 (.bool o) rfl rfl (by kernel_rfl) (by kernel_rfl) (by kernel_rfl) (fun _ _ _ h => h) (by kernel_rfl) (by (intro w hSw; go_simp)) (by assumption) ?_
           simp only [List.set_cons_zero, List.set_cons_succ]
           refine wpAnyH_all (rs := [10]) (by kernel_rfl) (by simp) ?_
           intro i hi; obtain rfl : i = 10 := by simpa using hi
           refine wpOp_step rfl (fun Kz hZ => ?_)
           rw [if_pos (by kernel_rfl)]
           go_simp
           obtain ⟨u5, hy⟩ : ∃ y_, y_ = u4.alloc (Obj.cells #[.int .i64 0, .int .i64 0, .int .i64 0] 44) := ⟨_, rfl⟩
           have kq : Below u4.heap.size u4 u5 := by rw [hy]; exact below_new _
           have joT0 : ∀ g_, (Value.slice (some ⟨gT, 0, none⟩) m2.lg.length m2.lg.length).ownBlock = some g_ → g_ ≠ u4.heap.size := fun g_ e => by have h1 := (oT.lt g_ e).2; omega
           have jOH0 : ∀ g_, (Value.slice aH D.lg.length cH).ownBlock = some g_ → g_ ≠ u4.heap.size := fun g_ e => by have h1 := (OH.lt g_ e).2; omega
           have n01 : u4.heap.size ≠ u1.heap.size := by have h2 := F1.lt; omega
           have oT := oT.later kq
           have OH := OH.later kq
           have F1 := F1.below kq F1.lt
           have F0 : RgBox u5 u4.heap.size ⟨0, 0, 0⟩ := by rw [hy]; refine ⟨?_, fun i => ?_⟩; constructor <;> simp [go_sem]; simp [go_sem]
           have p0 : wd9.heap.size ≤ u4.heap.size := hb4.size
           have hb5 : Below wd9.heap.size wd9 u5 := hb4.trans (kq.mono hb4.size)
           rw [← hy]
           clear hy kq
           refine hZ _ _ ⟨hb5, ?_⟩
           clear hZ Kz hi
           refine relist 3 #[true, true, true, true, true, true, true, true, true, true, true, true, false, false, false] (by kernel_rfl) (by kernel_rfl) ?_
           exact hTT.out _ _ ⟨u4.heap.size, u1.heap.size, aH, cH, [(.agg #[.int .i64 rg0.ep, .int .i64 rg0.ow, .int .i64 rg0.pa]), (.agg #[.int .i64 rg0.ep, .int .i64 rg0.ow, .int .i64 rg0.pa]), (.int .i64 n1), (.agg #[.bool m2.up, .int .i64 m2.li, .int .i64 m2.ep, .slice ad2 m2.lg.length cap2, .int .i64 m2.sd, .int .i64 m2.ac, .int .i64 m2.al]), (.agg #[.bool m2.up, .int .i64 m2.li, .int .i64 m2.ep, .slice (some ⟨gT, 0, none⟩) m2.lg.length m2.lg.length, .int .i64 m2.sd, .int .i64 m2.ac, .int .i64 m2.al])], rfl, by kernel_rfl, F0, F1, p0, p1, n01, OH.base bsH, jOH0, jOH1, hb5⟩
         · refine wpOp_step rfl (fun Kz hZ => ?_)
           rw [if_pos (by kernel_rfl)]
           go_simp
           obtain ⟨u4, hy⟩ : ∃ y_, y_ = u3.alloc (Obj.cells #[.int .i64 0, .int .i64 0, .int .i64 0] 44) := ⟨_, rfl⟩
           have kq : Below u3.heap.size u3 u4 := by rw [hy]; exact below_new _
           have joT0 : ∀ g_, (Value.slice (some ⟨gT, 0, none⟩) m2.lg.length m2.lg.length).ownBlock = some g_ → g_ ≠ u3.heap.size := fun g_ e => by have h1 := (oT.lt g_ e).2; omega
           have n01 : u3.heap.size ≠ u1.heap.size := by have h2 := F1.lt; omega
           have oT := oT.later kq
           have F1 := F1.below kq F1.lt
           have F0 : RgBox u4 u3.heap.size ⟨0, 0, 0⟩ := by rw [hy]; refine ⟨?_, fun i => ?_⟩; constructor <;> simp [go_sem]; simp [go_sem]
           have p0 : wd9.heap.size ≤ u3.heap.size := hb3.size
           have hb4 : Below wd9.heap.size wd9 u4 := hb3.trans (kq.mono hb3.size)
           rw [← hy]
           clear hy kq
           refine hZ _ _ ⟨hb4, ?_⟩
           clear hZ Kz hi
           refine wpAnyH_all (rs := [5]) (by kernel_rfl) (by simp) ?_
           intro i hi; obtain rfl : i = 5 := by simpa using hi
           refine wpOp_step rfl (fun Kz hZ => ?_)
           rw [if_pos (by kernel_rfl)]
           go_simp
           go_at_call 28
           refine (takeIw rg0 n1 m2 (some ⟨gT, 0, none⟩) m2.lg.length u4 oT.view.2 (by omega) (fun e => by cases e)).mono ?_
           rintro e u5 ⟨aH, cH, rfl, OH, kq⟩
           rw [hD.out] at OH ⊢
           rw [hE.out, hO.out]
           have bsH := hb4.size
           have jOH1 : ∀ g_, (Value.slice aH D.lg.length cH).ownBlock = some g_ → g_ ≠ u1.heap.size := fun g_ e => by have h1 := (OH.lt g_ e).1; have h2 := F1.lt; omega
           have jOH0 : ∀ g_, (Value.slice aH D.lg.length cH).ownBlock = some g_ → g_ ≠ u3.heap.size := fun g_ e => by have h1 := (OH.lt g_ e).1; have h2 := F0.lt; omega
           have oT := oT.later kq
           have F1 := F1.below kq F1.lt
           have F0 := F0.below kq F0.lt
           have hb5 : Below wd9.heap.size wd9 u5 := hb4.trans (kq.mono hb4.size)
           clear kq
           refine hZ _ _ ⟨hb5, ?_⟩
           clear hZ Kz hi
           refine takeW 6 100 (.tuple #[.agg #[.int .i64 E.ep, .int .i64 E.ow, .int .i64 E.pa], .agg #[.bool D.up, .int .i64 D.li, .int .i64 D.ep, .slice aH D.lg.length cH, .int .i64 D.sd, .int .i64 D.ac, .int .i64 D.al], .bool o]) rfl rfl (by kernel_rfl) (by kernel_rfl) (by kernel_rfl) (fun _ _ _ h => h) (by kernel_rfl) (by (intro w hSw; go_simp)) (by assumption) ?_
           simp only [List.set_cons_zero, List.set_cons_succ]
           refine takeW 7 107 (.agg #[.int .i64 E.ep, .int .i64 E.ow, .int .i64 E.pa]) rfl rfl (by kernel_rfl) (by kernel_rfl) (by kernel_rfl) (fun _ _ _ h => h) (by kernel_rfl) (by (intro w hSw; go_simp)) (by assumption) ?_
           simp only [List.set_cons_zero, List.set_cons_succ]
           refine takeW 8 108 (.agg #[.bool D.up, .int .i64 D.li, .int .i64 D.ep, .slice aH D.lg.length cH, .int .i64 D.sd, .int .i64 D.ac, .int .i64 D.al]) rfl rfl (by kernel_rfl) (by kernel_rfl) (by kernel_rfl) (fun _ _ _ h => h) (by kernel_rfl) (by (intro w hSw; go_simp)) (by assumption) ?_
           simp only [List.set_cons_zero, List.set_cons_succ]
           refine takeW 9 109 (.bool o) rfl rfl (by kernel_rfl) (by kernel_rfl) (by kernel_rfl) (fun _ _ _ h => h) (by kernel_rfl) (by (intro w hSw; go_simp)) (by assumption) ?_
           simp only [List.set_cons_zero, List.set_cons_succ]
           refine relist 3 #[true, true, true, true, true, true, true, true, true, true, true, true, false, false, false] (by kernel_rfl) (by kernel_rfl) ?_
           exact hTT.out _ _ ⟨u3.heap.size, u1.heap.size, aH, cH, [(.agg #[.int .i64 rg0.ep, .int .i64 rg0.ow, .int .i64 rg0.pa]), (.agg #[.int .i64 rg0.ep, .int .i64 rg0.ow, .int .i64 rg0.pa]), (.int .i64 n1), (.agg #[.bool m2.up, .int .i64 m2.li, .int .i64 m2.ep, .slice ad2 m2.lg.length cap2, .int .i64 m2.sd, .int .i64 m2.ac, .int .i64 m2.al]), (.agg #[.bool m2.up, .int .i64 m2.li, .int .i64 m2.ep, .slice (some ⟨gT, 0, none⟩) m2.lg.length m2.lg.length, .int .i64 m2.sd, .int .i64 m2.ac, .int .i64 m2.al])], rfl, by kernel_rfl, F0, F1, p0, p1, n01, OH.base bsH, jOH0, jOH1, hb5⟩
       · refine wpOp_step rfl (fun Kz hZ => ?_)
         rw [if_pos (by kernel_rfl)]
         go_simp
         obtain ⟨u3, hy⟩ : ∃ y_, y_ = u2.alloc (Obj.cells #[.int .i64 0, .int .i64 0, .int .i64 0] 44) := ⟨_, rfl⟩
         have kq : Below u2.heap.size u2 u3 := by rw [hy]; exact below_new _
         have n01 : u2.heap.size ≠ u1.heap.size := by have h2 := F1.lt; omega
         have F1 := F1.below kq F1.lt
         have F0 : RgBox u3 u2.heap.size ⟨0, 0, 0⟩ := by rw [hy]; refine ⟨?_, fun i => ?_⟩; constructor <;> simp [go_sem]; simp [go_sem]
         have p0 : wd9.heap.size ≤ u2.heap.size := hb2.size
         have hb3 : Below wd9.heap.size wd9 u3 := hb2.trans (kq.mono hb2.size)
         rw [← hy]
         clear hy kq
         refine hZ _ _ ⟨hb3, ?_⟩
         clear hZ Kz hi
         refine wpAnyH_all (rs := [4]) (by kernel_rfl) (by simp) ?_
         intro i hi; obtain rfl : i = 4 := by simpa using hi
         refine wpOp_step rfl (fun Kz hZ => ?_)
         rw [if_pos (by kernel_rfl)]
         go_simp
         go_at_call 24
         refine (miTo m2 ad2 cap2 u3 (V2.below hb3 (V2.lt ikEnc_len (by omega))) hl).mono ?_
         rintro e u4 ⟨gT, rfl, _, _, oT, kq⟩
         have joT1 : ∀ g_, (Value.slice (some ⟨gT, 0, none⟩) m2.lg.length m2.lg.length).ownBlock = some g_ → g_ ≠ u1.heap.size := fun g_ e => by have h1 := (oT.lt g_ e).1; have h2 := F1.lt; omega
         have joT0 : ∀ g_, (Value.slice (some ⟨gT, 0, none⟩) m2.lg.length m2.lg.length).ownBlock = some g_ → g_ ≠ u2.heap.size := fun g_ e => by have h1 := (oT.lt g_ e).1; have h2 := F0.lt; omega
         have F1 := F1.below kq F1.lt
         have F0 := F0.below kq F0.lt
         have hb4 : Below wd9.heap.size wd9 u4 := hb3.trans (kq.mono hb3.size)
         clear kq
         refine hZ _ _ ⟨hb4, ?_⟩
         clear hZ Kz hi
         refine wpAnyH_all (rs := [5]) (by kernel_rfl) (by simp) ?_
         intro i hi; obtain rfl : i = 5 := by simpa using hi
         refine wpOp_step rfl (fun Kz hZ => ?_)
         rw [if_pos (by kernel_rfl)]
         go_simp
         go_at_call 28
         refine (takeIw rg0 n1 m2 (some ⟨gT, 0, none⟩) m2.lg.length u4 oT.view.2 (by omega) (fun e => by cases e)).mono ?_
         rintro e u5 ⟨aH, cH, rfl, OH, kq⟩
         rw [hD.out] at OH ⊢
         rw [hE.out, hO.out]
         have bsH := hb4.size
         have jOH1 : ∀ g_, (Value.slice aH D.lg.length cH).ownBlock = some g_ → g_ ≠ u1.heap.size := fun g_ e => by have h1 := (OH.lt g_ e).1; have h2 := F1.lt; omega
         have jOH0 : ∀ g_, (Value.slice aH D.lg.length cH).ownBlock = some g_ → g_ ≠ u2.heap.size := fun g_ e => by have h1 := (OH.lt g_ e).1; have h2 := F0.lt; omega
         have oT := oT.later kq
         have F1 := F1.below kq F1.lt
         have F0 := F0.below kq F0.lt
         have hb5 : Below wd9.heap.size wd9 u5 := hb4.trans (kq.mono hb4.size)
         clear kq
         refine hZ _ _ ⟨hb5, ?_⟩
         clear hZ Kz hi
         refine takeW 6 100 (.tuple #[.agg #[.int .i64 E.ep, .int .i64 E.ow, .int .i64 E.pa], .agg #[.bool D.up, .int .i64 D.li, .int .i64 D.ep, .slice aH D.lg.length cH, .int .i64 D.sd, .int .i64 D.ac, .int .i64 D.al], .bool o]) rfl rfl (by kernel_rfl) (by kernel_rfl) (by kernel_rfl) (fun _ _ _ h => h) (by kernel_rfl) (by (intro w hSw; go_simp)) (by assumption) ?_
         simp only [List.set_cons_zero, List.set_cons_succ]
         refine takeW 7 107 (.agg #[.int .i64 E.ep, .int .i64 E.ow, .int .i64 E.pa]) rfl rfl (by kernel_rfl) (by kernel_rfl) (by kernel_rfl) (fun _ _ _ h => h) (by kernel_rfl) (by (intro w hSw; go_simp)) (by assumption) ?_
         simp only [List.set_cons_zero, List.set_cons_succ]
         refine takeW 8 108 (.agg #[.bool D.up, .int .i64 D.li, .int .i64 D.ep, .slice aH D.lg.length cH, .int .i64 D.sd, .int .i64 D.ac, .int .i64 D.al]) rfl rfl (by kernel_rfl) (by kernel_rfl) (by kernel_rfl) (fun _ _ _ h => h) (by kernel_rfl) (by (intro w hSw; go_simp)) (by assumption) ?_
         simp only [List.set_cons_zero, List.set_cons_succ]
         refine takeW 9 109 (.bool o) rfl rfl (by kernel_rfl) (by kernel_rfl) (by kernel_rfl) (fun _ _ _ h => h) (by kernel_rfl) (by (intro w hSw; go_simp)) (by assumption) ?_
         simp only [List.set_cons_zero, List.set_cons_succ]
         refine relist 3 #[true, true, true, true, true, true, true, true, true, true, true, true, false, false, false] (by kernel_rfl) (by kernel_rfl) ?_
         exact hTT.out _ _ ⟨u2.heap.size, u1.heap.size, aH, cH, [(.agg #[.int .i64 rg0.ep, .int .i64 rg0.ow, .int .i64 rg0.pa]), (.agg #[.int .i64 rg0.ep, .int .i64 rg0.ow, .int .i64 rg0.pa]), (.int .i64 n1), (.agg #[.bool m2.up, .int .i64 m2.li, .int .i64 m2.ep, .slice ad2 m2.lg.length cap2, .int .i64 m2.sd, .int .i64 m2.ac, .int .i64 m2.al]), (.agg #[.bool m2.up, .int .i64 m2.li, .int .i64 m2.ep, .slice (some ⟨gT, 0, none⟩) m2.lg.length m2.lg.length, .int .i64 m2.sd, .int .i64 m2.ac, .int .i64 m2.al])], rfl, by kernel_rfl, F0, F1, p0, p1, n01, OH.base bsH, jOH0, jOH1, hb5⟩
   · refine wpOp_step rfl (fun Kz hZ => ?_)
     rw [if_pos (by kernel_rfl)]
     go_simp
     obtain ⟨u1, hy⟩ : ∃ y_, y_ = u0.alloc (Obj.cells #[.int .i64 0, .int .i64 0, .int .i64 0] 44) := ⟨_, rfl⟩
     have kq : Below u0.heap.size u0 u1 := by rw [hy]; exact below_new _
     have F0 : RgBox u1 u0.heap.size ⟨0, 0, 0⟩ := by rw [hy]; refine ⟨?_, fun i => ?_⟩; constructor <;> simp [go_sem]; simp [go_sem]
     have p0 : wd9.heap.size ≤ u0.heap.size := hb0.size
     have hb1 : Below wd9.heap.size wd9 u1 := hb0.trans (kq.mono hb0.size)
     rw [← hy]
     clear hy kq
     refine hZ _ _ ⟨hb1, ?_⟩
     clear hZ Kz hi
     refine wpAnyH_all (rs := [1, 11]) (by kernel_rfl) (by simp) ?_
     intro i hi; rcases (by simpa using hi : i = 1 ∨ i = 11) with rfl | rfl
     · refine wpOp_step rfl (fun Kz hZ => ?_)
       rw [if_pos (by kernel_rfl)]
       go_simp
       go_at_call 20
       refine (toRg rg0 u1).mono ?_
       rintro e u2 ⟨rfl, kq⟩
       have F0 := F0.below kq F0.lt
       have hb2 : Below wd9.heap.size wd9 u2 := hb1.trans (kq.mono hb1.size)
       clear kq
       refine hZ _ _ ⟨hb2, ?_⟩
       clear hZ Kz hi
       refine wpAnyH_all (rs := [4, 11]) (by kernel_rfl) (by simp) ?_
       intro i hi; rcases (by simpa using hi : i = 4 ∨ i = 11) with rfl | rfl
       · refine wpOp_step rfl (fun Kz hZ => ?_)
         rw [if_pos (by kernel_rfl)]
         go_simp
         go_at_call 24
         refine (miTo m2 ad2 cap2 u2 (V2.below hb2 (V2.lt ikEnc_len (by omega))) hl).mono ?_
         rintro e u3 ⟨gT, rfl, _, _, oT, kq⟩
         have joT0 : ∀ g_, (Value.slice (some ⟨gT, 0, none⟩) m2.lg.length m2.lg.length).ownBlock = some g_ → g_ ≠ u0.heap.size := fun g_ e => by have h1 := (oT.lt g_ e).1; have h2 := F0.lt; omega
         have F0 := F0.below kq F0.lt
         have hb3 : Below wd9.heap.size wd9 u3 := hb2.trans (kq.mono hb2.size)
         clear kq
         refine hZ _ _ ⟨hb3, ?_⟩
         clear hZ Kz hi
         refine wpAnyH_all (rs := [5, 11]) (by kernel_rfl) (by simp) ?_
         intro i hi; rcases (by simpa using hi : i = 5 ∨ i = 11) with rfl | rfl
         · refine wpOp_step rfl (fun Kz hZ => ?_)
           rw [if_pos (by kernel_rfl)]
           go_simp
           go_at_call 28
           refine (takeIw rg0 n1 m2 (some ⟨gT, 0, none⟩) m2.lg.length u3 oT.view.2 (by omega) (fun e => by cases e)).mono ?_
           rintro e u4 ⟨aH, cH, rfl, OH, kq⟩
           rw [hD.out] at OH ⊢
           rw [hE.out, hO.out]
           have bsH := hb3.size
           have jOH0 : ∀ g_, (Value.slice aH D.lg.length cH).ownBlock = some g_ → g_ ≠ u0.heap.size := fun g_ e => by have h1 := (OH.lt g_ e).1; have h2 := F0.lt; omega
           have oT := oT.later kq
           have F0 := F0.below kq F0.lt
           have hb4 : Below wd9.heap.size wd9 u4 := hb3.trans (kq.mono hb3.size)
           clear kq
           refine hZ _ _ ⟨hb4, ?_⟩
           clear hZ Kz hi
           refine takeW 6 100 (.tuple #[.agg #[.int .i64 E.ep, .int .i64 E.ow, .int .i64 E.pa], .agg #[.bool D.up, .int .i64 D.li, .int .i64 D.ep, .slice aH D.lg.length cH, .int .i64 D.sd, .int .i64 D.ac, .int .i64 D.al], .bool o]) rfl rfl (by kernel_rfl) (by kernel_rfl) (by kernel_rfl) (fun _ _ _ h => h) (by kernel_rfl) (by (intro w hSw; go_simp)) (by assumption) ?_
           simp only [List.set_cons_zero, List.set_cons_succ]
           refine takeW 7 107 (.agg #[.int .i64 E.ep, .int .i64 E.ow, .int .i64 E.pa]) rfl rfl (by kernel_rfl) (by kernel_rfl) (by kernel_rfl) (fun _ _ _ h => h) (by kernel_rfl) (by (intro w hSw; go_simp)) (by assumption) ?_
           simp only [List.set_cons_zero, List.set_cons_succ]
           refine takeW 8 108 (.agg #[.bool D.up, .int .i64 D.li, .int .i64 D.ep, .slice aH D.lg.length cH, .int .i64 D.sd, .int .i64 D.ac, .int .i64 D.al]) rfl rfl (by kernel_rfl) (by kernel_rfl) (by kernel_rfl) (fun _ _ _ h => h) (by kernel_rfl) (by (intro w hSw; go_simp)) (by assumption) ?_
           simp only [List.set_cons_zero, List.set_cons_succ]
           refine takeW 9 109 (.bool o) rfl rfl (by kernel_rfl) (by kernel_rfl) (by kernel_rfl) (fun _ _ _ h => h) (by kernel_rfl) (by (intro w hSw; go_simp)) (by assumption) ?_
           simp only [List.set_cons_zero, List.set_cons_succ]
           refine wpAnyH_all (rs := [11]) (by kernel_rfl) (by simp) ?_
           intro i hi; obtain rfl : i = 11 := by simpa using hi
           refine wpOp_step rfl (fun Kz hZ => ?_)
           rw [if_pos (by kernel_rfl)]
           go_simp
           obtain ⟨u5, hy⟩ : ∃ y_, y_ = u4.alloc (Obj.cells #[.bool false, .int .i64 0, .int .i64 0, .slice none 0 0, .int .i64 0, .int .i64 0, .int .i64 0] 26) := ⟨_, rfl⟩
           have kq : Below u4.heap.size u4 u5 := by rw [hy]; exact below_new _
           have joT1 : ∀ g_, (Value.slice (some ⟨gT, 0, none⟩) m2.lg.length m2.lg.length).ownBlock = some g_ → g_ ≠ u4.heap.size := fun g_ e => by have h1 := (oT.lt g_ e).2; omega
           have jOH1 : ∀ g_, (Value.slice aH D.lg.length cH).ownBlock = some g_ → g_ ≠ u4.heap.size := fun g_ e => by have h1 := (OH.lt g_ e).2; omega
           have n01 : u0.heap.size ≠ u4.heap.size := by have h2 := F0.lt; omega
           have oT := oT.later kq
           have OH := OH.later kq
           have F0 := F0.below kq F0.lt
           have F1 : MiBox u5 u4.heap.size ⟨false, 0, 0, [], 0, 0, 0⟩ (.slice none 0 0) := by rw [hy]; constructor <;> simp [go_sem]
           have p1 : wd9.heap.size ≤ u4.heap.size := hb4.size
           have hb5 : Below wd9.heap.size wd9 u5 := hb4.trans (kq.mono hb4.size)
           rw [← hy]
           clear hy kq
           refine hZ _ _ ⟨hb5, ?_⟩
           clear hZ Kz hi
           refine relist 3 #[true, true, true, true, true, true, true, true, true, true, true, true, false, false, false] (by kernel_rfl) (by kernel_rfl) ?_
           exact hTT.out _ _ ⟨u0.heap.size, u4.heap.size, aH, cH, [(.agg #[.int .i64 rg0.ep, .int .i64 rg0.ow, .int .i64 rg0.pa]), (.agg #[.int .i64 rg0.ep, .int .i64 rg0.ow, .int .i64 rg0.pa]), (.int .i64 n1), (.agg #[.bool m2.up, .int .i64 m2.li, .int .i64 m2.ep, .slice ad2 m2.lg.length cap2, .int .i64 m2.sd, .int .i64 m2.ac, .int .i64 m2.al]), (.agg #[.bool m2.up, .int .i64 m2.li, .int .i64 m2.ep, .slice (some ⟨gT, 0, none⟩) m2.lg.length m2.lg.length, .int .i64 m2.sd, .int .i64 m2.ac, .int .i64 m2.al])], rfl, by kernel_rfl, F0, F1, p0, p1, n01, OH.base bsH, jOH0, jOH1, hb5⟩
         · refine wpOp_step rfl (fun Kz hZ => ?_)
           rw [if_pos (by kernel_rfl)]
           go_simp
           obtain ⟨u4, hy⟩ : ∃ y_, y_ = u3.alloc (Obj.cells #[.bool false, .int .i64 0, .int .i64 0, .slice none 0 0, .int .i64 0, .int .i64 0, .int .i64 0] 26) := ⟨_, rfl⟩
           have kq : Below u3.heap.size u3 u4 := by rw [hy]; exact below_new _
           have joT1 : ∀ g_, (Value.slice (some ⟨gT, 0, none⟩) m2.lg.length m2.lg.length).ownBlock = some g_ → g_ ≠ u3.heap.size := fun g_ e => by have h1 := (oT.lt g_ e).2; omega
           have n01 : u0.heap.size ≠ u3.heap.size := by have h2 := F0.lt; omega
           have oT := oT.later kq
           have F0 := F0.below kq F0.lt
           have F1 : MiBox u4 u3.heap.size ⟨false, 0, 0, [], 0, 0, 0⟩ (.slice none 0 0) := by rw [hy]; constructor <;> simp [go_sem]
           have p1 : wd9.heap.size ≤ u3.heap.size := hb3.size
           have hb4 : Below wd9.heap.size wd9 u4 := hb3.trans (kq.mono hb3.size)
           rw [← hy]
           clear hy kq
           refine hZ _ _ ⟨hb4, ?_⟩
           clear hZ Kz hi
           refine wpAnyH_all (rs := [5]) (by kernel_rfl) (by simp) ?_
           intro i hi; obtain rfl : i = 5 := by simpa using hi
           refine wpOp_step rfl (fun Kz hZ => ?_)
           rw [if_pos (by kernel_rfl)]
           go_simp
           go_at_call 28
           refine (takeIw rg0 n1 m2 (some ⟨gT, 0, none⟩) m2.lg.length u4 oT.view.2 (by omega) (fun e => by cases e)).mono ?_
           rintro e u5 ⟨aH, cH, rfl, OH, kq⟩
           rw [hD.out] at OH ⊢
           rw [hE.out, hO.out]
           have bsH := hb4.size
           have jOH0 : ∀ g_, (Value.slice aH D.lg.length cH).ownBlock = some g_ → g_ ≠ u0.heap.size := fun g_ e => by have h1 := (OH.lt g_ e).1; have h2 := F0.lt; omega
           have jOH1 : ∀ g_, (Value.slice aH D.lg.length cH).ownBlock = some g_ → g_ ≠ u3.heap.size := fun g_ e => by have h1 := (OH.lt g_ e).1; have h2 := F1.lt; omega
           have oT := oT.later kq
           have F0 := F0.below kq F0.lt
           have F1 := F1.below kq F1.lt
           have hb5 : Below wd9.heap.size wd9 u5 := hb4.trans (kq.mono hb4.size)
           clear kq
           refine hZ _ _ ⟨hb5, ?_⟩
           clear hZ Kz hi
           refine takeW 6 100 (.tuple #[.agg #[.int .i64 E.ep, .int .i64 E.ow, .int .i64 E.pa], .agg #[.bool D.up, .int .i64 D.li, .int .i64 D.ep, .slice aH D.lg.length cH, .int .i64 D.sd, .int .i64 D.ac, .int .i64 D.al], .bool o]) rfl rfl (by kernel_rfl) (by kernel_rfl) (by kernel_rfl) (fun _ _ _ h => h) (by kernel_rfl) (by (intro w hSw; go_simp)) (by assumption) ?_
           simp only [List.set_cons_zero, List.set_cons_succ]
           refine takeW 7 107 (.agg #[.int .i64 E.ep, .int .i64 E.ow, .int .i64 E.pa]) rfl rfl (by kernel_rfl) (by kernel_rfl) (by kernel_rfl) (fun _ _ _ h => h) (by kernel_rfl) (by (intro w hSw; go_simp)) (by assumption) ?_
           simp only [List.set_cons_zero, List.set_cons_succ]
           refine takeW 8 108 (.agg #[.bool D.up, .int .i64 D.li, .int .i64 D.ep, .slice aH D.lg.length cH, .int .i64 D.sd, .int .i64 D.ac, .int .i64 D.al]) rfl rfl (by kernel_rfl) (by kernel_rfl) (by kernel_rfl) (fun _ _ _ h => h) (by kernel_rfl) (by (intro w hSw; go_simp)) (by assumption) ?_
           simp only [List.set_cons_zero, List.set_cons_succ]
           refine takeW 9 109 (.bool o) rfl rfl (by kernel_rfl) (by kernel_rfl) (by kernel_rfl) (fun _ _ _ h => h) (by kernel_rfl) (by (intro w hSw; go_simp)) (by assumption) ?_
           simp only [List.set_cons_zero, List.set_cons_succ]
           refine relist 3 #[true, true, true, true, true, true, true, true, true, true, true, true, false, false, false] (by kernel_rfl) (by kernel_rfl) ?_
           exact hTT.out _ _ ⟨u0.heap.size, u3.heap.size, aH, cH, [(.agg #[.int .i64 rg0.ep, .int .i64 rg0.ow, .int .i64 rg0.pa]), (.agg #[.int .i64 rg0.ep, .int .i64 rg0.ow, .int .i64 rg0.pa]), (.int .i64 n1), (.agg #[.bool m2.up, .int .i64 m2.li, .int .i64 m2.ep, .slice ad2 m2.lg.length cap2, .int .i64 m2.sd, .int .i64 m2.ac, .int .i64 m2.al]), (.agg #[.bool m2.up, .int .i64 m2.li, .int .i64 m2.ep, .slice (some ⟨gT, 0, none⟩) m2.lg.length m2.lg.length, .int .i64 m2.sd, .int .i64 m2.ac, .int .i64 m2.al])], rfl, by kernel_rfl, F0, F1, p0, p1, n01, OH.base bsH, jOH0, jOH1, hb5⟩
       · refine wpOp_step rfl (fun Kz hZ => ?_)
         rw [if_pos (by kernel_rfl)]
         go_simp
         obtain ⟨u3, hy⟩ : ∃ y_, y_ = u2.alloc (Obj.cells #[.bool false, .int .i64 0, .int .i64 0, .slice none 0 0, .int .i64 0, .int .i64 0, .int .i64 0] 26) := ⟨_, rfl⟩
         have kq : Below u2.heap.size u2 u3 := by rw [hy]; exact below_new _
         have n01 : u0.heap.size ≠ u2.heap.size := by have h2 := F0.lt; omega
         have F0 := F0.below kq F0.lt
         have F1 : MiBox u3 u2.heap.size ⟨false, 0, 0, [], 0, 0, 0⟩ (.slice none 0 0) := by rw [hy]; constructor <;> simp [go_sem]
         have p1 : wd9.heap.size ≤ u2.heap.size := hb2.size
         have hb3 : Below wd9.heap.size wd9 u3 := hb2.trans (kq.mono hb2.size)
         rw [← hy]
         clear hy kq
         refine hZ _ _ ⟨hb3, ?_⟩
         clear hZ Kz hi
         refine wpAnyH_all (rs := [4]) (by kernel_rfl) (by simp) ?_
         intro i hi; obtain rfl : i = 4 := by simpa using hi
         refine wpOp_step rfl (fun Kz hZ => ?_)
         rw [if_pos (by kernel_rfl)]
         go_simp
         go_at_call 24
         refine (miTo m2 ad2 cap2 u3 (V2.below hb3 (V2.lt ikEnc_len (by omega))) hl).mono ?_
         rintro e u4 ⟨gT, rfl, _, _, oT, kq⟩
         have joT0 : ∀ g_, (Value.slice (some ⟨gT, 0, none⟩) m2.lg.length m2.lg.length).ownBlock = some g_ → g_ ≠ u0.heap.size := fun g_ e => by have h1 := (oT.lt g_ e).1; have h2 := F0.lt; omega
         have joT1 : ∀ g_, (Value.slice (some ⟨gT, 0, none⟩) m2.lg.length m2.lg.length).ownBlock = some g_ → g_ ≠ u2.heap.size := fun g_ e => by have h1 := (oT.lt g_ e).1; have h2 := F1.lt; omega
         have F0 := F0.below kq F0.lt
         have F1 := F1.below kq F1.lt
         have hb4 : Below wd9.heap.size wd9 u4 := hb3.trans (kq.mono hb3.size)
         clear kq
         refine hZ _ _ ⟨hb4, ?_⟩
         clear hZ Kz hi
         refine wpAnyH_all (rs := [5]) (by kernel_rfl) (by simp) ?_
         intro i hi; obtain rfl : i = 5 := by simpa using hi
         refine wpOp_step rfl (fun Kz hZ => ?_)
         rw [if_pos (by kernel_rfl)]
         go_simp
         go_at_call 28
         refine (takeIw rg0 n1 m2 (some ⟨gT, 0, none⟩) m2.lg.length u4 oT.view.2 (by omega) (fun e => by cases e)).mono ?_
         rintro e u5 ⟨aH, cH, rfl, OH, kq⟩
         rw [hD.out] at OH ⊢
         rw [hE.out, hO.out]
         have bsH := hb4.size
         have jOH0 : ∀ g_, (Value.slice aH D.lg.length cH).ownBlock = some g_ → g_ ≠ u0.heap.size := fun g_ e => by have h1 := (OH.lt g_ e).1; have h2 := F0.lt; omega
         have jOH1 : ∀ g_, (Value.slice aH D.lg.length cH).ownBlock = some g_ → g_ ≠ u2.heap.size := fun g_ e => by have h1 := (OH.lt g_ e).1; have h2 := F1.lt; omega
         have oT := oT.later kq
         have F0 := F0.below kq F0.lt
         have F1 := F1.below kq F1.lt
         have hb5 : Below wd9.heap.size wd9 u5 := hb4.trans (kq.mono hb4.size)
         clear kq
         refine hZ _ _ ⟨hb5, ?_⟩
         clear hZ Kz hi
         refine takeW 6 100 (.tuple #[.agg #[.int .i64 E.ep, .int .i64 E.ow, .int .i64 E.pa], .agg #[.bool D.up, .int .i64 D.li, .int .i64 D.ep, .slice aH D.lg.length cH, .int .i64 D.sd, .int .i64 D.ac, .int .i64 D.al], .bool o]) rfl rfl (by kernel_rfl) (by kernel_rfl) (by kernel_rfl) (fun _ _ _ h => h) (by kernel_rfl) (by (intro w hSw; go_simp)) (by assumption) ?_
         simp only [List.set_cons_zero, List.set_cons_succ]
         refine takeW 7 107 (.agg #[.int .i64 E.ep, .int .i64 E.ow, .int .i64 E.pa]) rfl rfl (by kernel_rfl) (by kernel_rfl) (by kernel_rfl) (fun _ _ _ h => h) (by kernel_rfl) (by (intro w hSw; go_simp)) (by assumption) ?_
         simp only [List.set_cons_zero, List.set_cons_succ]
         refine takeW 8 108 (.agg #[.bool D.up, .int .i64 D.li, .int .i64 D.ep, .slice aH D.lg.length cH, .int .i64 D.sd, .int .i64 D.ac, .int .i64 D.al]) rfl rfl (by kernel_rfl) (by kernel_rfl) (by kernel_rfl) (fun _ _ _ h => h) (by kernel_rfl) (by (intro w hSw; go_simp)) (by assumption) ?_
         simp only [List.set_cons_zero, List.set_cons_succ]
         refine takeW 9 109 (.bool o) rfl rfl (by kernel_rfl) (by kernel_rfl) (by kernel_rfl) (fun _ _ _ h => h) (by kernel_rfl) (by (intro w hSw; go_simp)) (by assumption) ?_
         simp only [List.set_cons_zero, List.set_cons_succ]
         refine relist 3 #[true, true, true, true, true, true, true, true, true, true, true, true, false, false, false] (by kernel_rfl) (by kernel_rfl) ?_
         exact hTT.out _ _ ⟨u0.heap.size, u2.heap.size, aH, cH, [(.agg #[.int .i64 rg0.ep, .int .i64 rg0.ow, .int .i64 rg0.pa]), (.agg #[.int .i64 rg0.ep, .int .i64 rg0.ow, .int .i64 rg0.pa]), (.int .i64 n1), (.agg #[.bool m2.up, .int .i64 m2.li, .int .i64 m2.ep, .slice ad2 m2.lg.length cap2, .int .i64 m2.sd, .int .i64 m2.ac, .int .i64 m2.al]), (.agg #[.bool m2.up, .int .i64 m2.li, .int .i64 m2.ep, .slice (some ⟨gT, 0, none⟩) m2.lg.length m2.lg.length, .int .i64 m2.sd, .int .i64 m2.ac, .int .i64 m2.al])], rfl, by kernel_rfl, F0, F1, p0, p1, n01, OH.base bsH, jOH0, jOH1, hb5⟩
     · refine wpOp_step rfl (fun Kz hZ => ?_)
       rw [if_pos (by kernel_rfl)]
       go_simp
       obtain ⟨u2, hy⟩ : ∃ y_, y_ = u1.alloc (Obj.cells #[.bool false, .int .i64 0, .int .i64 0, .slice none 0 0, .int .i64 0, .int .i64 0, .int .i64 0] 26) := ⟨_, rfl⟩
       have kq : Below u1.heap.size u1 u2 := by rw [hy]; exact below_new _
       have n01 : u0.heap.size ≠ u1.heap.size := by have h2 := F0.lt; omega
       have F0 := F0.below kq F0.lt
       have F1 : MiBox u2 u1.heap.size ⟨false, 0, 0, [], 0, 0, 0⟩ (.slice none 0 0) := by rw [hy]; constructor <;> simp [go_sem]
       have p1 : wd9.heap.size ≤ u1.heap.size := hb1.size
       have hb2 : Below wd9.heap.size wd9 u2 := hb1.trans (kq.mono hb1.size)
       rw [← hy]
       clear hy kq
       refine hZ _ _ ⟨hb2, ?_⟩
       clear hZ Kz hi
       refine wpAnyH_all (rs := [1]) (by kernel_rfl) (by simp) ?_
       intro i hi; obtain rfl : i = 1 := by simpa using hi
       refine wpOp_step rfl (fun Kz hZ => ?_)
       rw [if_pos (by kernel_rfl)]
       go_simp
       go_at_call 20
       refine (toRg rg0 u2).mono ?_
       rintro e u3 ⟨rfl, kq⟩
       have F0 := F0.below kq F0.lt
       have F1 := F1.below kq F1.lt
       have hb3 : Below wd9.heap.size wd9 u3 := hb2.trans (kq.mono hb2.size)
       clear kq
       refine hZ _ _ ⟨hb3, ?_⟩
       clear hZ Kz hi
       refine wpAnyH_all (rs := [4]) (by kernel_rfl) (by simp) ?_
       intro i hi; obtain rfl : i = 4 := by simpa using hi
       refine wpOp_step rfl (fun Kz hZ => ?_)
       rw [if_pos (by kernel_rfl)]
       go_simp
       go_at_call 24
       refine (miTo m2 ad2 cap2 u3 (V2.below hb3 (V2.lt ikEnc_len (by omega))) hl).mono ?_
       rintro e u4 ⟨gT, rfl, _, _, oT, kq⟩
       have joT0 : ∀ g_, (Value.slice (some ⟨gT, 0, none⟩) m2.lg.length m2.lg.length).ownBlock = some g_ → g_ ≠ u0.heap.size := fun g_ e => by have h1 := (oT.lt g_ e).1; have h2 := F0.lt; omega
       have joT1 : ∀ g_, (Value.slice (some ⟨gT, 0, none⟩) m2.lg.length m2.lg.length).ownBlock = some g_ → g_ ≠ u1.heap.size := fun g_ e => by have h1 := (oT.lt g_ e).1; have h2 := F1.lt; omega
       have F0 := F0.below kq F0.lt
       have F1 := F1.below kq F1.lt
       have hb4 : Below wd9.heap.size wd9 u4 := hb3.trans (kq.mono hb3.size)
       clear kq
       refine hZ _ _ ⟨hb4, ?_⟩
       clear hZ Kz hi
       refine wpAnyH_all (rs := [5]) (by kernel_rfl) (by simp) ?_
       intro i hi; obtain rfl : i = 5 := by simpa using hi
       refine wpOp_step rfl (fun Kz hZ => ?_)
       rw [if_pos (by kernel_rfl)]
       go_simp
       go_at_call 28
       refine (takeIw rg0 n1 m2 (some ⟨gT, 0, none⟩) m2.lg.length u4 oT.view.2 (by omega) (fun e => by cases e)).mono ?_
       rintro e u5 ⟨aH, cH, rfl, OH, kq⟩
       rw [hD.out] at OH ⊢
       rw [hE.out, hO.out]
       have bsH := hb4.size
       have jOH0 : ∀ g_, (Value.slice aH D.lg.length cH).ownBlock = some g_ → g_ ≠ u0.heap.size := fun g_ e => by have h1 := (OH.lt g_ e).1; have h2 := F0.lt; omega
       have jOH1 : ∀ g_, (Value.slice aH D.lg.length cH).ownBlock = some g_ → g_ ≠ u1.heap.size := fun g_ e => by have h1 := (OH.lt g_ e).1; have h2 := F1.lt; omega
       have oT := oT.later kq
       have F0 := F0.below kq F0.lt
       have F1 := F1.below kq F1.lt
       have hb5 : Below wd9.heap.size wd9 u5 := hb4.trans (kq.mono hb4.size)
       clear kq
       refine hZ _ _ ⟨hb5, ?_⟩
       clear hZ Kz hi
       refine takeW 6 100 (.tuple #[.agg #[.int .i64 E.ep, .int .i64 E.ow, .int .i64 E.pa], .agg #[.bool D.up, .int .i64 D.li, .int .i64 D.ep, .slice aH D.lg.length cH, .int .i64 D.sd, .int .i64 D.ac, .int .i64 D.al], .bool o]) rfl rfl (by kernel_rfl) (by kernel_rfl) (by kernel_rfl) (fun _ _ _ h => h) (by kernel_rfl) (by (intro w hSw; go_simp)) (by assumption) ?_
       simp only [List.set_cons_zero, List.set_cons_succ]
       refine takeW 7 107 (.agg #[.int .i64 E.ep, .int .i64 E.ow, .int .i64 E.pa]) rfl rfl (by kernel_rfl) (by kernel_rfl) (by kernel_rfl) (fun _ _ _ h => h) (by kernel_rfl) (by (intro w hSw; go_simp)) (by assumption) ?_
       simp only [List.set_cons_zero, List.set_cons_succ]
       refine takeW 8 108 (.agg #[.bool D.up, .int .i64 D.li, .int .i64 D.ep, .slice aH D.lg.length cH, .int .i64 D.sd, .int .i64 D.ac, .int .i64 D.al]) rfl rfl (by kernel_rfl) (by kernel_rfl) (by kernel_rfl) (fun _ _ _ h => h) (by kernel_rfl) (by (intro w hSw; go_simp)) (by assumption) ?_
       simp only [List.set_cons_zero, List.set_cons_succ]
       refine takeW 9 109 (.bool o) rfl rfl (by kernel_rfl) (by kernel_rfl) (by kernel_rfl) (fun _ _ _ h => h) (by kernel_rfl) (by (intro w hSw; go_simp)) (by assumption) ?_
       simp only [List.set_cons_zero, List.set_cons_succ]
       refine relist 3 #[true, true, true, true, true, true, true, true, true, true, true, true, false, false, false] (by kernel_rfl) (by kernel_rfl) ?_
       exact hTT.out _ _ ⟨u0.heap.size, u1.heap.size, aH, cH, [(.agg #[.int .i64 rg0.ep, .int .i64 rg0.ow, .int .i64 rg0.pa]), (.agg #[.int .i64 rg0.ep, .int .i64 rg0.ow, .int .i64 rg0.pa]), (.int .i64 n1), (.agg #[.bool m2.up, .int .i64 m2.li, .int .i64 m2.ep, .slice ad2 m2.lg.length cap2, .int .i64 m2.sd, .int .i64 m2.ac, .int .i64 m2.al]), (.agg #[.bool m2.up, .int .i64 m2.li, .int .i64 m2.ep, .slice (some ⟨gT, 0, none⟩) m2.lg.length m2.lg.length, .int .i64 m2.sd, .int .i64 m2.ac, .int .i64 m2.al])], rfl, by kernel_rfl, F0, F1, p0, p1, n01, OH.base bsH, jOH0, jOH1, hb5⟩
   · refine wpOp_step rfl (fun Kz hZ => ?_)
     rw [if_pos (by kernel_rfl)]
     go_simp
     obtain ⟨u1, hy⟩ : ∃ y_, y_ = u0.alloc (Obj.cells #[.bool false, .int .i64 0, .int .i64 0, .slice none 0 0, .int .i64 0, .int .i64 0, .int .i64 0] 26) := ⟨_, rfl⟩
     have kq : Below u0.heap.size u0 u1 := by rw [hy]; exact below_new _
     have F1 : MiBox u1 u0.heap.size ⟨false, 0, 0, [], 0, 0, 0⟩ (.slice none 0 0) := by rw [hy]; constructor <;> simp [go_sem]
     have p1 : wd9.heap.size ≤ u0.heap.size := hb0.size
     have hb1 : Below wd9.heap.size wd9 u1 := hb0.trans (kq.mono hb0.size)
     rw [← hy]
     clear hy kq
     refine hZ _ _ ⟨hb1, ?_⟩
     clear hZ Kz hi
     refine wpAnyH_all (rs := [1, 10]) (by kernel_rfl) (by simp) ?_
     intro i hi; rcases (by simpa using hi : i = 1 ∨ i = 10) with rfl | rfl
     · refine wpOp_step rfl (fun Kz hZ => ?_)
       rw [if_pos (by kernel_rfl)]
       go_simp
       go_at_call 20
       refine (toRg rg0 u1).mono ?_
       rintro e u2 ⟨rfl, kq⟩
       have F1 := F1.below kq F1.lt
       have hb2 : Below wd9.heap.size wd9 u2 := hb1.trans (kq.mono hb1.size)
       clear kq
       refine hZ _ _ ⟨hb2, ?_⟩
       clear hZ Kz hi
       refine wpAnyH_all (rs := [4, 10]) (by kernel_rfl) (by simp) ?_
       intro i hi; rcases (by simpa using hi : i = 4 ∨ i = 10) with rfl | rfl
       · refine wpOp_step rfl (fun Kz hZ => ?_)
         rw [if_pos (by kernel_rfl)]
         go_simp
         go_at_call 24
         refine (miTo m2 ad2 cap2 u2 (V2.below hb2 (V2.lt ikEnc_len (by omega))) hl).mono ?_
         rintro e u3 ⟨gT, rfl, _, _, oT, kq⟩
         have joT1 : ∀ g_, (Value.slice (some ⟨gT, 0, none⟩) m2.lg.length m2.lg.length).ownBlock = some g_ → g_ ≠ u0.heap.size := fun g_ e => by have h1 := (oT.lt g_ e).1; have h2 := F1.lt; omega
         have F1 := F1.below kq F1.lt
         have hb3 : Below wd9.heap.size wd9 u3 := hb2.trans (kq.mono hb2.size)
         clear kq
         refine hZ _ _ ⟨hb3, ?_⟩
         clear hZ Kz hi
         refine wpAnyH_all (rs := [5, 10]) (by kernel_rfl) (by simp) ?_
         intro i hi; rcases (by simpa using hi : i = 5 ∨ i = 10) with rfl | rfl
         · refine wpOp_step rfl (fun Kz hZ => ?_)
           rw [if_pos (by kernel_rfl)]
           go_simp
           go_at_call 28
           refine (takeIw rg0 n1 m2 (some ⟨gT, 0, none⟩) m2.lg.length u3 oT.view.2 (by omega) (fun e => by cases e)).mono ?_
           rintro e u4 ⟨aH, cH, rfl, OH, kq⟩
           rw [hD.out] at OH ⊢
           rw [hE.out, hO.out]
           have bsH := hb3.size
           have jOH1 : ∀ g_, (Value.slice aH D.lg.length cH).ownBlock = some g_ → g_ ≠ u0.heap.size := fun g_ e => by have h1 := (OH.lt g_ e).1; have h2 := F1.lt; omega
           have oT := oT.later kq
           have F1 := F1.below kq F1.lt
           have hb4 : Below wd9.heap.size wd9 u4 := hb3.trans (kq.mono hb3.size)
           clear kq
           refine hZ _ _ ⟨hb4, ?_⟩
           clear hZ Kz hi
           refine takeW 6 100 (.tuple #[.agg #[.int .i64 E.ep, .int .i64 E.ow, .int .i64 E.pa], .agg #[.bool D.up, .int .i64 D.li, .int .i64 D.ep, .slice aH D.lg.length cH, .int .i64 D.sd, .int .i64 D.ac, .int .i64 D.al], .bool o]) rfl rfl (by kernel_rfl) (by kernel_rfl) (by kernel_rfl) (fun _ _ _ h => h) (by kernel_rfl) (by (intro w hSw; go_simp)) (by assumption) ?_
           simp only [List.set_cons_zero, List.set_cons_succ]
           refine takeW 7 107 (.agg #[.int .i64 E.ep, .int .i64 E.ow, .int .i64 E.pa]) rfl rfl (by kernel_rfl) (by kernel_rfl) (by kernel_rfl) (fun _ _ _ h => h) (by kernel_rfl) (by (intro w hSw; go_simp)) (by assumption) ?_
           simp only [List.set_cons_zero, List.set_cons_succ]
           refine takeW 8 108 (.agg #[.bool D.up, .int .i64 D.li, .int .i64 D.ep, .slice aH D.lg.length cH, .int .i64 D.sd, .int .i64 D.ac, .int .i64 D.al]) rfl rfl (by kernel_rfl) (by kernel_rfl) (by kernel_rfl) (fun _ _ _ h => h) (by kernel_rfl) (by (intro w hSw; go_simp)) (by assumption) ?_
           simp only [List.set_cons_zero, List.set_cons_succ]
           refine takeW 9 109 (.bool o) rfl rfl (by kernel_rfl) (by kernel_rfl) (by kernel_rfl) (fun _ _ _ h => h) (by kernel_rfl) (by (intro w hSw; go_simp)) (by assumption) ?_
           simp only [List.set_cons_zero, List.set_cons_succ]
           refine wpAnyH_all (rs := [10]) (by kernel_rfl) (by simp) ?_
           intro i hi; obtain rfl : i = 10 := by simpa using hi
           refine wpOp_step rfl (fun Kz hZ => ?_)
           rw [if_pos (by kernel_rfl)]
           go_simp
           obtain ⟨u5, hy⟩ : ∃ y_, y_ = u4.alloc (Obj.cells #[.int .i64 0, .int .i64 0, .int .i64 0] 44) := ⟨_, rfl⟩
           have kq : Below u4.heap.size u4 u5 := by rw [hy]; exact below_new _
           have joT0 : ∀ g_, (Value.slice (some ⟨gT, 0, none⟩) m2.lg.length m2.lg.length).ownBlock = some g_ → g_ ≠ u4.heap.size := fun g_ e => by have h1 := (oT.lt g_ e).2; omega
           have jOH0 : ∀ g_, (Value.slice aH D.lg.length cH).ownBlock = some g_ → g_ ≠ u4.heap.size := fun g_ e => by have h1 := (OH.lt g_ e).2; omega
           have n01 : u4.heap.size ≠ u0.heap.size := by have h2 := F1.lt; omega
           have oT := oT.later kq
           have OH := OH.later kq
           have F1 := F1.below kq F1.lt
           have F0 : RgBox u5 u4.heap.size ⟨0, 0, 0⟩ := by rw [hy]; refine ⟨?_, fun i => ?_⟩; constructor <;> simp [go_sem]; simp [go_sem]
           have p0 : wd9.heap.size ≤ u4.heap.size := hb4.size
           have hb5 : Below wd9.heap.size wd9 u5 := hb4.trans (kq.mono hb4.size)
           rw [← hy]
           clear hy kq
           refine hZ _ _ ⟨hb5, ?_⟩
           clear hZ Kz hi
           refine relist 3 #[true, true, true, true, true, true, true, true, true, true, true, true, false, false, false] (by kernel_rfl) (by kernel_rfl) ?_
           exact hTT.out _ _ ⟨u4.heap.size, u0.heap.size, aH, cH, [(.agg #[.int .i64 rg0.ep, .int .i64 rg0.ow, .int .i64 rg0.pa]), (.agg #[.int .i64 rg0.ep, .int .i64 rg0.ow, .int .i64 rg0.pa]), (.int .i64 n1), (.agg #[.bool m2.up, .int .i64 m2.li, .int .i64 m2.ep, .slice ad2 m2.lg.length cap2, .int .i64 m2.sd, .int .i64 m2.ac, .int .i64 m2.al]), (.agg #[.bool m2.up, .int .i64 m2.li, .int .i64 m2.ep, .slice (some ⟨gT, 0, none⟩) m2.lg.length m2.lg.length, .int .i64 m2.sd, .int .i64 m2.ac, .int .i64 m2.al])], rfl, by kernel_rfl, F0, F1, p0, p1, n01, OH.base bsH, jOH0, jOH1, hb5⟩
         · refine wpOp_step rfl (fun Kz hZ => ?_)
           rw [if_pos (by kernel_rfl)]
           go_simp
           obtain ⟨u4, hy⟩ : ∃ y_, y_ = u3.alloc (Obj.cells #[.int .i64 0, .int .i64 0, .int .i64 0] 44) := ⟨_, rfl⟩
           have kq : Below u3.heap.size u3 u4 := by rw [hy]; exact below_new _
           have joT0 : ∀ g_, (Value.slice (some ⟨gT, 0, none⟩) m2.lg.length m2.lg.length).ownBlock = some g_ → g_ ≠ u3.heap.size := fun g_ e => by have h1 := (oT.lt g_ e).2; omega
           have n01 : u3.heap.size ≠ u0.heap.size := by have h2 := F1.lt; omega
           have oT := oT.later kq
           have F1 := F1.below kq F1.lt
           have F0 : RgBox u4 u3.heap.size ⟨0, 0, 0⟩ := by rw [hy]; refine ⟨?_, fun i => ?_⟩; constructor <;> simp [go_sem]; simp [go_sem]
           have p0 : wd9.heap.size ≤ u3.heap.size := hb3.size
           have hb4 : Below wd9.heap.size wd9 u4 := hb3.trans (kq.mono hb3.size)
           rw [← hy]
           clear hy kq
           refine hZ _ _ ⟨hb4, ?_⟩
           clear hZ Kz hi
           refine wpAnyH_all (rs := [5]) (by kernel_rfl) (by simp) ?_
           intro i hi; obtain rfl : i = 5 := by simpa using hi
           refine wpOp_step rfl (fun Kz hZ => ?_)
           rw [if_pos (by kernel_rfl)]
           go_simp
           go_at_call 28
           refine (takeIw rg0 n1 m2 (some ⟨gT, 0, none⟩) m2.lg.length u4 oT.view.2 (by omega) (fun e => by cases e)).mono ?_
           rintro e u5 ⟨aH, cH, rfl, OH, kq⟩
           rw [hD.out] at OH ⊢
           rw [hE.out, hO.out]
           have bsH := hb4.size
           have jOH1 : ∀ g_, (Value.slice aH D.lg.length cH).ownBlock = some g_ → g_ ≠ u0.heap.size := fun g_ e => by have h1 := (OH.lt g_ e).1; have h2 := F1.lt; omega
           have jOH0 : ∀ g_, (Value.slice aH D.lg.length cH).ownBlock = some g_ → g_ ≠ u3.heap.size := fun g_ e => by have h1 := (OH.lt g_ e).1; have h2 := F0.lt; omega
           have oT := oT.later kq
           have F1 := F1.below kq F1.lt
           have F0 := F0.below kq F0.lt
           have hb5 : Below wd9.heap.size wd9 u5 := hb4.trans (kq.mono hb4.size)
           clear kq
           refine hZ _ _ ⟨hb5, ?_⟩
           clear hZ Kz hi
           refine takeW 6 100 (.tuple #[.agg #[.int .i64 E.ep, .int .i64 E.ow, .int .i64 E.pa], .agg #[.bool D.up, .int .i64 D.li, .int .i64 D.ep, .slice aH D.lg.length cH, .int .i64 D.sd, .int .i64 D.ac, .int .i64 D.al], .bool o]) rfl rfl (by kernel_rfl) (by kernel_rfl) (by kernel_rfl) (fun _ _ _ h => h) (by kernel_rfl) (by (intro w hSw; go_simp)) (by assumption) ?_
           simp only [List.set_cons_zero, List.set_cons_succ]
           refine takeW 7 107 (.agg #[.int .i64 E.ep, .int .i64 E.ow, .int .i64 E.pa]) rfl rfl (by kernel_rfl) (by kernel_rfl) (by kernel_rfl) (fun _ _ _ h => h) (by kernel_rfl) (by (intro w hSw; go_simp)) (by assumption) ?_
           simp only [List.set_cons_zero, List.set_cons_succ]
           refine takeW 8 108 (.agg #[.bool D.up, .int .i64 D.li, .int .i64 D.ep, .slice aH D.lg.length cH, .int .i64 D.sd, .int .i64 D.ac, .int .i64 D.al]) rfl rfl (by kernel_rfl) (by kernel_rfl) (by kernel_rfl) (fun _ _ _ h => h) (by kernel_rfl) (by (intro w hSw; go_simp)) (by assumption) ?_
           simp only [List.set_cons_zero, List.set_cons_succ]
           refine takeW 9 109 (.bool o) rfl rfl (by kernel_rfl) (by kernel_rfl) (by kernel_rfl) (fun _ _ _ h => h) (by kernel_rfl) (by (intro w hSw; go_simp)) (by assumption) ?_
           simp only [List.set_cons_zero, List.set_cons_succ]
           refine relist 3 #[true, true, true, true, true, true, true, true, true, true, true, true, false, false, false] (by kernel_rfl) (by kernel_rfl) ?_
           exact hTT.out _ _ ⟨u3.heap.size, u0.heap.size, aH, cH, [(.agg #[.int .i64 rg0.ep, .int .i64 rg0.ow, .int .i64 rg0.pa]), (.agg #[.int .i64 rg0.ep, .int .i64 rg0.ow, .int .i64 rg0.pa]), (.int .i64 n1), (.agg #[.bool m2.up, .int .i64 m2.li, .int .i64 m2.ep, .slice ad2 m2.lg.length cap2, .int .i64 m2.sd, .int .i64 m2.ac, .int .i64 m2.al]), (.agg #[.bool m2.up, .int .i64 m2.li, .int .i64 m2.ep, .slice (some ⟨gT, 0, none⟩) m2.lg.length m2.lg.length, .int .i64 m2.sd, .int .i64 m2.ac, .int .i64 m2.al])], rfl, by kernel_rfl, F0, F1, p0, p1, n01, OH.base bsH, jOH0, jOH1, hb5⟩
       · refine wpOp_step rfl (fun Kz hZ => ?_)
         rw [if_pos (by kernel_rfl)]
         go_simp
         obtain ⟨u3, hy⟩ : ∃ y_, y_ = u2.alloc (Obj.cells #[.int .i64 0, .int .i64 0, .int .i64 0] 44) := ⟨_, rfl⟩
         have kq : Below u2.heap.size u2 u3 := by rw [hy]; exact below_new _
         have n01 : u2.heap.size ≠ u0.heap.size := by have h2 := F1.lt; omega
         have F1 := F1.below kq F1.lt
         have F0 : RgBox u3 u2.heap.size ⟨0, 0, 0⟩ := by rw [hy]; refine ⟨?_, fun i => ?_⟩; constructor <;> simp [go_sem]; simp [go_sem]
         have p0 : wd9.heap.size ≤ u2.heap.size := hb2.size
         have hb3 : Below wd9.heap.size wd9 u3 := hb2.trans (kq.mono hb2.size)
         rw [← hy]
         clear hy kq
         refine hZ _ _ ⟨hb3, ?_⟩
         clear hZ Kz hi
         refine wpAnyH_all (rs := [4]) (by kernel_rfl) (by simp) ?_
         intro i hi; obtain rfl : i = 4 := by simpa using hi
         refine wpOp_step rfl (fun Kz hZ => ?_)
         rw [if_pos (by kernel_rfl)]
         go_simp
         go_at_call 24
         refine (miTo m2 ad2 cap2 u3 (V2.below hb3 (V2.lt ikEnc_len (by omega))) hl).mono ?_
         rintro e u4 ⟨gT, rfl, _, _, oT, kq⟩
         have joT1 : ∀ g_, (Value.slice (some ⟨gT, 0, none⟩) m2.lg.length m2.lg.length).ownBlock = some g_ → g_ ≠ u0.heap.size := fun g_ e => by have h1 := (oT.lt g_ e).1; have h2 := F1.lt; omega
         have joT0 : ∀ g_, (Value.slice (some ⟨gT, 0, none⟩) m2.lg.length m2.lg.length).ownBlock = some g_ → g_ ≠ u2.heap.size := fun g_ e => by have h1 := (oT.lt g_ e).1; have h2 := F0.lt; omega
         have F1 := F1.below kq F1.lt
         have F0 := F0.below kq F0.lt
         have hb4 : Below wd9.heap.size wd9 u4 := hb3.trans (kq.mono hb3.size)
         clear kq
         refine hZ _ _ ⟨hb4, ?_⟩
         clear hZ Kz hi
         refine wpAnyH_all (rs := [5]) (by kernel_rfl) (by simp) ?_
         intro i hi; obtain rfl : i = 5 := by simpa using hi
         refine wpOp_step rfl (fun Kz hZ => ?_)
         rw [if_pos (by kernel_rfl)]
         go_simp
         go_at_call 28
         refine (takeIw rg0 n1 m2 (some ⟨gT, 0, none⟩) m2.lg.length u4 oT.view.2 (by omega) (fun e => by cases e)).mono ?_
         rintro e u5 ⟨aH, cH, rfl, OH, kq⟩
         rw [hD.out] at OH ⊢
         rw [hE.out, hO.out]
         have bsH := hb4.size
         have jOH1 : ∀ g_, (Value.slice aH D.lg.length cH).ownBlock = some g_ → g_ ≠ u0.heap.size := fun g_ e => by have h1 := (OH.lt g_ e).1; have h2 := F1.lt; omega
         have jOH0 : ∀ g_, (Value.slice aH D.lg.length cH).ownBlock = some g_ → g_ ≠ u2.heap.size := fun g_ e => by have h1 := (OH.lt g_ e).1; have h2 := F0.lt; omega
         have oT := oT.later kq
         have F1 := F1.below kq F1.lt
         have F0 := F0.below kq F0.lt
         have hb5 : Below wd9.heap.size wd9 u5 := hb4.trans (kq.mono hb4.size)
         clear kq
         refine hZ _ _ ⟨hb5, ?_⟩
         clear hZ Kz hi
         refine takeW 6 100 (.tuple #[.agg #[.int .i64 E.ep, .int .i64 E.ow, .int .i64 E.pa], .agg #[.bool D.up, .int .i64 D.li, .int .i64 D.ep, .slice aH D.lg.length cH, .int .i64 D.sd, .int .i64 D.ac, .int .i64 D.al], .bool o]) rfl rfl (by kernel_rfl) (by kernel_rfl) (by kernel_rfl) (fun _ _ _ h => h) (by kernel_rfl) (by (intro w hSw; go_simp)) (by assumption) ?_
         simp only [List.set_cons_zero, List.set_cons_succ]
         refine takeW 7 107 (.agg #[.int .i64 E.ep, .int .i64 E.ow, .int .i64 E.pa]) rfl rfl (by kernel_rfl) (by kernel_rfl) (by kernel_rfl) (fun _ _ _ h => h) (by kernel_rfl) (by (intro w hSw; go_simp)) (by assumption) ?_
         simp only [List.set_cons_zero, List.set_cons_succ]
         refine takeW 8 108 (.agg #[.bool D.up, .int .i64 D.li, .int .i64 D.ep, .slice aH D.lg.length cH, .int .i64 D.sd, .int .i64 D.ac, .int .i64 D.al]) rfl rfl (by kernel_rfl) (by kernel_rfl) (by kernel_rfl) (fun _ _ _ h => h) (by kernel_rfl) (by (intro w hSw; go_simp)) (by assumption) ?_
         simp only [List.set_cons_zero, List.set_cons_succ]
         refine takeW 9 109 (.bool o) rfl rfl (by kernel_rfl) (by kernel_rfl) (by kernel_rfl) (fun _ _ _ h => h) (by kernel_rfl) (by (intro w hSw; go_simp)) (by assumption) ?_
         simp only [List.set_cons_zero, List.set_cons_succ]
         refine relist 3 #[true, true, true, true, true, true, true, true, true, true, true, true, false, false, false] (by kernel_rfl) (by kernel_rfl) ?_
         exact hTT.out _ _ ⟨u2.heap.size, u0.heap.size, aH, cH, [(.agg #[.int .i64 rg0.ep, .int .i64 rg0.ow, .int .i64 rg0.pa]), (.agg #[.int .i64 rg0.ep, .int .i64 rg0.ow, .int .i64 rg0.pa]), (.int .i64 n1), (.agg #[.bool m2.up, .int .i64 m2.li, .int .i64 m2.ep, .slice ad2 m2.lg.length cap2, .int .i64 m2.sd, .int .i64 m2.ac, .int .i64 m2.al]), (.agg #[.bool m2.up, .int .i64 m2.li, .int .i64 m2.ep, .slice (some ⟨gT, 0, none⟩) m2.lg.length m2.lg.length, .int .i64 m2.sd, .int .i64 m2.ac, .int .i64 m2.al])], rfl, by kernel_rfl, F0, F1, p0, p1, n01, OH.base bsH, jOH0, jOH1, hb5⟩
     · refine wpOp_step rfl (fun Kz hZ => ?_)
       rw [if_pos (by kernel_rfl)]
       go_simp
       obtain ⟨u2, hy⟩ : ∃ y_, y_ = u1.alloc (Obj.cells #[.int .i64 0, .int .i64 0, .int .i64 0] 44) := ⟨_, rfl⟩
       have kq : Below u1.heap.size u1 u2 := by rw [hy]; exact below_new _
       have n01 : u1.heap.size ≠ u0.heap.size := by have h2 := F1.lt; omega
       have F1 := F1.below kq F1.lt
       have F0 : RgBox u2 u1.heap.size ⟨0, 0, 0⟩ := by rw [hy]; refine ⟨?_, fun i => ?_⟩; constructor <;> simp [go_sem]; simp [go_sem]
       have p0 : wd9.heap.size ≤ u1.heap.size := hb1.size
       have hb2 : Below wd9.heap.size wd9 u2 := hb1.trans (kq.mono hb1.size)
       rw [← hy]
       clear hy kq
       refine hZ _ _ ⟨hb2, ?_⟩
       clear hZ Kz hi
       refine wpAnyH_all (rs := [1]) (by kernel_rfl) (by simp) ?_
       intro i hi; obtain rfl : i = 1 := by simpa using hi
       refine wpOp_step rfl (fun Kz hZ => ?_)
       rw [if_pos (by kernel_rfl)]
       go_simp
       go_at_call 20
       refine (toRg rg0 u2).mono ?_
       rintro e u3 ⟨rfl, kq⟩
       have F1 := F1.below kq F1.lt
       have F0 := F0.below kq F0.lt
       have hb3 : Below wd9.heap.size wd9 u3 := hb2.trans (kq.mono hb2.size)
       clear kq
       refine hZ _ _ ⟨hb3, ?_⟩
       clear hZ Kz hi
       refine wpAnyH_all (rs := [4]) (by kernel_rfl) (by simp) ?_
       intro i hi; obtain rfl : i = 4 := by simpa using hi
       refine wpOp_step rfl (fun Kz hZ => ?_)
       rw [if_pos (by kernel_rfl)]
       go_simp
       go_at_call 24
       refine (miTo m2 ad2 cap2 u3 (V2.below hb3 (V2.lt ikEnc_len (by omega))) hl).mono ?_
       rintro e u4 ⟨gT, rfl, _, _, oT, kq⟩
       have joT1 : ∀ g_, (Value.slice (some ⟨gT, 0, none⟩) m2.lg.length m2.lg.length).ownBlock = some g_ → g_ ≠ u0.heap.size := fun g_ e => by have h1 := (oT.lt g_ e).1; have h2 := F1.lt; omega
       have joT0 : ∀ g_, (Value.slice (some ⟨gT, 0, none⟩) m2.lg.length m2.lg.length).ownBlock = some g_ → g_ ≠ u1.heap.size := fun g_ e => by have h1 := (oT.lt g_ e).1; have h2 := F0.lt; omega
       have F1 := F1.below kq F1.lt
       have F0 := F0.below kq F0.lt
       have hb4 : Below wd9.heap.size wd9 u4 := hb3.trans (kq.mono hb3.size)
       clear kq
       refine hZ _ _ ⟨hb4, ?_⟩
       clear hZ Kz hi
       refine wpAnyH_all (rs := [5]) (by kernel_rfl) (by simp) ?_
       intro i hi; obtain rfl : i = 5 := by simpa using hi
       refine wpOp_step rfl (fun Kz hZ => ?_)
       rw [if_pos (by kernel_rfl)]
       go_simp
       go_at_call 28
       refine (takeIw rg0 n1 m2 (some ⟨gT, 0, none⟩) m2.lg.length u4 oT.view.2 (by omega) (fun e => by cases e)).mono ?_
       rintro e u5 ⟨aH, cH, rfl, OH, kq⟩
       rw [hD.out] at OH ⊢
       rw [hE.out, hO.out]
       have bsH := hb4.size
       have jOH1 : ∀ g_, (Value.slice aH D.lg.length cH).ownBlock = some g_ → g_ ≠ u0.heap.size := fun g_ e => by have h1 := (OH.lt g_ e).1; have h2 := F1.lt; omega
       have jOH0 : ∀ g_, (Value.slice aH D.lg.length cH).ownBlock = some g_ → g_ ≠ u1.heap.size := fun g_ e => by have h1 := (OH.lt g_ e).1; have h2 := F0.lt; omega
       have oT := oT.later kq
       have F1 := F1.below kq F1.lt
       have F0 := F0.below kq F0.lt
       have hb5 : Below wd9.heap.size wd9 u5 := hb4.trans (kq.mono hb4.size)
       clear kq
       refine hZ _ _ ⟨hb5, ?_⟩
       clear hZ Kz hi
       refine takeW 6 100 (.tuple #[.agg #[.int .i64 E.ep, .int .i64 E.ow, .int .i64 E.pa], .agg #[.bool D.up, .int .i64 D.li, .int .i64 D.ep, .slice aH D.lg.length cH, .int .i64 D.sd, .int .i64 D.ac, .int .i64 D.al], .bool o]) rfl rfl (by kernel_rfl) (by kernel_rfl) (by kernel_rfl) (fun _ _ _ h => h) (by kernel_rfl) (by (intro w hSw; go_simp)) (by assumption) ?_
       simp only [List.set_cons_zero, List.set_cons_succ]
       refine takeW 7 107 (.agg #[.int .i64 E.ep, .int .i64 E.ow, .int .i64 E.pa]) rfl rfl (by kernel_rfl) (by kernel_rfl) (by kernel_rfl) (fun _ _ _ h => h) (by kernel_rfl) (by (intro w hSw; go_simp)) (by assumption) ?_
       simp only [List.set_cons_zero, List.set_cons_succ]
       refine takeW 8 108 (.agg #[.bool D.up, .int .i64 D.li, .int .i64 D.ep, .slice aH D.lg.length cH, .int .i64 D.sd, .int .i64 D.ac, .int .i64 D.al]) rfl rfl (by kernel_rfl) (by kernel_rfl) (by kernel_rfl) (fun _ _ _ h => h) (by kernel_rfl) (by (intro w hSw; go_simp)) (by assumption) ?_
       simp only [List.set_cons_zero, List.set_cons_succ]
       refine takeW 9 109 (.bool o) rfl rfl (by kernel_rfl) (by kernel_rfl) (by kernel_rfl) (fun _ _ _ h => h) (by kernel_rfl) (by (intro w hSw; go_simp)) (by assumption) ?_
       simp only [List.set_cons_zero, List.set_cons_succ]
       refine relist 3 #[true, true, true, true, true, true, true, true, true, true, true, true, false, false, false] (by kernel_rfl) (by kernel_rfl) ?_
       exact hTT.out _ _ ⟨u1.heap.size, u0.heap.size, aH, cH, [(.agg #[.int .i64 rg0.ep, .int .i64 rg0.ow, .int .i64 rg0.pa]), (.agg #[.int .i64 rg0.ep, .int .i64 rg0.ow, .int .i64 rg0.pa]), (.int .i64 n1), (.agg #[.bool m2.up, .int .i64 m2.li, .int .i64 m2.ep, .slice ad2 m2.lg.length cap2, .int .i64 m2.sd, .int .i64 m2.ac, .int .i64 m2.al]), (.agg #[.bool m2.up, .int .i64 m2.li, .int .i64 m2.ep, .slice (some ⟨gT, 0, none⟩) m2.lg.length m2.lg.length, .int .i64 m2.sd, .int .i64 m2.ac, .int .i64 m2.al])], rfl, by kernel_rfl, F0, F1, p0, p1, n01, OH.base bsH, jOH0, jOH1, hb5⟩
 clear hb0 u0
 rintro l' ct0 ⟨PH, MH, aH, cH, us, hul, rfl, F0, F1, p0, p1, n01, OH, jOH0, jOH1, chc0⟩
 obtain ⟨v101, us, rfl⟩ : ∃ a b, us = a :: b := List.exists_cons_of_length_eq_add_one hul
 replace hul := Nat.succ.inj hul
 obtain ⟨v102, us, rfl⟩ : ∃ a b, us = a :: b := List.exists_cons_of_length_eq_add_one hul
 replace hul := Nat.succ.inj hul
 obtain ⟨v103, us, rfl⟩ : ∃ a b, us = a :: b := List.exists_cons_of_length_eq_add_one hul
 replace hul := Nat.succ.inj hul
 obtain ⟨v104, us, rfl⟩ : ∃ a b, us = a :: b := List.exists_cons_of_length_eq_add_one hul
 replace hul := Nat.succ.inj hul
 obtain ⟨v105, us, rfl⟩ : ∃ a b, us = a :: b := List.exists_cons_of_length_eq_add_one hul
 replace hul := Nat.succ.inj hul
 obtain rfl : us = [] := List.eq_nil_of_length_eq_zero hul
 clear hul
 simp only [List.take, List.drop, List.cons_append, List.nil_append]
 refine wpAnyH_all (rs := [12]) (by kernel_rfl) (by simp) ?_
 intro i hi; obtain rfl : i = 12 := by simpa using hi
 refine wpOp_step rfl (fun Kz hZ => ?_)
 rw [if_pos (by kernel_rfl)]
 have cc := F0
 obtain ⟨⟨z0, z1, z2⟩, zf⟩ := cc
 have z3 := zf 0
 have z4 := zf 1
 have z5 := zf 2
 go_simp
 clear z0 z1 z2 z3 z4 z5 zf
 obtain ⟨ct1, cht1⟩ : ∃ y_, y_ = (((ct0.setCell ⟨PH, 0, none⟩ (.int .i64 E.ep)).setCell ⟨PH, 1, none⟩ (.int .i64 E.ow)).setCell ⟨PH, 2, none⟩ (.int .i64 E.pa)) := ⟨_, rfl⟩
 have QH : RgAt ct1 PH E := by rw [cht1]; exact (F0.put E).at_
 have kp : ∀ k, k ≠ PH → ct1.heap[k]? = ct0.heap[k]? := fun k hk => by rw [cht1]; exact heap_put3 _ _ _ E hk
 have F1 := F1.keep (kp _ (fun e => n01 e.symm))
 have OH := OH.keep (fun g e => kp g (jOH0 g e))
 have chc1 : Below wd9.heap.size wd9 ct1 := by rw [cht1]; exact below_put3 E chc0 p0
 rw [← cht1]
 clear cht1 F0 chc0 kp
 refine hZ _ _ ⟨chc1, ?_⟩
 clear hZ Kz hi
 refine wpAnyH_all (rs := [13]) (by kernel_rfl) (by simp) ?_
 intro i hi; obtain rfl : i = 13 := by simpa using hi
 refine wpOp_step rfl (fun Kz hZ => ?_)
 rw [if_pos (by kernel_rfl)]
 have cc := F1
 obtain ⟨z0, z1, z2, z3, z4, z5, z6, zf⟩ := cc
 have y0 := zf 0
 have y1 := zf 1
 have y2 := zf 2
 have y3 := zf 3
 have y4 := zf 4
 have y5 := zf 5
 have y6 := zf 6
 go_simp
 clear z0 z1 z2 z3 z4 z5 z6 zf y0 y1 y2 y3 y4 y5 y6
 obtain ⟨ct2, cht2⟩ : ∃ y_, y_ = (((((((ct1.setCell ⟨MH, 0, none⟩ (.bool D.up)).setCell ⟨MH, 1, none⟩ (.int .i64 D.li)).setCell ⟨MH, 2, none⟩ (.int .i64 D.ep)).setCell ⟨MH, 3, none⟩ (.slice aH D.lg.length cH)).setCell ⟨MH, 4, none⟩ (.int .i64 D.sd)).setCell ⟨MH, 5, none⟩ (.int .i64 D.ac)).setCell ⟨MH, 6, none⟩ (.int .i64 D.al)) := ⟨_, rfl⟩
 have AH : MiAt ct2 MH D (.slice aH D.lg.length cH) := by rw [cht2]; exact (F1.put D _).at_
 have kp : ∀ k, k ≠ MH → ct2.heap[k]? = ct1.heap[k]? := fun k hk => by rw [cht2]; exact heap_put7 _ _ _ D _ hk
 have QH := QH.keep (kp _ n01)
 have OH := OH.keep (fun g e => kp g (jOH1 g e))
 have chc2 : Below wd9.heap.size wd9 ct2 := by rw [cht2]; exact below_put7 D _ chc1 p1
 rw [← cht2]
 clear cht2 F1 chc1 kp n01
 refine hZ _ _ ⟨chc2, ?_⟩
 clear hZ Kz hi
 refine takeW 14 20 (.bool o) rfl rfl (by kernel_rfl) (by kernel_rfl) (by kernel_rfl) (fun _ _ _ h => h) (by kernel_rfl) (by (intro w hSw; go_simp)) (by assumption) ?_
 simp only [List.set_cons_zero, List.set_cons_succ]
 refine wpAnyH_done (by kernel_rfl) ?_ _
 have cst2 := chc2.size
 have A0 := A0.below chc2 A0.lt
 have QW := QW.below chc2 QW.lt
 have QG := QG.below chc2 QG.lt
 have A2 := A2.below chc2 A2.lt
 have AW := AW.below chc2 AW.lt
 have AX := AX.below chc2 AX.lt
 have AG := AG.below chc2 AG.lt
 have V2 := V2.below chc2 (V2.lt ikEnc_len (by omega))
 have OW := OW.later chc2
 have OG := OG.later chc2
 have BW := BW.trans (chc2.mono BW.size)
 clear chc2
 have lqH := QH.lt
 have lmH := AH.lt
 have iOH : ∀ g, (Value.slice aH D.lg.length cH).ownBlock = some g → wd9.heap.size ≤ g ∧ g < ct2.heap.size := fun g e => OH.lt g e
 have cc := QH
 obtain ⟨m0_0, m0_1, m0_2⟩ := cc
 have cc := QW
 obtain ⟨m1_0, m1_1, m1_2⟩ := cc
 go_wp2_with fail
 go_at_call 29
 clear m0_0 m0_1 m0_2 m1_0 m1_1 m1_2
 refine (eqRg E ct2).mono ?_
 rintro e wd10 ⟨rfl, kq⟩
 have swd10 := kq.size
 have A0 := A0.below kq A0.lt
 have QW := QW.below kq QW.lt
 have QG := QG.below kq QG.lt
 have QH := QH.below kq QH.lt
 have A2 := A2.below kq A2.lt
 have AW := AW.below kq AW.lt
 have AX := AX.below kq AX.lt
 have AG := AG.below kq AG.lt
 have AH := AH.below kq AH.lt
 have V2 := V2.below kq (V2.lt ikEnc_len (by omega))
 have OW := OW.later kq
 have OG := OG.later kq
 have OH := OH.later kq
 have BW := BW.trans (kq.mono BW.size)
 clear kq
 have cc := AH
 obtain ⟨m0_0, m0_1, m0_2, m0_3, m0_4, m0_5, m0_6⟩ := cc
 have cc := AW
 obtain ⟨m1_0, m1_1, m1_2, m1_3, m1_4, m1_5, m1_6⟩ := cc
 go_wp2_with fail
 go_at_call 26
 clear m0_0 m0_1 m0_2 m0_3 m0_4 m0_5 m0_6 m1_0 m1_1 m1_2 m1_3 m1_4 m1_5 m1_6
 refine (miEq D aH aW cH cW wd10 OH.view.2 OW.view.2 hDl).mono ?_
 rintro e wd11 ⟨rfl, kq⟩
 have swd11 := kq.size
 have A0 := A0.below kq A0.lt
 have QW := QW.below kq QW.lt
 have QG := QG.below kq QG.lt
 have QH := QH.below kq QH.lt
 have A2 := A2.below kq A2.lt
 have AW := AW.below kq AW.lt
 have AX := AX.below kq AX.lt
 have AG := AG.below kq AG.lt
 have AH := AH.below kq AH.lt
 have V2 := V2.below kq (V2.lt ikEnc_len (by omega))
 have OW := OW.later kq
 have OG := OG.later kq
 have OH := OH.later kq
 have BW := BW.trans (kq.mono BW.size)
 clear kq
 have cc := AG
 obtain ⟨m0_0, m0_1, m0_2, m0_3, m0_4, m0_5, m0_6⟩ := cc
 go_wp2_with fail
 go_at_call 31
 clear m0_0 m0_1 m0_2 m0_3 m0_4 m0_5 m0_6
 refine (miHeld D aG cG 1 wd11 (by have := OG.view.2; exact this) hDl (by decide) (by decide)).mono ?_
 rintro e wd12 ⟨rfl, kq⟩
 have swd12 := kq.size
 have A0 := A0.below kq A0.lt
 have QW := QW.below kq QW.lt
 have QG := QG.below kq QG.lt
 have QH := QH.below kq QH.lt
 have A2 := A2.below kq A2.lt
 have AW := AW.below kq AW.lt
 have AX := AX.below kq AX.lt
 have AG := AG.below kq AG.lt
 have AH := AH.below kq AH.lt
 have V2 := V2.below kq (V2.lt ikEnc_len (by omega))
 have OW := OW.later kq
 have OG := OG.later kq
 have OH := OH.later kq
 have BW := BW.trans (kq.mono BW.size)
 clear kq
 rw [← hm.out]
 go_wp2
 go_ret
 exact ⟨rfl, BW⟩


set_option maxRecDepth 100000 in
theorem lifted (os : Os) (started : os.Started) (H : Type) (enc : TypeId × Value → H) :
    ReturnsInHanded {} Try.checked os 6 .any (Rows.fnExactTakeSpec.pre6 enc Try.prog Try.f6 Rows.fnExactTakeRow.domain false) (Rows.fnExactTakeSpec.post enc Try.prog Try.f6 false true false false) := by
  refine returnsInHanded_of_change (C := Try.checked) own started (by kernel_rfl) Try.func6
    (ChangeSpec.witness6 (enc := enc) (C := Try.checked) false ⟨#[], #[.agg #[.int .i64 0, .int .i64 0, .int .i64 0], .int .i64 0, .agg #[.bool false, .int .i64 0, .int .i64 0, .slice none 0 0, .int .i64 0, .int .i64 0, .int .i64 0]], []⟩ 8 (by kernel_rfl) (by kernel_rfl) (by kernel_rfl) (by kernel_rfl)) ?_
  intro W base args ds gs before hval0 hW hcnd _
  have hval : ∀ (j : Nat) t v, Try.f6.params[j]? = some t → args[j]? = some v → Value.okWide Try.prog W .any base t v := hval0
  have hW' := hW
  obtain ⟨p, q, hA0, hV, rfl, hfz, hnd⟩ := hW
  have hA : DataW.TrodAll enc Try.prog W 0 (fun _ => true) true Try.f6.params.toList args.toList ds p := hA0
  rw [Try.params6] at hA hval
  obtain ⟨v0, vs0, d0, ds0, p0, q0, hargs, rfl, rfl, h0, r0⟩ := trodAll_cons hA
  obtain ⟨v1, vs1, d1, ds1, p1, q1, rfl, rfl, rfl, h1, r1⟩ := trodAll_cons r0
  obtain ⟨v2, vs2, d2, ds2, p2, q2, rfl, rfl, rfl, h2, r2⟩ := trodAll_cons r1
  obtain ⟨rfl, rfl, rfl⟩ := trodAll_nil r2
  obtain rfl : args = #[v0, v1, v2] := by cases args; simp_all
  obtain ⟨rfl, rfl⟩ := trodVars_none hV
  obtain ⟨rg0, rfl, I0⟩ := rgIn_open (hval 0 42 v0 rfl rfl) h0
  have lt0 : ∀ x ∈ p0, x.block < W.heap.size := by obtain ⟨m, hm⟩ := h0; exact DataW.trod_lt m _ _ _ hm
  obtain ⟨n1, rfl, I1⟩ := intIn_open (hval 1 3 v1 rfl rfl) h1
  have lt1 : ∀ x ∈ p1, x.block < W.heap.size := by obtain ⟨m, hm⟩ := h1; exact DataW.trod_lt m _ _ _ hm
  obtain ⟨m2, ad2, cap2, rfl, I2⟩ := miIn_open (hval 2 49 v2 rfl rfl) h2
  have lt2 : ∀ x ∈ p2, x.block < W.heap.size := by obtain ⟨m, hm⟩ := h2; exact DataW.trod_lt m _ _ _ hm
  clear hA0 hval0
  refine (walk rg0 n1 m2 ad2 cap2 W I0 I1 I2).mono fun e W' ⟨he, bel⟩ => ?_
  subst he
  exact ⟨_, rfl, _, _, _, [], _, [], hW', trodAll_mk1 (shut_bool Try.underlying4 _), (trodAll_cons_mk (Below.trod laidOut (by kernel_rfl) (of_decide_eq_true (by kernel_rfl)) h0 bel lt0) (trodAll_cons_mk (Below.trod laidOut (by kernel_rfl) (of_decide_eq_true (by kernel_rfl)) h1 bel lt1) (trodAll_cons_mk (Below.trod laidOut (by kernel_rfl) (of_decide_eq_true (by kernel_rfl)) h2 bel lt2) trodAll_mk0))), rfl, bel.frame _, fun h => by cases h⟩

theorem over : Rows.fnExactTakeRow.holds Try.pinned (OpenSpec.ofChange Rows.fnExactTakeSpec) :=
  OpenClaim.holds_of_wide 6 Try.f6 rfl rfl rfl rfl rfl rfl rfl ⟨rfl, rfl, rfl, rfl, rfl⟩ rfl rfl rfl rfl rfl (by kernel_rfl) Try.func6 (by kernel_rfl)
    (of_decide_eq_true (by kernel_rfl)) (by unfold Func.isWrapper; first | (rw [if_pos (by decide +kernel)]; kernel_rfl) | (rw [if_neg (by decide +kernel)]; exact ⟨rfl, rfl⟩))
    (fun os started H enc _ => lifted os started H enc)

theorem proved : Rows.FnExactTakeSaid := over
end Go.Proofs.Ytplejmkbdonkpaa.fnExactTake
namespace Go.Proofs.Ytplejmkbdonkpaa
theorem take_holds : Rows.FnExactTakeSaid := fnExactTake.proved
#print axioms take_holds
end Go.Proofs.Ytplejmkbdonkpaa
