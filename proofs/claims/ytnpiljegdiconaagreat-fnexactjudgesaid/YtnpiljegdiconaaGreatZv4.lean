/- spec.JudgeSaid. (*minding).fits, walked. (*minding).fall, walked. impl.isFallen, impl.MinderOk, walked. impl.isNoMinder, isNoIn, loadFits, isNoWire, walked. slices.ContainsFunc of minders, wires and Ins, walked. impl.RegOk, walked. impl.BoxOk, walked. impl.judge. impl.saidBehind, walked. The rules of the judge: what was said. impl.JudgeSaid. -/
import Derived.Test.YtnpiljegdiconaaGreatZv3
import Derived.Test.YtnpiljegdiconaaGreatRows
import Derived.WalkKit
import Derived.ProofKit
import Derived.OpenShut
import Derived.ShutString
import Derived.ChangeOld
import Derived.Below
import Derived.Deep.QuietTactic
import Derived.BigQuiet
import Derived.WalkSmall
import Derived.Laws.OwnMore
import Derived.WalkSpells
import Derived.WalkLawsBesides
import Derived.Deep.Cut
import Derived.Laws.StructEq
import Derived.Maps.AppendAt
import Derived.Test.YtnpiljegdiconaaGreatZv1
import Derived.Test.YtnpiljegdiconaaGreatTakes
import Derived.Lib.SliceRun
import Derived.Test.YtnpiljegdiconaaGreatMi1
import Derived.Test.YtnpiljegdiconaaGreatIs1
import Derived.Test.YtnpiljegdiconaaGreatIn2
import Derived.Test.YtnpiljegdiconaaGreatBxd1
import Derived.Test.YtnpiljegdiconaaGreatBr9
import Derived.Defers
import Derived.Recover
import Derived.Shelf.Abstract
import Derived.Lib.AppendZeros
import Derived.Test.YtnpiljegdiconaaGreatRe3
namespace Go.Proofs.YtnpiljegdiconaaGreat
open Go.ChangeShapes Go.WideShapes Go.ChangeAt Go.RowKit
open Go.ChangeMaps (open_string shut_string)
set_option linter.unusedVariables false
set_option maxRecDepth 100000

set_option linter.unusedSimpArgs false in
set_option maxHeartbeats 16000000 in
theorem jSaidS (x : BxD) (w : World) (hJ : BxJ w x) :
    Calls Tryz.prog 46 #[.agg #[.int .i64 x.id, .int .i64 x.po, .int .i64 x.rg.ep, .int .i64 x.rg.ow, .int .i64 x.rg.pa, .slice x.aT x.two.length x.cT, .slice x.aN x.net.length x.cN, .slice x.aG x.ga.length x.cG, .slice x.aL x.ln.length x.cL, .slice x.aS x.sd.length x.cS]] w fun e w' => YN e (bxOk x.p = true ∧ saidJ x.p) ∧ Below w.heap.size w w' := by
  obtain ⟨i0, hi, hz0, hz1, hz2⟩ := info_parts ouInfo
  obtain ⟨Q, hQ⟩ : ∃ Q : Prop, Q = (bxOk x.p = true ∧ saidJ x.p) := ⟨_, rfl⟩
  rw [← hQ]
  replace hQ : Hid _ := hQ
  obtain ⟨y, hy⟩ : ∃ y, y = w.alloc (Obj.cells #[.int .i64 x.id, .int .i64 x.po, .int .i64 x.rg.ep, .int .i64 x.rg.ow, .int .i64 x.rg.pa, .slice x.aT x.two.length x.cT, .slice x.aN x.net.length x.cN, .slice x.aG x.ga.length x.cG, .slice x.aL x.ln.length x.cL, .slice x.aS x.sd.length x.cS] 48) := ⟨_, rfl⟩
  have B : Below w.heap.size w y := by rw [hy]; exact below_new _
  have A : BxAt y w.heap.size x := by rw [hy]; exact BxAt.new w _ x
  have J := hJ.later B
  go_enter Tryz.func46, Tryz.ntmps46
  go_upto_region 1 with fail
  rw [← hy]
  clear hy
  have cc := A
  obtain ⟨a0, a1, a2, a3, a4, a5, a6, a7, a8, a9⟩ := cc
  go_wp2_with fail
  go_at_call 33
  clear a0 a1 a2 a3 a4 a5 a6 a7 a8 a9
  refine (boxOkS x y J.v).mono ?_
  rintro e u1 ⟨rfl, kq⟩
  have A := A.below kq A.lt
  have J := J.later kq
  have B := B.trans (kq.mono B.size)
  clear kq
  obtain ⟨ob, hob⟩ : ∃ b, bxOk x.p = b := ⟨_, rfl⟩
  rw [hob]
  cases ob
  · replace hob : Hid _ := hob
    go_wp2
    go_ret
    exact ⟨YN.no (fun q_ => by have h1 := (hQ.out ▸ q_ : bxOk x.p = true ∧ saidJ x.p).1; rw [hob.out] at h1; cases h1), B⟩
  have hb := hob
  have hln : x.ln.length ≤ 60 := (bxOk_smJ hb).2.2.2.2.1
  have hsd : x.sd.length ≤ 40 := (bxOk_smJ hb).2.2.2.2.2
  have hNl := newL_small x.id x.po
  obtain ⟨I, hI⟩ : ∃ v, newI x.id x.po = v := ⟨_, rfl⟩
  obtain ⟨N, hN⟩ : ∃ v, newL x.id x.po = v := ⟨_, rfl⟩
  have hQ2 : Hid (Q ↔ lastS (outsA I N x.ln) = x.sd) := by unfold Hid; rw [hQ.out, ← hI, ← hN]; exact ⟨fun h => h.2, fun h => ⟨hb, h⟩⟩
  rw [hN] at hNl
  replace hI : Hid _ := hI
  replace hN : Hid _ := hN
  clear hQ hob hb
  go_upto_region 4 with fail
  obtain ⟨y1, hy1⟩ : ∃ y_, y_ = u1.alloc (Obj.cells #[] 114) := ⟨_, rfl⟩
  rw [← hy1]
  have F0 : FOwn ouEnc 8 114 u1.heap.size y1 (.slice (some ⟨u1.heap.size, 0, none⟩) 0 0) [] := by rw [hy1]; exact FOwn.empty u1
  have kq : Below u1.heap.size u1 y1 := by rw [hy1]; exact below_new _
  clear hy1
  have lA := A.lt
  have A := A.below kq A.lt
  have B := B.trans (kq.mono B.size)
  have F := F0.base (base' := w.heap.size + 1) (by omega)
  have lF0 := F0.lt
  have sy1 := kq.size
  clear kq F0 J
  have cc := A
  obtain ⟨a0, a1, a2, a3, a4, a5, a6, a7, a8, a9⟩ := cc
  go_wp2_with fail
  go_at_call 30
  clear a0 a1 a2 a3 a4 a5 a6 a7 a8 a9
  refine (newBS x.id x.po y1).mono ?_
  rintro e u2 ⟨a1, c1, rfl, O1, kq⟩
  rw [hN.out] at O1
  rw [hI.out, hN.out]
  obtain ⟨nk, hnk⟩ : ∃ b, nOk x.id x.po = b := ⟨_, rfl⟩
  rw [hnk]
  clear hI hN hnk
  have A := A.below kq A.lt
  have F := F.later kq
  have B := B.trans (kq.mono B.size)
  have s1 := kq.size
  have lo1 := O1.lt
  clear kq
  obtain ⟨u3, hu3⟩ : ∃ u_, u_ = u2.alloc (Obj.cells #[.int .i64 I, .slice a1 N.length c1] 56) := ⟨_, rfl⟩
  have k2 : Below u2.heap.size u2 u3 := by rw [hu3]; exact below_new _
  have P := BBox.new u2 56 I (.slice a1 N.length c1)
  rw [← hu3] at P
  have B := B.trans (k2.mono B.size)
  have A := A.below k2 A.lt
  have F := F.later k2
  have O1 := O1.later k2
  go_upto_region 6 with fail
  rw [← hu3]
  clear hu3 k2
  obtain ⟨p, hp⟩ : ∃ p, p = u2.heap.size := ⟨_, rfl⟩
  rw [← hp] at P s1 lo1 ⊢
  clear hp
  have lp : w.heap.size < p := by omega
  have e0 : ∀ g, (Value.slice (some ⟨u1.heap.size, 0, none⟩) 0 0).ownBlock = some g → g ≠ p := fun g e => by have := (lF0 g e).2; omega
  have e1 : ∀ g, (Value.slice a1 N.length c1).ownBlock = some g → g ≠ p := fun g e => by have := lo1 g e; omega
  go_loopw [3, 6] (fun v i wr => ∃ (k : Nat) (a : Option Addr) (c : Nat) (L : List Pt) (W : List Ou), k ≤ x.ln.length ∧ i = .int .i64 (k : Int) ∧ Hid (ofL I N (x.ln.take k) = L) ∧ Hid (outsA I N (x.ln.take k) = W) ∧ BBox wr p I (.slice a L.length c) ∧ FOwn ptEnc 11 109 w.heap.size wr (.slice a L.length c) L ∧ (∀ g, (Value.slice a L.length c).ownBlock = some g → g ≠ p) ∧ FOwn ouEnc 8 114 (w.heap.size + 1) wr v W ∧ (∀ g, v.ownBlock = some g → g ≠ p) ∧ BxAt wr w.heap.size x ∧ Below w.heap.size w wr) (fun _ i _ => x.ln.length - (intOf i).toNat)
  case atStart => exact ⟨0, a1, c1, N, [], Nat.zero_le _, rfl, rfl, rfl, P, O1.base (by omega), e1, F, e0, A, B⟩
  case round =>
    obtain ⟨k, a, c, L, W, hk, rfl, hL, hS, P, O, hne, F, hnv, A, B⟩ := hrel
    have hLl : L.length ≤ 4 := by rw [← hL.out, ofL_len]; exact hNl
    have hWl : W.length ≤ 8 * k := by rw [← hS.out]; have h1 := outsA_len I N (x.ln.take k); rw [List.length_take] at h1; omega
    clear O1 lo1 e0 e1 lF0
    have J := hJ.later B
    by_cases hlt : k < x.ln.length
    · have hst := ofL_step I N x.ln ikN hlt
      have hso := outsA_step I N x.ln ikN hlt
      rw [hL.out] at hst hso
      rw [hS.out] at hso
      clear hL hS
      obtain ⟨b, off, hat, _⟩ := J.v.i (by omega)
      obtain ⟨d, hh⟩ : ∃ d, x.ln.getD k ikN = d := ⟨_, rfl⟩
      rw [hh] at hst hso
      have gl : b < wr.heap.size := J.v.i.lt ikEnc_len (by omega) _ hat (by omega)
      have hck : IkAtO wr b (off + k * 8) d := by have h1 := J.v.i; rw [hat] at h1; rw [← hh]; exact ikAtO_of (h1.at_ ikEnc_len ikN hlt)
      have hOl := reactO_len I L d
      obtain ⟨M, hM⟩ : ∃ M, reactL I L d = M := ⟨_, rfl⟩
      obtain ⟨OO, hOO⟩ : ∃ M, reactO I L d = M := ⟨_, rfl⟩
      rw [hM] at hst
      rw [hOO] at hso hOl
      replace hst : Hid _ := hst
      replace hso : Hid _ := hso
      replace hat : Hid _ := hat
      replace hM : Hid _ := hM
      replace hOO : Hid _ := hOO
      clear hh J
      have d0 : decide ((k : Int) < (x.ln.length : Int)) = true := decide_eq_true (by omega)
      have cc := A
      obtain ⟨a0, a1, a2, a3, a4, a5, a6, a7, a8, a9⟩ := cc
      go_upto_region 8 with fail
      clear a0 a1 a2 a3 a4 a5 a6 a7 a8 a9 d0
      refine wp_region_held (S := fun Y => Below wr.heap.size wr Y) (by kernel_rfl) ?_
      change wpAnyH _ _ _ _ _ _ _ _ (World.drew _)
      have hb0 : Below wr.heap.size wr wr.drew := (Below.refl _ _).drew
      obtain ⟨u0, hu0⟩ : ∃ y_, y_ = wr.drew := ⟨_, rfl⟩
      rw [← hu0] at hb0 ⊢
      clear hu0
      refine takeW 0 30 (.agg #[.int .i64 I, .slice a L.length c]) rfl rfl (by kernel_rfl) (by kernel_rfl) (by kernel_rfl) (fun _ _ _ h => h) (by kernel_rfl) (by (intro Y hSw; obtain ⟨X0, X1⟩ := P.at_.below hSw P.lt; go_simp)) (by assumption) ?_
      simp only [List.set_cons_zero, List.set_cons_succ]
      refine takeW 1 31 (.pointer (some ⟨w.heap.size, 8, none⟩)) rfl rfl (by kernel_rfl) (by kernel_rfl) (by kernel_rfl) (fun _ _ _ h => h) (by kernel_rfl) (by (intro w hSw; go_simp)) (by assumption) ?_
      simp only [List.set_cons_zero, List.set_cons_succ]
      refine takeW 2 32 (.slice (some ⟨b, off, none⟩) x.ln.length x.cL) rfl rfl (by kernel_rfl) (by kernel_rfl) (by kernel_rfl) (fun _ _ _ h => h) (by kernel_rfl) (by (intro Y hSw; obtain ⟨X0, X1, X2, X3, X4, X5, X6, X7, X8, X9⟩ := A.below hSw A.lt; rw [hat.out] at X8; go_simp)) (by assumption) ?_
      simp only [List.set_cons_zero, List.set_cons_succ]
      refine takeW 3 33 (.int .i64 (k : Int)) rfl rfl (by kernel_rfl) (by kernel_rfl) (by kernel_rfl) (fun _ _ _ h => h) (by kernel_rfl) (by (intro w hSw; go_simp)) (by assumption) ?_
      simp only [List.set_cons_zero, List.set_cons_succ]
      refine takeW 4 34 (.pointer (some ⟨b, off + k * 8, none⟩)) rfl rfl (by kernel_rfl) (by kernel_rfl) (by kernel_rfl) (fun _ _ _ h => h) (by kernel_rfl) (by (intro Y hSw; go_simp; try omega)) (by assumption) ?_
      simp only [List.set_cons_zero, List.set_cons_succ]
      refine takeW 5 35 (.agg #[.int .i64 d.k, .int .i64 d.q, .int .i64 d.r, .int .i64 d.c, .int .i64 d.b, .int .i64 d.p, .int .i64 d.h, .bool d.up]) rfl rfl (by kernel_rfl) (by kernel_rfl) (by kernel_rfl) (fun _ _ _ h => h) (by kernel_rfl) (by (intro Y hSw; obtain ⟨X0, X1, X2, X3, X4, X5, X6, X7⟩ := IkAtO.below hck hSw gl; go_simp)) (by assumption) ?_
      simp only [List.set_cons_zero, List.set_cons_succ]
      refine wpAnyH_all (rs := [6, 10]) (by kernel_rfl) (by simp) ?_
      intro i hi; rcases (by simpa using hi : i = 6 ∨ i = 10) with rfl | rfl
      · refine wpOp_step rfl (fun Kz hKz => ?_)
        rw [if_pos (by kernel_rfl)]
        go_simp
        go_at_call 77
        refine (reactS I a c L d u0 (O.later hb0).view.2 (by omega) (O.later hb0).capn).mono ?_
        rintro e v1 ⟨a2, c2, o2, d2, rfl, O2, Q2, hap_, k2⟩
        clear hap_
        rw [hM.out] at O2 ⊢
        rw [hOO.out] at Q2 ⊢
        have szc := hb0.size
        have hb1 : Below wr.heap.size wr v1 := hb0.trans (k2.mono szc)
        have O2 := O2.base (base' := wr.heap.size) szc
        have Q2 := Q2.base (base' := wr.heap.size) szc
        clear k2 szc
        refine hKz _ _ ⟨hb1, ?_⟩
        clear hKz Kz hi
        refine takeW 7 29 (.tuple #[.agg #[.int .i64 I, .slice a2 M.length c2], .slice o2 OO.length d2]) rfl rfl (by kernel_rfl) (by kernel_rfl) (by kernel_rfl) (fun _ _ _ h => h) (by kernel_rfl) (by (intro w hSw; go_simp)) (by assumption) ?_
        simp only [List.set_cons_zero, List.set_cons_succ]
        refine takeW 8 37 (.agg #[.int .i64 I, .slice a2 M.length c2]) rfl rfl (by kernel_rfl) (by kernel_rfl) (by kernel_rfl) (fun _ _ _ h => h) (by kernel_rfl) (by (intro w hSw; go_simp)) (by assumption) ?_
        simp only [List.set_cons_zero, List.set_cons_succ]
        refine takeW 9 38 (.slice o2 OO.length d2) rfl rfl (by kernel_rfl) (by kernel_rfl) (by kernel_rfl) (fun _ _ _ h => h) (by kernel_rfl) (by (intro w hSw; go_simp)) (by assumption) ?_
        simp only [List.set_cons_zero, List.set_cons_succ]
        refine wpAnyH_all (rs := [10]) (by kernel_rfl) (by simp) ?_
        intro i hi; obtain rfl : i = 10 := by simpa using hi
        refine wpOp_step rfl (fun Kz hKz => ?_)
        rw [if_pos (by kernel_rfl)]
        go_simp
        obtain ⟨v2, hal⟩ : ∃ y_, y_ = v1.alloc (Obj.cells #[.int .i64 0, .slice none 0 0] 56) := ⟨_, rfl⟩
        have N7 : BBox v2 v1.heap.size 0 (.slice none 0 0) := by rw [hal]; exact BBox.new v1 _ _ _
        have ka : Below v1.heap.size v1 v2 := by rw [hal]; exact below_new _
        rw [← hal]
        have hq7 := hb1.size
        have hb2 : Below wr.heap.size wr v2 := hb1.trans (ka.mono hq7)
        have ap1 : ∀ g, (Value.slice a2 M.length c2).ownBlock = some g → g ≠ v1.heap.size := fun g e => by have := (O2.lt g e).2; omega
        have ap2 : ∀ g, (Value.slice o2 OO.length d2).ownBlock = some g → g ≠ v1.heap.size := fun g e => by have := (Q2.lt g e).2; omega
        have O2 := O2.later ka
        have Q2 := Q2.later ka
        obtain ⟨p7, h7⟩ : ∃ q, q = v1.heap.size := ⟨_, rfl⟩
        have hp7 : wr.heap.size ≤ p7 := by rw [h7]; exact hq7
        rw [← h7] at N7 ap1 ap2 ⊢
        clear hal ka h7 hq7
        refine hKz _ _ ⟨hb2, ?_⟩
        clear hKz Kz hi
        refine wpAnyH_all (rs := [11]) (by kernel_rfl) (by simp) ?_
        intro i hi; obtain rfl : i = 11 := by simpa using hi
        refine wpOp_step rfl (fun Kz hKz => ?_)
        rw [if_pos (by kernel_rfl)]
        have cc := N7
        obtain ⟨⟨r0, r1⟩, rf⟩ := cc
        have g0 := rf 0
        have g1 := rf 1
        clear rf
        go_simp
        clear r0 r1 g0 g1
        obtain ⟨v9, hv9⟩ : ∃ y_, y_ = (v2.setCell ⟨p7, 0, none⟩ (.int .i64 I)).setCell ⟨p7, 1, none⟩ (.slice a2 M.length c2) := ⟨_, rfl⟩
        have kp : ∀ g, g ≠ p7 → v9.heap[g]? = v2.heap[g]? := fun g hg => by rw [hv9]; exact N7.put1 I _ g hg
        have N9 : BBox v9 p7 I (.slice a2 M.length c2) := by rw [hv9]; exact N7.put I _
        have O2 := O2.keep (fun g e => kp g (ap1 g e))
        have Q2 := Q2.keep (fun g e => kp g (ap2 g e))
        have hb9 : Below wr.heap.size wr v9 := by rw [hv9]; exact (hb2.setCell (p := ⟨p7, 0, none⟩) (by show _ ≤ p7; omega) _).setCell (p := ⟨p7, 1, none⟩) (by show _ ≤ p7; omega) _
        rw [← hv9]
        clear hv9 kp N7 ap1 ap2
        refine hKz _ _ ⟨hb9, ?_⟩
        clear hKz Kz hi
        refine takeW 12 8 (.slice o2 OO.length d2) rfl rfl (by kernel_rfl) (by kernel_rfl) (by kernel_rfl) (fun _ _ _ h => h) (by kernel_rfl) (by (intro w hSw; go_simp)) (by assumption) ?_
        simp only [List.set_cons_zero, List.set_cons_succ]
        refine wpAnyH_done (by kernel_rfl) ?_ _
        have A := A.below hb9 A.lt
        have lP := P.lt
        have P := P.below hb9 P.lt
        have F := F.later hb9
        have B9 := B.trans (hb9.mono B.size)
        have lo2 := O2.lt
        have lq2 := Q2.lt
        have sB := B.size
        have s9 := hb9.size
        clear O hb9
        have cc := N9
        obtain ⟨⟨r0, r1⟩, rf⟩ := cc
        have cc := P
        obtain ⟨⟨q0, q1⟩, qf⟩ := cc
        have g0 := qf 0
        have g1 := qf 1
        clear qf rf
        go_upto_region 10 with fail
        clear r0 r1 q0 q1 g0 g1
        obtain ⟨w3, hw3⟩ : ∃ y_, y_ = (v9.setCell ⟨p, 0, none⟩ (.int .i64 I)).setCell ⟨p, 1, none⟩ (.slice a2 M.length c2) := ⟨_, rfl⟩
        have kp : ∀ g, g ≠ p → w3.heap[g]? = v9.heap[g]? := fun g hg => by rw [hw3]; exact P.put1 I _ g hg
        have P9 : BBox w3 p I (.slice a2 M.length c2) := by rw [hw3]; exact P.put I _
        have O9 := (O2.base (base' := w.heap.size) (by omega)).keep (fun g e => kp g (by have := lo2 g e; omega))
        have Q9 := Q2.keep (fun g e => kp g (by have := lq2 g e; omega))
        have F9 := F.keep (fun g e => kp g (hnv g e))
        have A9 := A.keep (kp w.heap.size (by omega))
        have B9 : Below w.heap.size w w3 := by rw [hw3]; exact (B9.setCell (p := ⟨p, 0, none⟩) (by show _ ≤ p; omega) _).setCell (p := ⟨p, 1, none⟩) (by show _ ≤ p; omega) _
        have hne9 : ∀ g, (Value.slice a2 M.length c2).ownBlock = some g → g ≠ p := fun g e => by have := lo2 g e; omega
        rw [← hw3]
        clear hw3 kp O2 Q2 F A P N9 lo2 lq2 hne
        have lp9 := P9.lt
        have sz9 := B9.size
        have l60 : W.length + OO.length ≤ 3000000 := by omega
        go_wp2_with (first | (at_builtin; refine fappL ouEnc_len ouEnc_ones rfl _ _ 46 rfl (w.heap.size + 1) 114 i0 (.agg #[.int .i64 0, .int .i64 0, .int .i64 0, .int .i64 0, .int .i64 0, .int .i64 0, .int .i64 0, .bool false]) 64 Tryz.underlying46 hi hz0 hz1 hz2 rfl (by decide) (by decide) _ W rfl F9 o2 d2 OO rfl Q9.capn Q9.view.2 l60 (by omega) ?_))
        intro v4 w4 F4 g4 hob
        have hW2 : Hid (outsA I N (x.ln.take (k + 1)) = W ++ OO) := hso
        obtain ⟨T, hT⟩ : ∃ T, T = W ++ OO := ⟨_, rfl⟩
        rw [← hT] at F4 hW2
        clear hT hso
        have hnv4 : ∀ g, v4.ownBlock = some g → g ≠ p := fun g e => by rcases hob with h | h <;> rw [h] at e; exact hnv g e; cases e; omega
        have P9 := P9.keep (g4.block _ lp9 (fun e => hnv p e.symm rfl))
        have O9 := O9.keep (fun g e => g4.block g (O9.lt g e).2 (fun e2 => F9.apart O9 (by decide) e2.symm e))
        have A9 := A9.keep (g4.block _ A9.lt (fun e => by have := (F9.lt _ e.symm).1; omega))
        have B9 : Below w.heap.size w w4 := B9.grown g4 sz9 (fun g e => by have := (F9.lt g e).1; omega)
        clear F9 g4 hob Q9 hnv
        go_wp2
        go_roundw
        case rel => exact ⟨k + 1, a2, c2, M, T, by omega, by go_num, hst, hW2, P9, O9, hne9, F4, hnv4, A9, B9⟩
        case measure => simp [intOf]; omega
      · refine wpOp_step rfl (fun Kz hKz => ?_)
        rw [if_pos (by kernel_rfl)]
        go_simp
        obtain ⟨v1, hal⟩ : ∃ y_, y_ = u0.alloc (Obj.cells #[.int .i64 0, .slice none 0 0] 56) := ⟨_, rfl⟩
        have N7 : BBox v1 u0.heap.size 0 (.slice none 0 0) := by rw [hal]; exact BBox.new u0 _ _ _
        have ka : Below u0.heap.size u0 v1 := by rw [hal]; exact below_new _
        rw [← hal]
        have hq7 := hb0.size
        have hb1 : Below wr.heap.size wr v1 := hb0.trans (ka.mono hq7)
        obtain ⟨p7, h7⟩ : ∃ q, q = u0.heap.size := ⟨_, rfl⟩
        have hp7 : wr.heap.size ≤ p7 := by rw [h7]; exact hq7
        rw [← h7] at N7 ⊢
        have l7 := N7.lt
        clear hal ka h7 hq7
        refine hKz _ _ ⟨hb1, ?_⟩
        clear hKz Kz hi
        refine wpAnyH_all (rs := [6]) (by kernel_rfl) (by simp) ?_
        intro i hi; obtain rfl : i = 6 := by simpa using hi
        refine wpOp_step rfl (fun Kz hKz => ?_)
        rw [if_pos (by kernel_rfl)]
        go_simp
        go_at_call 77
        refine (reactS I a c L d v1 (O.later hb1).view.2 (by omega) (O.later hb1).capn).mono ?_
        rintro e v2 ⟨a2, c2, o2, d2, rfl, O2, Q2, hap_, k2⟩
        clear hap_
        rw [hM.out] at O2 ⊢
        rw [hOO.out] at Q2 ⊢
        have szc := hb1.size
        have hb2 : Below wr.heap.size wr v2 := hb1.trans (k2.mono szc)
        have N7 := N7.below k2 N7.lt
        have ap1 : ∀ g, (Value.slice a2 M.length c2).ownBlock = some g → g ≠ p7 := fun g e => by have := (O2.lt g e).1; have := l7; omega
        have ap2 : ∀ g, (Value.slice o2 OO.length d2).ownBlock = some g → g ≠ p7 := fun g e => by have := (Q2.lt g e).1; have := l7; omega
        have O2 := O2.base (base' := wr.heap.size) szc
        have Q2 := Q2.base (base' := wr.heap.size) szc
        clear k2 szc
        refine hKz _ _ ⟨hb2, ?_⟩
        clear hKz Kz hi
        refine takeW 7 29 (.tuple #[.agg #[.int .i64 I, .slice a2 M.length c2], .slice o2 OO.length d2]) rfl rfl (by kernel_rfl) (by kernel_rfl) (by kernel_rfl) (fun _ _ _ h => h) (by kernel_rfl) (by (intro w hSw; go_simp)) (by assumption) ?_
        simp only [List.set_cons_zero, List.set_cons_succ]
        refine takeW 8 37 (.agg #[.int .i64 I, .slice a2 M.length c2]) rfl rfl (by kernel_rfl) (by kernel_rfl) (by kernel_rfl) (fun _ _ _ h => h) (by kernel_rfl) (by (intro w hSw; go_simp)) (by assumption) ?_
        simp only [List.set_cons_zero, List.set_cons_succ]
        refine takeW 9 38 (.slice o2 OO.length d2) rfl rfl (by kernel_rfl) (by kernel_rfl) (by kernel_rfl) (fun _ _ _ h => h) (by kernel_rfl) (by (intro w hSw; go_simp)) (by assumption) ?_
        simp only [List.set_cons_zero, List.set_cons_succ]
        refine wpAnyH_all (rs := [11]) (by kernel_rfl) (by simp) ?_
        intro i hi; obtain rfl : i = 11 := by simpa using hi
        refine wpOp_step rfl (fun Kz hKz => ?_)
        rw [if_pos (by kernel_rfl)]
        have cc := N7
        obtain ⟨⟨r0, r1⟩, rf⟩ := cc
        have g0 := rf 0
        have g1 := rf 1
        clear rf
        go_simp
        clear r0 r1 g0 g1
        obtain ⟨v9, hv9⟩ : ∃ y_, y_ = (v2.setCell ⟨p7, 0, none⟩ (.int .i64 I)).setCell ⟨p7, 1, none⟩ (.slice a2 M.length c2) := ⟨_, rfl⟩
        have kp : ∀ g, g ≠ p7 → v9.heap[g]? = v2.heap[g]? := fun g hg => by rw [hv9]; exact N7.put1 I _ g hg
        have N9 : BBox v9 p7 I (.slice a2 M.length c2) := by rw [hv9]; exact N7.put I _
        have O2 := O2.keep (fun g e => kp g (ap1 g e))
        have Q2 := Q2.keep (fun g e => kp g (ap2 g e))
        have hb9 : Below wr.heap.size wr v9 := by rw [hv9]; exact (hb2.setCell (p := ⟨p7, 0, none⟩) (by show _ ≤ p7; omega) _).setCell (p := ⟨p7, 1, none⟩) (by show _ ≤ p7; omega) _
        rw [← hv9]
        clear hv9 kp N7 ap1 ap2
        refine hKz _ _ ⟨hb9, ?_⟩
        clear hKz Kz hi
        refine takeW 12 8 (.slice o2 OO.length d2) rfl rfl (by kernel_rfl) (by kernel_rfl) (by kernel_rfl) (fun _ _ _ h => h) (by kernel_rfl) (by (intro w hSw; go_simp)) (by assumption) ?_
        simp only [List.set_cons_zero, List.set_cons_succ]
        refine wpAnyH_done (by kernel_rfl) ?_ _
        have A := A.below hb9 A.lt
        have lP := P.lt
        have P := P.below hb9 P.lt
        have F := F.later hb9
        have B9 := B.trans (hb9.mono B.size)
        have lo2 := O2.lt
        have lq2 := Q2.lt
        have sB := B.size
        have s9 := hb9.size
        clear O hb9
        have cc := N9
        obtain ⟨⟨r0, r1⟩, rf⟩ := cc
        have cc := P
        obtain ⟨⟨q0, q1⟩, qf⟩ := cc
        have g0 := qf 0
        have g1 := qf 1
        clear qf rf
        go_upto_region 10 with fail
        clear r0 r1 q0 q1 g0 g1
        obtain ⟨w3, hw3⟩ : ∃ y_, y_ = (v9.setCell ⟨p, 0, none⟩ (.int .i64 I)).setCell ⟨p, 1, none⟩ (.slice a2 M.length c2) := ⟨_, rfl⟩
        have kp : ∀ g, g ≠ p → w3.heap[g]? = v9.heap[g]? := fun g hg => by rw [hw3]; exact P.put1 I _ g hg
        have P9 : BBox w3 p I (.slice a2 M.length c2) := by rw [hw3]; exact P.put I _
        have O9 := (O2.base (base' := w.heap.size) (by omega)).keep (fun g e => kp g (by have := lo2 g e; omega))
        have Q9 := Q2.keep (fun g e => kp g (by have := lq2 g e; omega))
        have F9 := F.keep (fun g e => kp g (hnv g e))
        have A9 := A.keep (kp w.heap.size (by omega))
        have B9 : Below w.heap.size w w3 := by rw [hw3]; exact (B9.setCell (p := ⟨p, 0, none⟩) (by show _ ≤ p; omega) _).setCell (p := ⟨p, 1, none⟩) (by show _ ≤ p; omega) _
        have hne9 : ∀ g, (Value.slice a2 M.length c2).ownBlock = some g → g ≠ p := fun g e => by have := lo2 g e; omega
        rw [← hw3]
        clear hw3 kp O2 Q2 F A P N9 lo2 lq2 hne
        have lp9 := P9.lt
        have sz9 := B9.size
        have l60 : W.length + OO.length ≤ 3000000 := by omega
        go_wp2_with (first | (at_builtin; refine fappL ouEnc_len ouEnc_ones rfl _ _ 46 rfl (w.heap.size + 1) 114 i0 (.agg #[.int .i64 0, .int .i64 0, .int .i64 0, .int .i64 0, .int .i64 0, .int .i64 0, .int .i64 0, .bool false]) 64 Tryz.underlying46 hi hz0 hz1 hz2 rfl (by decide) (by decide) _ W rfl F9 o2 d2 OO rfl Q9.capn Q9.view.2 l60 (by omega) ?_))
        intro v4 w4 F4 g4 hob
        have hW2 : Hid (outsA I N (x.ln.take (k + 1)) = W ++ OO) := hso
        obtain ⟨T, hT⟩ : ∃ T, T = W ++ OO := ⟨_, rfl⟩
        rw [← hT] at F4 hW2
        clear hT hso
        have hnv4 : ∀ g, v4.ownBlock = some g → g ≠ p := fun g e => by rcases hob with h | h <;> rw [h] at e; exact hnv g e; cases e; omega
        have P9 := P9.keep (g4.block _ lp9 (fun e => hnv p e.symm rfl))
        have O9 := O9.keep (fun g e => g4.block g (O9.lt g e).2 (fun e2 => F9.apart O9 (by decide) e2.symm e))
        have A9 := A9.keep (g4.block _ A9.lt (fun e => by have := (F9.lt _ e.symm).1; omega))
        have B9 : Below w.heap.size w w4 := B9.grown g4 sz9 (fun g e => by have := (F9.lt g e).1; omega)
        clear F9 g4 hob Q9 hnv
        go_wp2
        go_roundw
        case rel => exact ⟨k + 1, a2, c2, M, T, by omega, by go_num, hst, hW2, P9, O9, hne9, F4, hnv4, A9, B9⟩
        case measure => simp [intOf]; omega
    · obtain rfl : k = x.ln.length := by omega
      rw [List.take_length] at hS
      have hQ3 : Hid (Q ↔ lastS W = x.sd) := by unfold Hid; rw [hQ2.out, hS.out]
      clear hQ2 hS hL O P hne hnv
      obtain ⟨aW, cW, rfl⟩ := F.open_
      have VS := J.v.s
      have hBs := VS.lt ouEnc_len (by omega)
      have hcW := F.capM
      have d0 : decide ((x.ln.length : Int) < (x.ln.length : Int)) = false := decide_eq_false (by omega)
      have cc := A
      obtain ⟨a0, a1, a2, a3, a4, a5, a6, a7, a8, a9⟩ := cc
      by_cases h40 : W.length ≤ 40
      · have hG0 : lastS W = W := by unfold lastS; rw [show W.length - 40 = 0 by omega, List.drop_zero]
        have hQG : Hid (Q ↔ W = x.sd) := by unfold Hid; rw [hQ3.out, hG0]
        have dg : decide ((W.length : Int) > 40) = false := decide_eq_false (by omega)
        have dg' : decide ((40 : Int) < (W.length : Int)) = false := decide_eq_false (by omega)
        have dg'' : decide (40 < W.length) = false := decide_eq_false (by omega)
        clear hG0 hQ3
        have VG := F.view.2
        have hBg := VG.lt ouEnc_len (by omega)
        go_upto_region 14 with fail
        clear d0 a0 a1 a2 a3 a4 a5 a6 a7 a8 a9 dg dg' dg'' F hWl
        obtain ⟨G, rfl⟩ : ∃ G, G = W := ⟨W, rfl⟩
        obtain ⟨cG, rfl⟩ : ∃ c_, c_ = cW := ⟨cW, rfl⟩
        go_loopw [9] (fun i wq => ∃ k : Nat, k ≤ G.length ∧ k ≤ x.sd.length ∧ i = .int .i64 (k : Int) ∧ Hid (∀ j, j < k → G.getD j Ou.nil = x.sd.getD j Ou.nil) ∧ Below wr.heap.size wr wq) (fun i _ => G.length - (intOf i).toNat)
        case atStart => exact ⟨0, Nat.zero_le _, Nat.zero_le _, rfl, fun j hj => absurd hj (by omega), Below.refl _ _⟩
        case round =>
          obtain ⟨k, hk, hk', rfl, hF, hb9⟩ := hrel
          have A := A.below hb9 A.lt
          have B := B.trans (hb9.mono B.size)
          have cc := A
          obtain ⟨a0, a1, a2, a3, a4, a5, a6, a7, a8, a9⟩ := cc
          by_cases hlt : k < G.length
          · have d1 : decide ((k : Int) < (G.length : Int)) = true := decide_eq_true (by omega)
            by_cases hlt' : k < x.sd.length
            · have d2 : decide ((k : Int) < (x.sd.length : Int)) = true := decide_eq_true (by omega)
              obtain ⟨bG, oG, rfl, _⟩ := VG (by omega)
              obtain ⟨b', off', hat, _⟩ := VS (by omega)
              obtain ⟨h, hh⟩ : ∃ h, G.getD k Ou.nil = h := ⟨_, rfl⟩
              obtain ⟨h', hh'⟩ : ∃ h, x.sd.getD k Ou.nil = h := ⟨_, rfl⟩
              have hc : ∀ Y, Below wr.heap.size wr Y → OuAtO Y bG (oG + k * 8) h := fun Y hY => by rw [← hh]; exact ouAtO_of ((VG.below (hb9.trans (hY.mono hb9.size)) hBg).at_ ouEnc_len Ou.nil hlt)
              have hc' : ∀ Y, Below wr.heap.size wr Y → OuAtO Y b' (off' + k * 8) h' := fun Y hY => by have h0 := VS.below (hb9.trans (hY.mono hb9.size)) hBs; rw [hat] at h0; rw [← hh']; exact ouAtO_of (h0.at_ ouEnc_len Ou.nil hlt')
              replace hh : Hid _ := hh
              replace hh' : Hid _ := hh'
              replace hat : Hid _ := hat
              by_cases he : h = h'
              · have heq : ∀ w, (binOp .neq 114 (.agg #[.int .i64 h.k, .int .i64 h.pt, .int .i64 h.r, .int .i64 h.c, .int .i64 h.b, .int .i64 h.p, .int .i64 h.h, .bool h.on]) (.agg #[.int .i64 h'.k, .int .i64 h'.pt, .int .i64 h'.r, .int .i64 h'.c, .int .i64 h'.b, .int .i64 h'.p, .int .i64 h'.h, .bool h'.on])).run Tryz.prog w = .ok (.bool false) w := fun w => by subst he; exact neqOu_same h w
                replace he : Hid _ := he
                go_upto_region 16 with fail
                clear a0 a1 a2 a3 a4 a5 a6 a7 a8 a9
                refine wp_region_held (S := fun Y => Below wr.heap.size wr Y) (by kernel_rfl) ?_
                change wpAnyH _ _ _ _ _ _ _ _ (World.drew _)
                have hb0 : Below wr.heap.size wr wr.drew := (Below.refl _ _).drew
                obtain ⟨u0, hu0⟩ : ∃ y_, y_ = wr.drew := ⟨_, rfl⟩
                rw [← hu0] at hb0 ⊢
                clear hu0
                refine takeW 0 64 (.slice (some ⟨bG, oG, none⟩) G.length cG) rfl rfl (by kernel_rfl) (by kernel_rfl) (by kernel_rfl) (fun _ _ _ h => h) (by kernel_rfl) (by (intro w hSw; go_simp)) (by assumption) ?_
                simp only [List.set_cons_zero, List.set_cons_succ]
                refine takeW 1 65 (.int .i64 (k : Int)) rfl rfl (by kernel_rfl) (by kernel_rfl) (by kernel_rfl) (fun _ _ _ h => h) (by kernel_rfl) (by (intro w hSw; go_simp)) (by assumption) ?_
                simp only [List.set_cons_zero, List.set_cons_succ]
                refine takeW 2 66 (.pointer (some ⟨bG, oG + k * 8, none⟩)) rfl rfl (by kernel_rfl) (by kernel_rfl) (by kernel_rfl) (fun _ _ _ h => h) (by kernel_rfl) (by (intro Y hSw; go_simp; try omega)) (by assumption) ?_
                simp only [List.set_cons_zero, List.set_cons_succ]
                refine takeW 3 67 (.agg #[.int .i64 h.k, .int .i64 h.pt, .int .i64 h.r, .int .i64 h.c, .int .i64 h.b, .int .i64 h.p, .int .i64 h.h, .bool h.on]) rfl rfl (by kernel_rfl) (by kernel_rfl) (by kernel_rfl) (fun _ _ _ h => h) (by kernel_rfl) (by (intro Y hSw; obtain ⟨X0, X1, X2, X3, X4, X5, X6, X7⟩ := hc Y hSw; go_simp)) (by assumption) ?_
                simp only [List.set_cons_zero, List.set_cons_succ]
                refine takeW 4 68 (.pointer (some ⟨w.heap.size, 9, none⟩)) rfl rfl (by kernel_rfl) (by kernel_rfl) (by kernel_rfl) (fun _ _ _ h => h) (by kernel_rfl) (by (intro w hSw; go_simp)) (by assumption) ?_
                simp only [List.set_cons_zero, List.set_cons_succ]
                refine takeW 5 69 (.slice (some ⟨b', off', none⟩) x.sd.length x.cS) rfl rfl (by kernel_rfl) (by kernel_rfl) (by kernel_rfl) (fun _ _ _ h => h) (by kernel_rfl) (by (intro Y hSw; obtain ⟨X0, X1, X2, X3, X4, X5, X6, X7, X8, X9⟩ := A.below hSw A.lt; rw [hat.out] at X9; go_simp)) (by assumption) ?_
                simp only [List.set_cons_zero, List.set_cons_succ]
                refine takeW 6 70 (.int .i64 (k : Int)) rfl rfl (by kernel_rfl) (by kernel_rfl) (by kernel_rfl) (fun _ _ _ h => h) (by kernel_rfl) (by (intro w hSw; go_simp)) (by assumption) ?_
                simp only [List.set_cons_zero, List.set_cons_succ]
                refine takeW 7 71 (.pointer (some ⟨b', off' + k * 8, none⟩)) rfl rfl (by kernel_rfl) (by kernel_rfl) (by kernel_rfl) (fun _ _ _ h => h) (by kernel_rfl) (by (intro Y hSw; go_simp; try omega)) (by assumption) ?_
                simp only [List.set_cons_zero, List.set_cons_succ]
                refine takeW 8 72 (.agg #[.int .i64 h'.k, .int .i64 h'.pt, .int .i64 h'.r, .int .i64 h'.c, .int .i64 h'.b, .int .i64 h'.p, .int .i64 h'.h, .bool h'.on]) rfl rfl (by kernel_rfl) (by kernel_rfl) (by kernel_rfl) (fun _ _ _ h => h) (by kernel_rfl) (by (intro Y hSw; obtain ⟨X0, X1, X2, X3, X4, X5, X6, X7⟩ := hc' Y hSw; go_simp)) (by assumption) ?_
                simp only [List.set_cons_zero, List.set_cons_succ]
                refine takeW 9 73 (.bool false) rfl rfl (by kernel_rfl) (by kernel_rfl) (by kernel_rfl) (fun _ _ _ h => h) (by kernel_rfl) (by (intro w hSw; have hq := heq w; go_simp)) (by assumption) ?_
                simp only [List.set_cons_zero, List.set_cons_succ]
                refine wpAnyH_done (by kernel_rfl) ?_ _
                go_wp2
                go_roundw
                case rel =>
                  refine ⟨k + 1, by omega, by omega, by go_num, fun j hj => ?_, hb9.trans (hb0.mono hb9.size)⟩
                  by_cases ej : j = k
                  · rw [ej, hh.out, hh'.out]; exact he.out
                  · exact hF.out j (by omega)
                case measure => simp [intOf]; omega
              · have heq : ∀ w, (binOp .neq 114 (.agg #[.int .i64 h.k, .int .i64 h.pt, .int .i64 h.r, .int .i64 h.c, .int .i64 h.b, .int .i64 h.p, .int .i64 h.h, .bool h.on]) (.agg #[.int .i64 h'.k, .int .i64 h'.pt, .int .i64 h'.r, .int .i64 h'.c, .int .i64 h'.b, .int .i64 h'.p, .int .i64 h'.h, .bool h'.on])).run Tryz.prog w = .ok (.bool true) w := fun w => neqOu_else he w
                replace he : Hid (¬ h = h') := he
                go_upto_region 16 with fail
                clear a0 a1 a2 a3 a4 a5 a6 a7 a8 a9
                refine wp_region_held (S := fun Y => Below wr.heap.size wr Y) (by kernel_rfl) ?_
                change wpAnyH _ _ _ _ _ _ _ _ (World.drew _)
                have hb0 : Below wr.heap.size wr wr.drew := (Below.refl _ _).drew
                obtain ⟨u0, hu0⟩ : ∃ y_, y_ = wr.drew := ⟨_, rfl⟩
                rw [← hu0] at hb0 ⊢
                clear hu0
                refine takeW 0 64 (.slice (some ⟨bG, oG, none⟩) G.length cG) rfl rfl (by kernel_rfl) (by kernel_rfl) (by kernel_rfl) (fun _ _ _ h => h) (by kernel_rfl) (by (intro w hSw; go_simp)) (by assumption) ?_
                simp only [List.set_cons_zero, List.set_cons_succ]
                refine takeW 1 65 (.int .i64 (k : Int)) rfl rfl (by kernel_rfl) (by kernel_rfl) (by kernel_rfl) (fun _ _ _ h => h) (by kernel_rfl) (by (intro w hSw; go_simp)) (by assumption) ?_
                simp only [List.set_cons_zero, List.set_cons_succ]
                refine takeW 2 66 (.pointer (some ⟨bG, oG + k * 8, none⟩)) rfl rfl (by kernel_rfl) (by kernel_rfl) (by kernel_rfl) (fun _ _ _ h => h) (by kernel_rfl) (by (intro Y hSw; go_simp; try omega)) (by assumption) ?_
                simp only [List.set_cons_zero, List.set_cons_succ]
                refine takeW 3 67 (.agg #[.int .i64 h.k, .int .i64 h.pt, .int .i64 h.r, .int .i64 h.c, .int .i64 h.b, .int .i64 h.p, .int .i64 h.h, .bool h.on]) rfl rfl (by kernel_rfl) (by kernel_rfl) (by kernel_rfl) (fun _ _ _ h => h) (by kernel_rfl) (by (intro Y hSw; obtain ⟨X0, X1, X2, X3, X4, X5, X6, X7⟩ := hc Y hSw; go_simp)) (by assumption) ?_
                simp only [List.set_cons_zero, List.set_cons_succ]
                refine takeW 4 68 (.pointer (some ⟨w.heap.size, 9, none⟩)) rfl rfl (by kernel_rfl) (by kernel_rfl) (by kernel_rfl) (fun _ _ _ h => h) (by kernel_rfl) (by (intro w hSw; go_simp)) (by assumption) ?_
                simp only [List.set_cons_zero, List.set_cons_succ]
                refine takeW 5 69 (.slice (some ⟨b', off', none⟩) x.sd.length x.cS) rfl rfl (by kernel_rfl) (by kernel_rfl) (by kernel_rfl) (fun _ _ _ h => h) (by kernel_rfl) (by (intro Y hSw; obtain ⟨X0, X1, X2, X3, X4, X5, X6, X7, X8, X9⟩ := A.below hSw A.lt; rw [hat.out] at X9; go_simp)) (by assumption) ?_
                simp only [List.set_cons_zero, List.set_cons_succ]
                refine takeW 6 70 (.int .i64 (k : Int)) rfl rfl (by kernel_rfl) (by kernel_rfl) (by kernel_rfl) (fun _ _ _ h => h) (by kernel_rfl) (by (intro w hSw; go_simp)) (by assumption) ?_
                simp only [List.set_cons_zero, List.set_cons_succ]
                refine takeW 7 71 (.pointer (some ⟨b', off' + k * 8, none⟩)) rfl rfl (by kernel_rfl) (by kernel_rfl) (by kernel_rfl) (fun _ _ _ h => h) (by kernel_rfl) (by (intro Y hSw; go_simp; try omega)) (by assumption) ?_
                simp only [List.set_cons_zero, List.set_cons_succ]
                refine takeW 8 72 (.agg #[.int .i64 h'.k, .int .i64 h'.pt, .int .i64 h'.r, .int .i64 h'.c, .int .i64 h'.b, .int .i64 h'.p, .int .i64 h'.h, .bool h'.on]) rfl rfl (by kernel_rfl) (by kernel_rfl) (by kernel_rfl) (fun _ _ _ h => h) (by kernel_rfl) (by (intro Y hSw; obtain ⟨X0, X1, X2, X3, X4, X5, X6, X7⟩ := hc' Y hSw; go_simp)) (by assumption) ?_
                simp only [List.set_cons_zero, List.set_cons_succ]
                refine takeW 9 73 (.bool true) rfl rfl (by kernel_rfl) (by kernel_rfl) (by kernel_rfl) (fun _ _ _ h => h) (by kernel_rfl) (by (intro w hSw; have hq := heq w; go_simp)) (by assumption) ?_
                simp only [List.set_cons_zero, List.set_cons_succ]
                refine wpAnyH_done (by kernel_rfl) ?_ _
                have B := B.trans (hb0.mono B.size)
                go_wp2
                go_ret
                exact ⟨YN.no (fun q_ => he.out (hh.out.symm.trans ((congrArg (fun z => z.getD k Ou.nil) (hQG.out.1 q_)).trans hh'.out))), B⟩
            · have d2 : decide ((k : Int) < (x.sd.length : Int)) = false := decide_eq_false (by omega)
              have d3 : ((G.length : Int) == (x.sd.length : Int)) = false := by rw [beq_eq_false_iff_ne]; omega
              have d3' : (G.length == x.sd.length) = false := by rw [beq_eq_false_iff_ne]; omega
              have hn : Hid (¬ G.length = x.sd.length) := by unfold Hid; omega
              go_wp2
              go_ret
              exact ⟨YN.no (fun q_ => hn.out (congrArg List.length (hQG.out.1 q_))), B⟩
          · obtain rfl : k = G.length := by omega
            have d1 : decide ((G.length : Int) < (G.length : Int)) = false := decide_eq_false (by omega)
            by_cases hn : G.length = x.sd.length
            · have d3 : ((G.length : Int) == (x.sd.length : Int)) = true := by rw [beq_iff_eq]; omega
              have d3' : (G.length == x.sd.length) = true := by rw [beq_iff_eq]; exact hn
              replace hn : Hid _ := hn
              go_wp2
              go_ret
              exact ⟨YN.yes (hQG.out.2 (by apply List.ext_getElem hn.out; intro i h1 h2; have h3 := hF.out i h1; rw [List.getD_eq_getElem?_getD, List.getD_eq_getElem?_getD, List.getElem?_eq_getElem h1, List.getElem?_eq_getElem h2] at h3; exact h3)), B⟩
            · have d3 : ((G.length : Int) == (x.sd.length : Int)) = false := by rw [beq_eq_false_iff_ne]; omega
              have d3' : (G.length == x.sd.length) = false := by rw [beq_eq_false_iff_ne]; exact hn
              replace hn : Hid (¬ G.length = x.sd.length) := hn
              go_wp2
              go_ret
              exact ⟨YN.no (fun q_ => hn.out (congrArg List.length (hQG.out.1 q_))), B⟩
      · obtain ⟨n, hn⟩ : ∃ n, W.length = n + 40 := ⟨W.length - 40, by omega⟩
        have hG0 : lastS W = W.drop n := by unfold lastS; rw [show W.length - 40 = n by omega]
        have hGl : (W.drop n).length = 40 := by rw [List.length_drop]; omega
        have hQG : Hid (Q ↔ W.drop n = x.sd) := by unfold Hid; rw [hQ3.out, hG0]
        have hw_ : IntKind.i64.wrap ((W.length : Int) - 40) = (n : Int) := by rw [IntKind.wrap_i64]; omega
        have dg : decide ((W.length : Int) > 40) = true := decide_eq_true (by omega)
        have dg' : decide ((40 : Int) < (W.length : Int)) = true := decide_eq_true (by omega)
        have dg'' : decide (40 < W.length) = true := decide_eq_true (by omega)
        obtain ⟨g, hg, _, _⟩ := F.row (by omega)
        subst hg
        have VG := F.view.2.dropO (k := n) (by omega)
        have hn2 : W.length - n = 40 := by omega
        have hq2 : n ≤ W.length := by omega
        have hlt2 : n < cW := by omega
        clear hG0 hQ3
        replace hGl : Hid _ := hGl
        replace hn : Hid _ := hn
        go_upto_region 14 with fail
        clear hn2 hw_ hq2 hlt2 dg dg' dg'' F hWl d0 a0 a1 a2 a3 a4 a5 a6 a7 a8 a9
        obtain ⟨G, hG_⟩ : ∃ G, G = W.drop n := ⟨_, rfl⟩
        rw [← hG_] at VG hQG hGl
        have hGz : (40 : Nat) = G.length := hGl.out.symm
        clear hG_ hn
        obtain ⟨cG, hcG⟩ : ∃ c_, c_ = cW - n := ⟨_, rfl⟩
        obtain ⟨aG, haG⟩ : ∃ a_, a_ = some (⟨g, n * 8, none⟩ : Addr) := ⟨_, rfl⟩
        rw [← haG] at VG
        have hBg := VG.lt ouEnc_len (by omega)
        rw [show (Value.slice (some ⟨g, n * 8, none⟩) 40 (cW - n)) = Value.slice aG G.length cG from by rw [haG, hcG, hGl.out]]
        have hG41 : G.length ≤ 40 := by omega
        clear haG hcG hGl hGz
        go_loopw [9] (fun i wq => ∃ k : Nat, k ≤ G.length ∧ k ≤ x.sd.length ∧ i = .int .i64 (k : Int) ∧ Hid (∀ j, j < k → G.getD j Ou.nil = x.sd.getD j Ou.nil) ∧ Below wr.heap.size wr wq) (fun i _ => G.length - (intOf i).toNat)
        case atStart => exact ⟨0, Nat.zero_le _, Nat.zero_le _, rfl, fun j hj => absurd hj (by omega), Below.refl _ _⟩
        case round =>
          obtain ⟨k, hk, hk', rfl, hF, hb9⟩ := hrel
          have A := A.below hb9 A.lt
          have B := B.trans (hb9.mono B.size)
          have cc := A
          obtain ⟨a0, a1, a2, a3, a4, a5, a6, a7, a8, a9⟩ := cc
          by_cases hlt : k < G.length
          · have d1 : decide ((k : Int) < (G.length : Int)) = true := decide_eq_true (by omega)
            by_cases hlt' : k < x.sd.length
            · have d2 : decide ((k : Int) < (x.sd.length : Int)) = true := decide_eq_true (by omega)
              obtain ⟨bG, oG, rfl, _⟩ := VG (by omega)
              obtain ⟨b', off', hat, _⟩ := VS (by omega)
              obtain ⟨h, hh⟩ : ∃ h, G.getD k Ou.nil = h := ⟨_, rfl⟩
              obtain ⟨h', hh'⟩ : ∃ h, x.sd.getD k Ou.nil = h := ⟨_, rfl⟩
              have hc : ∀ Y, Below wr.heap.size wr Y → OuAtO Y bG (oG + k * 8) h := fun Y hY => by rw [← hh]; exact ouAtO_of ((VG.below (hb9.trans (hY.mono hb9.size)) hBg).at_ ouEnc_len Ou.nil hlt)
              have hc' : ∀ Y, Below wr.heap.size wr Y → OuAtO Y b' (off' + k * 8) h' := fun Y hY => by have h0 := VS.below (hb9.trans (hY.mono hb9.size)) hBs; rw [hat] at h0; rw [← hh']; exact ouAtO_of (h0.at_ ouEnc_len Ou.nil hlt')
              replace hh : Hid _ := hh
              replace hh' : Hid _ := hh'
              replace hat : Hid _ := hat
              by_cases he : h = h'
              · have heq : ∀ w, (binOp .neq 114 (.agg #[.int .i64 h.k, .int .i64 h.pt, .int .i64 h.r, .int .i64 h.c, .int .i64 h.b, .int .i64 h.p, .int .i64 h.h, .bool h.on]) (.agg #[.int .i64 h'.k, .int .i64 h'.pt, .int .i64 h'.r, .int .i64 h'.c, .int .i64 h'.b, .int .i64 h'.p, .int .i64 h'.h, .bool h'.on])).run Tryz.prog w = .ok (.bool false) w := fun w => by subst he; exact neqOu_same h w
                replace he : Hid _ := he
                go_upto_region 16 with fail
                clear a0 a1 a2 a3 a4 a5 a6 a7 a8 a9
                refine wp_region_held (S := fun Y => Below wr.heap.size wr Y) (by kernel_rfl) ?_
                change wpAnyH _ _ _ _ _ _ _ _ (World.drew _)
                have hb0 : Below wr.heap.size wr wr.drew := (Below.refl _ _).drew
                obtain ⟨u0, hu0⟩ : ∃ y_, y_ = wr.drew := ⟨_, rfl⟩
                rw [← hu0] at hb0 ⊢
                clear hu0
                refine takeW 0 64 (.slice (some ⟨bG, oG, none⟩) G.length cG) rfl rfl (by kernel_rfl) (by kernel_rfl) (by kernel_rfl) (fun _ _ _ h => h) (by kernel_rfl) (by (intro w hSw; go_simp)) (by assumption) ?_
                simp only [List.set_cons_zero, List.set_cons_succ]
                refine takeW 1 65 (.int .i64 (k : Int)) rfl rfl (by kernel_rfl) (by kernel_rfl) (by kernel_rfl) (fun _ _ _ h => h) (by kernel_rfl) (by (intro w hSw; go_simp)) (by assumption) ?_
                simp only [List.set_cons_zero, List.set_cons_succ]
                refine takeW 2 66 (.pointer (some ⟨bG, oG + k * 8, none⟩)) rfl rfl (by kernel_rfl) (by kernel_rfl) (by kernel_rfl) (fun _ _ _ h => h) (by kernel_rfl) (by (intro Y hSw; go_simp; try omega)) (by assumption) ?_
                simp only [List.set_cons_zero, List.set_cons_succ]
                refine takeW 3 67 (.agg #[.int .i64 h.k, .int .i64 h.pt, .int .i64 h.r, .int .i64 h.c, .int .i64 h.b, .int .i64 h.p, .int .i64 h.h, .bool h.on]) rfl rfl (by kernel_rfl) (by kernel_rfl) (by kernel_rfl) (fun _ _ _ h => h) (by kernel_rfl) (by (intro Y hSw; obtain ⟨X0, X1, X2, X3, X4, X5, X6, X7⟩ := hc Y hSw; go_simp)) (by assumption) ?_
                simp only [List.set_cons_zero, List.set_cons_succ]
                refine takeW 4 68 (.pointer (some ⟨w.heap.size, 9, none⟩)) rfl rfl (by kernel_rfl) (by kernel_rfl) (by kernel_rfl) (fun _ _ _ h => h) (by kernel_rfl) (by (intro w hSw; go_simp)) (by assumption) ?_
                simp only [List.set_cons_zero, List.set_cons_succ]
                refine takeW 5 69 (.slice (some ⟨b', off', none⟩) x.sd.length x.cS) rfl rfl (by kernel_rfl) (by kernel_rfl) (by kernel_rfl) (fun _ _ _ h => h) (by kernel_rfl) (by (intro Y hSw; obtain ⟨X0, X1, X2, X3, X4, X5, X6, X7, X8, X9⟩ := A.below hSw A.lt; rw [hat.out] at X9; go_simp)) (by assumption) ?_
                simp only [List.set_cons_zero, List.set_cons_succ]
                refine takeW 6 70 (.int .i64 (k : Int)) rfl rfl (by kernel_rfl) (by kernel_rfl) (by kernel_rfl) (fun _ _ _ h => h) (by kernel_rfl) (by (intro w hSw; go_simp)) (by assumption) ?_
                simp only [List.set_cons_zero, List.set_cons_succ]
                refine takeW 7 71 (.pointer (some ⟨b', off' + k * 8, none⟩)) rfl rfl (by kernel_rfl) (by kernel_rfl) (by kernel_rfl) (fun _ _ _ h => h) (by kernel_rfl) (by (intro Y hSw; go_simp; try omega)) (by assumption) ?_
                simp only [List.set_cons_zero, List.set_cons_succ]
                refine takeW 8 72 (.agg #[.int .i64 h'.k, .int .i64 h'.pt, .int .i64 h'.r, .int .i64 h'.c, .int .i64 h'.b, .int .i64 h'.p, .int .i64 h'.h, .bool h'.on]) rfl rfl (by kernel_rfl) (by kernel_rfl) (by kernel_rfl) (fun _ _ _ h => h) (by kernel_rfl) (by (intro Y hSw; obtain ⟨X0, X1, X2, X3, X4, X5, X6, X7⟩ := hc' Y hSw; go_simp)) (by assumption) ?_
                simp only [List.set_cons_zero, List.set_cons_succ]
                refine takeW 9 73 (.bool false) rfl rfl (by kernel_rfl) (by kernel_rfl) (by kernel_rfl) (fun _ _ _ h => h) (by kernel_rfl) (by (intro w hSw; have hq := heq w; go_simp)) (by assumption) ?_
                simp only [List.set_cons_zero, List.set_cons_succ]
                refine wpAnyH_done (by kernel_rfl) ?_ _
                go_wp2
                go_roundw
                case rel =>
                  refine ⟨k + 1, by omega, by omega, by go_num, fun j hj => ?_, hb9.trans (hb0.mono hb9.size)⟩
                  by_cases ej : j = k
                  · rw [ej, hh.out, hh'.out]; exact he.out
                  · exact hF.out j (by omega)
                case measure => simp [intOf]; omega
              · have heq : ∀ w, (binOp .neq 114 (.agg #[.int .i64 h.k, .int .i64 h.pt, .int .i64 h.r, .int .i64 h.c, .int .i64 h.b, .int .i64 h.p, .int .i64 h.h, .bool h.on]) (.agg #[.int .i64 h'.k, .int .i64 h'.pt, .int .i64 h'.r, .int .i64 h'.c, .int .i64 h'.b, .int .i64 h'.p, .int .i64 h'.h, .bool h'.on])).run Tryz.prog w = .ok (.bool true) w := fun w => neqOu_else he w
                replace he : Hid (¬ h = h') := he
                go_upto_region 16 with fail
                clear a0 a1 a2 a3 a4 a5 a6 a7 a8 a9
                refine wp_region_held (S := fun Y => Below wr.heap.size wr Y) (by kernel_rfl) ?_
                change wpAnyH _ _ _ _ _ _ _ _ (World.drew _)
                have hb0 : Below wr.heap.size wr wr.drew := (Below.refl _ _).drew
                obtain ⟨u0, hu0⟩ : ∃ y_, y_ = wr.drew := ⟨_, rfl⟩
                rw [← hu0] at hb0 ⊢
                clear hu0
                refine takeW 0 64 (.slice (some ⟨bG, oG, none⟩) G.length cG) rfl rfl (by kernel_rfl) (by kernel_rfl) (by kernel_rfl) (fun _ _ _ h => h) (by kernel_rfl) (by (intro w hSw; go_simp)) (by assumption) ?_
                simp only [List.set_cons_zero, List.set_cons_succ]
                refine takeW 1 65 (.int .i64 (k : Int)) rfl rfl (by kernel_rfl) (by kernel_rfl) (by kernel_rfl) (fun _ _ _ h => h) (by kernel_rfl) (by (intro w hSw; go_simp)) (by assumption) ?_
                simp only [List.set_cons_zero, List.set_cons_succ]
                refine takeW 2 66 (.pointer (some ⟨bG, oG + k * 8, none⟩)) rfl rfl (by kernel_rfl) (by kernel_rfl) (by kernel_rfl) (fun _ _ _ h => h) (by kernel_rfl) (by (intro Y hSw; go_simp; try omega)) (by assumption) ?_
                simp only [List.set_cons_zero, List.set_cons_succ]
                refine takeW 3 67 (.agg #[.int .i64 h.k, .int .i64 h.pt, .int .i64 h.r, .int .i64 h.c, .int .i64 h.b, .int .i64 h.p, .int .i64 h.h, .bool h.on]) rfl rfl (by kernel_rfl) (by kernel_rfl) (by kernel_rfl) (fun _ _ _ h => h) (by kernel_rfl) (by (intro Y hSw; obtain ⟨X0, X1, X2, X3, X4, X5, X6, X7⟩ := hc Y hSw; go_simp)) (by assumption) ?_
                simp only [List.set_cons_zero, List.set_cons_succ]
                refine takeW 4 68 (.pointer (some ⟨w.heap.size, 9, none⟩)) rfl rfl (by kernel_rfl) (by kernel_rfl) (by kernel_rfl) (fun _ _ _ h => h) (by kernel_rfl) (by (intro w hSw; go_simp)) (by assumption) ?_
                simp only [List.set_cons_zero, List.set_cons_succ]
                refine takeW 5 69 (.slice (some ⟨b', off', none⟩) x.sd.length x.cS) rfl rfl (by kernel_rfl) (by kernel_rfl) (by kernel_rfl) (fun _ _ _ h => h) (by kernel_rfl) (by (intro Y hSw; obtain ⟨X0, X1, X2, X3, X4, X5, X6, X7, X8, X9⟩ := A.below hSw A.lt; rw [hat.out] at X9; go_simp)) (by assumption) ?_
                simp only [List.set_cons_zero, List.set_cons_succ]
                refine takeW 6 70 (.int .i64 (k : Int)) rfl rfl (by kernel_rfl) (by kernel_rfl) (by kernel_rfl) (fun _ _ _ h => h) (by kernel_rfl) (by (intro w hSw; go_simp)) (by assumption) ?_
                simp only [List.set_cons_zero, List.set_cons_succ]
                refine takeW 7 71 (.pointer (some ⟨b', off' + k * 8, none⟩)) rfl rfl (by kernel_rfl) (by kernel_rfl) (by kernel_rfl) (fun _ _ _ h => h) (by kernel_rfl) (by (intro Y hSw; go_simp; try omega)) (by assumption) ?_
                simp only [List.set_cons_zero, List.set_cons_succ]
                refine takeW 8 72 (.agg #[.int .i64 h'.k, .int .i64 h'.pt, .int .i64 h'.r, .int .i64 h'.c, .int .i64 h'.b, .int .i64 h'.p, .int .i64 h'.h, .bool h'.on]) rfl rfl (by kernel_rfl) (by kernel_rfl) (by kernel_rfl) (fun _ _ _ h => h) (by kernel_rfl) (by (intro Y hSw; obtain ⟨X0, X1, X2, X3, X4, X5, X6, X7⟩ := hc' Y hSw; go_simp)) (by assumption) ?_
                simp only [List.set_cons_zero, List.set_cons_succ]
                refine takeW 9 73 (.bool true) rfl rfl (by kernel_rfl) (by kernel_rfl) (by kernel_rfl) (fun _ _ _ h => h) (by kernel_rfl) (by (intro w hSw; have hq := heq w; go_simp)) (by assumption) ?_
                simp only [List.set_cons_zero, List.set_cons_succ]
                refine wpAnyH_done (by kernel_rfl) ?_ _
                have B := B.trans (hb0.mono B.size)
                go_wp2
                go_ret
                exact ⟨YN.no (fun q_ => he.out (hh.out.symm.trans ((congrArg (fun z => z.getD k Ou.nil) (hQG.out.1 q_)).trans hh'.out))), B⟩
            · have d2 : decide ((k : Int) < (x.sd.length : Int)) = false := decide_eq_false (by omega)
              have d3 : ((G.length : Int) == (x.sd.length : Int)) = false := by rw [beq_eq_false_iff_ne]; omega
              have d3' : (G.length == x.sd.length) = false := by rw [beq_eq_false_iff_ne]; omega
              have hn : Hid (¬ G.length = x.sd.length) := by unfold Hid; omega
              go_wp2
              go_ret
              exact ⟨YN.no (fun q_ => hn.out (congrArg List.length (hQG.out.1 q_))), B⟩
          · obtain rfl : k = G.length := by omega
            have d1 : decide ((G.length : Int) < (G.length : Int)) = false := decide_eq_false (by omega)
            by_cases hn : G.length = x.sd.length
            · have d3 : ((G.length : Int) == (x.sd.length : Int)) = true := by rw [beq_iff_eq]; omega
              have d3' : (G.length == x.sd.length) = true := by rw [beq_iff_eq]; exact hn
              replace hn : Hid _ := hn
              go_wp2
              go_ret
              exact ⟨YN.yes (hQG.out.2 (by apply List.ext_getElem hn.out; intro i h1 h2; have h3 := hF.out i h1; rw [List.getD_eq_getElem?_getD, List.getD_eq_getElem?_getD, List.getElem?_eq_getElem h1, List.getElem?_eq_getElem h2] at h3; exact h3)), B⟩
            · have d3 : ((G.length : Int) == (x.sd.length : Int)) = false := by rw [beq_eq_false_iff_ne]; omega
              have d3' : (G.length == x.sd.length) = false := by rw [beq_eq_false_iff_ne]; exact hn
              replace hn : Hid (¬ G.length = x.sd.length) := hn
              go_wp2
              go_ret
              exact ⟨YN.no (fun q_ => hn.out (congrArg List.length (hQG.out.1 q_))), B⟩

end Go.Proofs.YtnpiljegdiconaaGreat
namespace Go.Proofs.YtnpiljegdiconaaGreat
open Go.ChangeShapes Go.WideShapes Go.ChangeAt Go.RowKit
open Go.ChangeMaps (open_string shut_string)
set_option linter.unusedVariables false
set_option maxRecDepth 100000

/-- What fits asks. -/
def fitsM (m : Mi) : Bool :=
  numB m.li && (numB m.ep && (numB m.al && (decide ((m.lg.length : Int) ≤ 60) && (m.lg.all inOk && (decide (0 ≤ m.sd ∧ m.sd ≤ (m.lg.length : Int)) && decide (0 ≤ m.ac ∧ m.ac ≤ (m.lg.length : Int)))))))
set_option maxHeartbeats 4000000 in
theorem fitsI (m : Mi) (q : Nat) (ad : Option Addr) (cap : Nat) (w : World) (M : MgBox w q m (.slice ad m.lg.length cap)) (hv : FView ikEnc w ad m.lg) (hl : m.lg.length ≤ 1048577) :
    Calls Tryz.prog 126 #[.pointer (some ⟨q, 0, none⟩)] w fun e w' => e = .returned (.bool (fitsM m)) ∧ Below w.heap.size w w' := by
  obtain ⟨R, hR⟩ : ∃ R, R = fitsM m := ⟨_, rfl⟩
  rw [← hR]
  replace hR : Hid _ := hR
  go_enter Tryz.func126, Tryz.ntmps126
  go_upto_region 1 with fail
  refine wp_region_held (S := fun Y => Below w.heap.size w Y) (by kernel_rfl) ?_
  change wpAnyH _ _ _ _ _ _ _ _ (World.drew _)
  have hb0 : Below w.heap.size w w.drew := (Below.refl _ _).drew
  obtain ⟨u0, hy0⟩ : ∃ y_, y_ = w.drew := ⟨_, rfl⟩
  rw [← hy0] at hb0 ⊢
  clear hy0
  refine takeW 0 3 (.pointer (some ⟨q, 0, none⟩)) rfl rfl (by kernel_rfl) (by kernel_rfl) (by kernel_rfl) (fun _ _ _ h => h) (by kernel_rfl) (by (intro w hSw; go_simp)) (by assumption) ?_
  simp only [List.set_cons_zero, List.set_cons_succ]
  refine takeW 1 4 (.pointer (some ⟨q, 0, none⟩)) rfl rfl (by kernel_rfl) (by kernel_rfl) (by kernel_rfl) (fun _ _ _ h => h) (by kernel_rfl) (by (intro w hSw; go_simp)) (by assumption) ?_
  simp only [List.set_cons_zero, List.set_cons_succ]
  refine takeW 2 5 (.pointer (some ⟨q, 1, none⟩)) rfl rfl (by kernel_rfl) (by kernel_rfl) (by kernel_rfl) (fun _ _ _ h => h) (by kernel_rfl) (by (intro w hSw; go_simp)) (by assumption) ?_
  simp only [List.set_cons_zero, List.set_cons_succ]
  refine takeW 3 6 (.pointer (some ⟨q, 2, none⟩)) rfl rfl (by kernel_rfl) (by kernel_rfl) (by kernel_rfl) (fun _ _ _ h => h) (by kernel_rfl) (by (intro w hSw; go_simp)) (by assumption) ?_
  simp only [List.set_cons_zero, List.set_cons_succ]
  refine takeW 4 7 (.int .i64 m.li) rfl rfl (by kernel_rfl) (by kernel_rfl) (by kernel_rfl) (fun _ _ _ h => h) (by kernel_rfl) (by (intro Y hSw; obtain ⟨X0, X1, X2, X3, X4, X5, X6, XF⟩ := M.below hSw M.lt; go_simp)) (by assumption) ?_
  simp only [List.set_cons_zero, List.set_cons_succ]
  refine wpAnyH_all (rs := [5]) (by kernel_rfl) (by simp) ?_
  intro i hi; obtain rfl : i = 5 := by simpa using hi
  refine wpOp_step rfl (fun Kz hKz => ?_)
  rw [if_pos (by kernel_rfl)]
  go_simp
  go_at_call 72
  refine (numFitsI m.li u0).mono ?_
  rintro e u1 ⟨rfl, kq⟩
  replace kq : Below u0.heap.size u0 u1 := by rw [kq]; exact Below.refl _ _
  have hb1 : Below w.heap.size w u1 := hb0.trans (kq.mono hb0.size)
  clear kq
  refine hKz _ _ ⟨hb1, ?_⟩
  clear hKz Kz hi
  cases h_li : (numB m.li)
  · replace h_li : Hid _ := h_li
    refine takeW 6 9 (.bool false) rfl rfl (by kernel_rfl) (by kernel_rfl) (by kernel_rfl) (fun _ _ _ h => h) (by kernel_rfl) (by (intro w hSw; go_simp)) (by assumption) ?_
    simp only [List.set_cons_zero, List.set_cons_succ]
    refine takeS 7 10 rfl rfl (by kernel_rfl) (by kernel_rfl) (by kernel_rfl) (fun _ _ _ h => h) (by kernel_rfl) (by assumption) ?_
    simp only [List.set_cons_zero, List.set_cons_succ]
    refine takeS 8 11 rfl rfl (by kernel_rfl) (by kernel_rfl) (by kernel_rfl) (fun _ _ _ h => h) (by kernel_rfl) (by assumption) ?_
    simp only [List.set_cons_zero, List.set_cons_succ]
    refine takeS 9 12 rfl rfl (by kernel_rfl) (by kernel_rfl) (by kernel_rfl) (fun _ _ _ h => h) (by kernel_rfl) (by assumption) ?_
    simp only [List.set_cons_zero, List.set_cons_succ]
    refine takeS 10 13 rfl rfl (by kernel_rfl) (by kernel_rfl) (by kernel_rfl) (fun _ _ _ h => h) (by kernel_rfl) (by assumption) ?_
    simp only [List.set_cons_zero, List.set_cons_succ]
    refine takeS 11 14 rfl rfl (by kernel_rfl) (by kernel_rfl) (by kernel_rfl) (fun _ _ _ h => h) (by kernel_rfl) (by assumption) ?_
    simp only [List.set_cons_zero, List.set_cons_succ]
    refine takeS 12 15 rfl rfl (by kernel_rfl) (by kernel_rfl) (by kernel_rfl) (fun _ _ _ h => h) (by kernel_rfl) (by assumption) ?_
    simp only [List.set_cons_zero, List.set_cons_succ]
    refine takeW 13 16 (.bool false) rfl rfl (by kernel_rfl) (by kernel_rfl) (by kernel_rfl) (fun _ _ _ h => h) (by kernel_rfl) (by (intro w hSw; go_simp)) (by assumption) ?_
    simp only [List.set_cons_zero, List.set_cons_succ]
    refine takeW 14 17 (.bool false) rfl rfl (by kernel_rfl) (by kernel_rfl) (by kernel_rfl) (fun _ _ _ h => h) (by kernel_rfl) (by (intro w hSw; go_simp)) (by assumption) ?_
    simp only [List.set_cons_zero, List.set_cons_succ]
    refine takeS 15 18 rfl rfl (by kernel_rfl) (by kernel_rfl) (by kernel_rfl) (fun _ _ _ h => h) (by kernel_rfl) (by assumption) ?_
    simp only [List.set_cons_zero, List.set_cons_succ]
    refine takeS 16 19 rfl rfl (by kernel_rfl) (by kernel_rfl) (by kernel_rfl) (fun _ _ _ h => h) (by kernel_rfl) (by assumption) ?_
    simp only [List.set_cons_zero, List.set_cons_succ]
    refine takeS 17 20 rfl rfl (by kernel_rfl) (by kernel_rfl) (by kernel_rfl) (fun _ _ _ h => h) (by kernel_rfl) (by assumption) ?_
    simp only [List.set_cons_zero, List.set_cons_succ]
    refine takeS 18 21 rfl rfl (by kernel_rfl) (by kernel_rfl) (by kernel_rfl) (fun _ _ _ h => h) (by kernel_rfl) (by assumption) ?_
    simp only [List.set_cons_zero, List.set_cons_succ]
    refine takeS 19 22 rfl rfl (by kernel_rfl) (by kernel_rfl) (by kernel_rfl) (fun _ _ _ h => h) (by kernel_rfl) (by assumption) ?_
    simp only [List.set_cons_zero, List.set_cons_succ]
    refine takeS 20 23 rfl rfl (by kernel_rfl) (by kernel_rfl) (by kernel_rfl) (fun _ _ _ h => h) (by kernel_rfl) (by assumption) ?_
    simp only [List.set_cons_zero, List.set_cons_succ]
    refine takeW 21 24 (.bool false) rfl rfl (by kernel_rfl) (by kernel_rfl) (by kernel_rfl) (fun _ _ _ h => h) (by kernel_rfl) (by (intro w hSw; go_simp)) (by assumption) ?_
    simp only [List.set_cons_zero, List.set_cons_succ]
    refine takeW 22 25 (.bool false) rfl rfl (by kernel_rfl) (by kernel_rfl) (by kernel_rfl) (fun _ _ _ h => h) (by kernel_rfl) (by (intro w hSw; go_simp)) (by assumption) ?_
    simp only [List.set_cons_zero, List.set_cons_succ]
    refine takeS 23 26 rfl rfl (by kernel_rfl) (by kernel_rfl) (by kernel_rfl) (fun _ _ _ h => h) (by kernel_rfl) (by assumption) ?_
    simp only [List.set_cons_zero, List.set_cons_succ]
    refine takeS 24 27 rfl rfl (by kernel_rfl) (by kernel_rfl) (by kernel_rfl) (fun _ _ _ h => h) (by kernel_rfl) (by assumption) ?_
    simp only [List.set_cons_zero, List.set_cons_succ]
    refine takeS 25 28 rfl rfl (by kernel_rfl) (by kernel_rfl) (by kernel_rfl) (fun _ _ _ h => h) (by kernel_rfl) (by assumption) ?_
    simp only [List.set_cons_zero, List.set_cons_succ]
    refine takeS 26 29 rfl rfl (by kernel_rfl) (by kernel_rfl) (by kernel_rfl) (fun _ _ _ h => h) (by kernel_rfl) (by assumption) ?_
    simp only [List.set_cons_zero, List.set_cons_succ]
    refine takeS 27 30 rfl rfl (by kernel_rfl) (by kernel_rfl) (by kernel_rfl) (fun _ _ _ h => h) (by kernel_rfl) (by assumption) ?_
    simp only [List.set_cons_zero, List.set_cons_succ]
    refine takeW 28 31 (.bool false) rfl rfl (by kernel_rfl) (by kernel_rfl) (by kernel_rfl) (fun _ _ _ h => h) (by kernel_rfl) (by (intro w hSw; go_simp)) (by assumption) ?_
    simp only [List.set_cons_zero, List.set_cons_succ]
    refine takeW 29 32 (.bool false) rfl rfl (by kernel_rfl) (by kernel_rfl) (by kernel_rfl) (fun _ _ _ h => h) (by kernel_rfl) (by (intro w hSw; go_simp)) (by assumption) ?_
    simp only [List.set_cons_zero, List.set_cons_succ]
    refine takeS 30 33 rfl rfl (by kernel_rfl) (by kernel_rfl) (by kernel_rfl) (fun _ _ _ h => h) (by kernel_rfl) (by assumption) ?_
    simp only [List.set_cons_zero, List.set_cons_succ]
    refine takeS 31 34 rfl rfl (by kernel_rfl) (by kernel_rfl) (by kernel_rfl) (fun _ _ _ h => h) (by kernel_rfl) (by assumption) ?_
    simp only [List.set_cons_zero, List.set_cons_succ]
    refine takeS 32 35 rfl rfl (by kernel_rfl) (by kernel_rfl) (by kernel_rfl) (fun _ _ _ h => h) (by kernel_rfl) (by assumption) ?_
    simp only [List.set_cons_zero, List.set_cons_succ]
    refine takeS 33 36 rfl rfl (by kernel_rfl) (by kernel_rfl) (by kernel_rfl) (fun _ _ _ h => h) (by kernel_rfl) (by assumption) ?_
    simp only [List.set_cons_zero, List.set_cons_succ]
    refine takeW 34 37 (.bool false) rfl rfl (by kernel_rfl) (by kernel_rfl) (by kernel_rfl) (fun _ _ _ h => h) (by kernel_rfl) (by (intro w hSw; go_simp)) (by assumption) ?_
    simp only [List.set_cons_zero, List.set_cons_succ]
    refine takeW 35 38 (.bool false) rfl rfl (by kernel_rfl) (by kernel_rfl) (by kernel_rfl) (fun _ _ _ h => h) (by kernel_rfl) (by (intro w hSw; go_simp)) (by assumption) ?_
    simp only [List.set_cons_zero, List.set_cons_succ]
    refine takeS 36 39 rfl rfl (by kernel_rfl) (by kernel_rfl) (by kernel_rfl) (fun _ _ _ h => h) (by kernel_rfl) (by assumption) ?_
    simp only [List.set_cons_zero, List.set_cons_succ]
    refine takeS 37 40 rfl rfl (by kernel_rfl) (by kernel_rfl) (by kernel_rfl) (fun _ _ _ h => h) (by kernel_rfl) (by assumption) ?_
    simp only [List.set_cons_zero, List.set_cons_succ]
    refine takeS 38 41 rfl rfl (by kernel_rfl) (by kernel_rfl) (by kernel_rfl) (fun _ _ _ h => h) (by kernel_rfl) (by assumption) ?_
    simp only [List.set_cons_zero, List.set_cons_succ]
    refine takeS 39 42 rfl rfl (by kernel_rfl) (by kernel_rfl) (by kernel_rfl) (fun _ _ _ h => h) (by kernel_rfl) (by assumption) ?_
    simp only [List.set_cons_zero, List.set_cons_succ]
    refine takeS 40 43 rfl rfl (by kernel_rfl) (by kernel_rfl) (by kernel_rfl) (fun _ _ _ h => h) (by kernel_rfl) (by assumption) ?_
    simp only [List.set_cons_zero, List.set_cons_succ]
    refine takeS 41 44 rfl rfl (by kernel_rfl) (by kernel_rfl) (by kernel_rfl) (fun _ _ _ h => h) (by kernel_rfl) (by assumption) ?_
    simp only [List.set_cons_zero, List.set_cons_succ]
    refine takeS 42 45 rfl rfl (by kernel_rfl) (by kernel_rfl) (by kernel_rfl) (fun _ _ _ h => h) (by kernel_rfl) (by assumption) ?_
    simp only [List.set_cons_zero, List.set_cons_succ]
    refine takeS 43 46 rfl rfl (by kernel_rfl) (by kernel_rfl) (by kernel_rfl) (fun _ _ _ h => h) (by kernel_rfl) (by assumption) ?_
    simp only [List.set_cons_zero, List.set_cons_succ]
    refine takeS 44 47 rfl rfl (by kernel_rfl) (by kernel_rfl) (by kernel_rfl) (fun _ _ _ h => h) (by kernel_rfl) (by assumption) ?_
    simp only [List.set_cons_zero, List.set_cons_succ]
    refine takeW 45 48 (.bool false) rfl rfl (by kernel_rfl) (by kernel_rfl) (by kernel_rfl) (fun _ _ _ h => h) (by kernel_rfl) (by (intro w hSw; go_simp)) (by assumption) ?_
    simp only [List.set_cons_zero, List.set_cons_succ]
    refine takeW 46 49 (.bool false) rfl rfl (by kernel_rfl) (by kernel_rfl) (by kernel_rfl) (fun _ _ _ h => h) (by kernel_rfl) (by (intro w hSw; go_simp)) (by assumption) ?_
    simp only [List.set_cons_zero, List.set_cons_succ]
    refine takeS 47 50 rfl rfl (by kernel_rfl) (by kernel_rfl) (by kernel_rfl) (fun _ _ _ h => h) (by kernel_rfl) (by assumption) ?_
    simp only [List.set_cons_zero, List.set_cons_succ]
    refine takeS 48 51 rfl rfl (by kernel_rfl) (by kernel_rfl) (by kernel_rfl) (fun _ _ _ h => h) (by kernel_rfl) (by assumption) ?_
    simp only [List.set_cons_zero, List.set_cons_succ]
    refine takeS 49 52 rfl rfl (by kernel_rfl) (by kernel_rfl) (by kernel_rfl) (fun _ _ _ h => h) (by kernel_rfl) (by assumption) ?_
    simp only [List.set_cons_zero, List.set_cons_succ]
    refine takeS 50 53 rfl rfl (by kernel_rfl) (by kernel_rfl) (by kernel_rfl) (fun _ _ _ h => h) (by kernel_rfl) (by assumption) ?_
    simp only [List.set_cons_zero, List.set_cons_succ]
    refine takeS 51 54 rfl rfl (by kernel_rfl) (by kernel_rfl) (by kernel_rfl) (fun _ _ _ h => h) (by kernel_rfl) (by assumption) ?_
    simp only [List.set_cons_zero, List.set_cons_succ]
    refine takeS 52 55 rfl rfl (by kernel_rfl) (by kernel_rfl) (by kernel_rfl) (fun _ _ _ h => h) (by kernel_rfl) (by assumption) ?_
    simp only [List.set_cons_zero, List.set_cons_succ]
    refine takeS 53 56 rfl rfl (by kernel_rfl) (by kernel_rfl) (by kernel_rfl) (fun _ _ _ h => h) (by kernel_rfl) (by assumption) ?_
    simp only [List.set_cons_zero, List.set_cons_succ]
    refine takeS 54 57 rfl rfl (by kernel_rfl) (by kernel_rfl) (by kernel_rfl) (fun _ _ _ h => h) (by kernel_rfl) (by assumption) ?_
    simp only [List.set_cons_zero, List.set_cons_succ]
    refine takeS 55 58 rfl rfl (by kernel_rfl) (by kernel_rfl) (by kernel_rfl) (fun _ _ _ h => h) (by kernel_rfl) (by assumption) ?_
    simp only [List.set_cons_zero, List.set_cons_succ]
    refine takeW 56 59 (.bool false) rfl rfl (by kernel_rfl) (by kernel_rfl) (by kernel_rfl) (fun _ _ _ h => h) (by kernel_rfl) (by (intro w hSw; go_simp)) (by assumption) ?_
    simp only [List.set_cons_zero, List.set_cons_succ]
    refine takeW 57 2 (.bool false) rfl rfl (by kernel_rfl) (by kernel_rfl) (by kernel_rfl) (fun _ _ _ h => h) (by kernel_rfl) (by (intro w hSw; go_simp)) (by assumption) ?_
    simp only [List.set_cons_zero, List.set_cons_succ]
    refine wpAnyH_done (by kernel_rfl) ?_ _
    have hN : Hid (R = false) := by unfold Hid; rw [hR.out]; unfold fitsM; rw [h_li.out]; rfl
    go_wp2
    go_ret
    exact ⟨by rw [hN.out]; rfl, hb1⟩
  · replace h_li : Hid _ := h_li
    refine takeW 6 9 (.bool true) rfl rfl (by kernel_rfl) (by kernel_rfl) (by kernel_rfl) (fun _ _ _ h => h) (by kernel_rfl) (by (intro w hSw; go_simp)) (by assumption) ?_
    simp only [List.set_cons_zero, List.set_cons_succ]
    refine takeW 7 10 (.pointer (some ⟨q, 0, none⟩)) rfl rfl (by kernel_rfl) (by kernel_rfl) (by kernel_rfl) (fun _ _ _ h => h) (by kernel_rfl) (by (intro w hSw; go_simp)) (by assumption) ?_
    simp only [List.set_cons_zero, List.set_cons_succ]
    refine takeW 8 11 (.pointer (some ⟨q, 0, none⟩)) rfl rfl (by kernel_rfl) (by kernel_rfl) (by kernel_rfl) (fun _ _ _ h => h) (by kernel_rfl) (by (intro w hSw; go_simp)) (by assumption) ?_
    simp only [List.set_cons_zero, List.set_cons_succ]
    refine takeW 9 12 (.pointer (some ⟨q, 1, none⟩)) rfl rfl (by kernel_rfl) (by kernel_rfl) (by kernel_rfl) (fun _ _ _ h => h) (by kernel_rfl) (by (intro w hSw; go_simp)) (by assumption) ?_
    simp only [List.set_cons_zero, List.set_cons_succ]
    refine takeW 10 13 (.pointer (some ⟨q, 3, none⟩)) rfl rfl (by kernel_rfl) (by kernel_rfl) (by kernel_rfl) (fun _ _ _ h => h) (by kernel_rfl) (by (intro w hSw; go_simp)) (by assumption) ?_
    simp only [List.set_cons_zero, List.set_cons_succ]
    refine takeW 11 14 (.int .i64 m.ep) rfl rfl (by kernel_rfl) (by kernel_rfl) (by kernel_rfl) (fun _ _ _ h => h) (by kernel_rfl) (by (intro Y hSw; obtain ⟨X0, X1, X2, X3, X4, X5, X6, XF⟩ := M.below hSw M.lt; go_simp)) (by assumption) ?_
    simp only [List.set_cons_zero, List.set_cons_succ]
    refine wpAnyH_all (rs := [12]) (by kernel_rfl) (by simp) ?_
    intro i hi; obtain rfl : i = 12 := by simpa using hi
    refine wpOp_step rfl (fun Kz hKz => ?_)
    rw [if_pos (by kernel_rfl)]
    go_simp
    go_at_call 72
    refine (numFitsI m.ep u1).mono ?_
    rintro e u2 ⟨rfl, kq⟩
    replace kq : Below u1.heap.size u1 u2 := by rw [kq]; exact Below.refl _ _
    have hb2 : Below w.heap.size w u2 := hb1.trans (kq.mono hb1.size)
    clear kq
    refine hKz _ _ ⟨hb2, ?_⟩
    clear hKz Kz hi
    cases h_ep : (numB m.ep)
    · replace h_ep : Hid _ := h_ep
      refine takeW 13 16 (.bool false) rfl rfl (by kernel_rfl) (by kernel_rfl) (by kernel_rfl) (fun _ _ _ h => h) (by kernel_rfl) (by (intro w hSw; go_simp)) (by assumption) ?_
      simp only [List.set_cons_zero, List.set_cons_succ]
      refine takeW 14 17 (.bool false) rfl rfl (by kernel_rfl) (by kernel_rfl) (by kernel_rfl) (fun _ _ _ h => h) (by kernel_rfl) (by (intro w hSw; go_simp)) (by assumption) ?_
      simp only [List.set_cons_zero, List.set_cons_succ]
      refine takeS 15 18 rfl rfl (by kernel_rfl) (by kernel_rfl) (by kernel_rfl) (fun _ _ _ h => h) (by kernel_rfl) (by assumption) ?_
      simp only [List.set_cons_zero, List.set_cons_succ]
      refine takeS 16 19 rfl rfl (by kernel_rfl) (by kernel_rfl) (by kernel_rfl) (fun _ _ _ h => h) (by kernel_rfl) (by assumption) ?_
      simp only [List.set_cons_zero, List.set_cons_succ]
      refine takeS 17 20 rfl rfl (by kernel_rfl) (by kernel_rfl) (by kernel_rfl) (fun _ _ _ h => h) (by kernel_rfl) (by assumption) ?_
      simp only [List.set_cons_zero, List.set_cons_succ]
      refine takeS 18 21 rfl rfl (by kernel_rfl) (by kernel_rfl) (by kernel_rfl) (fun _ _ _ h => h) (by kernel_rfl) (by assumption) ?_
      simp only [List.set_cons_zero, List.set_cons_succ]
      refine takeS 19 22 rfl rfl (by kernel_rfl) (by kernel_rfl) (by kernel_rfl) (fun _ _ _ h => h) (by kernel_rfl) (by assumption) ?_
      simp only [List.set_cons_zero, List.set_cons_succ]
      refine takeS 20 23 rfl rfl (by kernel_rfl) (by kernel_rfl) (by kernel_rfl) (fun _ _ _ h => h) (by kernel_rfl) (by assumption) ?_
      simp only [List.set_cons_zero, List.set_cons_succ]
      refine takeW 21 24 (.bool false) rfl rfl (by kernel_rfl) (by kernel_rfl) (by kernel_rfl) (fun _ _ _ h => h) (by kernel_rfl) (by (intro w hSw; go_simp)) (by assumption) ?_
      simp only [List.set_cons_zero, List.set_cons_succ]
      refine takeW 22 25 (.bool false) rfl rfl (by kernel_rfl) (by kernel_rfl) (by kernel_rfl) (fun _ _ _ h => h) (by kernel_rfl) (by (intro w hSw; go_simp)) (by assumption) ?_
      simp only [List.set_cons_zero, List.set_cons_succ]
      refine takeS 23 26 rfl rfl (by kernel_rfl) (by kernel_rfl) (by kernel_rfl) (fun _ _ _ h => h) (by kernel_rfl) (by assumption) ?_
      simp only [List.set_cons_zero, List.set_cons_succ]
      refine takeS 24 27 rfl rfl (by kernel_rfl) (by kernel_rfl) (by kernel_rfl) (fun _ _ _ h => h) (by kernel_rfl) (by assumption) ?_
      simp only [List.set_cons_zero, List.set_cons_succ]
      refine takeS 25 28 rfl rfl (by kernel_rfl) (by kernel_rfl) (by kernel_rfl) (fun _ _ _ h => h) (by kernel_rfl) (by assumption) ?_
      simp only [List.set_cons_zero, List.set_cons_succ]
      refine takeS 26 29 rfl rfl (by kernel_rfl) (by kernel_rfl) (by kernel_rfl) (fun _ _ _ h => h) (by kernel_rfl) (by assumption) ?_
      simp only [List.set_cons_zero, List.set_cons_succ]
      refine takeS 27 30 rfl rfl (by kernel_rfl) (by kernel_rfl) (by kernel_rfl) (fun _ _ _ h => h) (by kernel_rfl) (by assumption) ?_
      simp only [List.set_cons_zero, List.set_cons_succ]
      refine takeW 28 31 (.bool false) rfl rfl (by kernel_rfl) (by kernel_rfl) (by kernel_rfl) (fun _ _ _ h => h) (by kernel_rfl) (by (intro w hSw; go_simp)) (by assumption) ?_
      simp only [List.set_cons_zero, List.set_cons_succ]
      refine takeW 29 32 (.bool false) rfl rfl (by kernel_rfl) (by kernel_rfl) (by kernel_rfl) (fun _ _ _ h => h) (by kernel_rfl) (by (intro w hSw; go_simp)) (by assumption) ?_
      simp only [List.set_cons_zero, List.set_cons_succ]
      refine takeS 30 33 rfl rfl (by kernel_rfl) (by kernel_rfl) (by kernel_rfl) (fun _ _ _ h => h) (by kernel_rfl) (by assumption) ?_
      simp only [List.set_cons_zero, List.set_cons_succ]
      refine takeS 31 34 rfl rfl (by kernel_rfl) (by kernel_rfl) (by kernel_rfl) (fun _ _ _ h => h) (by kernel_rfl) (by assumption) ?_
      simp only [List.set_cons_zero, List.set_cons_succ]
      refine takeS 32 35 rfl rfl (by kernel_rfl) (by kernel_rfl) (by kernel_rfl) (fun _ _ _ h => h) (by kernel_rfl) (by assumption) ?_
      simp only [List.set_cons_zero, List.set_cons_succ]
      refine takeS 33 36 rfl rfl (by kernel_rfl) (by kernel_rfl) (by kernel_rfl) (fun _ _ _ h => h) (by kernel_rfl) (by assumption) ?_
      simp only [List.set_cons_zero, List.set_cons_succ]
      refine takeW 34 37 (.bool false) rfl rfl (by kernel_rfl) (by kernel_rfl) (by kernel_rfl) (fun _ _ _ h => h) (by kernel_rfl) (by (intro w hSw; go_simp)) (by assumption) ?_
      simp only [List.set_cons_zero, List.set_cons_succ]
      refine takeW 35 38 (.bool false) rfl rfl (by kernel_rfl) (by kernel_rfl) (by kernel_rfl) (fun _ _ _ h => h) (by kernel_rfl) (by (intro w hSw; go_simp)) (by assumption) ?_
      simp only [List.set_cons_zero, List.set_cons_succ]
      refine takeS 36 39 rfl rfl (by kernel_rfl) (by kernel_rfl) (by kernel_rfl) (fun _ _ _ h => h) (by kernel_rfl) (by assumption) ?_
      simp only [List.set_cons_zero, List.set_cons_succ]
      refine takeS 37 40 rfl rfl (by kernel_rfl) (by kernel_rfl) (by kernel_rfl) (fun _ _ _ h => h) (by kernel_rfl) (by assumption) ?_
      simp only [List.set_cons_zero, List.set_cons_succ]
      refine takeS 38 41 rfl rfl (by kernel_rfl) (by kernel_rfl) (by kernel_rfl) (fun _ _ _ h => h) (by kernel_rfl) (by assumption) ?_
      simp only [List.set_cons_zero, List.set_cons_succ]
      refine takeS 39 42 rfl rfl (by kernel_rfl) (by kernel_rfl) (by kernel_rfl) (fun _ _ _ h => h) (by kernel_rfl) (by assumption) ?_
      simp only [List.set_cons_zero, List.set_cons_succ]
      refine takeS 40 43 rfl rfl (by kernel_rfl) (by kernel_rfl) (by kernel_rfl) (fun _ _ _ h => h) (by kernel_rfl) (by assumption) ?_
      simp only [List.set_cons_zero, List.set_cons_succ]
      refine takeS 41 44 rfl rfl (by kernel_rfl) (by kernel_rfl) (by kernel_rfl) (fun _ _ _ h => h) (by kernel_rfl) (by assumption) ?_
      simp only [List.set_cons_zero, List.set_cons_succ]
      refine takeS 42 45 rfl rfl (by kernel_rfl) (by kernel_rfl) (by kernel_rfl) (fun _ _ _ h => h) (by kernel_rfl) (by assumption) ?_
      simp only [List.set_cons_zero, List.set_cons_succ]
      refine takeS 43 46 rfl rfl (by kernel_rfl) (by kernel_rfl) (by kernel_rfl) (fun _ _ _ h => h) (by kernel_rfl) (by assumption) ?_
      simp only [List.set_cons_zero, List.set_cons_succ]
      refine takeS 44 47 rfl rfl (by kernel_rfl) (by kernel_rfl) (by kernel_rfl) (fun _ _ _ h => h) (by kernel_rfl) (by assumption) ?_
      simp only [List.set_cons_zero, List.set_cons_succ]
      refine takeW 45 48 (.bool false) rfl rfl (by kernel_rfl) (by kernel_rfl) (by kernel_rfl) (fun _ _ _ h => h) (by kernel_rfl) (by (intro w hSw; go_simp)) (by assumption) ?_
      simp only [List.set_cons_zero, List.set_cons_succ]
      refine takeW 46 49 (.bool false) rfl rfl (by kernel_rfl) (by kernel_rfl) (by kernel_rfl) (fun _ _ _ h => h) (by kernel_rfl) (by (intro w hSw; go_simp)) (by assumption) ?_
      simp only [List.set_cons_zero, List.set_cons_succ]
      refine takeS 47 50 rfl rfl (by kernel_rfl) (by kernel_rfl) (by kernel_rfl) (fun _ _ _ h => h) (by kernel_rfl) (by assumption) ?_
      simp only [List.set_cons_zero, List.set_cons_succ]
      refine takeS 48 51 rfl rfl (by kernel_rfl) (by kernel_rfl) (by kernel_rfl) (fun _ _ _ h => h) (by kernel_rfl) (by assumption) ?_
      simp only [List.set_cons_zero, List.set_cons_succ]
      refine takeS 49 52 rfl rfl (by kernel_rfl) (by kernel_rfl) (by kernel_rfl) (fun _ _ _ h => h) (by kernel_rfl) (by assumption) ?_
      simp only [List.set_cons_zero, List.set_cons_succ]
      refine takeS 50 53 rfl rfl (by kernel_rfl) (by kernel_rfl) (by kernel_rfl) (fun _ _ _ h => h) (by kernel_rfl) (by assumption) ?_
      simp only [List.set_cons_zero, List.set_cons_succ]
      refine takeS 51 54 rfl rfl (by kernel_rfl) (by kernel_rfl) (by kernel_rfl) (fun _ _ _ h => h) (by kernel_rfl) (by assumption) ?_
      simp only [List.set_cons_zero, List.set_cons_succ]
      refine takeS 52 55 rfl rfl (by kernel_rfl) (by kernel_rfl) (by kernel_rfl) (fun _ _ _ h => h) (by kernel_rfl) (by assumption) ?_
      simp only [List.set_cons_zero, List.set_cons_succ]
      refine takeS 53 56 rfl rfl (by kernel_rfl) (by kernel_rfl) (by kernel_rfl) (fun _ _ _ h => h) (by kernel_rfl) (by assumption) ?_
      simp only [List.set_cons_zero, List.set_cons_succ]
      refine takeS 54 57 rfl rfl (by kernel_rfl) (by kernel_rfl) (by kernel_rfl) (fun _ _ _ h => h) (by kernel_rfl) (by assumption) ?_
      simp only [List.set_cons_zero, List.set_cons_succ]
      refine takeS 55 58 rfl rfl (by kernel_rfl) (by kernel_rfl) (by kernel_rfl) (fun _ _ _ h => h) (by kernel_rfl) (by assumption) ?_
      simp only [List.set_cons_zero, List.set_cons_succ]
      refine takeW 56 59 (.bool false) rfl rfl (by kernel_rfl) (by kernel_rfl) (by kernel_rfl) (fun _ _ _ h => h) (by kernel_rfl) (by (intro w hSw; go_simp)) (by assumption) ?_
      simp only [List.set_cons_zero, List.set_cons_succ]
      refine takeW 57 2 (.bool false) rfl rfl (by kernel_rfl) (by kernel_rfl) (by kernel_rfl) (fun _ _ _ h => h) (by kernel_rfl) (by (intro w hSw; go_simp)) (by assumption) ?_
      simp only [List.set_cons_zero, List.set_cons_succ]
      refine wpAnyH_done (by kernel_rfl) ?_ _
      have hN : Hid (R = false) := by unfold Hid; rw [hR.out]; unfold fitsM; rw [h_li.out, h_ep.out]; rfl
      go_wp2
      go_ret
      exact ⟨by rw [hN.out]; rfl, hb2⟩
    · replace h_ep : Hid _ := h_ep
      refine takeW 13 16 (.bool true) rfl rfl (by kernel_rfl) (by kernel_rfl) (by kernel_rfl) (fun _ _ _ h => h) (by kernel_rfl) (by (intro w hSw; go_simp)) (by assumption) ?_
      simp only [List.set_cons_zero, List.set_cons_succ]
      refine takeW 14 17 (.bool true) rfl rfl (by kernel_rfl) (by kernel_rfl) (by kernel_rfl) (fun _ _ _ h => h) (by kernel_rfl) (by (intro w hSw; go_simp)) (by assumption) ?_
      simp only [List.set_cons_zero, List.set_cons_succ]
      refine takeW 15 18 (.pointer (some ⟨q, 0, none⟩)) rfl rfl (by kernel_rfl) (by kernel_rfl) (by kernel_rfl) (fun _ _ _ h => h) (by kernel_rfl) (by (intro w hSw; go_simp)) (by assumption) ?_
      simp only [List.set_cons_zero, List.set_cons_succ]
      refine takeW 16 19 (.pointer (some ⟨q, 0, none⟩)) rfl rfl (by kernel_rfl) (by kernel_rfl) (by kernel_rfl) (fun _ _ _ h => h) (by kernel_rfl) (by (intro w hSw; go_simp)) (by assumption) ?_
      simp only [List.set_cons_zero, List.set_cons_succ]
      refine takeW 17 20 (.pointer (some ⟨q, 1, none⟩)) rfl rfl (by kernel_rfl) (by kernel_rfl) (by kernel_rfl) (fun _ _ _ h => h) (by kernel_rfl) (by (intro w hSw; go_simp)) (by assumption) ?_
      simp only [List.set_cons_zero, List.set_cons_succ]
      refine takeW 18 21 (.pointer (some ⟨q, 6, none⟩)) rfl rfl (by kernel_rfl) (by kernel_rfl) (by kernel_rfl) (fun _ _ _ h => h) (by kernel_rfl) (by (intro w hSw; go_simp)) (by assumption) ?_
      simp only [List.set_cons_zero, List.set_cons_succ]
      refine takeW 19 22 (.int .i64 m.al) rfl rfl (by kernel_rfl) (by kernel_rfl) (by kernel_rfl) (fun _ _ _ h => h) (by kernel_rfl) (by (intro Y hSw; obtain ⟨X0, X1, X2, X3, X4, X5, X6, XF⟩ := M.below hSw M.lt; go_simp)) (by assumption) ?_
      simp only [List.set_cons_zero, List.set_cons_succ]
      refine wpAnyH_all (rs := [20]) (by kernel_rfl) (by simp) ?_
      intro i hi; obtain rfl : i = 20 := by simpa using hi
      refine wpOp_step rfl (fun Kz hKz => ?_)
      rw [if_pos (by kernel_rfl)]
      go_simp
      go_at_call 72
      refine (numFitsI m.al u2).mono ?_
      rintro e u3 ⟨rfl, kq⟩
      replace kq : Below u2.heap.size u2 u3 := by rw [kq]; exact Below.refl _ _
      have hb3 : Below w.heap.size w u3 := hb2.trans (kq.mono hb2.size)
      clear kq
      refine hKz _ _ ⟨hb3, ?_⟩
      clear hKz Kz hi
      cases h_al : (numB m.al)
      · replace h_al : Hid _ := h_al
        refine takeW 21 24 (.bool false) rfl rfl (by kernel_rfl) (by kernel_rfl) (by kernel_rfl) (fun _ _ _ h => h) (by kernel_rfl) (by (intro w hSw; go_simp)) (by assumption) ?_
        simp only [List.set_cons_zero, List.set_cons_succ]
        refine takeW 22 25 (.bool false) rfl rfl (by kernel_rfl) (by kernel_rfl) (by kernel_rfl) (fun _ _ _ h => h) (by kernel_rfl) (by (intro w hSw; go_simp)) (by assumption) ?_
        simp only [List.set_cons_zero, List.set_cons_succ]
        refine takeS 23 26 rfl rfl (by kernel_rfl) (by kernel_rfl) (by kernel_rfl) (fun _ _ _ h => h) (by kernel_rfl) (by assumption) ?_
        simp only [List.set_cons_zero, List.set_cons_succ]
        refine takeS 24 27 rfl rfl (by kernel_rfl) (by kernel_rfl) (by kernel_rfl) (fun _ _ _ h => h) (by kernel_rfl) (by assumption) ?_
        simp only [List.set_cons_zero, List.set_cons_succ]
        refine takeS 25 28 rfl rfl (by kernel_rfl) (by kernel_rfl) (by kernel_rfl) (fun _ _ _ h => h) (by kernel_rfl) (by assumption) ?_
        simp only [List.set_cons_zero, List.set_cons_succ]
        refine takeS 26 29 rfl rfl (by kernel_rfl) (by kernel_rfl) (by kernel_rfl) (fun _ _ _ h => h) (by kernel_rfl) (by assumption) ?_
        simp only [List.set_cons_zero, List.set_cons_succ]
        refine takeS 27 30 rfl rfl (by kernel_rfl) (by kernel_rfl) (by kernel_rfl) (fun _ _ _ h => h) (by kernel_rfl) (by assumption) ?_
        simp only [List.set_cons_zero, List.set_cons_succ]
        refine takeW 28 31 (.bool false) rfl rfl (by kernel_rfl) (by kernel_rfl) (by kernel_rfl) (fun _ _ _ h => h) (by kernel_rfl) (by (intro w hSw; go_simp)) (by assumption) ?_
        simp only [List.set_cons_zero, List.set_cons_succ]
        refine takeW 29 32 (.bool false) rfl rfl (by kernel_rfl) (by kernel_rfl) (by kernel_rfl) (fun _ _ _ h => h) (by kernel_rfl) (by (intro w hSw; go_simp)) (by assumption) ?_
        simp only [List.set_cons_zero, List.set_cons_succ]
        refine takeS 30 33 rfl rfl (by kernel_rfl) (by kernel_rfl) (by kernel_rfl) (fun _ _ _ h => h) (by kernel_rfl) (by assumption) ?_
        simp only [List.set_cons_zero, List.set_cons_succ]
        refine takeS 31 34 rfl rfl (by kernel_rfl) (by kernel_rfl) (by kernel_rfl) (fun _ _ _ h => h) (by kernel_rfl) (by assumption) ?_
        simp only [List.set_cons_zero, List.set_cons_succ]
        refine takeS 32 35 rfl rfl (by kernel_rfl) (by kernel_rfl) (by kernel_rfl) (fun _ _ _ h => h) (by kernel_rfl) (by assumption) ?_
        simp only [List.set_cons_zero, List.set_cons_succ]
        refine takeS 33 36 rfl rfl (by kernel_rfl) (by kernel_rfl) (by kernel_rfl) (fun _ _ _ h => h) (by kernel_rfl) (by assumption) ?_
        simp only [List.set_cons_zero, List.set_cons_succ]
        refine takeW 34 37 (.bool false) rfl rfl (by kernel_rfl) (by kernel_rfl) (by kernel_rfl) (fun _ _ _ h => h) (by kernel_rfl) (by (intro w hSw; go_simp)) (by assumption) ?_
        simp only [List.set_cons_zero, List.set_cons_succ]
        refine takeW 35 38 (.bool false) rfl rfl (by kernel_rfl) (by kernel_rfl) (by kernel_rfl) (fun _ _ _ h => h) (by kernel_rfl) (by (intro w hSw; go_simp)) (by assumption) ?_
        simp only [List.set_cons_zero, List.set_cons_succ]
        refine takeS 36 39 rfl rfl (by kernel_rfl) (by kernel_rfl) (by kernel_rfl) (fun _ _ _ h => h) (by kernel_rfl) (by assumption) ?_
        simp only [List.set_cons_zero, List.set_cons_succ]
        refine takeS 37 40 rfl rfl (by kernel_rfl) (by kernel_rfl) (by kernel_rfl) (fun _ _ _ h => h) (by kernel_rfl) (by assumption) ?_
        simp only [List.set_cons_zero, List.set_cons_succ]
        refine takeS 38 41 rfl rfl (by kernel_rfl) (by kernel_rfl) (by kernel_rfl) (fun _ _ _ h => h) (by kernel_rfl) (by assumption) ?_
        simp only [List.set_cons_zero, List.set_cons_succ]
        refine takeS 39 42 rfl rfl (by kernel_rfl) (by kernel_rfl) (by kernel_rfl) (fun _ _ _ h => h) (by kernel_rfl) (by assumption) ?_
        simp only [List.set_cons_zero, List.set_cons_succ]
        refine takeS 40 43 rfl rfl (by kernel_rfl) (by kernel_rfl) (by kernel_rfl) (fun _ _ _ h => h) (by kernel_rfl) (by assumption) ?_
        simp only [List.set_cons_zero, List.set_cons_succ]
        refine takeS 41 44 rfl rfl (by kernel_rfl) (by kernel_rfl) (by kernel_rfl) (fun _ _ _ h => h) (by kernel_rfl) (by assumption) ?_
        simp only [List.set_cons_zero, List.set_cons_succ]
        refine takeS 42 45 rfl rfl (by kernel_rfl) (by kernel_rfl) (by kernel_rfl) (fun _ _ _ h => h) (by kernel_rfl) (by assumption) ?_
        simp only [List.set_cons_zero, List.set_cons_succ]
        refine takeS 43 46 rfl rfl (by kernel_rfl) (by kernel_rfl) (by kernel_rfl) (fun _ _ _ h => h) (by kernel_rfl) (by assumption) ?_
        simp only [List.set_cons_zero, List.set_cons_succ]
        refine takeS 44 47 rfl rfl (by kernel_rfl) (by kernel_rfl) (by kernel_rfl) (fun _ _ _ h => h) (by kernel_rfl) (by assumption) ?_
        simp only [List.set_cons_zero, List.set_cons_succ]
        refine takeW 45 48 (.bool false) rfl rfl (by kernel_rfl) (by kernel_rfl) (by kernel_rfl) (fun _ _ _ h => h) (by kernel_rfl) (by (intro w hSw; go_simp)) (by assumption) ?_
        simp only [List.set_cons_zero, List.set_cons_succ]
        refine takeW 46 49 (.bool false) rfl rfl (by kernel_rfl) (by kernel_rfl) (by kernel_rfl) (fun _ _ _ h => h) (by kernel_rfl) (by (intro w hSw; go_simp)) (by assumption) ?_
        simp only [List.set_cons_zero, List.set_cons_succ]
        refine takeS 47 50 rfl rfl (by kernel_rfl) (by kernel_rfl) (by kernel_rfl) (fun _ _ _ h => h) (by kernel_rfl) (by assumption) ?_
        simp only [List.set_cons_zero, List.set_cons_succ]
        refine takeS 48 51 rfl rfl (by kernel_rfl) (by kernel_rfl) (by kernel_rfl) (fun _ _ _ h => h) (by kernel_rfl) (by assumption) ?_
        simp only [List.set_cons_zero, List.set_cons_succ]
        refine takeS 49 52 rfl rfl (by kernel_rfl) (by kernel_rfl) (by kernel_rfl) (fun _ _ _ h => h) (by kernel_rfl) (by assumption) ?_
        simp only [List.set_cons_zero, List.set_cons_succ]
        refine takeS 50 53 rfl rfl (by kernel_rfl) (by kernel_rfl) (by kernel_rfl) (fun _ _ _ h => h) (by kernel_rfl) (by assumption) ?_
        simp only [List.set_cons_zero, List.set_cons_succ]
        refine takeS 51 54 rfl rfl (by kernel_rfl) (by kernel_rfl) (by kernel_rfl) (fun _ _ _ h => h) (by kernel_rfl) (by assumption) ?_
        simp only [List.set_cons_zero, List.set_cons_succ]
        refine takeS 52 55 rfl rfl (by kernel_rfl) (by kernel_rfl) (by kernel_rfl) (fun _ _ _ h => h) (by kernel_rfl) (by assumption) ?_
        simp only [List.set_cons_zero, List.set_cons_succ]
        refine takeS 53 56 rfl rfl (by kernel_rfl) (by kernel_rfl) (by kernel_rfl) (fun _ _ _ h => h) (by kernel_rfl) (by assumption) ?_
        simp only [List.set_cons_zero, List.set_cons_succ]
        refine takeS 54 57 rfl rfl (by kernel_rfl) (by kernel_rfl) (by kernel_rfl) (fun _ _ _ h => h) (by kernel_rfl) (by assumption) ?_
        simp only [List.set_cons_zero, List.set_cons_succ]
        refine takeS 55 58 rfl rfl (by kernel_rfl) (by kernel_rfl) (by kernel_rfl) (fun _ _ _ h => h) (by kernel_rfl) (by assumption) ?_
        simp only [List.set_cons_zero, List.set_cons_succ]
        refine takeW 56 59 (.bool false) rfl rfl (by kernel_rfl) (by kernel_rfl) (by kernel_rfl) (fun _ _ _ h => h) (by kernel_rfl) (by (intro w hSw; go_simp)) (by assumption) ?_
        simp only [List.set_cons_zero, List.set_cons_succ]
        refine takeW 57 2 (.bool false) rfl rfl (by kernel_rfl) (by kernel_rfl) (by kernel_rfl) (fun _ _ _ h => h) (by kernel_rfl) (by (intro w hSw; go_simp)) (by assumption) ?_
        simp only [List.set_cons_zero, List.set_cons_succ]
        refine wpAnyH_done (by kernel_rfl) ?_ _
        have hN : Hid (R = false) := by unfold Hid; rw [hR.out]; unfold fitsM; rw [h_li.out, h_ep.out, h_al.out]; rfl
        go_wp2
        go_ret
        exact ⟨by rw [hN.out]; rfl, hb3⟩
      · replace h_al : Hid _ := h_al
        refine takeW 21 24 (.bool true) rfl rfl (by kernel_rfl) (by kernel_rfl) (by kernel_rfl) (fun _ _ _ h => h) (by kernel_rfl) (by (intro w hSw; go_simp)) (by assumption) ?_
        simp only [List.set_cons_zero, List.set_cons_succ]
        refine takeW 22 25 (.bool true) rfl rfl (by kernel_rfl) (by kernel_rfl) (by kernel_rfl) (fun _ _ _ h => h) (by kernel_rfl) (by (intro w hSw; go_simp)) (by assumption) ?_
        simp only [List.set_cons_zero, List.set_cons_succ]
        refine takeW 23 26 (.pointer (some ⟨q, 0, none⟩)) rfl rfl (by kernel_rfl) (by kernel_rfl) (by kernel_rfl) (fun _ _ _ h => h) (by kernel_rfl) (by (intro w hSw; go_simp)) (by assumption) ?_
        simp only [List.set_cons_zero, List.set_cons_succ]
        refine takeW 24 27 (.pointer (some ⟨q, 0, none⟩)) rfl rfl (by kernel_rfl) (by kernel_rfl) (by kernel_rfl) (fun _ _ _ h => h) (by kernel_rfl) (by (intro w hSw; go_simp)) (by assumption) ?_
        simp only [List.set_cons_zero, List.set_cons_succ]
        refine takeW 25 28 (.pointer (some ⟨q, 0, none⟩)) rfl rfl (by kernel_rfl) (by kernel_rfl) (by kernel_rfl) (fun _ _ _ h => h) (by kernel_rfl) (by (intro w hSw; go_simp)) (by assumption) ?_
        simp only [List.set_cons_zero, List.set_cons_succ]
        refine wpAnyH_all (rs := [26]) (by kernel_rfl) (by simp) ?_
        intro i hi; obtain rfl : i = 26 := by simpa using hi
        refine wpOp_step rfl (fun Kz hKz => ?_)
        rw [if_pos (by kernel_rfl)]
        go_simp
        go_at_call 172
        refine (countI q m.lg.length ad cap u3 (M.below hb3 M.lt).c0).mono ?_
        rintro e u4 ⟨rfl, kq⟩
        replace kq : Below u3.heap.size u3 u4 := by rw [kq]; exact Below.refl _ _
        have hb4 : Below w.heap.size w u4 := hb3.trans (kq.mono hb3.size)
        clear kq
        refine hKz _ _ ⟨hb4, ?_⟩
        clear hKz Kz hi
        refine takeW 27 30 (.bool (decide ((m.lg.length : Int) ≤ 60))) rfl rfl (by kernel_rfl) (by kernel_rfl) (by kernel_rfl) (fun _ _ _ h => h) (by kernel_rfl) (by (intro w hSw; go_simp)) (by assumption) ?_
        simp only [List.set_cons_zero, List.set_cons_succ]
        cases h_len : (decide ((m.lg.length : Int) ≤ 60))
        · replace h_len : Hid _ := h_len
          refine takeW 28 31 (.bool false) rfl rfl (by kernel_rfl) (by kernel_rfl) (by kernel_rfl) (fun _ _ _ h => h) (by kernel_rfl) (by (intro w hSw; go_simp)) (by assumption) ?_
          simp only [List.set_cons_zero, List.set_cons_succ]
          refine takeW 29 32 (.bool false) rfl rfl (by kernel_rfl) (by kernel_rfl) (by kernel_rfl) (fun _ _ _ h => h) (by kernel_rfl) (by (intro w hSw; go_simp)) (by assumption) ?_
          simp only [List.set_cons_zero, List.set_cons_succ]
          refine takeS 30 33 rfl rfl (by kernel_rfl) (by kernel_rfl) (by kernel_rfl) (fun _ _ _ h => h) (by kernel_rfl) (by assumption) ?_
          simp only [List.set_cons_zero, List.set_cons_succ]
          refine takeS 31 34 rfl rfl (by kernel_rfl) (by kernel_rfl) (by kernel_rfl) (fun _ _ _ h => h) (by kernel_rfl) (by assumption) ?_
          simp only [List.set_cons_zero, List.set_cons_succ]
          refine takeS 32 35 rfl rfl (by kernel_rfl) (by kernel_rfl) (by kernel_rfl) (fun _ _ _ h => h) (by kernel_rfl) (by assumption) ?_
          simp only [List.set_cons_zero, List.set_cons_succ]
          refine takeS 33 36 rfl rfl (by kernel_rfl) (by kernel_rfl) (by kernel_rfl) (fun _ _ _ h => h) (by kernel_rfl) (by assumption) ?_
          simp only [List.set_cons_zero, List.set_cons_succ]
          refine takeW 34 37 (.bool false) rfl rfl (by kernel_rfl) (by kernel_rfl) (by kernel_rfl) (fun _ _ _ h => h) (by kernel_rfl) (by (intro w hSw; go_simp)) (by assumption) ?_
          simp only [List.set_cons_zero, List.set_cons_succ]
          refine takeW 35 38 (.bool false) rfl rfl (by kernel_rfl) (by kernel_rfl) (by kernel_rfl) (fun _ _ _ h => h) (by kernel_rfl) (by (intro w hSw; go_simp)) (by assumption) ?_
          simp only [List.set_cons_zero, List.set_cons_succ]
          refine takeS 36 39 rfl rfl (by kernel_rfl) (by kernel_rfl) (by kernel_rfl) (fun _ _ _ h => h) (by kernel_rfl) (by assumption) ?_
          simp only [List.set_cons_zero, List.set_cons_succ]
          refine takeS 37 40 rfl rfl (by kernel_rfl) (by kernel_rfl) (by kernel_rfl) (fun _ _ _ h => h) (by kernel_rfl) (by assumption) ?_
          simp only [List.set_cons_zero, List.set_cons_succ]
          refine takeS 38 41 rfl rfl (by kernel_rfl) (by kernel_rfl) (by kernel_rfl) (fun _ _ _ h => h) (by kernel_rfl) (by assumption) ?_
          simp only [List.set_cons_zero, List.set_cons_succ]
          refine takeS 39 42 rfl rfl (by kernel_rfl) (by kernel_rfl) (by kernel_rfl) (fun _ _ _ h => h) (by kernel_rfl) (by assumption) ?_
          simp only [List.set_cons_zero, List.set_cons_succ]
          refine takeS 40 43 rfl rfl (by kernel_rfl) (by kernel_rfl) (by kernel_rfl) (fun _ _ _ h => h) (by kernel_rfl) (by assumption) ?_
          simp only [List.set_cons_zero, List.set_cons_succ]
          refine takeS 41 44 rfl rfl (by kernel_rfl) (by kernel_rfl) (by kernel_rfl) (fun _ _ _ h => h) (by kernel_rfl) (by assumption) ?_
          simp only [List.set_cons_zero, List.set_cons_succ]
          refine takeS 42 45 rfl rfl (by kernel_rfl) (by kernel_rfl) (by kernel_rfl) (fun _ _ _ h => h) (by kernel_rfl) (by assumption) ?_
          simp only [List.set_cons_zero, List.set_cons_succ]
          refine takeS 43 46 rfl rfl (by kernel_rfl) (by kernel_rfl) (by kernel_rfl) (fun _ _ _ h => h) (by kernel_rfl) (by assumption) ?_
          simp only [List.set_cons_zero, List.set_cons_succ]
          refine takeS 44 47 rfl rfl (by kernel_rfl) (by kernel_rfl) (by kernel_rfl) (fun _ _ _ h => h) (by kernel_rfl) (by assumption) ?_
          simp only [List.set_cons_zero, List.set_cons_succ]
          refine takeW 45 48 (.bool false) rfl rfl (by kernel_rfl) (by kernel_rfl) (by kernel_rfl) (fun _ _ _ h => h) (by kernel_rfl) (by (intro w hSw; go_simp)) (by assumption) ?_
          simp only [List.set_cons_zero, List.set_cons_succ]
          refine takeW 46 49 (.bool false) rfl rfl (by kernel_rfl) (by kernel_rfl) (by kernel_rfl) (fun _ _ _ h => h) (by kernel_rfl) (by (intro w hSw; go_simp)) (by assumption) ?_
          simp only [List.set_cons_zero, List.set_cons_succ]
          refine takeS 47 50 rfl rfl (by kernel_rfl) (by kernel_rfl) (by kernel_rfl) (fun _ _ _ h => h) (by kernel_rfl) (by assumption) ?_
          simp only [List.set_cons_zero, List.set_cons_succ]
          refine takeS 48 51 rfl rfl (by kernel_rfl) (by kernel_rfl) (by kernel_rfl) (fun _ _ _ h => h) (by kernel_rfl) (by assumption) ?_
          simp only [List.set_cons_zero, List.set_cons_succ]
          refine takeS 49 52 rfl rfl (by kernel_rfl) (by kernel_rfl) (by kernel_rfl) (fun _ _ _ h => h) (by kernel_rfl) (by assumption) ?_
          simp only [List.set_cons_zero, List.set_cons_succ]
          refine takeS 50 53 rfl rfl (by kernel_rfl) (by kernel_rfl) (by kernel_rfl) (fun _ _ _ h => h) (by kernel_rfl) (by assumption) ?_
          simp only [List.set_cons_zero, List.set_cons_succ]
          refine takeS 51 54 rfl rfl (by kernel_rfl) (by kernel_rfl) (by kernel_rfl) (fun _ _ _ h => h) (by kernel_rfl) (by assumption) ?_
          simp only [List.set_cons_zero, List.set_cons_succ]
          refine takeS 52 55 rfl rfl (by kernel_rfl) (by kernel_rfl) (by kernel_rfl) (fun _ _ _ h => h) (by kernel_rfl) (by assumption) ?_
          simp only [List.set_cons_zero, List.set_cons_succ]
          refine takeS 53 56 rfl rfl (by kernel_rfl) (by kernel_rfl) (by kernel_rfl) (fun _ _ _ h => h) (by kernel_rfl) (by assumption) ?_
          simp only [List.set_cons_zero, List.set_cons_succ]
          refine takeS 54 57 rfl rfl (by kernel_rfl) (by kernel_rfl) (by kernel_rfl) (fun _ _ _ h => h) (by kernel_rfl) (by assumption) ?_
          simp only [List.set_cons_zero, List.set_cons_succ]
          refine takeS 55 58 rfl rfl (by kernel_rfl) (by kernel_rfl) (by kernel_rfl) (fun _ _ _ h => h) (by kernel_rfl) (by assumption) ?_
          simp only [List.set_cons_zero, List.set_cons_succ]
          refine takeW 56 59 (.bool false) rfl rfl (by kernel_rfl) (by kernel_rfl) (by kernel_rfl) (fun _ _ _ h => h) (by kernel_rfl) (by (intro w hSw; go_simp)) (by assumption) ?_
          simp only [List.set_cons_zero, List.set_cons_succ]
          refine takeW 57 2 (.bool false) rfl rfl (by kernel_rfl) (by kernel_rfl) (by kernel_rfl) (fun _ _ _ h => h) (by kernel_rfl) (by (intro w hSw; go_simp)) (by assumption) ?_
          simp only [List.set_cons_zero, List.set_cons_succ]
          refine wpAnyH_done (by kernel_rfl) ?_ _
          have hN : Hid (R = false) := by unfold Hid; rw [hR.out]; unfold fitsM; rw [h_li.out, h_ep.out, h_al.out, h_len.out]; rfl
          go_wp2
          go_ret
          exact ⟨by rw [hN.out]; rfl, hb4⟩
        · replace h_len : Hid _ := h_len
          refine takeW 28 31 (.bool true) rfl rfl (by kernel_rfl) (by kernel_rfl) (by kernel_rfl) (fun _ _ _ h => h) (by kernel_rfl) (by (intro w hSw; go_simp)) (by assumption) ?_
          simp only [List.set_cons_zero, List.set_cons_succ]
          refine takeW 29 32 (.bool true) rfl rfl (by kernel_rfl) (by kernel_rfl) (by kernel_rfl) (fun _ _ _ h => h) (by kernel_rfl) (by (intro w hSw; go_simp)) (by assumption) ?_
          simp only [List.set_cons_zero, List.set_cons_succ]
          refine takeW 30 33 (.pointer (some ⟨q, 0, none⟩)) rfl rfl (by kernel_rfl) (by kernel_rfl) (by kernel_rfl) (fun _ _ _ h => h) (by kernel_rfl) (by (intro w hSw; go_simp)) (by assumption) ?_
          simp only [List.set_cons_zero, List.set_cons_succ]
          refine takeW 31 34 (.pointer (some ⟨q, 0, none⟩)) rfl rfl (by kernel_rfl) (by kernel_rfl) (by kernel_rfl) (fun _ _ _ h => h) (by kernel_rfl) (by (intro w hSw; go_simp)) (by assumption) ?_
          simp only [List.set_cons_zero, List.set_cons_succ]
          refine takeW 32 35 (.pointer (some ⟨q, 0, none⟩)) rfl rfl (by kernel_rfl) (by kernel_rfl) (by kernel_rfl) (fun _ _ _ h => h) (by kernel_rfl) (by (intro w hSw; go_simp)) (by assumption) ?_
          simp only [List.set_cons_zero, List.set_cons_succ]
          refine wpAnyH_all (rs := [33]) (by kernel_rfl) (by simp) ?_
          intro i hi; obtain rfl : i = 33 := by simpa using hi
          refine wpOp_step rfl (fun Kz hKz => ?_)
          rw [if_pos (by kernel_rfl)]
          go_simp
          go_at_call 173
          refine (eachI q ad cap m.lg u4 (M.below hb4 M.lt).c0 (hv.below hb4 (hv.lt ikEnc_len (by omega))) hl).mono ?_
          rintro e u5 ⟨rfl, kq⟩
          have hb5 : Below w.heap.size w u5 := hb4.trans (kq.mono hb4.size)
          clear kq
          refine hKz _ _ ⟨hb5, ?_⟩
          clear hKz Kz hi
          cases h_all : (m.lg.all inOk)
          · replace h_all : Hid _ := h_all
            refine takeW 34 37 (.bool false) rfl rfl (by kernel_rfl) (by kernel_rfl) (by kernel_rfl) (fun _ _ _ h => h) (by kernel_rfl) (by (intro w hSw; go_simp)) (by assumption) ?_
            simp only [List.set_cons_zero, List.set_cons_succ]
            refine takeW 35 38 (.bool false) rfl rfl (by kernel_rfl) (by kernel_rfl) (by kernel_rfl) (fun _ _ _ h => h) (by kernel_rfl) (by (intro w hSw; go_simp)) (by assumption) ?_
            simp only [List.set_cons_zero, List.set_cons_succ]
            refine takeS 36 39 rfl rfl (by kernel_rfl) (by kernel_rfl) (by kernel_rfl) (fun _ _ _ h => h) (by kernel_rfl) (by assumption) ?_
            simp only [List.set_cons_zero, List.set_cons_succ]
            refine takeS 37 40 rfl rfl (by kernel_rfl) (by kernel_rfl) (by kernel_rfl) (fun _ _ _ h => h) (by kernel_rfl) (by assumption) ?_
            simp only [List.set_cons_zero, List.set_cons_succ]
            refine takeS 38 41 rfl rfl (by kernel_rfl) (by kernel_rfl) (by kernel_rfl) (fun _ _ _ h => h) (by kernel_rfl) (by assumption) ?_
            simp only [List.set_cons_zero, List.set_cons_succ]
            refine takeS 39 42 rfl rfl (by kernel_rfl) (by kernel_rfl) (by kernel_rfl) (fun _ _ _ h => h) (by kernel_rfl) (by assumption) ?_
            simp only [List.set_cons_zero, List.set_cons_succ]
            refine takeS 40 43 rfl rfl (by kernel_rfl) (by kernel_rfl) (by kernel_rfl) (fun _ _ _ h => h) (by kernel_rfl) (by assumption) ?_
            simp only [List.set_cons_zero, List.set_cons_succ]
            refine takeS 41 44 rfl rfl (by kernel_rfl) (by kernel_rfl) (by kernel_rfl) (fun _ _ _ h => h) (by kernel_rfl) (by assumption) ?_
            simp only [List.set_cons_zero, List.set_cons_succ]
            refine takeS 42 45 rfl rfl (by kernel_rfl) (by kernel_rfl) (by kernel_rfl) (fun _ _ _ h => h) (by kernel_rfl) (by assumption) ?_
            simp only [List.set_cons_zero, List.set_cons_succ]
            refine takeS 43 46 rfl rfl (by kernel_rfl) (by kernel_rfl) (by kernel_rfl) (fun _ _ _ h => h) (by kernel_rfl) (by assumption) ?_
            simp only [List.set_cons_zero, List.set_cons_succ]
            refine takeS 44 47 rfl rfl (by kernel_rfl) (by kernel_rfl) (by kernel_rfl) (fun _ _ _ h => h) (by kernel_rfl) (by assumption) ?_
            simp only [List.set_cons_zero, List.set_cons_succ]
            refine takeW 45 48 (.bool false) rfl rfl (by kernel_rfl) (by kernel_rfl) (by kernel_rfl) (fun _ _ _ h => h) (by kernel_rfl) (by (intro w hSw; go_simp)) (by assumption) ?_
            simp only [List.set_cons_zero, List.set_cons_succ]
            refine takeW 46 49 (.bool false) rfl rfl (by kernel_rfl) (by kernel_rfl) (by kernel_rfl) (fun _ _ _ h => h) (by kernel_rfl) (by (intro w hSw; go_simp)) (by assumption) ?_
            simp only [List.set_cons_zero, List.set_cons_succ]
            refine takeS 47 50 rfl rfl (by kernel_rfl) (by kernel_rfl) (by kernel_rfl) (fun _ _ _ h => h) (by kernel_rfl) (by assumption) ?_
            simp only [List.set_cons_zero, List.set_cons_succ]
            refine takeS 48 51 rfl rfl (by kernel_rfl) (by kernel_rfl) (by kernel_rfl) (fun _ _ _ h => h) (by kernel_rfl) (by assumption) ?_
            simp only [List.set_cons_zero, List.set_cons_succ]
            refine takeS 49 52 rfl rfl (by kernel_rfl) (by kernel_rfl) (by kernel_rfl) (fun _ _ _ h => h) (by kernel_rfl) (by assumption) ?_
            simp only [List.set_cons_zero, List.set_cons_succ]
            refine takeS 50 53 rfl rfl (by kernel_rfl) (by kernel_rfl) (by kernel_rfl) (fun _ _ _ h => h) (by kernel_rfl) (by assumption) ?_
            simp only [List.set_cons_zero, List.set_cons_succ]
            refine takeS 51 54 rfl rfl (by kernel_rfl) (by kernel_rfl) (by kernel_rfl) (fun _ _ _ h => h) (by kernel_rfl) (by assumption) ?_
            simp only [List.set_cons_zero, List.set_cons_succ]
            refine takeS 52 55 rfl rfl (by kernel_rfl) (by kernel_rfl) (by kernel_rfl) (fun _ _ _ h => h) (by kernel_rfl) (by assumption) ?_
            simp only [List.set_cons_zero, List.set_cons_succ]
            refine takeS 53 56 rfl rfl (by kernel_rfl) (by kernel_rfl) (by kernel_rfl) (fun _ _ _ h => h) (by kernel_rfl) (by assumption) ?_
            simp only [List.set_cons_zero, List.set_cons_succ]
            refine takeS 54 57 rfl rfl (by kernel_rfl) (by kernel_rfl) (by kernel_rfl) (fun _ _ _ h => h) (by kernel_rfl) (by assumption) ?_
            simp only [List.set_cons_zero, List.set_cons_succ]
            refine takeS 55 58 rfl rfl (by kernel_rfl) (by kernel_rfl) (by kernel_rfl) (fun _ _ _ h => h) (by kernel_rfl) (by assumption) ?_
            simp only [List.set_cons_zero, List.set_cons_succ]
            refine takeW 56 59 (.bool false) rfl rfl (by kernel_rfl) (by kernel_rfl) (by kernel_rfl) (fun _ _ _ h => h) (by kernel_rfl) (by (intro w hSw; go_simp)) (by assumption) ?_
            simp only [List.set_cons_zero, List.set_cons_succ]
            refine takeW 57 2 (.bool false) rfl rfl (by kernel_rfl) (by kernel_rfl) (by kernel_rfl) (fun _ _ _ h => h) (by kernel_rfl) (by (intro w hSw; go_simp)) (by assumption) ?_
            simp only [List.set_cons_zero, List.set_cons_succ]
            refine wpAnyH_done (by kernel_rfl) ?_ _
            have hN : Hid (R = false) := by unfold Hid; rw [hR.out]; unfold fitsM; rw [h_li.out, h_ep.out, h_al.out, h_len.out, h_all.out]; rfl
            go_wp2
            go_ret
            exact ⟨by rw [hN.out]; rfl, hb5⟩
          · replace h_all : Hid _ := h_all
            refine takeW 34 37 (.bool true) rfl rfl (by kernel_rfl) (by kernel_rfl) (by kernel_rfl) (fun _ _ _ h => h) (by kernel_rfl) (by (intro w hSw; go_simp)) (by assumption) ?_
            simp only [List.set_cons_zero, List.set_cons_succ]
            refine takeW 35 38 (.bool true) rfl rfl (by kernel_rfl) (by kernel_rfl) (by kernel_rfl) (fun _ _ _ h => h) (by kernel_rfl) (by (intro w hSw; go_simp)) (by assumption) ?_
            simp only [List.set_cons_zero, List.set_cons_succ]
            refine takeW 36 39 (.pointer (some ⟨q, 0, none⟩)) rfl rfl (by kernel_rfl) (by kernel_rfl) (by kernel_rfl) (fun _ _ _ h => h) (by kernel_rfl) (by (intro w hSw; go_simp)) (by assumption) ?_
            simp only [List.set_cons_zero, List.set_cons_succ]
            refine takeW 37 40 (.pointer (some ⟨q, 0, none⟩)) rfl rfl (by kernel_rfl) (by kernel_rfl) (by kernel_rfl) (fun _ _ _ h => h) (by kernel_rfl) (by (intro w hSw; go_simp)) (by assumption) ?_
            simp only [List.set_cons_zero, List.set_cons_succ]
            refine takeW 38 41 (.pointer (some ⟨q, 0, none⟩)) rfl rfl (by kernel_rfl) (by kernel_rfl) (by kernel_rfl) (fun _ _ _ h => h) (by kernel_rfl) (by (intro w hSw; go_simp)) (by assumption) ?_
            simp only [List.set_cons_zero, List.set_cons_succ]
            refine takeW 39 42 (.pointer (some ⟨q, 0, none⟩)) rfl rfl (by kernel_rfl) (by kernel_rfl) (by kernel_rfl) (fun _ _ _ h => h) (by kernel_rfl) (by (intro w hSw; go_simp)) (by assumption) ?_
            simp only [List.set_cons_zero, List.set_cons_succ]
            refine takeW 40 43 (.pointer (some ⟨q, 0, none⟩)) rfl rfl (by kernel_rfl) (by kernel_rfl) (by kernel_rfl) (fun _ _ _ h => h) (by kernel_rfl) (by (intro w hSw; go_simp)) (by assumption) ?_
            simp only [List.set_cons_zero, List.set_cons_succ]
            refine takeW 41 44 (.pointer (some ⟨q, 1, none⟩)) rfl rfl (by kernel_rfl) (by kernel_rfl) (by kernel_rfl) (fun _ _ _ h => h) (by kernel_rfl) (by (intro w hSw; go_simp)) (by assumption) ?_
            simp only [List.set_cons_zero, List.set_cons_succ]
            refine takeW 42 45 (.pointer (some ⟨q, 4, none⟩)) rfl rfl (by kernel_rfl) (by kernel_rfl) (by kernel_rfl) (fun _ _ _ h => h) (by kernel_rfl) (by (intro w hSw; go_simp)) (by assumption) ?_
            simp only [List.set_cons_zero, List.set_cons_succ]
            refine takeW 43 46 (.int .i64 m.sd) rfl rfl (by kernel_rfl) (by kernel_rfl) (by kernel_rfl) (fun _ _ _ h => h) (by kernel_rfl) (by (intro Y hSw; obtain ⟨X0, X1, X2, X3, X4, X5, X6, XF⟩ := M.below hSw M.lt; go_simp)) (by assumption) ?_
            simp only [List.set_cons_zero, List.set_cons_succ]
            refine wpAnyH_all (rs := [44]) (by kernel_rfl) (by simp) ?_
            intro i hi; obtain rfl : i = 44 := by simpa using hi
            refine wpOp_step rfl (fun Kz hKz => ?_)
            rw [if_pos (by kernel_rfl)]
            go_simp
            go_at_call 174
            refine (begI q m.lg.length ad cap m.sd u5 (M.below hb5 M.lt).c0).mono ?_
            rintro e u6 ⟨rfl, kq⟩
            replace kq : Below u5.heap.size u5 u6 := by rw [kq]; exact Below.refl _ _
            have hb6 : Below w.heap.size w u6 := hb5.trans (kq.mono hb5.size)
            clear kq
            refine hKz _ _ ⟨hb6, ?_⟩
            clear hKz Kz hi
            cases h_sd : (decide (0 ≤ m.sd ∧ m.sd ≤ (m.lg.length : Int)))
            · replace h_sd : Hid _ := h_sd
              refine takeW 45 48 (.bool false) rfl rfl (by kernel_rfl) (by kernel_rfl) (by kernel_rfl) (fun _ _ _ h => h) (by kernel_rfl) (by (intro w hSw; go_simp)) (by assumption) ?_
              simp only [List.set_cons_zero, List.set_cons_succ]
              refine takeW 46 49 (.bool false) rfl rfl (by kernel_rfl) (by kernel_rfl) (by kernel_rfl) (fun _ _ _ h => h) (by kernel_rfl) (by (intro w hSw; go_simp)) (by assumption) ?_
              simp only [List.set_cons_zero, List.set_cons_succ]
              refine takeS 47 50 rfl rfl (by kernel_rfl) (by kernel_rfl) (by kernel_rfl) (fun _ _ _ h => h) (by kernel_rfl) (by assumption) ?_
              simp only [List.set_cons_zero, List.set_cons_succ]
              refine takeS 48 51 rfl rfl (by kernel_rfl) (by kernel_rfl) (by kernel_rfl) (fun _ _ _ h => h) (by kernel_rfl) (by assumption) ?_
              simp only [List.set_cons_zero, List.set_cons_succ]
              refine takeS 49 52 rfl rfl (by kernel_rfl) (by kernel_rfl) (by kernel_rfl) (fun _ _ _ h => h) (by kernel_rfl) (by assumption) ?_
              simp only [List.set_cons_zero, List.set_cons_succ]
              refine takeS 50 53 rfl rfl (by kernel_rfl) (by kernel_rfl) (by kernel_rfl) (fun _ _ _ h => h) (by kernel_rfl) (by assumption) ?_
              simp only [List.set_cons_zero, List.set_cons_succ]
              refine takeS 51 54 rfl rfl (by kernel_rfl) (by kernel_rfl) (by kernel_rfl) (fun _ _ _ h => h) (by kernel_rfl) (by assumption) ?_
              simp only [List.set_cons_zero, List.set_cons_succ]
              refine takeS 52 55 rfl rfl (by kernel_rfl) (by kernel_rfl) (by kernel_rfl) (fun _ _ _ h => h) (by kernel_rfl) (by assumption) ?_
              simp only [List.set_cons_zero, List.set_cons_succ]
              refine takeS 53 56 rfl rfl (by kernel_rfl) (by kernel_rfl) (by kernel_rfl) (fun _ _ _ h => h) (by kernel_rfl) (by assumption) ?_
              simp only [List.set_cons_zero, List.set_cons_succ]
              refine takeS 54 57 rfl rfl (by kernel_rfl) (by kernel_rfl) (by kernel_rfl) (fun _ _ _ h => h) (by kernel_rfl) (by assumption) ?_
              simp only [List.set_cons_zero, List.set_cons_succ]
              refine takeS 55 58 rfl rfl (by kernel_rfl) (by kernel_rfl) (by kernel_rfl) (fun _ _ _ h => h) (by kernel_rfl) (by assumption) ?_
              simp only [List.set_cons_zero, List.set_cons_succ]
              refine takeW 56 59 (.bool false) rfl rfl (by kernel_rfl) (by kernel_rfl) (by kernel_rfl) (fun _ _ _ h => h) (by kernel_rfl) (by (intro w hSw; go_simp)) (by assumption) ?_
              simp only [List.set_cons_zero, List.set_cons_succ]
              refine takeW 57 2 (.bool false) rfl rfl (by kernel_rfl) (by kernel_rfl) (by kernel_rfl) (fun _ _ _ h => h) (by kernel_rfl) (by (intro w hSw; go_simp)) (by assumption) ?_
              simp only [List.set_cons_zero, List.set_cons_succ]
              refine wpAnyH_done (by kernel_rfl) ?_ _
              have hN : Hid (R = false) := by unfold Hid; rw [hR.out]; unfold fitsM; rw [h_li.out, h_ep.out, h_al.out, h_len.out, h_all.out, h_sd.out]; rfl
              go_wp2
              go_ret
              exact ⟨by rw [hN.out]; rfl, hb6⟩
            · replace h_sd : Hid _ := h_sd
              refine takeW 45 48 (.bool true) rfl rfl (by kernel_rfl) (by kernel_rfl) (by kernel_rfl) (fun _ _ _ h => h) (by kernel_rfl) (by (intro w hSw; go_simp)) (by assumption) ?_
              simp only [List.set_cons_zero, List.set_cons_succ]
              refine takeW 46 49 (.bool true) rfl rfl (by kernel_rfl) (by kernel_rfl) (by kernel_rfl) (fun _ _ _ h => h) (by kernel_rfl) (by (intro w hSw; go_simp)) (by assumption) ?_
              simp only [List.set_cons_zero, List.set_cons_succ]
              refine takeW 47 50 (.pointer (some ⟨q, 0, none⟩)) rfl rfl (by kernel_rfl) (by kernel_rfl) (by kernel_rfl) (fun _ _ _ h => h) (by kernel_rfl) (by (intro w hSw; go_simp)) (by assumption) ?_
              simp only [List.set_cons_zero, List.set_cons_succ]
              refine takeW 48 51 (.pointer (some ⟨q, 0, none⟩)) rfl rfl (by kernel_rfl) (by kernel_rfl) (by kernel_rfl) (fun _ _ _ h => h) (by kernel_rfl) (by (intro w hSw; go_simp)) (by assumption) ?_
              simp only [List.set_cons_zero, List.set_cons_succ]
              refine takeW 49 52 (.pointer (some ⟨q, 0, none⟩)) rfl rfl (by kernel_rfl) (by kernel_rfl) (by kernel_rfl) (fun _ _ _ h => h) (by kernel_rfl) (by (intro w hSw; go_simp)) (by assumption) ?_
              simp only [List.set_cons_zero, List.set_cons_succ]
              refine takeW 50 53 (.pointer (some ⟨q, 0, none⟩)) rfl rfl (by kernel_rfl) (by kernel_rfl) (by kernel_rfl) (fun _ _ _ h => h) (by kernel_rfl) (by (intro w hSw; go_simp)) (by assumption) ?_
              simp only [List.set_cons_zero, List.set_cons_succ]
              refine takeW 51 54 (.pointer (some ⟨q, 0, none⟩)) rfl rfl (by kernel_rfl) (by kernel_rfl) (by kernel_rfl) (fun _ _ _ h => h) (by kernel_rfl) (by (intro w hSw; go_simp)) (by assumption) ?_
              simp only [List.set_cons_zero, List.set_cons_succ]
              refine takeW 52 55 (.pointer (some ⟨q, 1, none⟩)) rfl rfl (by kernel_rfl) (by kernel_rfl) (by kernel_rfl) (fun _ _ _ h => h) (by kernel_rfl) (by (intro w hSw; go_simp)) (by assumption) ?_
              simp only [List.set_cons_zero, List.set_cons_succ]
              refine takeW 53 56 (.pointer (some ⟨q, 5, none⟩)) rfl rfl (by kernel_rfl) (by kernel_rfl) (by kernel_rfl) (fun _ _ _ h => h) (by kernel_rfl) (by (intro w hSw; go_simp)) (by assumption) ?_
              simp only [List.set_cons_zero, List.set_cons_succ]
              refine takeW 54 57 (.int .i64 m.ac) rfl rfl (by kernel_rfl) (by kernel_rfl) (by kernel_rfl) (fun _ _ _ h => h) (by kernel_rfl) (by (intro Y hSw; obtain ⟨X0, X1, X2, X3, X4, X5, X6, XF⟩ := M.below hSw M.lt; go_simp)) (by assumption) ?_
              simp only [List.set_cons_zero, List.set_cons_succ]
              refine wpAnyH_all (rs := [55]) (by kernel_rfl) (by simp) ?_
              intro i hi; obtain rfl : i = 55 := by simpa using hi
              refine wpOp_step rfl (fun Kz hKz => ?_)
              rw [if_pos (by kernel_rfl)]
              go_simp
              go_at_call 174
              refine (begI q m.lg.length ad cap m.ac u6 (M.below hb6 M.lt).c0).mono ?_
              rintro e u7 ⟨rfl, kq⟩
              replace kq : Below u6.heap.size u6 u7 := by rw [kq]; exact Below.refl _ _
              have hb7 : Below w.heap.size w u7 := hb6.trans (kq.mono hb6.size)
              clear kq
              refine hKz _ _ ⟨hb7, ?_⟩
              clear hKz Kz hi
              cases h_ac : (decide (0 ≤ m.ac ∧ m.ac ≤ (m.lg.length : Int)))
              · replace h_ac : Hid _ := h_ac
                refine takeW 56 59 (.bool false) rfl rfl (by kernel_rfl) (by kernel_rfl) (by kernel_rfl) (fun _ _ _ h => h) (by kernel_rfl) (by (intro w hSw; go_simp)) (by assumption) ?_
                simp only [List.set_cons_zero, List.set_cons_succ]
                refine takeW 57 2 (.bool false) rfl rfl (by kernel_rfl) (by kernel_rfl) (by kernel_rfl) (fun _ _ _ h => h) (by kernel_rfl) (by (intro w hSw; go_simp)) (by assumption) ?_
                simp only [List.set_cons_zero, List.set_cons_succ]
                refine wpAnyH_done (by kernel_rfl) ?_ _
                have hN : Hid (R = false) := by unfold Hid; rw [hR.out]; unfold fitsM; rw [h_li.out, h_ep.out, h_al.out, h_len.out, h_all.out, h_sd.out, h_ac.out]; rfl
                go_wp2
                go_ret
                exact ⟨by rw [hN.out]; rfl, hb7⟩
              · replace h_ac : Hid _ := h_ac
                refine takeW 56 59 (.bool true) rfl rfl (by kernel_rfl) (by kernel_rfl) (by kernel_rfl) (fun _ _ _ h => h) (by kernel_rfl) (by (intro w hSw; go_simp)) (by assumption) ?_
                simp only [List.set_cons_zero, List.set_cons_succ]
                refine takeW 57 2 (.bool true) rfl rfl (by kernel_rfl) (by kernel_rfl) (by kernel_rfl) (fun _ _ _ h => h) (by kernel_rfl) (by (intro w hSw; go_simp)) (by assumption) ?_
                simp only [List.set_cons_zero, List.set_cons_succ]
                refine wpAnyH_done (by kernel_rfl) ?_ _
                have hN : Hid (R = true) := by unfold Hid; rw [hR.out]; unfold fitsM; rw [h_li.out, h_ep.out, h_al.out, h_len.out, h_all.out, h_sd.out, h_ac.out]; rfl
                go_wp2
                go_ret
                exact ⟨by rw [hN.out]; rfl, hb7⟩

end Go.Proofs.YtnpiljegdiconaaGreat
namespace Go.Proofs.YtnpiljegdiconaaGreat
open Go.ChangeShapes Go.WideShapes Go.ChangeAt Go.RowKit
open Go.ChangeMaps (open_string shut_string)
set_option linter.unusedVariables false
set_option maxRecDepth 100000

theorem setCells_put (g : Nat) : ∀ (vs : List Value) (o : Nat) (w : World), w.setCells g o vs = putAll w g o vs
  | [], _, _ => rfl
  | v :: vs, o, w => setCells_put g vs (o + 1) (w.setCell ⟨g, o, none⟩ v)
/-- Only the blocks q and o have turned. -/
structure Turned (q : Nat) (o : Option Nat) (w w' : World) : Prop where
  os : w'.os = w.os
  tape : w'.tape = w.tape
  output : w'.output = w.output
  size : w.heap.size ≤ w'.heap.size
  block : ∀ k, k < w.heap.size → k ≠ q → o ≠ some k → w'.heap[k]? = w.heap[k]?
theorem Turned.below {q : Nat} {o : Option Nat} {w w' : World} (h : Turned q o w w') {B : Nat} (hB : B ≤ w.heap.size) (h1 : B ≤ q) (h2 : ∀ g, o = some g → B ≤ g) : Below B w w' :=
  ⟨h.os, h.tape, h.output, h.size, fun k hk => h.block k (by omega) (by omega) (fun e => by have := h2 k e; omega)⟩
theorem Turned.refl (q : Nat) (o : Option Nat) (w : World) : Turned q o w w := ⟨rfl, rfl, rfl, Nat.le_refl _, fun _ _ _ _ => rfl⟩
theorem Turned.set {q : Nat} {o : Option Nat} {w w' : World} (h : Turned q o w w') (i : Nat) (v : Value) : Turned q o w (w'.setCell ⟨q, i, none⟩ v) :=
  ⟨h.os, h.tape, h.output, by simpa using h.size, fun k hk h1 h2 => (Below.heap_setCell _ _ _ _ h1).trans (h.block k hk h1 h2)⟩
theorem Turned.put {q g : Nat} {w : World} (o : Nat) (vs : List Value) : Turned q (some g) w (putAll w g o vs) := by
  have hb := below_putAll (B := 0) (g := g) (a := w) (Nat.zero_le _) vs o (Below.refl 0 w)
  exact ⟨hb.os, hb.tape, hb.output, hb.size, fun k _ _ h2 => heap_putAll vs w o k (fun e => h2 (by rw [e]))⟩
theorem zeroIk (w : World) : (zeroValue 105).run Tryz.prog w = .ok (.agg #[.int .i64 0, .int .i64 0, .int .i64 0, .int .i64 0, .int .i64 0, .int .i64 0, .int .i64 0, .bool false]) w := by kernel_rfl
theorem clearIk (w : World) (ty : TypeId) (g n c : Nat) (hn : 0 < n) (hc : ∀ j, j < n * 8 → (w.cell? ⟨g, j, none⟩).isSome = true) (hf : ∀ j, w.frozen? ⟨g, j, none⟩ = false) :
    ∃ vs, (Builtin.clear_ #[26] ty #[.slice (some ⟨g, 0, none⟩) n c]).run Tryz.prog w = .ok (.tuple #[]) (putAll w g 0 vs) := by
  obtain ⟨z, hz⟩ : ∃ z, z = Value.agg #[.int .i64 0, .int .i64 0, .int .i64 0, .int .i64 0, .int .i64 0, .int .i64 0, .int .i64 0, .bool false] := ⟨_, rfl⟩
  have h8 : z.cells.size = 8 := by rw [hz]; rfl
  have hl : (Builtin.zeroCells z.cells n).toList.length = n * 8 := by simp [Builtin.zeroCells, h8]
  have h1 : ∀ v ∈ (Builtin.zeroCells z.cells n).toList, v.oneCell' = true := by
    intro v hv
    simp only [Builtin.zeroCells, h8, Array.toList_map, List.mem_map] at hv
    obtain ⟨i, _, rfl⟩ := hv
    have : i % 8 = 0 ∨ i % 8 = 1 ∨ i % 8 = 2 ∨ i % 8 = 3 ∨ i % 8 = 4 ∨ i % 8 = 5 ∨ i % 8 = 6 ∨ i % 8 = 7 := by omega
    rw [hz]
    rcases this with e | e | e | e | e | e | e | e <;> rw [e] <;> rfl
  have hst := run_storeCells_cells (P := Tryz.prog) g 0 (Builtin.zeroCells z.cells n).toList 0 w (by rw [hl]; simpa using hc) (fun j _ => by simpa using hf j) h1
  simp only [Nat.add_zero] at hst
  rw [setCells_put] at hst
  refine ⟨(Builtin.zeroCells z.cells n).toList, ?_⟩
  have hzv : ∀ w : World, (zeroValue 105).run Tryz.prog w = .ok z w := fun w => by rw [hz]; exact zeroIk w
  obtain ⟨k, rfl⟩ : ∃ k, n = k + 1 := ⟨n - 1, by omega⟩
  simp [Builtin.clear_, run_underlying Tryz.underlying26, hzv, hst]
set_option maxHeartbeats 2000000 in
theorem emptyI (m : Mi) (q base : Nat) (ad : Option Addr) (cap : Nat) (w : World) (M : MgBox w q m (.slice ad m.lg.length cap)) (O : FOwn ikEnc 8 105 base w (.slice ad m.lg.length cap) m.lg) (hq : ∀ g, (Value.slice ad m.lg.length cap).ownBlock = some g → g ≠ q) :
    Calls Tryz.prog 201 #[.pointer (some ⟨q, 0, none⟩)] w fun e w' => e = .returned (.tuple #[]) ∧ MgBox w' q m (.slice ad 0 cap) ∧ Turned q (Value.slice ad m.lg.length cap).ownBlock w w' := by
  have hcl : ∃ w1, (∀ ty, (Builtin.clear_ #[26] ty #[.slice ad m.lg.length cap]).run Tryz.prog w = .ok (.tuple #[]) w1) ∧ MgBox w1 q m (.slice ad m.lg.length cap) ∧ Turned q (Value.slice ad m.lg.length cap).ownBlock w w1 := by
    cases ad with
    | none =>
      refine ⟨w, fun ty => ?_, M, Turned.refl _ _ _⟩
      simp [Builtin.clear_, run_underlying Tryz.underlying26]
    | some a =>
      by_cases h0 : m.lg.length = 0
      · refine ⟨w, fun ty => ?_, M, Turned.refl _ _ _⟩
        rw [h0]
        simp [Builtin.clear_, run_underlying Tryz.underlying26]
      · have ha : ∃ g, a = ⟨g, 0, none⟩ := by
          rcases O.2 with ⟨e, _⟩ | ⟨g, c, cur, e, _⟩
          · cases e
          · simp only [Value.slice.injEq, Option.some.injEq] at e
            exact ⟨g, e.1⟩
        obtain ⟨g, rfl⟩ := ha
        have hc : ∀ j, j < m.lg.length * 8 → (w.cell? ⟨g, j, none⟩).isSome = true := fun j hj => by
          rw [World.ownsRow.cellAt O j hj]
          have hx : (fcells ikEnc m.lg).length = m.lg.length * 8 := fcells_len ikEnc_len _
          rw [List.getElem?_eq_getElem (by omega)]
          rfl
        have hne : q ≠ g := fun e => hq g rfl e.symm
        obtain ⟨vs, hvs⟩ := clearIk w 0 g m.lg.length cap (by omega) hc (fun j => O.frozen j)
        refine ⟨putAll w g 0 vs, fun ty => hvs, M.keep (heap_putAll vs w 0 q hne), Turned.put 0 vs⟩
  obtain ⟨w1, hcl, M1, T1⟩ := hcl
  have M2 := M1.log (.slice ad 0 cap)
  have T2 := T1.set 0 (.slice ad 0 cap)
  have c0 := M.c0
  have d0 := M1.c0
  have f0 := M1.fr 0
  clear M M1 T1 O hq
  cases ad with
  | none =>
    go_enter Tryz.func201, Tryz.ntmps201
    go_wp2_with (simp only [hcl])
    go_end0
    exact ⟨rfl, M2, T2⟩
  | some a =>
    go_enter Tryz.func201, Tryz.ntmps201
    go_wp2_with (simp only [hcl])
    go_end0
    exact ⟨rfl, M2, T2⟩
theorem MgBox.fallen {w : World} {q : Nat} {m : Mi} {v : Value} (h : MgBox w q m v) : MgBox ((((((w.setCell ⟨q, 1, none⟩ (.bool false)).setCell ⟨q, 2, none⟩ (.int .i64 m.li)).setCell ⟨q, 3, none⟩ (.int .i64 0)).setCell ⟨q, 4, none⟩ (.int .i64 0)).setCell ⟨q, 5, none⟩ (.int .i64 0)).setCell ⟨q, 6, none⟩ (.int .i64 0)) q ⟨false, m.li, 0, [], 0, 0, 0⟩ v := by
  obtain ⟨h0, h1, h2, h3, h4, h5, h6, hf⟩ := h
  have h0 : (w.setCell ⟨q, 1, none⟩ (.bool false)).cell? ⟨q, 0, none⟩ = _ := (pset_else (by decide)).trans h0
  have h1 : (w.setCell ⟨q, 1, none⟩ (.bool false)).cell? ⟨q, 1, none⟩ = some (.bool false) := pset_same h1
  have h2 : (w.setCell ⟨q, 1, none⟩ (.bool false)).cell? ⟨q, 2, none⟩ = _ := (pset_else (by decide)).trans h2
  have h3 : (w.setCell ⟨q, 1, none⟩ (.bool false)).cell? ⟨q, 3, none⟩ = _ := (pset_else (by decide)).trans h3
  have h4 : (w.setCell ⟨q, 1, none⟩ (.bool false)).cell? ⟨q, 4, none⟩ = _ := (pset_else (by decide)).trans h4
  have h5 : (w.setCell ⟨q, 1, none⟩ (.bool false)).cell? ⟨q, 5, none⟩ = _ := (pset_else (by decide)).trans h5
  have h6 : (w.setCell ⟨q, 1, none⟩ (.bool false)).cell? ⟨q, 6, none⟩ = _ := (pset_else (by decide)).trans h6
  have h0 : ((w.setCell ⟨q, 1, none⟩ (.bool false)).setCell ⟨q, 2, none⟩ (.int .i64 m.li)).cell? ⟨q, 0, none⟩ = _ := (pset_else (by decide)).trans h0
  have h1 : ((w.setCell ⟨q, 1, none⟩ (.bool false)).setCell ⟨q, 2, none⟩ (.int .i64 m.li)).cell? ⟨q, 1, none⟩ = _ := (pset_else (by decide)).trans h1
  have h2 : ((w.setCell ⟨q, 1, none⟩ (.bool false)).setCell ⟨q, 2, none⟩ (.int .i64 m.li)).cell? ⟨q, 2, none⟩ = some (.int .i64 m.li) := pset_same h2
  have h3 : ((w.setCell ⟨q, 1, none⟩ (.bool false)).setCell ⟨q, 2, none⟩ (.int .i64 m.li)).cell? ⟨q, 3, none⟩ = _ := (pset_else (by decide)).trans h3
  have h4 : ((w.setCell ⟨q, 1, none⟩ (.bool false)).setCell ⟨q, 2, none⟩ (.int .i64 m.li)).cell? ⟨q, 4, none⟩ = _ := (pset_else (by decide)).trans h4
  have h5 : ((w.setCell ⟨q, 1, none⟩ (.bool false)).setCell ⟨q, 2, none⟩ (.int .i64 m.li)).cell? ⟨q, 5, none⟩ = _ := (pset_else (by decide)).trans h5
  have h6 : ((w.setCell ⟨q, 1, none⟩ (.bool false)).setCell ⟨q, 2, none⟩ (.int .i64 m.li)).cell? ⟨q, 6, none⟩ = _ := (pset_else (by decide)).trans h6
  have h0 : (((w.setCell ⟨q, 1, none⟩ (.bool false)).setCell ⟨q, 2, none⟩ (.int .i64 m.li)).setCell ⟨q, 3, none⟩ (.int .i64 0)).cell? ⟨q, 0, none⟩ = _ := (pset_else (by decide)).trans h0
  have h1 : (((w.setCell ⟨q, 1, none⟩ (.bool false)).setCell ⟨q, 2, none⟩ (.int .i64 m.li)).setCell ⟨q, 3, none⟩ (.int .i64 0)).cell? ⟨q, 1, none⟩ = _ := (pset_else (by decide)).trans h1
  have h2 : (((w.setCell ⟨q, 1, none⟩ (.bool false)).setCell ⟨q, 2, none⟩ (.int .i64 m.li)).setCell ⟨q, 3, none⟩ (.int .i64 0)).cell? ⟨q, 2, none⟩ = _ := (pset_else (by decide)).trans h2
  have h3 : (((w.setCell ⟨q, 1, none⟩ (.bool false)).setCell ⟨q, 2, none⟩ (.int .i64 m.li)).setCell ⟨q, 3, none⟩ (.int .i64 0)).cell? ⟨q, 3, none⟩ = some (.int .i64 0) := pset_same h3
  have h4 : (((w.setCell ⟨q, 1, none⟩ (.bool false)).setCell ⟨q, 2, none⟩ (.int .i64 m.li)).setCell ⟨q, 3, none⟩ (.int .i64 0)).cell? ⟨q, 4, none⟩ = _ := (pset_else (by decide)).trans h4
  have h5 : (((w.setCell ⟨q, 1, none⟩ (.bool false)).setCell ⟨q, 2, none⟩ (.int .i64 m.li)).setCell ⟨q, 3, none⟩ (.int .i64 0)).cell? ⟨q, 5, none⟩ = _ := (pset_else (by decide)).trans h5
  have h6 : (((w.setCell ⟨q, 1, none⟩ (.bool false)).setCell ⟨q, 2, none⟩ (.int .i64 m.li)).setCell ⟨q, 3, none⟩ (.int .i64 0)).cell? ⟨q, 6, none⟩ = _ := (pset_else (by decide)).trans h6
  have h0 : ((((w.setCell ⟨q, 1, none⟩ (.bool false)).setCell ⟨q, 2, none⟩ (.int .i64 m.li)).setCell ⟨q, 3, none⟩ (.int .i64 0)).setCell ⟨q, 4, none⟩ (.int .i64 0)).cell? ⟨q, 0, none⟩ = _ := (pset_else (by decide)).trans h0
  have h1 : ((((w.setCell ⟨q, 1, none⟩ (.bool false)).setCell ⟨q, 2, none⟩ (.int .i64 m.li)).setCell ⟨q, 3, none⟩ (.int .i64 0)).setCell ⟨q, 4, none⟩ (.int .i64 0)).cell? ⟨q, 1, none⟩ = _ := (pset_else (by decide)).trans h1
  have h2 : ((((w.setCell ⟨q, 1, none⟩ (.bool false)).setCell ⟨q, 2, none⟩ (.int .i64 m.li)).setCell ⟨q, 3, none⟩ (.int .i64 0)).setCell ⟨q, 4, none⟩ (.int .i64 0)).cell? ⟨q, 2, none⟩ = _ := (pset_else (by decide)).trans h2
  have h3 : ((((w.setCell ⟨q, 1, none⟩ (.bool false)).setCell ⟨q, 2, none⟩ (.int .i64 m.li)).setCell ⟨q, 3, none⟩ (.int .i64 0)).setCell ⟨q, 4, none⟩ (.int .i64 0)).cell? ⟨q, 3, none⟩ = _ := (pset_else (by decide)).trans h3
  have h4 : ((((w.setCell ⟨q, 1, none⟩ (.bool false)).setCell ⟨q, 2, none⟩ (.int .i64 m.li)).setCell ⟨q, 3, none⟩ (.int .i64 0)).setCell ⟨q, 4, none⟩ (.int .i64 0)).cell? ⟨q, 4, none⟩ = some (.int .i64 0) := pset_same h4
  have h5 : ((((w.setCell ⟨q, 1, none⟩ (.bool false)).setCell ⟨q, 2, none⟩ (.int .i64 m.li)).setCell ⟨q, 3, none⟩ (.int .i64 0)).setCell ⟨q, 4, none⟩ (.int .i64 0)).cell? ⟨q, 5, none⟩ = _ := (pset_else (by decide)).trans h5
  have h6 : ((((w.setCell ⟨q, 1, none⟩ (.bool false)).setCell ⟨q, 2, none⟩ (.int .i64 m.li)).setCell ⟨q, 3, none⟩ (.int .i64 0)).setCell ⟨q, 4, none⟩ (.int .i64 0)).cell? ⟨q, 6, none⟩ = _ := (pset_else (by decide)).trans h6
  have h0 : (((((w.setCell ⟨q, 1, none⟩ (.bool false)).setCell ⟨q, 2, none⟩ (.int .i64 m.li)).setCell ⟨q, 3, none⟩ (.int .i64 0)).setCell ⟨q, 4, none⟩ (.int .i64 0)).setCell ⟨q, 5, none⟩ (.int .i64 0)).cell? ⟨q, 0, none⟩ = _ := (pset_else (by decide)).trans h0
  have h1 : (((((w.setCell ⟨q, 1, none⟩ (.bool false)).setCell ⟨q, 2, none⟩ (.int .i64 m.li)).setCell ⟨q, 3, none⟩ (.int .i64 0)).setCell ⟨q, 4, none⟩ (.int .i64 0)).setCell ⟨q, 5, none⟩ (.int .i64 0)).cell? ⟨q, 1, none⟩ = _ := (pset_else (by decide)).trans h1
  have h2 : (((((w.setCell ⟨q, 1, none⟩ (.bool false)).setCell ⟨q, 2, none⟩ (.int .i64 m.li)).setCell ⟨q, 3, none⟩ (.int .i64 0)).setCell ⟨q, 4, none⟩ (.int .i64 0)).setCell ⟨q, 5, none⟩ (.int .i64 0)).cell? ⟨q, 2, none⟩ = _ := (pset_else (by decide)).trans h2
  have h3 : (((((w.setCell ⟨q, 1, none⟩ (.bool false)).setCell ⟨q, 2, none⟩ (.int .i64 m.li)).setCell ⟨q, 3, none⟩ (.int .i64 0)).setCell ⟨q, 4, none⟩ (.int .i64 0)).setCell ⟨q, 5, none⟩ (.int .i64 0)).cell? ⟨q, 3, none⟩ = _ := (pset_else (by decide)).trans h3
  have h4 : (((((w.setCell ⟨q, 1, none⟩ (.bool false)).setCell ⟨q, 2, none⟩ (.int .i64 m.li)).setCell ⟨q, 3, none⟩ (.int .i64 0)).setCell ⟨q, 4, none⟩ (.int .i64 0)).setCell ⟨q, 5, none⟩ (.int .i64 0)).cell? ⟨q, 4, none⟩ = _ := (pset_else (by decide)).trans h4
  have h5 : (((((w.setCell ⟨q, 1, none⟩ (.bool false)).setCell ⟨q, 2, none⟩ (.int .i64 m.li)).setCell ⟨q, 3, none⟩ (.int .i64 0)).setCell ⟨q, 4, none⟩ (.int .i64 0)).setCell ⟨q, 5, none⟩ (.int .i64 0)).cell? ⟨q, 5, none⟩ = some (.int .i64 0) := pset_same h5
  have h6 : (((((w.setCell ⟨q, 1, none⟩ (.bool false)).setCell ⟨q, 2, none⟩ (.int .i64 m.li)).setCell ⟨q, 3, none⟩ (.int .i64 0)).setCell ⟨q, 4, none⟩ (.int .i64 0)).setCell ⟨q, 5, none⟩ (.int .i64 0)).cell? ⟨q, 6, none⟩ = _ := (pset_else (by decide)).trans h6
  have h0 : ((((((w.setCell ⟨q, 1, none⟩ (.bool false)).setCell ⟨q, 2, none⟩ (.int .i64 m.li)).setCell ⟨q, 3, none⟩ (.int .i64 0)).setCell ⟨q, 4, none⟩ (.int .i64 0)).setCell ⟨q, 5, none⟩ (.int .i64 0)).setCell ⟨q, 6, none⟩ (.int .i64 0)).cell? ⟨q, 0, none⟩ = _ := (pset_else (by decide)).trans h0
  have h1 : ((((((w.setCell ⟨q, 1, none⟩ (.bool false)).setCell ⟨q, 2, none⟩ (.int .i64 m.li)).setCell ⟨q, 3, none⟩ (.int .i64 0)).setCell ⟨q, 4, none⟩ (.int .i64 0)).setCell ⟨q, 5, none⟩ (.int .i64 0)).setCell ⟨q, 6, none⟩ (.int .i64 0)).cell? ⟨q, 1, none⟩ = _ := (pset_else (by decide)).trans h1
  have h2 : ((((((w.setCell ⟨q, 1, none⟩ (.bool false)).setCell ⟨q, 2, none⟩ (.int .i64 m.li)).setCell ⟨q, 3, none⟩ (.int .i64 0)).setCell ⟨q, 4, none⟩ (.int .i64 0)).setCell ⟨q, 5, none⟩ (.int .i64 0)).setCell ⟨q, 6, none⟩ (.int .i64 0)).cell? ⟨q, 2, none⟩ = _ := (pset_else (by decide)).trans h2
  have h3 : ((((((w.setCell ⟨q, 1, none⟩ (.bool false)).setCell ⟨q, 2, none⟩ (.int .i64 m.li)).setCell ⟨q, 3, none⟩ (.int .i64 0)).setCell ⟨q, 4, none⟩ (.int .i64 0)).setCell ⟨q, 5, none⟩ (.int .i64 0)).setCell ⟨q, 6, none⟩ (.int .i64 0)).cell? ⟨q, 3, none⟩ = _ := (pset_else (by decide)).trans h3
  have h4 : ((((((w.setCell ⟨q, 1, none⟩ (.bool false)).setCell ⟨q, 2, none⟩ (.int .i64 m.li)).setCell ⟨q, 3, none⟩ (.int .i64 0)).setCell ⟨q, 4, none⟩ (.int .i64 0)).setCell ⟨q, 5, none⟩ (.int .i64 0)).setCell ⟨q, 6, none⟩ (.int .i64 0)).cell? ⟨q, 4, none⟩ = _ := (pset_else (by decide)).trans h4
  have h5 : ((((((w.setCell ⟨q, 1, none⟩ (.bool false)).setCell ⟨q, 2, none⟩ (.int .i64 m.li)).setCell ⟨q, 3, none⟩ (.int .i64 0)).setCell ⟨q, 4, none⟩ (.int .i64 0)).setCell ⟨q, 5, none⟩ (.int .i64 0)).setCell ⟨q, 6, none⟩ (.int .i64 0)).cell? ⟨q, 5, none⟩ = _ := (pset_else (by decide)).trans h5
  have h6 : ((((((w.setCell ⟨q, 1, none⟩ (.bool false)).setCell ⟨q, 2, none⟩ (.int .i64 m.li)).setCell ⟨q, 3, none⟩ (.int .i64 0)).setCell ⟨q, 4, none⟩ (.int .i64 0)).setCell ⟨q, 5, none⟩ (.int .i64 0)).setCell ⟨q, 6, none⟩ (.int .i64 0)).cell? ⟨q, 6, none⟩ = some (.int .i64 0) := pset_same h6
  refine ⟨h0, h1, h2, h3, h4, h5, h6, fun i => ?_⟩
  rw [World.frozen?_setCell, World.frozen?_setCell, World.frozen?_setCell, World.frozen?_setCell, World.frozen?_setCell, World.frozen?_setCell]
  exact hf i
set_option maxHeartbeats 2000000 in
theorem fallI (m : Mi) (q base : Nat) (ad : Option Addr) (cap : Nat) (w : World) (M : MgBox w q m (.slice ad m.lg.length cap)) (O : FOwn ikEnc 8 105 base w (.slice ad m.lg.length cap) m.lg) (hq : ∀ g, (Value.slice ad m.lg.length cap).ownBlock = some g → g ≠ q) :
    Calls Tryz.prog 175 #[.pointer (some ⟨q, 0, none⟩)] w fun e w' => e = .returned (.tuple #[]) ∧ MgBox w' q ⟨false, m.li, 0, [], 0, 0, 0⟩ (.slice ad 0 cap) ∧ Turned q (Value.slice ad m.lg.length cap).ownBlock w w' := by
  go_enter Tryz.func175, Tryz.ntmps175
  go_wp2_with fail
  go_at_call 201
  refine (emptyI m q base ad cap w M O hq).mono ?_
  rintro e w1 ⟨rfl, M1, T1⟩
  have M2 := M1.fallen
  have T3 : Turned q (Value.slice ad m.lg.length cap).ownBlock w ((((((w1.setCell ⟨q, 1, none⟩ (.bool false)).setCell ⟨q, 2, none⟩ (.int .i64 m.li)).setCell ⟨q, 3, none⟩ (.int .i64 0)).setCell ⟨q, 4, none⟩ (.int .i64 0)).setCell ⟨q, 5, none⟩ (.int .i64 0)).setCell ⟨q, 6, none⟩ (.int .i64 0)) := ((((((T1.set 1 _).set 2 _).set 3 _).set 4 _).set 5 _).set 6 _)
  clear T1 O hq M
  obtain ⟨c0, c1, c2, c3, c4, c5, c6, fr⟩ := M1
  have f1 := fr 1
  have f2 := fr 2
  have f3 := fr 3
  have f4 := fr 4
  have f5 := fr 5
  have f6 := fr 6
  clear fr
  go_wp2
  go_end0
  exact ⟨rfl, M2, T3⟩

end Go.Proofs.YtnpiljegdiconaaGreat
namespace Go.Proofs.YtnpiljegdiconaaGreat
open Go.ChangeShapes Go.WideShapes Go.ChangeAt Go.RowKit
open Go.ChangeMaps (open_string shut_string)
set_option linter.unusedVariables false
set_option maxRecDepth 100000

/-- What isFallen answers. -/
def fallB (m : Mi) : Bool := decide (m.up = false ∧ m.ep = 0 ∧ m.sd = 0 ∧ m.ac = 0 ∧ m.al = 0) && decide (m.lg.length = 0)
theorem eqMarks (m : Mi) (w : World) : (binOp .eql 163 (.agg #[.bool m.up, .int .i64 m.li, .int .i64 m.ep, .int .i64 m.sd, .int .i64 m.ac, .int .i64 m.al]) (.agg #[.bool false, .int .i64 m.li, .int .i64 0, .int .i64 0, .int .i64 0, .int .i64 0])).run Tryz.prog w = .ok (.bool (decide (m.up = false ∧ m.ep = 0 ∧ m.sd = 0 ∧ m.ac = 0 ∧ m.al = 0))) w := by
  go_simp
  all_goals ((repeat' split) <;> first | (simp_all; done) | grind)
set_option maxHeartbeats 4000000 in
theorem fallenI (m : Mi) (ad : Option Addr) (cap : Nat) (w : World) (hv : FView ikEnc w ad m.lg) (hl : m.lg.length ≤ 1048577) :
    Calls Tryz.prog 127 #[.agg #[.bool m.up, .int .i64 m.li, .int .i64 m.ep, .slice ad m.lg.length cap, .int .i64 m.sd, .int .i64 m.ac, .int .i64 m.al]] w fun e w' => e = .returned (.bool (fallB m)) ∧ Below w.heap.size w w' := by
  have hB := hv.lt ikEnc_len (by omega)
  have eM := eqMarks m
  obtain ⟨R, hR⟩ : ∃ R, R = fallB m := ⟨_, rfl⟩
  rw [← hR]
  replace hR : Hid _ := hR
  obtain ⟨y, hy⟩ : ∃ y, y = w.alloc (Obj.cells #[.bool m.up, .int .i64 m.li, .int .i64 m.ep, .slice ad m.lg.length cap, .int .i64 m.sd, .int .i64 m.ac, .int .i64 m.al] 28) := ⟨_, rfl⟩
  have B0 : Below w.heap.size w y := by rw [hy]; exact below_new _
  have A : MiAt y w.heap.size m (.slice ad m.lg.length cap) := by rw [hy]; exact MiAt.new w _ _ _
  have S0 := A.lt
  have hv1 := hv.below B0 hB
  clear hv
  go_enter Tryz.func127, Tryz.ntmps127
  go_upto_region 1 with fail
  rw [← hy]
  clear hy
  refine wp_region_held (S := fun Y => Below y.heap.size y Y) (by kernel_rfl) ?_
  change wpAnyH _ _ _ _ _ _ _ _ (World.drew _)
  have hb0 : Below y.heap.size y y.drew := (Below.refl _ _).drew
  obtain ⟨u0, hy0⟩ : ∃ y_, y_ = y.drew := ⟨_, rfl⟩
  rw [← hy0] at hb0 ⊢
  clear hy0
  refine takeW 0 5 (.agg #[.bool m.up, .int .i64 m.li, .int .i64 m.ep, .slice ad m.lg.length cap, .int .i64 m.sd, .int .i64 m.ac, .int .i64 m.al]) rfl rfl (by kernel_rfl) (by kernel_rfl) (by kernel_rfl) (fun _ _ _ h => h) (by kernel_rfl) (by (intro Y hSw; obtain ⟨X0, X1, X2, X3, X4, X5, X6⟩ := A.below hSw A.lt; go_simp)) (by assumption) ?_
  simp only [List.set_cons_zero, List.set_cons_succ]
  refine takeW 2 7 (.agg #[.bool m.up, .int .i64 m.li, .int .i64 m.ep, .slice ad m.lg.length cap, .int .i64 m.sd, .int .i64 m.ac, .int .i64 m.al]) rfl rfl (by kernel_rfl) (by kernel_rfl) (by kernel_rfl) (fun _ _ _ h => h) (by kernel_rfl) (by (intro Y hSw; obtain ⟨X0, X1, X2, X3, X4, X5, X6⟩ := A.below hSw A.lt; go_simp)) (by assumption) ?_
  simp only [List.set_cons_zero, List.set_cons_succ]
  refine wpAnyH_all (rs := [1]) (by kernel_rfl) (by simp) ?_
  intro i hi; obtain rfl : i = 1 := by simpa using hi
  refine wpOp_step rfl (fun Kz hKz => ?_)
  rw [if_pos (by kernel_rfl)]
  go_simp
  go_at_call 56
  refine (mindOf m ad cap u0 (hv1.below hb0 (hv1.lt ikEnc_len (by omega))) hl).mono ?_
  rintro e u1 ⟨q1, a1, c1, rfl, M1, O1, lo1, lq1, kq⟩
  have hb1 : Below y.heap.size y u1 := hb0.trans (kq.mono hb0.size)
  have su1 := kq.size
  have sb0 := hb0.size
  have sq1 := M1.lt
  clear kq
  refine hKz _ _ ⟨hb1, ?_⟩
  clear hKz Kz hi
  refine wpAnyH_all (rs := [3]) (by kernel_rfl) (by simp) ?_
  intro i hi; obtain rfl : i = 3 := by simpa using hi
  refine wpOp_step rfl (fun Kz hKz => ?_)
  rw [if_pos (by kernel_rfl)]
  go_simp
  go_at_call 56
  refine (mindOf m ad cap u1 (hv1.below hb1 (hv1.lt ikEnc_len (by omega))) hl).mono ?_
  rintro e u2 ⟨q2, a2, c2, rfl, M2, O2, lo2, lq2, kq⟩
  have hb2 : Below y.heap.size y u2 := hb1.trans (kq.mono hb1.size)
  have su2 := kq.size
  have sb1 := hb1.size
  have sq2 := M2.lt
  have M1 := M1.below kq M1.lt
  clear kq
  refine hKz _ _ ⟨hb2, ?_⟩
  clear hKz Kz hi
  have hne1 : q1 ≠ q2 := by omega
  have hne2 : ∀ g, (Value.slice a2 m.lg.length c2).ownBlock = some g → g ≠ q1 := fun g e => by have := (O2.lt g e).1; omega
  have hne3 : ∀ g, (Value.slice a2 m.lg.length c2).ownBlock = some g → g ≠ q2 := fun g e => by have := lo2 g e; omega
  have hlo : y.heap.size ≤ q2 := by omega
  have hlo2 : ∀ g, (Value.slice a2 m.lg.length c2).ownBlock = some g → y.heap.size ≤ g := fun g e => by have := (O2.lt g e).1; omega
  clear lo2
  refine takeW 4 3 (.pointer (some ⟨q1, 0, none⟩)) rfl rfl (by kernel_rfl) (by kernel_rfl) (by kernel_rfl) (fun _ _ _ h => h) (by kernel_rfl) (by (intro w hSw; go_simp)) (by assumption) ?_
  simp only [List.set_cons_zero, List.set_cons_succ]
  refine takeW 5 4 (.pointer (some ⟨q2, 0, none⟩)) rfl rfl (by kernel_rfl) (by kernel_rfl) (by kernel_rfl) (fun _ _ _ h => h) (by kernel_rfl) (by (intro w hSw; go_simp)) (by assumption) ?_
  simp only [List.set_cons_zero, List.set_cons_succ]
  refine wpAnyH_done (by kernel_rfl) ?_ _
  clear lo1 O1 hv1 A
  go_wp2_with fail
  go_at_call 175
  refine (fallI m q2 _ a2 c2 u2 M2 O2 hne3).mono ?_
  rintro e v ⟨rfl, N2, T⟩
  have M1 := M1.keep (T.block q1 M1.lt hne1 (fun e => hne2 q1 e rfl))
  have hbv : Below y.heap.size y v := hb2.trans (T.below hb2.size hlo hlo2)
  clear T M2 O2 hb2 hb1 hb0 hne2 hne3 hlo2
  go_upto_region 3 with fail
  cases hF : decide (m.up = false ∧ m.ep = 0 ∧ m.sd = 0 ∧ m.ac = 0 ∧ m.al = 0)
  · rw [hF] at eM
    replace hF : Hid _ := hF
    refine wp_region_held (S := fun Y => Below v.heap.size v Y) (by kernel_rfl) ?_
    change wpAnyH _ _ _ _ _ _ _ _ (World.drew _)
    have hb0 : Below v.heap.size v v.drew := (Below.refl _ _).drew
    obtain ⟨u0, hy0⟩ : ∃ y_, y_ = v.drew := ⟨_, rfl⟩
    rw [← hy0] at hb0 ⊢
    clear hy0
    refine takeW 0 11 (.pointer (some ⟨q1, 0, none⟩)) rfl rfl (by kernel_rfl) (by kernel_rfl) (by kernel_rfl) (fun _ _ _ h => h) (by kernel_rfl) (by (intro w hSw; go_simp)) (by assumption) ?_
    simp only [List.set_cons_zero, List.set_cons_succ]
    refine takeW 1 12 (.pointer (some ⟨q1, 0, none⟩)) rfl rfl (by kernel_rfl) (by kernel_rfl) (by kernel_rfl) (fun _ _ _ h => h) (by kernel_rfl) (by (intro w hSw; go_simp)) (by assumption) ?_
    simp only [List.set_cons_zero, List.set_cons_succ]
    refine takeW 2 13 (.pointer (some ⟨q1, 1, none⟩)) rfl rfl (by kernel_rfl) (by kernel_rfl) (by kernel_rfl) (fun _ _ _ h => h) (by kernel_rfl) (by (intro w hSw; go_simp)) (by assumption) ?_
    simp only [List.set_cons_zero, List.set_cons_succ]
    refine takeW 3 14 (.agg #[.bool m.up, .int .i64 m.li, .int .i64 m.ep, .int .i64 m.sd, .int .i64 m.ac, .int .i64 m.al]) rfl rfl (by kernel_rfl) (by kernel_rfl) (by kernel_rfl) (fun _ _ _ h => h) (by kernel_rfl) (by (intro Y hSw; obtain ⟨X0, X1, X2, X3, X4, X5, X6, XF⟩ := M1.below hSw M1.lt; go_simp)) (by assumption) ?_
    simp only [List.set_cons_zero, List.set_cons_succ]
    refine takeW 4 15 (.pointer (some ⟨q2, 0, none⟩)) rfl rfl (by kernel_rfl) (by kernel_rfl) (by kernel_rfl) (fun _ _ _ h => h) (by kernel_rfl) (by (intro w hSw; go_simp)) (by assumption) ?_
    simp only [List.set_cons_zero, List.set_cons_succ]
    refine takeW 5 16 (.pointer (some ⟨q2, 0, none⟩)) rfl rfl (by kernel_rfl) (by kernel_rfl) (by kernel_rfl) (fun _ _ _ h => h) (by kernel_rfl) (by (intro w hSw; go_simp)) (by assumption) ?_
    simp only [List.set_cons_zero, List.set_cons_succ]
    refine takeW 6 17 (.pointer (some ⟨q2, 1, none⟩)) rfl rfl (by kernel_rfl) (by kernel_rfl) (by kernel_rfl) (fun _ _ _ h => h) (by kernel_rfl) (by (intro w hSw; go_simp)) (by assumption) ?_
    simp only [List.set_cons_zero, List.set_cons_succ]
    refine takeW 7 18 (.agg #[.bool false, .int .i64 m.li, .int .i64 0, .int .i64 0, .int .i64 0, .int .i64 0]) rfl rfl (by kernel_rfl) (by kernel_rfl) (by kernel_rfl) (fun _ _ _ h => h) (by kernel_rfl) (by (intro Y hSw; obtain ⟨X0, X1, X2, X3, X4, X5, X6, XF⟩ := N2.below hSw N2.lt; go_simp)) (by assumption) ?_
    simp only [List.set_cons_zero, List.set_cons_succ]
    refine takeW 8 19 (.bool false) rfl rfl (by kernel_rfl) (by kernel_rfl) (by kernel_rfl) (fun _ _ _ h => h) (by kernel_rfl) (by (intro w hSw; go_simp)) (by assumption) ?_
    simp only [List.set_cons_zero, List.set_cons_succ]
    refine takeW 9 20 (.bool false) rfl rfl (by kernel_rfl) (by kernel_rfl) (by kernel_rfl) (fun _ _ _ h => h) (by kernel_rfl) (by (intro w hSw; go_simp)) (by assumption) ?_
    simp only [List.set_cons_zero, List.set_cons_succ]
    refine takeS 10 21 rfl rfl (by kernel_rfl) (by kernel_rfl) (by kernel_rfl) (fun _ _ _ h => h) (by kernel_rfl) (by assumption) ?_
    simp only [List.set_cons_zero, List.set_cons_succ]
    refine takeS 11 22 rfl rfl (by kernel_rfl) (by kernel_rfl) (by kernel_rfl) (fun _ _ _ h => h) (by kernel_rfl) (by assumption) ?_
    simp only [List.set_cons_zero, List.set_cons_succ]
    refine takeS 12 23 rfl rfl (by kernel_rfl) (by kernel_rfl) (by kernel_rfl) (fun _ _ _ h => h) (by kernel_rfl) (by assumption) ?_
    simp only [List.set_cons_zero, List.set_cons_succ]
    refine takeS 13 24 rfl rfl (by kernel_rfl) (by kernel_rfl) (by kernel_rfl) (fun _ _ _ h => h) (by kernel_rfl) (by assumption) ?_
    simp only [List.set_cons_zero, List.set_cons_succ]
    refine takeS 14 25 rfl rfl (by kernel_rfl) (by kernel_rfl) (by kernel_rfl) (fun _ _ _ h => h) (by kernel_rfl) (by assumption) ?_
    simp only [List.set_cons_zero, List.set_cons_succ]
    refine takeS 15 26 rfl rfl (by kernel_rfl) (by kernel_rfl) (by kernel_rfl) (fun _ _ _ h => h) (by kernel_rfl) (by assumption) ?_
    simp only [List.set_cons_zero, List.set_cons_succ]
    refine takeS 16 27 rfl rfl (by kernel_rfl) (by kernel_rfl) (by kernel_rfl) (fun _ _ _ h => h) (by kernel_rfl) (by assumption) ?_
    simp only [List.set_cons_zero, List.set_cons_succ]
    refine takeS 17 28 rfl rfl (by kernel_rfl) (by kernel_rfl) (by kernel_rfl) (fun _ _ _ h => h) (by kernel_rfl) (by assumption) ?_
    simp only [List.set_cons_zero, List.set_cons_succ]
    refine takeS 18 29 rfl rfl (by kernel_rfl) (by kernel_rfl) (by kernel_rfl) (fun _ _ _ h => h) (by kernel_rfl) (by assumption) ?_
    simp only [List.set_cons_zero, List.set_cons_succ]
    refine takeW 19 30 (.bool false) rfl rfl (by kernel_rfl) (by kernel_rfl) (by kernel_rfl) (fun _ _ _ h => h) (by kernel_rfl) (by (intro w hSw; go_simp)) (by assumption) ?_
    simp only [List.set_cons_zero, List.set_cons_succ]
    refine takeW 20 2 (.bool false) rfl rfl (by kernel_rfl) (by kernel_rfl) (by kernel_rfl) (fun _ _ _ h => h) (by kernel_rfl) (by (intro w hSw; go_simp)) (by assumption) ?_
    simp only [List.set_cons_zero, List.set_cons_succ]
    refine wpAnyH_done (by kernel_rfl) ?_ _
    have hN : Hid (R = false) := by unfold Hid; rw [hR.out]; unfold fallB; rw [hF.out]; rfl
    go_wp2
    go_ret
    exact ⟨by rw [hN.out]; rfl, B0.trans ((hbv.trans (hb0.mono hbv.size)).mono B0.size)⟩
  · rw [hF] at eM
    replace hF : Hid _ := hF
    cases hG : decide (m.lg.length = 0)
    · have dG : ((m.lg.length : Int) == 0) = false := by rw [beq_eq_false_iff_ne]; have := of_decide_eq_false hG; omega
      replace hG : Hid _ := hG
      refine wp_region_held (S := fun Y => Below v.heap.size v Y) (by kernel_rfl) ?_
      change wpAnyH _ _ _ _ _ _ _ _ (World.drew _)
      have hb0 : Below v.heap.size v v.drew := (Below.refl _ _).drew
      obtain ⟨u0, hy0⟩ : ∃ y_, y_ = v.drew := ⟨_, rfl⟩
      rw [← hy0] at hb0 ⊢
      clear hy0
      refine takeW 0 11 (.pointer (some ⟨q1, 0, none⟩)) rfl rfl (by kernel_rfl) (by kernel_rfl) (by kernel_rfl) (fun _ _ _ h => h) (by kernel_rfl) (by (intro w hSw; go_simp)) (by assumption) ?_
      simp only [List.set_cons_zero, List.set_cons_succ]
      refine takeW 1 12 (.pointer (some ⟨q1, 0, none⟩)) rfl rfl (by kernel_rfl) (by kernel_rfl) (by kernel_rfl) (fun _ _ _ h => h) (by kernel_rfl) (by (intro w hSw; go_simp)) (by assumption) ?_
      simp only [List.set_cons_zero, List.set_cons_succ]
      refine takeW 2 13 (.pointer (some ⟨q1, 1, none⟩)) rfl rfl (by kernel_rfl) (by kernel_rfl) (by kernel_rfl) (fun _ _ _ h => h) (by kernel_rfl) (by (intro w hSw; go_simp)) (by assumption) ?_
      simp only [List.set_cons_zero, List.set_cons_succ]
      refine takeW 3 14 (.agg #[.bool m.up, .int .i64 m.li, .int .i64 m.ep, .int .i64 m.sd, .int .i64 m.ac, .int .i64 m.al]) rfl rfl (by kernel_rfl) (by kernel_rfl) (by kernel_rfl) (fun _ _ _ h => h) (by kernel_rfl) (by (intro Y hSw; obtain ⟨X0, X1, X2, X3, X4, X5, X6, XF⟩ := M1.below hSw M1.lt; go_simp)) (by assumption) ?_
      simp only [List.set_cons_zero, List.set_cons_succ]
      refine takeW 4 15 (.pointer (some ⟨q2, 0, none⟩)) rfl rfl (by kernel_rfl) (by kernel_rfl) (by kernel_rfl) (fun _ _ _ h => h) (by kernel_rfl) (by (intro w hSw; go_simp)) (by assumption) ?_
      simp only [List.set_cons_zero, List.set_cons_succ]
      refine takeW 5 16 (.pointer (some ⟨q2, 0, none⟩)) rfl rfl (by kernel_rfl) (by kernel_rfl) (by kernel_rfl) (fun _ _ _ h => h) (by kernel_rfl) (by (intro w hSw; go_simp)) (by assumption) ?_
      simp only [List.set_cons_zero, List.set_cons_succ]
      refine takeW 6 17 (.pointer (some ⟨q2, 1, none⟩)) rfl rfl (by kernel_rfl) (by kernel_rfl) (by kernel_rfl) (fun _ _ _ h => h) (by kernel_rfl) (by (intro w hSw; go_simp)) (by assumption) ?_
      simp only [List.set_cons_zero, List.set_cons_succ]
      refine takeW 7 18 (.agg #[.bool false, .int .i64 m.li, .int .i64 0, .int .i64 0, .int .i64 0, .int .i64 0]) rfl rfl (by kernel_rfl) (by kernel_rfl) (by kernel_rfl) (fun _ _ _ h => h) (by kernel_rfl) (by (intro Y hSw; obtain ⟨X0, X1, X2, X3, X4, X5, X6, XF⟩ := N2.below hSw N2.lt; go_simp)) (by assumption) ?_
      simp only [List.set_cons_zero, List.set_cons_succ]
      refine takeW 8 19 (.bool true) rfl rfl (by kernel_rfl) (by kernel_rfl) (by kernel_rfl) (fun _ _ _ h => h) (by kernel_rfl) (by (intro w hSw; go_simp)) (by assumption) ?_
      simp only [List.set_cons_zero, List.set_cons_succ]
      refine takeW 9 20 (.bool true) rfl rfl (by kernel_rfl) (by kernel_rfl) (by kernel_rfl) (fun _ _ _ h => h) (by kernel_rfl) (by (intro w hSw; go_simp)) (by assumption) ?_
      simp only [List.set_cons_zero, List.set_cons_succ]
      refine takeW 10 21 (.pointer (some ⟨q1, 0, none⟩)) rfl rfl (by kernel_rfl) (by kernel_rfl) (by kernel_rfl) (fun _ _ _ h => h) (by kernel_rfl) (by (intro w hSw; go_simp)) (by assumption) ?_
      simp only [List.set_cons_zero, List.set_cons_succ]
      refine takeW 11 22 (.pointer (some ⟨q1, 0, none⟩)) rfl rfl (by kernel_rfl) (by kernel_rfl) (by kernel_rfl) (fun _ _ _ h => h) (by kernel_rfl) (by (intro w hSw; go_simp)) (by assumption) ?_
      simp only [List.set_cons_zero, List.set_cons_succ]
      refine takeW 12 23 (.pointer (some ⟨q1, 0, none⟩)) rfl rfl (by kernel_rfl) (by kernel_rfl) (by kernel_rfl) (fun _ _ _ h => h) (by kernel_rfl) (by (intro w hSw; go_simp)) (by assumption) ?_
      simp only [List.set_cons_zero, List.set_cons_succ]
      refine takeW 14 25 (.pointer (some ⟨q2, 0, none⟩)) rfl rfl (by kernel_rfl) (by kernel_rfl) (by kernel_rfl) (fun _ _ _ h => h) (by kernel_rfl) (by (intro w hSw; go_simp)) (by assumption) ?_
      simp only [List.set_cons_zero, List.set_cons_succ]
      refine takeW 15 26 (.pointer (some ⟨q2, 0, none⟩)) rfl rfl (by kernel_rfl) (by kernel_rfl) (by kernel_rfl) (fun _ _ _ h => h) (by kernel_rfl) (by (intro w hSw; go_simp)) (by assumption) ?_
      simp only [List.set_cons_zero, List.set_cons_succ]
      refine takeW 16 27 (.pointer (some ⟨q2, 0, none⟩)) rfl rfl (by kernel_rfl) (by kernel_rfl) (by kernel_rfl) (fun _ _ _ h => h) (by kernel_rfl) (by (intro w hSw; go_simp)) (by assumption) ?_
      simp only [List.set_cons_zero, List.set_cons_succ]
      refine wpAnyH_all (rs := [13]) (by kernel_rfl) (by simp) ?_
      intro i hi; obtain rfl : i = 13 := by simpa using hi
      refine wpOp_step rfl (fun Kz hKz => ?_)
      rw [if_pos (by kernel_rfl)]
      go_simp
      go_at_call 172
      refine (countI q1 m.lg.length a1 c1 u0 (M1.below hb0 M1.lt).c0).mono ?_
      rintro e u1 ⟨rfl, kq⟩
      have hb1 : Below v.heap.size v u1 := by rw [kq]; exact hb0
      clear kq
      refine hKz _ _ ⟨hb1, ?_⟩
      clear hKz Kz hi
      refine wpAnyH_all (rs := [17]) (by kernel_rfl) (by simp) ?_
      intro i hi; obtain rfl : i = 17 := by simpa using hi
      refine wpOp_step rfl (fun Kz hKz => ?_)
      rw [if_pos (by kernel_rfl)]
      go_simp
      go_at_call 172
      refine (countI q2 0 a2 c2 u1 (N2.below hb1 N2.lt).c0).mono ?_
      rintro e u2 ⟨rfl, kq⟩
      have hb2 : Below v.heap.size v u2 := by rw [kq]; exact hb1
      clear kq
      refine hKz _ _ ⟨hb2, ?_⟩
      clear hKz Kz hi
      refine takeW 18 29 (.bool false) rfl rfl (by kernel_rfl) (by kernel_rfl) (by kernel_rfl) (fun _ _ _ h => h) (by kernel_rfl) (by (intro w hSw; go_simp)) (by assumption) ?_
      simp only [List.set_cons_zero, List.set_cons_succ]
      refine takeW 19 30 (.bool false) rfl rfl (by kernel_rfl) (by kernel_rfl) (by kernel_rfl) (fun _ _ _ h => h) (by kernel_rfl) (by (intro w hSw; go_simp)) (by assumption) ?_
      simp only [List.set_cons_zero, List.set_cons_succ]
      refine takeW 20 2 (.bool false) rfl rfl (by kernel_rfl) (by kernel_rfl) (by kernel_rfl) (fun _ _ _ h => h) (by kernel_rfl) (by (intro w hSw; go_simp)) (by assumption) ?_
      simp only [List.set_cons_zero, List.set_cons_succ]
      refine wpAnyH_done (by kernel_rfl) ?_ _
      have hN : Hid (R = false) := by unfold Hid; rw [hR.out]; unfold fallB; rw [hF.out, hG.out]; rfl
      go_wp2
      go_ret
      exact ⟨by rw [hN.out]; rfl, B0.trans ((hbv.trans (hb2.mono hbv.size)).mono B0.size)⟩
    · have dG : ((m.lg.length : Int) == 0) = true := by rw [beq_iff_eq]; have := of_decide_eq_true hG; omega
      replace hG : Hid _ := hG
      refine wp_region_held (S := fun Y => Below v.heap.size v Y) (by kernel_rfl) ?_
      change wpAnyH _ _ _ _ _ _ _ _ (World.drew _)
      have hb0 : Below v.heap.size v v.drew := (Below.refl _ _).drew
      obtain ⟨u0, hy0⟩ : ∃ y_, y_ = v.drew := ⟨_, rfl⟩
      rw [← hy0] at hb0 ⊢
      clear hy0
      refine takeW 0 11 (.pointer (some ⟨q1, 0, none⟩)) rfl rfl (by kernel_rfl) (by kernel_rfl) (by kernel_rfl) (fun _ _ _ h => h) (by kernel_rfl) (by (intro w hSw; go_simp)) (by assumption) ?_
      simp only [List.set_cons_zero, List.set_cons_succ]
      refine takeW 1 12 (.pointer (some ⟨q1, 0, none⟩)) rfl rfl (by kernel_rfl) (by kernel_rfl) (by kernel_rfl) (fun _ _ _ h => h) (by kernel_rfl) (by (intro w hSw; go_simp)) (by assumption) ?_
      simp only [List.set_cons_zero, List.set_cons_succ]
      refine takeW 2 13 (.pointer (some ⟨q1, 1, none⟩)) rfl rfl (by kernel_rfl) (by kernel_rfl) (by kernel_rfl) (fun _ _ _ h => h) (by kernel_rfl) (by (intro w hSw; go_simp)) (by assumption) ?_
      simp only [List.set_cons_zero, List.set_cons_succ]
      refine takeW 3 14 (.agg #[.bool m.up, .int .i64 m.li, .int .i64 m.ep, .int .i64 m.sd, .int .i64 m.ac, .int .i64 m.al]) rfl rfl (by kernel_rfl) (by kernel_rfl) (by kernel_rfl) (fun _ _ _ h => h) (by kernel_rfl) (by (intro Y hSw; obtain ⟨X0, X1, X2, X3, X4, X5, X6, XF⟩ := M1.below hSw M1.lt; go_simp)) (by assumption) ?_
      simp only [List.set_cons_zero, List.set_cons_succ]
      refine takeW 4 15 (.pointer (some ⟨q2, 0, none⟩)) rfl rfl (by kernel_rfl) (by kernel_rfl) (by kernel_rfl) (fun _ _ _ h => h) (by kernel_rfl) (by (intro w hSw; go_simp)) (by assumption) ?_
      simp only [List.set_cons_zero, List.set_cons_succ]
      refine takeW 5 16 (.pointer (some ⟨q2, 0, none⟩)) rfl rfl (by kernel_rfl) (by kernel_rfl) (by kernel_rfl) (fun _ _ _ h => h) (by kernel_rfl) (by (intro w hSw; go_simp)) (by assumption) ?_
      simp only [List.set_cons_zero, List.set_cons_succ]
      refine takeW 6 17 (.pointer (some ⟨q2, 1, none⟩)) rfl rfl (by kernel_rfl) (by kernel_rfl) (by kernel_rfl) (fun _ _ _ h => h) (by kernel_rfl) (by (intro w hSw; go_simp)) (by assumption) ?_
      simp only [List.set_cons_zero, List.set_cons_succ]
      refine takeW 7 18 (.agg #[.bool false, .int .i64 m.li, .int .i64 0, .int .i64 0, .int .i64 0, .int .i64 0]) rfl rfl (by kernel_rfl) (by kernel_rfl) (by kernel_rfl) (fun _ _ _ h => h) (by kernel_rfl) (by (intro Y hSw; obtain ⟨X0, X1, X2, X3, X4, X5, X6, XF⟩ := N2.below hSw N2.lt; go_simp)) (by assumption) ?_
      simp only [List.set_cons_zero, List.set_cons_succ]
      refine takeW 8 19 (.bool true) rfl rfl (by kernel_rfl) (by kernel_rfl) (by kernel_rfl) (fun _ _ _ h => h) (by kernel_rfl) (by (intro w hSw; go_simp)) (by assumption) ?_
      simp only [List.set_cons_zero, List.set_cons_succ]
      refine takeW 9 20 (.bool true) rfl rfl (by kernel_rfl) (by kernel_rfl) (by kernel_rfl) (fun _ _ _ h => h) (by kernel_rfl) (by (intro w hSw; go_simp)) (by assumption) ?_
      simp only [List.set_cons_zero, List.set_cons_succ]
      refine takeW 10 21 (.pointer (some ⟨q1, 0, none⟩)) rfl rfl (by kernel_rfl) (by kernel_rfl) (by kernel_rfl) (fun _ _ _ h => h) (by kernel_rfl) (by (intro w hSw; go_simp)) (by assumption) ?_
      simp only [List.set_cons_zero, List.set_cons_succ]
      refine takeW 11 22 (.pointer (some ⟨q1, 0, none⟩)) rfl rfl (by kernel_rfl) (by kernel_rfl) (by kernel_rfl) (fun _ _ _ h => h) (by kernel_rfl) (by (intro w hSw; go_simp)) (by assumption) ?_
      simp only [List.set_cons_zero, List.set_cons_succ]
      refine takeW 12 23 (.pointer (some ⟨q1, 0, none⟩)) rfl rfl (by kernel_rfl) (by kernel_rfl) (by kernel_rfl) (fun _ _ _ h => h) (by kernel_rfl) (by (intro w hSw; go_simp)) (by assumption) ?_
      simp only [List.set_cons_zero, List.set_cons_succ]
      refine takeW 14 25 (.pointer (some ⟨q2, 0, none⟩)) rfl rfl (by kernel_rfl) (by kernel_rfl) (by kernel_rfl) (fun _ _ _ h => h) (by kernel_rfl) (by (intro w hSw; go_simp)) (by assumption) ?_
      simp only [List.set_cons_zero, List.set_cons_succ]
      refine takeW 15 26 (.pointer (some ⟨q2, 0, none⟩)) rfl rfl (by kernel_rfl) (by kernel_rfl) (by kernel_rfl) (fun _ _ _ h => h) (by kernel_rfl) (by (intro w hSw; go_simp)) (by assumption) ?_
      simp only [List.set_cons_zero, List.set_cons_succ]
      refine takeW 16 27 (.pointer (some ⟨q2, 0, none⟩)) rfl rfl (by kernel_rfl) (by kernel_rfl) (by kernel_rfl) (fun _ _ _ h => h) (by kernel_rfl) (by (intro w hSw; go_simp)) (by assumption) ?_
      simp only [List.set_cons_zero, List.set_cons_succ]
      refine wpAnyH_all (rs := [13]) (by kernel_rfl) (by simp) ?_
      intro i hi; obtain rfl : i = 13 := by simpa using hi
      refine wpOp_step rfl (fun Kz hKz => ?_)
      rw [if_pos (by kernel_rfl)]
      go_simp
      go_at_call 172
      refine (countI q1 m.lg.length a1 c1 u0 (M1.below hb0 M1.lt).c0).mono ?_
      rintro e u1 ⟨rfl, kq⟩
      have hb1 : Below v.heap.size v u1 := by rw [kq]; exact hb0
      clear kq
      refine hKz _ _ ⟨hb1, ?_⟩
      clear hKz Kz hi
      refine wpAnyH_all (rs := [17]) (by kernel_rfl) (by simp) ?_
      intro i hi; obtain rfl : i = 17 := by simpa using hi
      refine wpOp_step rfl (fun Kz hKz => ?_)
      rw [if_pos (by kernel_rfl)]
      go_simp
      go_at_call 172
      refine (countI q2 0 a2 c2 u1 (N2.below hb1 N2.lt).c0).mono ?_
      rintro e u2 ⟨rfl, kq⟩
      have hb2 : Below v.heap.size v u2 := by rw [kq]; exact hb1
      clear kq
      refine hKz _ _ ⟨hb2, ?_⟩
      clear hKz Kz hi
      refine takeW 18 29 (.bool true) rfl rfl (by kernel_rfl) (by kernel_rfl) (by kernel_rfl) (fun _ _ _ h => h) (by kernel_rfl) (by (intro w hSw; go_simp)) (by assumption) ?_
      simp only [List.set_cons_zero, List.set_cons_succ]
      refine takeW 19 30 (.bool true) rfl rfl (by kernel_rfl) (by kernel_rfl) (by kernel_rfl) (fun _ _ _ h => h) (by kernel_rfl) (by (intro w hSw; go_simp)) (by assumption) ?_
      simp only [List.set_cons_zero, List.set_cons_succ]
      refine takeW 20 2 (.bool true) rfl rfl (by kernel_rfl) (by kernel_rfl) (by kernel_rfl) (fun _ _ _ h => h) (by kernel_rfl) (by (intro w hSw; go_simp)) (by assumption) ?_
      simp only [List.set_cons_zero, List.set_cons_succ]
      refine wpAnyH_done (by kernel_rfl) ?_ _
      have hN : Hid (R = true) := by unfold Hid; rw [hR.out]; unfold fallB; rw [hF.out, hG.out]; rfl
      go_wp2
      go_ret
      exact ⟨by rw [hN.out]; rfl, B0.trans ((hbv.trans (hb2.mono hbv.size)).mono B0.size)⟩
theorem miOk_is (m : Mi) : miOk m = (fitsM m && (m.up || fallB m)) := by
  obtain ⟨up, li, ep, L, sd, ac, al⟩ := m
  unfold miOk fitsM fallB insB
  dsimp only
  rw [Bool.eq_iff_iff]
  cases up
  · simp only [Bool.and_eq_true, Bool.or_eq_true, decide_eq_true_eq]
    constructor
    · rintro ⟨h1, h2, h3, ⟨h4, h5⟩, h6, h7, h8⟩
      rcases h8 with h8 | ⟨h8, h9, h10⟩
      · cases h8
      · exact ⟨⟨h1, h2, h3, by omega, h4, h6, h7⟩, .inr ⟨⟨trivial, h8, by omega, by omega, h10⟩, h9⟩⟩
    · rintro ⟨⟨h1, h2, h3, h4, h5, h6, h7⟩, h8⟩
      rcases h8 with h8 | ⟨⟨_, h8, h9, h10, h11⟩, h12⟩
      · cases h8
      · exact ⟨h1, h2, h3, ⟨h5, by omega⟩, h6, h7, .inr ⟨h8, h12, h11⟩⟩
  · simp only [Bool.and_eq_true, Bool.true_or, Bool.and_true, decide_eq_true_eq]
    constructor
    · rintro ⟨h1, h2, h3, ⟨h4, h5⟩, h6, h7⟩
      exact ⟨h1, h2, h3, by omega, h4, h6, h7⟩
    · rintro ⟨h1, h2, h3, h4, h5, h6, h7⟩
      exact ⟨h1, h2, h3, ⟨h5, by omega⟩, h6, h7⟩
set_option maxHeartbeats 2000000 in
theorem miOkI (m : Mi) (ad : Option Addr) (cap : Nat) (w : World) (hv : FView ikEnc w ad m.lg) (hl : m.lg.length ≤ 1048577) :
    Calls Tryz.prog 57 #[.agg #[.bool m.up, .int .i64 m.li, .int .i64 m.ep, .slice ad m.lg.length cap, .int .i64 m.sd, .int .i64 m.ac, .int .i64 m.al]] w fun e w' => e = .returned (.bool (miOk m)) ∧ Below w.heap.size w w' := by
  have hB := hv.lt ikEnc_len (by omega)
  obtain ⟨R, hR⟩ : ∃ R, R = miOk m := ⟨_, rfl⟩
  rw [← hR]
  rw [miOk_is] at hR
  replace hR : Hid _ := hR
  obtain ⟨y, hy⟩ : ∃ y, y = w.alloc (Obj.cells #[.bool m.up, .int .i64 m.li, .int .i64 m.ep, .slice ad m.lg.length cap, .int .i64 m.sd, .int .i64 m.ac, .int .i64 m.al] 28) := ⟨_, rfl⟩
  have B0 : Below w.heap.size w y := by rw [hy]; exact below_new _
  have A : MiAt y w.heap.size m (.slice ad m.lg.length cap) := by rw [hy]; exact MiAt.new w _ _ _
  have S0 := A.lt
  have hv1 := hv.below B0 hB
  clear hv
  go_enter Tryz.func57, Tryz.ntmps57
  go_wp2_with fail
  go_at_call 56
  rw [← hy]
  clear hy
  refine (mindOf m ad cap y hv1 hl).mono ?_
  rintro e u1 ⟨q, a1, c1, rfl, M1, O1, _, _, k1⟩
  have hb1 := B0.trans (k1.mono B0.size)
  have A := A.below k1 A.lt
  have hv1 := hv1.below k1 (hv1.lt ikEnc_len (by omega))
  clear k1
  go_wp2_with fail
  go_at_call 126
  refine (fitsI m q a1 c1 u1 M1 O1.view.2 hl).mono ?_
  rintro e u2 ⟨rfl, k2⟩
  have hb2 := hb1.trans (k2.mono hb1.size)
  have A := A.below k2 A.lt
  have hv1 := hv1.below k2 (hv1.lt ikEnc_len (by omega))
  clear k2 hb1 M1 O1
  cases hF : fitsM m
  · have hN : Hid (R = false) := by unfold Hid; rw [hR.out, hF]; rfl
    clear hF
    go_wp2
    go_ret
    exact ⟨by rw [hN.out]; rfl, hb2⟩
  · cases hU : m.up
    · have hN : Hid (R = fallB m) := by unfold Hid; rw [hR.out, hF, hU]; rfl
      clear hF
      have cc := A
      obtain ⟨x0, x1, x2, x3, x4, x5, x6⟩ := cc
      rw [hU] at x0
      go_wp2_with fail
      go_at_call 127
      clear x0 x1 x2 x3 x4 x5 x6
      rw [← hU]
      refine (fallenI m ad cap u2 hv1 hl).mono ?_
      rintro e u3 ⟨rfl, k3⟩
      have hb3 := hb2.trans (k3.mono hb2.size)
      rw [← hN.out]
      go_wp2
      go_ret
      exact ⟨rfl, hb3⟩
    · have hN : Hid (R = true) := by unfold Hid; rw [hR.out, hF, hU]; rfl
      clear hF
      obtain ⟨x0, x1, x2, x3, x4, x5, x6⟩ := A
      rw [hU] at x0
      go_wp2
      go_ret
      exact ⟨by rw [hN.out]; rfl, hb2⟩

end Go.Proofs.YtnpiljegdiconaaGreat
namespace Go.Proofs.YtnpiljegdiconaaGreat
open Go.ChangeShapes Go.WideShapes Go.ChangeAt Go.RowKit
open Go.ChangeMaps (open_string shut_string)
set_option linter.unusedVariables false
set_option maxRecDepth 100000

theorem noMiI (m : Mi) (ad : Option Addr) (cap : Nat) (w : World) (hv : FView ikEnc w ad m.lg) (hl : m.lg.length ≤ 1048577) : Calls Tryz.prog 84 #[.agg #[.bool m.up, .int .i64 m.li, .int .i64 m.ep, .slice ad m.lg.length cap, .int .i64 m.sd, .int .i64 m.ac, .int .i64 m.al]] w fun e w' => e = .returned (.bool (!miOk m)) ∧ Below w.heap.size w w' := by
  obtain ⟨y, hy⟩ : ∃ y, y = w.alloc (Obj.cells #[.bool m.up, .int .i64 m.li, .int .i64 m.ep, .slice ad m.lg.length cap, .int .i64 m.sd, .int .i64 m.ac, .int .i64 m.al] 28) := ⟨_, rfl⟩
  have B0 : Below w.heap.size w y := by rw [hy]; exact below_new _
  obtain ⟨o, ho⟩ : ∃ o, o = miOk m := ⟨_, rfl⟩
  rw [← ho]
  replace ho : Hid _ := ho
  go_enter Tryz.func84, Tryz.ntmps84
  go_wp2_with fail
  go_at_call 57
  rw [← hy]
  clear hy
  refine (miOkI m ad cap y (hv.below B0 (hv.lt ikEnc_len (by omega))) hl).mono ?_
  rintro e w1 ⟨rfl, k1⟩
  have B1 := B0.trans (k1.mono B0.size)
  rw [← ho.out]
  go_wp2
  go_ret
  exact ⟨rfl, B1⟩
theorem noInI (x : Ik) (w : World) : Calls Tryz.prog 88 #[.agg #[.int .i64 x.k, .int .i64 x.q, .int .i64 x.r, .int .i64 x.c, .int .i64 x.b, .int .i64 x.p, .int .i64 x.h, .bool x.up]] w fun e w' => e = .returned (.bool (!inOk x)) ∧ Below w.heap.size w w' := by
  obtain ⟨y, hy⟩ : ∃ y, y = w.alloc (Obj.cells #[.int .i64 x.k, .int .i64 x.q, .int .i64 x.r, .int .i64 x.c, .int .i64 x.b, .int .i64 x.p, .int .i64 x.h, .bool x.up] 105) := ⟨_, rfl⟩
  have B0 : Below w.heap.size w y := by rw [hy]; exact below_new _
  obtain ⟨o, ho⟩ : ∃ o, o = inOk x := ⟨_, rfl⟩
  rw [← ho]
  replace ho : Hid _ := ho
  go_enter Tryz.func88, Tryz.ntmps88
  go_wp2_with fail
  go_at_call 147
  rw [← hy]
  clear hy
  refine (inOkI x y).mono ?_
  rintro e w1 ⟨rfl, k1⟩
  have B1 := B0.trans (k1.mono B0.size)
  rw [← ho.out]
  go_wp2
  go_ret
  exact ⟨rfl, B1⟩
theorem eqInZ (x : Ik) (w : World) : (binOp .eql 105 (.agg #[.int .i64 x.k, .int .i64 x.q, .int .i64 x.r, .int .i64 x.c, .int .i64 x.b, .int .i64 x.p, .int .i64 x.h, .bool x.up]) (.agg #[.int .i64 0, .int .i64 0, .int .i64 0, .int .i64 0, .int .i64 0, .int .i64 0, .int .i64 0, .bool false])).run Tryz.prog w = .ok (.bool (inNil x)) w := by
  unfold inNil
  go_simp
  all_goals ((repeat' split) <;> first | (simp_all; done) | grind)
set_option maxHeartbeats 1000000 in
theorem loadFI (x : Wi) (w : World) : Calls Tryz.prog 145 #[.agg #[.int .i64 x.fr, .bool x.ak, .int .i64 x.li, .int .i64 x.n, .int .i64 x.x.k, .int .i64 x.x.q, .int .i64 x.x.r, .int .i64 x.x.c, .int .i64 x.x.b, .int .i64 x.x.p, .int .i64 x.x.h, .bool x.x.up]] w fun e w' => e = .returned (.bool (if x.ak then inNil x.x else inOk x.x)) ∧ Below w.heap.size w w' := by
  obtain ⟨y, hy⟩ : ∃ y, y = w.alloc (Obj.cells #[.int .i64 x.fr, .bool x.ak, .int .i64 x.li, .int .i64 x.n, .int .i64 x.x.k, .int .i64 x.x.q, .int .i64 x.x.r, .int .i64 x.x.c, .int .i64 x.x.b, .int .i64 x.x.p, .int .i64 x.x.h, .bool x.x.up] 112) := ⟨_, rfl⟩
  have B0 : Below w.heap.size w y := by rw [hy]; exact below_new _
  have U : WiAt y w.heap.size x := by rw [hy]; exact WiAt.new w _ x
  have eI := eqInZ x.x
  obtain ⟨R, hR⟩ : ∃ R, R = (if x.ak then inNil x.x else inOk x.x) := ⟨_, rfl⟩
  rw [← hR]
  replace hR : Hid _ := hR
  obtain ⟨c0, c1, c2, c3, c4, c5, c6, c7, c8, c9, c10, c11⟩ := U
  go_enter Tryz.func145, Tryz.ntmps145
  go_upto_region 1 with fail
  rw [← hy]
  clear hy
  cases h : x.ak
  · have hN : Hid (R = inOk x.x) := by unfold Hid; rw [hR.out, h]; rfl
    rw [h] at c1
    replace h : Hid _ := h
    go_wp2_with fail
    go_at_call 147
    refine (inOkI x.x y).mono ?_
    rintro e u1 ⟨rfl, k1⟩
    go_wp2
    go_ret
    exact ⟨by rw [hN.out]; rfl, B0.trans (k1.mono B0.size)⟩
  · have hN : Hid (R = inNil x.x) := by unfold Hid; rw [hR.out, h]; rfl
    rw [h] at c1
    replace h : Hid _ := h
    go_wp2
    go_ret
    exact ⟨by rw [hN.out]; rfl, B0⟩
set_option maxHeartbeats 2000000 in
theorem noWiI (x : Wi) (w : World) : Calls Tryz.prog 86 #[.agg #[.int .i64 x.fr, .bool x.ak, .int .i64 x.li, .int .i64 x.n, .int .i64 x.x.k, .int .i64 x.x.q, .int .i64 x.x.r, .int .i64 x.x.c, .int .i64 x.x.b, .int .i64 x.x.p, .int .i64 x.x.h, .bool x.x.up]] w fun e w' => e = .returned (.bool (!wiOk x)) ∧ Below w.heap.size w w' := by
  obtain ⟨y, hy⟩ : ∃ y, y = w.alloc (Obj.cells #[.int .i64 x.fr, .bool x.ak, .int .i64 x.li, .int .i64 x.n, .int .i64 x.x.k, .int .i64 x.x.q, .int .i64 x.x.r, .int .i64 x.x.c, .int .i64 x.x.b, .int .i64 x.x.p, .int .i64 x.x.h, .bool x.x.up] 112) := ⟨_, rfl⟩
  have B0 : Below w.heap.size w y := by rw [hy]; exact below_new _
  have U : WiAt y w.heap.size x := by rw [hy]; exact WiAt.new w _ x
  obtain ⟨R, hR⟩ : ∃ R, R = (!wiOk x) := ⟨_, rfl⟩
  rw [← hR]
  replace hR : Hid _ := hR
  obtain ⟨c0, c1, c2, c3, c4, c5, c6, c7, c8, c9, c10, c11⟩ := U
  go_enter Tryz.func86, Tryz.ntmps86
  go_upto_region 1 with fail
  rw [← hy]
  clear hy
  by_cases e1 : x.fr = 0
  · have d1 : (x.fr == 0) = true := by simpa using e1
    have b1 : (x.fr != 0) = false := by simpa using e1
    have hfr : Hid (decide (0 ≤ x.fr ∧ x.fr ≤ 1) = true) := decide_eq_true (by omega)
    replace e1 : Hid _ := e1
    go_wp2_with fail
    go_at_call 72
    refine (numFitsI x.li y).mono ?_
    rintro e w1 ⟨rfl, hw_⟩
    rw [hw_]
    clear hw_
    cases h1 : numB x.li
    · have hN : Hid (R = true) := by unfold Hid; rw [hR.out]; unfold wiOk; rw [hfr.out, h1]; rfl
      clear h1
      go_wp2
      go_ret
      exact ⟨by rw [hN.out]; rfl, B0⟩
    · replace h1 : Hid _ := h1
      go_wp2_with fail
      go_at_call 72
      refine (numFitsI x.n y).mono ?_
      rintro e w1 ⟨rfl, hw_⟩
      rw [hw_]
      clear hw_
      cases h2 : numB x.n
      · have hN : Hid (R = true) := by unfold Hid; rw [hR.out]; unfold wiOk; rw [hfr.out, h1.out, h2]; rfl
        clear h2
        go_wp2
        go_ret
        exact ⟨by rw [hN.out]; rfl, B0⟩
      · replace h2 : Hid _ := h2
        have hN : Hid (R = !(if x.ak then inNil x.x else inOk x.x)) := by unfold Hid; rw [hR.out]; unfold wiOk; rw [hfr.out, h1.out, h2.out]; rfl
        go_wp2_with fail
        go_at_call 145
        refine (loadFI x y).mono ?_
        rintro e u1 ⟨rfl, k1⟩
        obtain ⟨o, ho⟩ : ∃ o, o = (if x.ak then inNil x.x else inOk x.x) := ⟨_, rfl⟩
        rw [← ho] at hN ⊢
        clear ho
        go_wp2
        go_ret
        exact ⟨by rw [hN.out]; rfl, B0.trans (k1.mono B0.size)⟩
  · have d1 : (x.fr == 0) = false := by simpa using e1
    have b1 : (x.fr != 0) = true := by simpa using e1
    by_cases e2 : x.fr = 1
    · have d2 : (x.fr == 1) = true := by simpa using e2
      have b2 : (x.fr != 1) = false := by simpa using e2
      have hfr : Hid (decide (0 ≤ x.fr ∧ x.fr ≤ 1) = true) := decide_eq_true (by omega)
      replace e1 : Hid _ := e1
      replace e2 : Hid _ := e2
      go_wp2_with fail
      go_at_call 72
      refine (numFitsI x.li y).mono ?_
      rintro e w1 ⟨rfl, hw_⟩
      rw [hw_]
      clear hw_
      cases h1 : numB x.li
      · have hN : Hid (R = true) := by unfold Hid; rw [hR.out]; unfold wiOk; rw [hfr.out, h1]; rfl
        clear h1
        go_wp2
        go_ret
        exact ⟨by rw [hN.out]; rfl, B0⟩
      · replace h1 : Hid _ := h1
        go_wp2_with fail
        go_at_call 72
        refine (numFitsI x.n y).mono ?_
        rintro e w1 ⟨rfl, hw_⟩
        rw [hw_]
        clear hw_
        cases h2 : numB x.n
        · have hN : Hid (R = true) := by unfold Hid; rw [hR.out]; unfold wiOk; rw [hfr.out, h1.out, h2]; rfl
          clear h2
          go_wp2
          go_ret
          exact ⟨by rw [hN.out]; rfl, B0⟩
        · replace h2 : Hid _ := h2
          have hN : Hid (R = !(if x.ak then inNil x.x else inOk x.x)) := by unfold Hid; rw [hR.out]; unfold wiOk; rw [hfr.out, h1.out, h2.out]; rfl
          go_wp2_with fail
          go_at_call 145
          refine (loadFI x y).mono ?_
          rintro e u1 ⟨rfl, k1⟩
          obtain ⟨o, ho⟩ : ∃ o, o = (if x.ak then inNil x.x else inOk x.x) := ⟨_, rfl⟩
          rw [← ho] at hN ⊢
          clear ho
          go_wp2
          go_ret
          exact ⟨by rw [hN.out]; rfl, B0.trans (k1.mono B0.size)⟩
    · have d2 : (x.fr == 1) = false := by simpa using e2
      have b2 : (x.fr != 1) = true := by simpa using e2
      have hN : Hid (R = true) := by unfold Hid; rw [hR.out]; unfold wiOk; rw [decide_eq_false (show ¬ (0 ≤ x.fr ∧ x.fr ≤ 1) by omega)]; rfl
      replace e1 : Hid _ := e1
      replace e2 : Hid _ := e2
      go_wp2
      go_ret
      exact ⟨by rw [hN.out]; rfl, B0⟩

end Go.Proofs.YtnpiljegdiconaaGreat
namespace Go.Proofs.YtnpiljegdiconaaGreat
open Go.ChangeShapes Go.WideShapes Go.ChangeAt Go.RowKit
open Go.ChangeMaps (open_string shut_string)
set_option linter.unusedVariables false
set_option maxRecDepth 100000

theorem allK_no {X : Type} {p : X → Bool} {L : List X} (d : X) {k : Nat} (h : k < L.length) (hq : p (L.getD k d) = false) : L.all p = false := by
  rw [Bool.eq_false_iff]
  intro e
  have := List.all_eq_true.1 e (L.getD k d) (by simp [List.getD, h])
  rw [hq] at this
  cases this
theorem allK_yes {X : Type} {p : X → Bool} {L : List X} (d : X) (h : ∀ j, j < L.length → p (L.getD j d) = true) : L.all p = true := by
  rw [List.all_eq_true]
  intro x hx
  obtain ⟨i, hi, rfl⟩ := List.mem_iff_getElem.1 hx
  have := h i hi
  rwa [show L.getD i d = L[i] by simp [List.getD, hi]] at this
set_option maxHeartbeats 1000000 in
theorem idxMi (ad : Option Addr) (cap : Nat) (L : List MiD) (w : World) (hv : FView mdEnc w ad L) (hl : L.length ≤ 1048576) (hn : ∀ i, i < L.length → FView ikEnc w (L.getD i MiD.nil).ad (L.getD i MiD.nil).m.lg) (hm : ∀ i, i < L.length → (L.getD i MiD.nil).m.lg.length ≤ 1048576) :
    Calls Tryz.prog 143 #[.slice ad L.length cap, .func (Fn.func 84) #[] #[]] w fun e w' => (∃ r : Int, e = .returned (.int .i64 r) ∧ (decide (0 ≤ r) = !L.all (fun d => miOk d.m)) ∧ r ≤ 1048576 ∧ -1 ≤ r) ∧ Below w.heap.size w w' := by
  have hB := hv.lt mdEnc_len (by omega)
  go_enter Tryz.func143, Tryz.ntmps143
  go_wp2
  go_loopw [8] (fun i wr => ∃ k : Nat, i = .int .i64 (k : Int) ∧ k ≤ L.length ∧ Hid (∀ j, j < k → (fun d => miOk d.m) (L.getD j MiD.nil) = true) ∧ Below w.heap.size w wr) (fun i _ => L.length - (intOf i).toNat)
  case atStart => exact ⟨0, rfl, Nat.zero_le _, fun j hj => absurd hj (by omega), Below.refl _ _⟩
  case round =>
    obtain ⟨k, rfl, hk, hF, hb⟩ := hrel
    by_cases hlt : k < L.length
    · obtain ⟨b, off, rfl, _⟩ := hv (by omega)
      obtain ⟨h, hh⟩ : ∃ h, L.getD k MiD.nil = h := ⟨_, rfl⟩
      have hck : MdAtO wr b (off + k * 7) h := by
        rw [← hh]
        exact mdAtO_of ((hv.below hb hB).at_ mdEnc_len MiD.nil hlt)
      have hvw : FView ikEnc wr h.ad h.m.lg := by rw [← hh]; exact (hn k hlt).below hb ((hn k hlt).lt ikEnc_len (by omega))
      have hlw : h.m.lg.length ≤ 1048577 := by rw [← hh]; exact Nat.le_trans (hm k hlt) (by omega)
      clear hn hm
      obtain ⟨c0, c1, c2, c3, c4, c5, c6⟩ := hck
      replace hh : Hid _ := hh
      clear hB hv
      go_wp2_with fail
      go_at_call 84
      refine (noMiI h.m h.ad h.cap wr hvw hlw).mono ?_
      rintro e w3 ⟨rfl, k3⟩
      have b3 := hb.trans (k3.mono hb.size)
      by_cases hq : miOk h.m = true
      · rw [hq]
        go_wp2
        go_roundw
        case rel =>
          refine ⟨k + 1, by go_num, by omega, fun j hj => ?_, b3⟩
          by_cases e : j = k
          · rw [e, hh.out]; exact hq
          · exact hF.out j (by omega)
        case measure => simp [intOf]; omega
      · have hq' : miOk h.m = false := by simpa using hq
        rw [hq']
        go_wp2
        go_ret
        refine ⟨⟨k, rfl, ?_, by omega, by omega⟩, b3⟩
        rw [allK_no MiD.nil hlt (by rw [hh.out]; exact hq')]
        simp
    · obtain rfl : k = L.length := by omega
      go_wp2
      go_ret
      refine ⟨⟨-1, rfl, ?_, by omega, by omega⟩, hb⟩
      rw [allK_yes MiD.nil hF.out]
      rfl
theorem contMi (ad : Option Addr) (cap : Nat) (L : List MiD) (w : World) (hv : FView mdEnc w ad L) (hl : L.length ≤ 1048576) (hn : ∀ i, i < L.length → FView ikEnc w (L.getD i MiD.nil).ad (L.getD i MiD.nil).m.lg) (hm : ∀ i, i < L.length → (L.getD i MiD.nil).m.lg.length ≤ 1048576) :
    Calls Tryz.prog 83 #[.slice ad L.length cap, .func (Fn.func 84) #[] #[]] w fun e w' => e = .returned (.bool (!L.all (fun d => miOk d.m))) ∧ Below w.heap.size w w' := by
  have hI := idxMi ad cap L w hv hl hn hm
  generalize (!L.all (fun d => miOk d.m)) = B at *
  go_enter Tryz.func83, Tryz.ntmps83
  go_wp2_with fail
  go_at_call 143
  refine hI.mono ?_
  rintro e w1 ⟨⟨r, rfl, hr, r1, r2⟩, k1⟩
  go_wp2
  go_ret
  exact ⟨rfl, k1⟩
set_option maxHeartbeats 1000000 in
theorem idxWi (ad : Option Addr) (cap : Nat) (L : List Wi) (w : World) (hv : FView wiEnc w ad L) (hl : L.length ≤ 1048576) :
    Calls Tryz.prog 144 #[.slice ad L.length cap, .func (Fn.func 86) #[] #[]] w fun e w' => (∃ r : Int, e = .returned (.int .i64 r) ∧ (decide (0 ≤ r) = !L.all wiOk) ∧ r ≤ 1048576 ∧ -1 ≤ r) ∧ Below w.heap.size w w' := by
  have hB := hv.lt wiEnc_len (by omega)
  go_enter Tryz.func144, Tryz.ntmps144
  go_wp2
  go_loopw [8] (fun i wr => ∃ k : Nat, i = .int .i64 (k : Int) ∧ k ≤ L.length ∧ Hid (∀ j, j < k → wiOk (L.getD j Wi.nil) = true) ∧ Below w.heap.size w wr) (fun i _ => L.length - (intOf i).toNat)
  case atStart => exact ⟨0, rfl, Nat.zero_le _, fun j hj => absurd hj (by omega), Below.refl _ _⟩
  case round =>
    obtain ⟨k, rfl, hk, hF, hb⟩ := hrel
    by_cases hlt : k < L.length
    · obtain ⟨b, off, rfl, _⟩ := hv (by omega)
      obtain ⟨h, hh⟩ : ∃ h, L.getD k Wi.nil = h := ⟨_, rfl⟩
      have hck : WiAtO wr b (off + k * 12) h := by
        rw [← hh]
        exact wiAtO_of ((hv.below hb hB).at_ wiEnc_len Wi.nil hlt)
      obtain ⟨c0, c1, c2, c3, c4, c5, c6, c7, c8, c9, c10, c11⟩ := hck
      replace hh : Hid _ := hh
      clear hB hv
      go_wp2_with fail
      go_at_call 86
      refine (noWiI h wr).mono ?_
      rintro e w3 ⟨rfl, k3⟩
      have b3 := hb.trans (k3.mono hb.size)
      by_cases hq : wiOk h = true
      · rw [hq]
        go_wp2
        go_roundw
        case rel =>
          refine ⟨k + 1, by go_num, by omega, fun j hj => ?_, b3⟩
          by_cases e : j = k
          · rw [e, hh.out]; exact hq
          · exact hF.out j (by omega)
        case measure => simp [intOf]; omega
      · have hq' : wiOk h = false := by simpa using hq
        rw [hq']
        go_wp2
        go_ret
        refine ⟨⟨k, rfl, ?_, by omega, by omega⟩, b3⟩
        rw [allK_no Wi.nil hlt (by rw [hh.out]; exact hq')]
        simp
    · obtain rfl : k = L.length := by omega
      go_wp2
      go_ret
      refine ⟨⟨-1, rfl, ?_, by omega, by omega⟩, hb⟩
      rw [allK_yes Wi.nil hF.out]
      rfl
theorem contWi (ad : Option Addr) (cap : Nat) (L : List Wi) (w : World) (hv : FView wiEnc w ad L) (hl : L.length ≤ 1048576) :
    Calls Tryz.prog 85 #[.slice ad L.length cap, .func (Fn.func 86) #[] #[]] w fun e w' => e = .returned (.bool (!L.all wiOk)) ∧ Below w.heap.size w w' := by
  have hI := idxWi ad cap L w hv hl
  generalize (!L.all wiOk) = B at *
  go_enter Tryz.func85, Tryz.ntmps85
  go_wp2_with fail
  go_at_call 144
  refine hI.mono ?_
  rintro e w1 ⟨⟨r, rfl, hr, r1, r2⟩, k1⟩
  go_wp2
  go_ret
  exact ⟨rfl, k1⟩
set_option maxHeartbeats 1000000 in
theorem idxIn (ad : Option Addr) (cap : Nat) (L : List Ik) (w : World) (hv : FView ikEnc w ad L) (hl : L.length ≤ 1048576) :
    Calls Tryz.prog 146 #[.slice ad L.length cap, .func (Fn.func 88) #[] #[]] w fun e w' => (∃ r : Int, e = .returned (.int .i64 r) ∧ (decide (0 ≤ r) = !L.all inOk) ∧ r ≤ 1048576 ∧ -1 ≤ r) ∧ Below w.heap.size w w' := by
  have hB := hv.lt ikEnc_len (by omega)
  go_enter Tryz.func146, Tryz.ntmps146
  go_wp2
  go_loopw [8] (fun i wr => ∃ k : Nat, i = .int .i64 (k : Int) ∧ k ≤ L.length ∧ Hid (∀ j, j < k → inOk (L.getD j Ik.nil) = true) ∧ Below w.heap.size w wr) (fun i _ => L.length - (intOf i).toNat)
  case atStart => exact ⟨0, rfl, Nat.zero_le _, fun j hj => absurd hj (by omega), Below.refl _ _⟩
  case round =>
    obtain ⟨k, rfl, hk, hF, hb⟩ := hrel
    by_cases hlt : k < L.length
    · obtain ⟨b, off, rfl, _⟩ := hv (by omega)
      obtain ⟨h, hh⟩ : ∃ h, L.getD k Ik.nil = h := ⟨_, rfl⟩
      have hck : IkAtO wr b (off + k * 8) h := by
        rw [← hh]
        exact ikAtO_of ((hv.below hb hB).at_ ikEnc_len Ik.nil hlt)
      obtain ⟨c0, c1, c2, c3, c4, c5, c6, c7⟩ := hck
      replace hh : Hid _ := hh
      clear hB hv
      go_wp2_with fail
      go_at_call 88
      refine (noInI h wr).mono ?_
      rintro e w3 ⟨rfl, k3⟩
      have b3 := hb.trans (k3.mono hb.size)
      by_cases hq : inOk h = true
      · rw [hq]
        go_wp2
        go_roundw
        case rel =>
          refine ⟨k + 1, by go_num, by omega, fun j hj => ?_, b3⟩
          by_cases e : j = k
          · rw [e, hh.out]; exact hq
          · exact hF.out j (by omega)
        case measure => simp [intOf]; omega
      · have hq' : inOk h = false := by simpa using hq
        rw [hq']
        go_wp2
        go_ret
        refine ⟨⟨k, rfl, ?_, by omega, by omega⟩, b3⟩
        rw [allK_no Ik.nil hlt (by rw [hh.out]; exact hq')]
        simp
    · obtain rfl : k = L.length := by omega
      go_wp2
      go_ret
      refine ⟨⟨-1, rfl, ?_, by omega, by omega⟩, hb⟩
      rw [allK_yes Ik.nil hF.out]
      rfl
theorem contIn (ad : Option Addr) (cap : Nat) (L : List Ik) (w : World) (hv : FView ikEnc w ad L) (hl : L.length ≤ 1048576) :
    Calls Tryz.prog 87 #[.slice ad L.length cap, .func (Fn.func 88) #[] #[]] w fun e w' => e = .returned (.bool (!L.all inOk)) ∧ Below w.heap.size w w' := by
  have hI := idxIn ad cap L w hv hl
  generalize (!L.all inOk) = B at *
  go_enter Tryz.func87, Tryz.ntmps87
  go_wp2_with fail
  go_at_call 146
  refine hI.mono ?_
  rintro e w1 ⟨⟨r, rfl, hr, r1, r2⟩, k1⟩
  go_wp2
  go_ret
  exact ⟨rfl, k1⟩

end Go.Proofs.YtnpiljegdiconaaGreat
namespace Go.Proofs.YtnpiljegdiconaaGreat
open Go.ChangeShapes Go.WideShapes Go.ChangeAt Go.RowKit
open Go.ChangeMaps (open_string shut_string)
set_option linter.unusedVariables false
set_option maxRecDepth 100000

set_option maxHeartbeats 2000000 in
theorem regOkI (r : Rg) (w : World) : Calls Tryz.prog 20 #[.agg #[.int .i64 r.ep, .int .i64 r.ow, .int .i64 r.pa]] w fun e w' => e = .returned (.bool (rgOk r)) ∧ Below w.heap.size w w' := by
  obtain ⟨R, hR⟩ : ∃ R, R = rgOk r := ⟨_, rfl⟩
  rw [← hR]
  replace hR : Hid _ := hR
  obtain ⟨y, hy⟩ : ∃ y, y = w.alloc (Obj.cells #[.int .i64 r.ep, .int .i64 r.ow, .int .i64 r.pa] 25) := ⟨_, rfl⟩
  have B0 : Below w.heap.size w y := by rw [hy]; exact below_new _
  have A : RgAt y w.heap.size r := by rw [hy]; exact RgAt.new w _ r
  go_enter Tryz.func20, Tryz.ntmps20
  go_upto_region 1 with fail
  rw [← hy]
  clear hy
  obtain ⟨a0, a1, a2⟩ := A
  by_cases e1 : 1 ≤ r.ep
  · have d1 : decide (1 ≤ r.ep) = true := decide_eq_true e1
    by_cases e2 : r.ep ≤ 100000
    · have d2 : decide (r.ep ≤ 100000) = true := decide_eq_true e2
      by_cases e3 : r.ow = 0
      · have d3 : decide (r.ow = 0) = true := decide_eq_true e3
        have b3 : (r.ow == 0) = true := by simpa using e3
        have hN : Hid (R = numB r.pa) := by unfold Hid; rw [hR.out]; unfold rgOk; rw [decide_eq_true (⟨e1, e2⟩ : 1 ≤ r.ep ∧ r.ep ≤ 100000), decide_eq_true (show 0 ≤ r.ow ∧ r.ow ≤ 1 by omega)]; rfl
        replace e1 : Hid _ := e1
        replace e2 : Hid _ := e2
        replace e3 : Hid _ := e3
        go_wp2_with fail
        go_at_call 72
        refine (numFitsI r.pa y).mono ?_
        rintro e w' ⟨rfl, rfl⟩
        go_wp2
        go_ret
        exact ⟨by rw [hN.out]; rfl, B0⟩
      · have d3 : decide (r.ow = 0) = false := decide_eq_false e3
        have b3 : (r.ow == 0) = false := by simpa using e3
        by_cases e4 : r.ow = 1
        · have d4 : decide (r.ow = 1) = true := decide_eq_true e4
          have b4 : (r.ow == 1) = true := by simpa using e4
          have hN : Hid (R = numB r.pa) := by unfold Hid; rw [hR.out]; unfold rgOk; rw [decide_eq_true (⟨e1, e2⟩ : 1 ≤ r.ep ∧ r.ep ≤ 100000), decide_eq_true (show 0 ≤ r.ow ∧ r.ow ≤ 1 by omega)]; rfl
          replace e1 : Hid _ := e1
          replace e2 : Hid _ := e2
          replace e3 : Hid _ := e3
          replace e4 : Hid _ := e4
          go_wp2_with fail
          go_at_call 72
          refine (numFitsI r.pa y).mono ?_
          rintro e w' ⟨rfl, rfl⟩
          go_wp2
          go_ret
          exact ⟨by rw [hN.out]; rfl, B0⟩
        · have d4 : decide (r.ow = 1) = false := decide_eq_false e4
          have b4 : (r.ow == 1) = false := by simpa using e4
          have hN : Hid (R = false) := by unfold Hid; rw [hR.out]; unfold rgOk; rw [decide_eq_true (⟨e1, e2⟩ : 1 ≤ r.ep ∧ r.ep ≤ 100000), decide_eq_false (show ¬ (0 ≤ r.ow ∧ r.ow ≤ 1) by omega)]; rfl
          replace e1 : Hid _ := e1
          replace e2 : Hid _ := e2
          replace e3 : Hid _ := e3
          replace e4 : Hid _ := e4
          go_wp2
          go_ret
          exact ⟨by rw [hN.out]; rfl, B0⟩
    · have d2 : decide (r.ep ≤ 100000) = false := decide_eq_false e2
      have hN : Hid (R = false) := by unfold Hid; rw [hR.out]; unfold rgOk; rw [decide_eq_false (show ¬ (1 ≤ r.ep ∧ r.ep ≤ 100000) by omega)]; rfl
      replace e1 : Hid _ := e1
      replace e2 : Hid _ := e2
      go_wp2
      go_ret
      exact ⟨by rw [hN.out]; rfl, B0⟩
  · have d1 : decide (1 ≤ r.ep) = false := decide_eq_false e1
    have hN : Hid (R = false) := by unfold Hid; rw [hR.out]; unfold rgOk; rw [decide_eq_false (show ¬ (1 ≤ r.ep ∧ r.ep ≤ 100000) by omega)]; rfl
    replace e1 : Hid _ := e1
    go_wp2
    go_ret
    exact ⟨by rw [hN.out]; rfl, B0⟩

end Go.Proofs.YtnpiljegdiconaaGreat
namespace Go.Proofs.YtnpiljegdiconaaGreat
open Go.ChangeShapes Go.WideShapes Go.ChangeAt Go.RowKit
open Go.ChangeMaps (open_string shut_string)
set_option linter.unusedVariables false
set_option maxRecDepth 100000

theorem bxOk_seq (x : BxD) : bxOk x.p = (nOk x.id x.po && (rgOk x.rg && (decide (x.two.length = 2) && (x.two.all (fun d => miOk d.m) && (decide (x.net.length ≤ 20) && (x.net.all wiOk && (decide ((x.ga.length : Int) = x.po) && (decide (x.ln.length ≤ 60) && (x.ln.all inOk && (decide (x.sd.length ≤ 40))))))))))) := by
  rw [Bool.eq_iff_iff, bxOk_is]
  simp only [Bool.and_eq_true, decide_eq_true_eq]
  have hl : x.p.two.length = x.two.length := by unfold BxD.p; simp
  have h2 : x.two.length = 2 → (x.two.all (fun d => miOk d.m) = true ↔ miOk (mOf x.p 0) = true ∧ miOk (mOf x.p 1) = true) := by
    intro h
    obtain ⟨a, b, e⟩ : ∃ a b, x.two = [a, b] := by
      match hx : x.two, h with
      | [a, b], _ => exact ⟨a, b, rfl⟩
    rw [mOf_p, mOf_p, e]
    simp
  have hi : insB x.p.ln = true ↔ x.ln.length ≤ 60 ∧ x.ln.all inOk = true := by
    show insB x.ln = true ↔ _
    unfold insB
    simp only [Bool.and_eq_true, decide_eq_true_eq]
    exact And.comm
  rw [hl, hi]
  constructor
  · rintro ⟨a1, a2, a3, a4, a5, a6, a7, a8, ⟨a9, b9⟩, a10⟩
    exact ⟨a1, a2, a3, (h2 a3).2 ⟨a4, a5⟩, a7, a6, a8, a9, b9, a10⟩
  · rintro ⟨a1, a2, a3, a4, a7, a6, a8, a9, b9, a10⟩
    exact ⟨a1, a2, a3, ((h2 a3).1 a4).1, ((h2 a3).1 a4).2, a6, a7, a8, ⟨a9, b9⟩, a10⟩
set_option maxHeartbeats 8000000 in
theorem boxOkI (x : BxD) (w : World) (hV : BxV w x) :
    Calls Tryz.prog 32 #[.agg #[.int .i64 x.id, .int .i64 x.po, .int .i64 x.rg.ep, .int .i64 x.rg.ow, .int .i64 x.rg.pa, .slice x.aT x.two.length x.cT, .slice x.aN x.net.length x.cN, .slice x.aG x.ga.length x.cG, .slice x.aL x.ln.length x.cL, .slice x.aS x.sd.length x.cS]] w fun e w' => e = .returned (.bool (bxOk x.p)) ∧ Below w.heap.size w w' := by
  obtain ⟨R, hR⟩ : ∃ R, R = bxOk x.p := ⟨_, rfl⟩
  rw [← hR]
  replace hR : Hid _ := hR
  obtain ⟨y, hy⟩ : ∃ y, y = w.alloc (Obj.cells #[.int .i64 x.id, .int .i64 x.po, .int .i64 x.rg.ep, .int .i64 x.rg.ow, .int .i64 x.rg.pa, .slice x.aT x.two.length x.cT, .slice x.aN x.net.length x.cN, .slice x.aG x.ga.length x.cG, .slice x.aL x.ln.length x.cL, .slice x.aS x.sd.length x.cS] 48) := ⟨_, rfl⟩
  have B0 : Below w.heap.size w y := by rw [hy]; exact below_new _
  have A : BxAt y w.heap.size x := by rw [hy]; exact BxAt.new w _ x
  have V := hV.later B0
  clear hV
  go_enter Tryz.func32, Tryz.ntmps32
  have cc := A
  obtain ⟨a0, a1, a2, a3, a4, a5, a6, a7, a8, a9⟩ := cc
  go_wp2_with fail
  go_at_call 29
  rw [← hy]
  clear a0 a1 a2 a3 a4 a5 a6 a7 a8 a9 hy
  refine (newBI x.id x.po y).mono ?_
  rintro e u0 ⟨ad', cap', rfl, O', k0⟩
  have A := A.below k0 A.lt
  have V := V.later k0
  have B1 := B0.trans (k0.mono B0.size)
  clear k0 O'
  obtain ⟨u1, hu1⟩ : ∃ y_, y_ = u0.alloc (Obj.cells #[.int .i64 (newI x.id x.po), .slice ad' (newL x.id x.po).length cap'] 56) := ⟨_, rfl⟩
  have kk : Below u0.heap.size u0 u1 := by rw [hu1]; exact below_new _
  have A := A.below kk A.lt
  have V := V.later kk
  have B2 := B1.trans (kk.mono B1.size)
  clear kk B1
  go_upto_region 2 with fail
  rw [← hu1]
  clear hu1
  cases h1 : nOk x.id x.po
  · have hN : Hid (R = false) := by unfold Hid; rw [hR.out, bxOk_seq, h1]; rfl
    replace h1 : Hid _ := h1
    have cc := A
    obtain ⟨a0, a1, a2, a3, a4, a5, a6, a7, a8, a9⟩ := cc
    go_wp2
    go_ret
    exact ⟨by rw [hN.out]; rfl, B2⟩
  · replace h1 : Hid _ := h1
    have cc := A
    obtain ⟨a0, a1, a2, a3, a4, a5, a6, a7, a8, a9⟩ := cc
    go_wp2_with fail
    go_at_call 20
    clear a0 a1 a2 a3 a4 a5 a6 a7 a8 a9
    refine (regOkI x.rg u1).mono ?_
    rintro e u2 ⟨rfl, kk⟩
    have A := A.below kk A.lt
    have V := V.later kk
    have B2' := B2.trans (kk.mono B2.size)
    clear kk
    cases h2 : rgOk x.rg
    · have hN : Hid (R = false) := by unfold Hid; rw [hR.out, bxOk_seq, h1.out, h2]; rfl
      replace h2 : Hid _ := h2
      have cc := A
      obtain ⟨a0, a1, a2, a3, a4, a5, a6, a7, a8, a9⟩ := cc
      go_wp2
      go_ret
      exact ⟨by rw [hN.out]; rfl, B2'⟩
    · replace h2 : Hid _ := h2
      by_cases e3 : x.two.length = 2
      · have d3 : ((x.two.length : Int) == 2) = true := by rw [beq_iff_eq]; omega
        have h3 : Hid (decide (x.two.length = 2) = true) := decide_eq_true e3
        replace e3 : Hid _ := e3
        have cc := A
        obtain ⟨a0, a1, a2, a3, a4, a5, a6, a7, a8, a9⟩ := cc
        go_wp2_with fail
        go_at_call 83
        clear a0 a1 a2 a3 a4 a5 a6 a7 a8 a9
        refine (contMi x.aT x.cT x.two u2 V.t V.bt V.l V.bl).mono ?_
        rintro e u4 ⟨rfl, kk⟩
        have A := A.below kk A.lt
        have V := V.later kk
        have B2'' := B2'.trans (kk.mono B2'.size)
        clear kk
        cases h4 : x.two.all (fun d => miOk d.m)
        · have hN : Hid (R = false) := by unfold Hid; rw [hR.out, bxOk_seq, h1.out, h2.out, h3.out, h4]; rfl
          replace h4 : Hid _ := h4
          have cc := A
          obtain ⟨a0, a1, a2, a3, a4, a5, a6, a7, a8, a9⟩ := cc
          go_wp2
          go_ret
          exact ⟨by rw [hN.out]; rfl, B2''⟩
        · replace h4 : Hid _ := h4
          by_cases e5 : x.net.length ≤ 20
          · have d5 : decide ((x.net.length : Int) ≤ 20) = true := decide_eq_true (by omega)
            have h5 : Hid (decide (x.net.length ≤ 20) = true) := decide_eq_true e5
            replace e5 : Hid _ := e5
            have cc := A
            obtain ⟨a0, a1, a2, a3, a4, a5, a6, a7, a8, a9⟩ := cc
            go_wp2_with fail
            go_at_call 85
            clear a0 a1 a2 a3 a4 a5 a6 a7 a8 a9
            refine (contWi x.aN x.cN x.net u4 V.n V.bn).mono ?_
            rintro e u6 ⟨rfl, kk⟩
            have A := A.below kk A.lt
            have V := V.later kk
            have B2''' := B2''.trans (kk.mono B2''.size)
            clear kk
            cases h6 : x.net.all wiOk
            · have hN : Hid (R = false) := by unfold Hid; rw [hR.out, bxOk_seq, h1.out, h2.out, h3.out, h4.out, h5.out, h6]; rfl
              replace h6 : Hid _ := h6
              have cc := A
              obtain ⟨a0, a1, a2, a3, a4, a5, a6, a7, a8, a9⟩ := cc
              go_wp2
              go_ret
              exact ⟨by rw [hN.out]; rfl, B2'''⟩
            · replace h6 : Hid _ := h6
              by_cases e7 : (x.ga.length : Int) = x.po
              · have d7 : ((x.ga.length : Int) == x.po) = true := by simpa using e7
                have h7 : Hid (decide ((x.ga.length : Int) = x.po) = true) := decide_eq_true e7
                replace e7 : Hid _ := e7
                by_cases e8 : x.ln.length ≤ 60
                · have d8 : decide ((x.ln.length : Int) ≤ 60) = true := decide_eq_true (by omega)
                  have h8 : Hid (decide (x.ln.length ≤ 60) = true) := decide_eq_true e8
                  replace e8 : Hid _ := e8
                  have cc := A
                  obtain ⟨a0, a1, a2, a3, a4, a5, a6, a7, a8, a9⟩ := cc
                  go_wp2_with fail
                  go_at_call 87
                  clear a0 a1 a2 a3 a4 a5 a6 a7 a8 a9
                  refine (contIn x.aL x.cL x.ln u6 V.i V.bi).mono ?_
                  rintro e u9 ⟨rfl, kk⟩
                  have A := A.below kk A.lt
                  have V := V.later kk
                  have B2'''' := B2'''.trans (kk.mono B2'''.size)
                  clear kk
                  cases h9 : x.ln.all inOk
                  · have hN : Hid (R = false) := by unfold Hid; rw [hR.out, bxOk_seq, h1.out, h2.out, h3.out, h4.out, h5.out, h6.out, h7.out, h8.out, h9]; rfl
                    replace h9 : Hid _ := h9
                    have cc := A
                    obtain ⟨a0, a1, a2, a3, a4, a5, a6, a7, a8, a9⟩ := cc
                    go_wp2
                    go_ret
                    exact ⟨by rw [hN.out]; rfl, B2''''⟩
                  · replace h9 : Hid _ := h9
                    by_cases e10 : x.sd.length ≤ 40
                    · have d10 : decide ((x.sd.length : Int) ≤ 40) = true := decide_eq_true (by omega)
                      have h10 : Hid (decide (x.sd.length ≤ 40) = true) := decide_eq_true e10
                      replace e10 : Hid _ := e10
                      have hN : Hid (R = true) := by unfold Hid; rw [hR.out, bxOk_seq, h1.out, h2.out, h3.out, h4.out, h5.out, h6.out, h7.out, h8.out, h9.out, h10.out]; rfl
                      have cc := A
                      obtain ⟨a0, a1, a2, a3, a4, a5, a6, a7, a8, a9⟩ := cc
                      go_wp2
                      go_ret
                      exact ⟨by rw [hN.out]; rfl, B2''''⟩
                    · have d10 : decide ((x.sd.length : Int) ≤ 40) = false := decide_eq_false (by omega)
                      have h10 : decide (x.sd.length ≤ 40) = false := decide_eq_false e10
                      replace e10 : Hid _ := e10
                      have hN : Hid (R = false) := by unfold Hid; rw [hR.out, bxOk_seq, h1.out, h2.out, h3.out, h4.out, h5.out, h6.out, h7.out, h8.out, h9.out, h10]; rfl
                      replace h10 : Hid _ := h10
                      have cc := A
                      obtain ⟨a0, a1, a2, a3, a4, a5, a6, a7, a8, a9⟩ := cc
                      go_wp2
                      go_ret
                      exact ⟨by rw [hN.out]; rfl, B2''''⟩
                · have d8 : decide ((x.ln.length : Int) ≤ 60) = false := decide_eq_false (by omega)
                  have h8 : decide (x.ln.length ≤ 60) = false := decide_eq_false e8
                  replace e8 : Hid _ := e8
                  have hN : Hid (R = false) := by unfold Hid; rw [hR.out, bxOk_seq, h1.out, h2.out, h3.out, h4.out, h5.out, h6.out, h7.out, h8]; rfl
                  replace h8 : Hid _ := h8
                  have cc := A
                  obtain ⟨a0, a1, a2, a3, a4, a5, a6, a7, a8, a9⟩ := cc
                  go_wp2
                  go_ret
                  exact ⟨by rw [hN.out]; rfl, B2'''⟩
              · have d7 : ((x.ga.length : Int) == x.po) = false := by simpa using e7
                have h7 : decide ((x.ga.length : Int) = x.po) = false := decide_eq_false e7
                replace e7 : Hid _ := e7
                have hN : Hid (R = false) := by unfold Hid; rw [hR.out, bxOk_seq, h1.out, h2.out, h3.out, h4.out, h5.out, h6.out, h7]; rfl
                replace h7 : Hid _ := h7
                have cc := A
                obtain ⟨a0, a1, a2, a3, a4, a5, a6, a7, a8, a9⟩ := cc
                go_wp2
                go_ret
                exact ⟨by rw [hN.out]; rfl, B2'''⟩
          · have d5 : decide ((x.net.length : Int) ≤ 20) = false := decide_eq_false (by omega)
            have h5 : decide (x.net.length ≤ 20) = false := decide_eq_false e5
            replace e5 : Hid _ := e5
            have hN : Hid (R = false) := by unfold Hid; rw [hR.out, bxOk_seq, h1.out, h2.out, h3.out, h4.out, h5]; rfl
            replace h5 : Hid _ := h5
            have cc := A
            obtain ⟨a0, a1, a2, a3, a4, a5, a6, a7, a8, a9⟩ := cc
            go_wp2
            go_ret
            exact ⟨by rw [hN.out]; rfl, B2''⟩
      · have d3 : ((x.two.length : Int) == 2) = false := by rw [beq_eq_false_iff_ne]; omega
        have h3 : decide (x.two.length = 2) = false := decide_eq_false e3
        replace e3 : Hid _ := e3
        have hN : Hid (R = false) := by unfold Hid; rw [hR.out, bxOk_seq, h1.out, h2.out, h3]; rfl
        replace h3 : Hid _ := h3
        have cc := A
        obtain ⟨a0, a1, a2, a3, a4, a5, a6, a7, a8, a9⟩ := cc
        go_wp2
        go_ret
        exact ⟨by rw [hN.out]; rfl, B2'⟩

end Go.Proofs.YtnpiljegdiconaaGreat
namespace Go.Proofs.YtnpiljegdiconaaGreat
open Go.ChangeShapes Go.WideShapes Go.ChangeAt Go.RowKit
open Go.ChangeMaps (open_string shut_string)
set_option linter.unusedVariables false
set_option maxRecDepth 100000

def fnEnc (f : Nat) : List Value := [.func (.func f) #[] #[]]
theorem fnEnc_len (f : Nat) : (fnEnc f).length = 1 := rfl
/-- What stands ahead of the judge's answer: failed, and what it hands back. -/
theorem judge1 (p5 p4 : Nat) (b c : Bool) (u : FrameMode) (w : World) (h5 : w.cell? ⟨p5, 0, none⟩ = some (.bool b)) (h4 : w.cell? ⟨p4, 0, none⟩ = some (.bool c)) (hf : w.frozen? ⟨p4, 0, none⟩ = false) :
    CallsD Tryz.prog 153 #[.pointer (some ⟨p5, 0, none⟩), .pointer (some ⟨p4, 0, none⟩)] u w fun e u' w' => u' = u ∧ (e = .returned (.tuple #[]) ∧ w' = w.setCell ⟨p4, 0, none⟩ (.bool (!b))) := by
  go_enter_d Tryz.func153, Tryz.ntmps153
  go_wp2
  go_end0
  first | exact ⟨rfl, rfl⟩ | simp
/-- A flag that is kept in memory. -/
structure FlB (w : World) (q : Nat) (b : Bool) : Prop where
  c : w.cell? ⟨q, 0, none⟩ = some (.bool b)
  f : w.frozen? ⟨q, 0, none⟩ = false
theorem FlB.keep {w w' : World} {q : Nat} {b : Bool} (h : FlB w q b) (k : w'.heap[q]? = w.heap[q]?) : FlB w' q b := ⟨(World.cell?_of_block (a := ⟨q, 0, none⟩) k).trans h.c, (World.frozen?_of_block (a := ⟨q, 0, none⟩) k).trans h.f⟩
theorem FlB.lt {w : World} {q : Nat} {b : Bool} (h : FlB w q b) : q < w.heap.size := World.block_lt_of_cell? w _ h.c
theorem FlB.below {w w' : World} {q n : Nat} {b : Bool} (h : FlB w q b) (k : Below n w w') (hq : q < n) : FlB w' q b := h.keep (k.block q hq)
theorem FlB.put {w : World} {q : Nat} {b : Bool} (h : FlB w q b) (c : Bool) : FlB (w.setCell ⟨q, 0, none⟩ (.bool c)) q c := ⟨pset_same h.c, by rw [World.frozen?_setCell]; exact h.f⟩
theorem FlB.new (w : World) (b : Bool) : FlB (w.alloc (Obj.cells #[.bool b] 4)) w.heap.size b := ⟨by simp [go_sem], by simp [go_sem]⟩
set_option linter.unusedSimpArgs false in
set_option maxHeartbeats 8000000 in
theorem judgeI (x : BxD) (Fs : List Nat) (Q : Nat → Prop) (aF : Option Addr) (cF : Nat) (w : World) (hJ : BxJ w x) (hF : FView fnEnc w aF Fs) (hl : Fs.length ≤ 8)
    (hE : ∀ k, k < Fs.length → Enters Tryz.prog (Fs.getD k 0))
    (hc : bxOk x.p = true → ∀ k, k < Fs.length → ∀ w', BxJ w' x → Calls Tryz.prog (Fs.getD k 0) #[.agg #[.int .i64 x.id, .int .i64 x.po, .int .i64 x.rg.ep, .int .i64 x.rg.ow, .int .i64 x.rg.pa, .slice x.aT x.two.length x.cT, .slice x.aN x.net.length x.cN, .slice x.aG x.ga.length x.cG, .slice x.aL x.ln.length x.cL, .slice x.aS x.sd.length x.cS]] w' fun e w2 => YN e (Q k) ∧ Below w'.heap.size w' w2) :
    Calls Tryz.prog 97 #[.agg #[.int .i64 x.id, .int .i64 x.po, .int .i64 x.rg.ep, .int .i64 x.rg.ow, .int .i64 x.rg.pa, .slice x.aT x.two.length x.cT, .slice x.aN x.net.length x.cN, .slice x.aG x.ga.length x.cG, .slice x.aL x.ln.length x.cL, .slice x.aS x.sd.length x.cS], .slice aF Fs.length cF] w fun e w' => YN e (bxOk x.p = true ∧ ∀ k, k < Fs.length → Q k) ∧ Below w.heap.size w w' := by
  have hmf : ∀ (fn : Fn) (first cap : Array Value) (w : World), (Instr.makeFunc fn first cap).run Tryz.prog w = .ok (.func fn first cap) w := fun _ _ _ _ => rfl
  obtain ⟨R, hR⟩ : ∃ R : Prop, R = (bxOk x.p = true ∧ ∀ k, k < Fs.length → Q k) := ⟨_, rfl⟩
  rw [← hR]
  replace hR : Hid _ := hR
  obtain ⟨y, hy⟩ : ∃ y, y = ((w.alloc (Obj.cells #[.int .i64 x.id, .int .i64 x.po, .int .i64 x.rg.ep, .int .i64 x.rg.ow, .int .i64 x.rg.pa, .slice x.aT x.two.length x.cT, .slice x.aN x.net.length x.cN, .slice x.aG x.ga.length x.cG, .slice x.aL x.ln.length x.cL, .slice x.aS x.sd.length x.cS] 48)).alloc (Obj.cells #[.bool false] 4)).alloc (Obj.cells #[.bool false] 4) := ⟨_, rfl⟩
  obtain ⟨w1, h1⟩ : ∃ v, v = w.alloc (Obj.cells #[.int .i64 x.id, .int .i64 x.po, .int .i64 x.rg.ep, .int .i64 x.rg.ow, .int .i64 x.rg.pa, .slice x.aT x.two.length x.cT, .slice x.aN x.net.length x.cN, .slice x.aG x.ga.length x.cG, .slice x.aL x.ln.length x.cL, .slice x.aS x.sd.length x.cS] 48) := ⟨_, rfl⟩
  obtain ⟨w2, h2⟩ : ∃ v, v = w1.alloc (Obj.cells #[.bool false] 4) := ⟨_, rfl⟩
  have A : BxAt w1 w.heap.size x := by rw [h1]; exact BxAt.new w _ x
  have C1 : FlB w2 w1.heap.size false := by rw [h2]; exact FlB.new w1 false
  have C2 : FlB y w2.heap.size false := by rw [hy, ← h1, ← h2]; exact FlB.new w2 false
  have k1 : Below w.heap.size w w1 := by rw [h1]; exact below_new _
  have k2 : Below w1.heap.size w1 w2 := by rw [h2]; exact below_new _
  have k3 : Below w2.heap.size w2 y := by rw [hy, ← h1, ← h2]; exact below_new _
  have s1 : w1.heap.size = w.heap.size + 1 := by rw [h1]; simp
  have s2 : w2.heap.size = w.heap.size + 1 + 1 := by rw [h2]; simp [s1]
  have A := (A.below k2 A.lt).below k3 (by have := A.lt; have := k2.size; omega)
  have C1 := C1.below k3 C1.lt
  have B : Below w.heap.size w y := (k1.trans (k2.mono k1.size)).trans (k3.mono (by omega))
  rw [s1] at C1
  rw [s2] at C2
  have A := A
  replace k1 : True := trivial
  clear k1 k2 k3 s1 s2
  have J := hJ.later B
  have F := hF.below B (hF.lt fnEnc_len (by omega))
  clear hJ hF
  go_enter_defers Tryz.func97, Tryz.ntmps97
  go_wp2_with fail
  go_at_call 32
  rw [← hy]
  clear hy
  obtain ⟨qh, hqh⟩ : ∃ q, q = w.heap.size + 1 := ⟨_, rfl⟩
  obtain ⟨qf, hqf⟩ : ∃ q, q = w.heap.size + 1 + 1 := ⟨_, rfl⟩
  rw [← hqf] at C2 ⊢
  rw [← hqh] at C1 ⊢
  replace hqh : w.heap.size ≤ qh ∧ qh < qf ∧ w.heap.size < qh := by omega
  clear hqf
  refine (boxOkI x y J.v).mono ?_
  rintro e u1 ⟨rfl, kq⟩
  have J := J.later kq
  have F := F.below kq (F.lt fnEnc_len (by omega))
  have B1 := B.trans (kq.mono B.size)
  have A := A.below kq A.lt
  have C1 := C1.below kq C1.lt
  have C2 := C2.below kq C2.lt
  clear kq B
  have B := B1
  clear B1
  obtain ⟨ob, hob⟩ : ∃ b, bxOk x.p = b := ⟨_, rfl⟩
  rw [hob]
  cases ob
  · replace hob : Hid _ := hob
    obtain ⟨c2, f2⟩ := C2
    go_wp2
    have C2 := (FlB.mk c2 f2).put true
    have C1 := C1.keep (w' := u1.setCell ⟨qf, 0, none⟩ (.bool true)) (Below.heap_setCell _ _ _ _ (by show qh ≠ qf; omega))
    have B := B.setCell (p := ⟨qf, 0, none⟩) (by show w.heap.size ≤ qf; omega) (.bool true)
    refine leaves_cons (f := 153) (args := #[.pointer (some ⟨qf, 0, none⟩), .pointer (some ⟨qh, 0, none⟩)]) (by simp) (by simp [go_sem]) ?_
    refine (judge1 qf qh true false .returning _ C2.c C1.c C1.f).mono ?_
    rintro e u' w'' ⟨rfl, rfl, rfl⟩
    have C9 := (C1.put false).c
    have B9 : Below w.heap.size w ((u1.setCell ⟨qf, 0, none⟩ (.bool true)).setCell ⟨qh, 0, none⟩ (.bool (!true))) := B.setCell (p := ⟨qh, 0, none⟩) (by show w.heap.size ≤ qh; omega) _
    simp only [Bool.not_true, Bool.not_false] at B9
    simp [Leaves, settle, results, Tryz.results97, go_sem, C9]
    exact ⟨YN.no (by rw [hR.out, hob.out]; rintro ⟨h, _⟩; cases h), B9⟩
  have hc := hc hob
  replace hob : Hid _ := hob
  go_upto_region 6 with fail
  go_loopw [14] (fun i wr => ∃ k : Nat, k ≤ Fs.length ∧ i = .int .i64 (k : Int) ∧ Hid (∀ j, j < k → Q j) ∧ BxAt wr w.heap.size x ∧ FlB wr qh false ∧ FlB wr qf false ∧ BxJ wr x ∧ FView fnEnc wr aF Fs ∧ Below w.heap.size w wr) (fun i _ => Fs.length - (intOf i).toNat)
  case atStart => exact ⟨0, Nat.zero_le _, rfl, fun j hj => absurd hj (by omega), A, C1, C2, J, F, B⟩
  case round =>
    clear A C1 C2 J F B
    obtain ⟨k, hk, rfl, hQ, A, C1, C2, J, F, B⟩ := hrel
    by_cases hlt : k < Fs.length
    · obtain ⟨g, off, rfl, _⟩ := F (by omega)
      obtain ⟨f, hf⟩ : ∃ f, Fs.getD k 0 = f := ⟨_, rfl⟩
      have cF : wr.cell? ⟨g, off + k, none⟩ = some (.func (.func f) #[] #[]) := by have h1 := F.at_ fnEnc_len 0 hlt 0 (.func (.func (Fs.getD k 0)) #[] #[]) rfl; rw [hf] at h1; simpa using h1
      have ef : ∀ (args : Array Value) (w : World), (callFunc (Fs.getD k 0) args).run Tryz.prog w = .ok (.enter (Fs.getD k 0) args) w := hE k hlt
      have hcf := hc k hlt wr J
      rw [hf] at ef hcf
      replace hf : Hid _ := hf
      have cc := A
      obtain ⟨a0, a1, a2, a3, a4, a5, a6, a7, a8, a9⟩ := cc
      go_wp2_with fail
      clear a0 a1 a2 a3 a4 a5 a6 a7 a8 a9
      refine hcf.mono ?_
      rintro e u2 ⟨⟨rb, rfl, hrb⟩, kq⟩
      clear hcf ef cF
      have A := A.below kq A.lt
      have C1 := C1.below kq C1.lt
      have C2 := C2.below kq C2.lt
      have J := J.later kq
      have F := F.below kq (F.lt fnEnc_len (by omega))
      have B := B.trans (kq.mono B.size)
      replace hrb : Hid _ := hrb
      cases rb
      · obtain ⟨c2, f2⟩ := C2
        go_wp2
        have C2 := (FlB.mk c2 f2).put true
        have C1 := C1.keep (w' := u2.setCell ⟨qf, 0, none⟩ (.bool true)) (Below.heap_setCell _ _ _ _ (by show qh ≠ qf; omega))
        have B := B.setCell (p := ⟨qf, 0, none⟩) (by show w.heap.size ≤ qf; omega) (.bool true)
        refine leaves_cons (f := 153) (args := #[.pointer (some ⟨qf, 0, none⟩), .pointer (some ⟨qh, 0, none⟩)]) (by simp) (by simp [go_sem]) ?_
        refine (judge1 qf qh true false .returning _ C2.c C1.c C1.f).mono ?_
        rintro e u' w'' ⟨rfl, rfl, rfl⟩
        have C9 := (C1.put false).c
        have B9 : Below w.heap.size w ((u2.setCell ⟨qf, 0, none⟩ (.bool true)).setCell ⟨qh, 0, none⟩ (.bool (!true))) := B.setCell (p := ⟨qh, 0, none⟩) (by show w.heap.size ≤ qh; omega) _
        simp only [Bool.not_true, Bool.not_false] at B9
        simp [Leaves, settle, results, Tryz.results97, go_sem, C9]
        exact ⟨YN.no (by rw [hR.out]; rintro ⟨_, h⟩; have h1 := hrb.out.2 (h k hlt); cases h1), B9⟩
      · go_wp2
        go_roundw
        case rel =>
          refine ⟨k + 1, by omega, by go_num, fun j hj => ?_, A, C1, C2, J, F, B⟩
          by_cases ej : j = k
          · rw [ej]; first | exact hrb.out.1 rfl | exact hrb.out.1 trivial
          · exact hQ.out j (by omega)
        case measure => simp [intOf]; omega
    · obtain rfl : k = Fs.length := by omega
      go_wp2
      refine leaves_cons (f := 153) (args := #[.pointer (some ⟨qf, 0, none⟩), .pointer (some ⟨qh, 0, none⟩)]) (by simp) (by simp [go_sem]) ?_
      refine (judge1 qf qh false false .returning _ C2.c C1.c C1.f).mono ?_
      rintro e u' w'' ⟨rfl, rfl, rfl⟩
      have C9 := (C1.put true).c
      have B9 : Below w.heap.size w (wr.setCell ⟨qh, 0, none⟩ (.bool (!false))) := B.setCell (p := ⟨qh, 0, none⟩) (by show w.heap.size ≤ qh; omega) _
      simp only [Bool.not_true, Bool.not_false] at B9
      simp [Leaves, settle, results, Tryz.results97, go_sem, C9]
      exact ⟨YN.yes (by rw [hR.out]; exact ⟨hob.out, hQ.out⟩), B9⟩

end Go.Proofs.YtnpiljegdiconaaGreat
namespace Go.Proofs.YtnpiljegdiconaaGreat
open Go.ChangeShapes Go.WideShapes Go.ChangeAt Go.RowKit
open Go.ChangeMaps (open_string shut_string)
set_option linter.unusedVariables false
set_option maxRecDepth 100000

set_option maxHeartbeats 4000000 in
theorem growO (n : Int) (w : World) (h0 : 0 ≤ n) (h1 : n ≤ 3000000) :
    Calls Tryz.prog 190 #[.slice none 0 0, .int .i64 n] w fun e w' => ∃ ad cap, e = .returned (.slice ad 0 cap) ∧ FOwn ouEnc 8 114 w.heap.size w' (.slice ad 0 cap) [] ∧ Below w.heap.size w w' := by
  obtain ⟨i0, hi, hz0, hz1, hz2⟩ := info_parts ouInfo
  have d0 : decide (n < 0) = false := decide_eq_false (by omega)
  have d1 : ¬ n < 0 := by omega
  have hw : IntKind.i64.wrap n = n := by rw [IntKind.wrap_i64]; omega
  by_cases hn : n = 0
  · subst hn
    go_enter Tryz.func190, Tryz.ntmps190
    go_wp2
    go_ret
    exact ⟨none, 0, rfl, FOwn.nil, Below.refl _ _⟩
  obtain ⟨m, rfl⟩ := Int.eq_ofNat_of_zero_le h0
  have hm : 0 < m := by omega
  have d2 : decide (0 < (m : Int)) = true := decide_eq_true (by omega)
  have d3 : 0 < (m : Int) := by omega
  have hr : ∀ ty, (Builtin.append_ #[46, 3] ty #[.slice none 0 0, .int .i64 (m : Int)]).run Tryz.prog w = _ := fun ty => Lib.run_append_nil_zeros w 46 3 ty 114 i0 (.agg #[.int .i64 0, .int .i64 0, .int .i64 0, .int .i64 0, .int .i64 0, .int .i64 0, .int .i64 0, .bool false]) .i64 .i64 Tryz.underlying46 Tryz.underlying3 hi hz0 m hm (by omega) (by omega) (by rw [hz2]; omega)
  obtain ⟨c, hc⟩ : ∃ c, grownCap w m 0 114 = c := ⟨_, rfl⟩
  have hc1 : m ≤ c := by rw [← hc]; exact grownCap_ge w m 0 _
  have hc2 : c ≤ maxLen := by rw [← hc]; exact grownCap_le_maxLen w m 0 _ (by unfold maxLen; omega)
  rw [hc] at hr
  replace hc : Hid _ := hc
  obtain ⟨w1, hw1⟩ : ∃ w1, w1 = w.drew.alloc (.cells (Builtin.zeroCells (Value.cells (.agg #[.int .i64 0, .int .i64 0, .int .i64 0, .int .i64 0, .int .i64 0, .int .i64 0, .int .i64 0, .bool false])) m ++ Builtin.zeroCells (Value.cells (.agg #[.int .i64 0, .int .i64 0, .int .i64 0, .int .i64 0, .int .i64 0, .int .i64 0, .int .i64 0, .bool false])) (c - m)) 114) := ⟨_, rfl⟩
  have B1 : Below w.heap.size w w1 := by
    rw [hw1]
    exact ((Below.refl _ _).drew).alloc (by simp) _
  have O1 : FOwn ouEnc 8 114 w.heap.size w1 (.slice (some ⟨w.heap.size, 0, none⟩) 0 c) [] := by
    refine ⟨by simp [fcells], .inr ⟨w.heap.size, c, Builtin.zeroCells (Value.cells (.agg #[.int .i64 0, .int .i64 0, .int .i64 0, .int .i64 0, .int .i64 0, .int .i64 0, .int .i64 0, .bool false])) m ++ Builtin.zeroCells (Value.cells (.agg #[.int .i64 0, .int .i64 0, .int .i64 0, .int .i64 0, .int .i64 0, .int .i64 0, .int .i64 0, .bool false])) (c - m), rfl, Nat.le_refl _, ?_, Nat.zero_le _, hc2, ?_, by simp [fcells]⟩⟩
    · rw [hw1]
      exact heap_newF w.drew _
    · simp [Builtin.zeroCells, Value.cells]
      omega
  rw [← hw1] at hr
  clear hw1
  go_enter Tryz.func190, Tryz.ntmps190
  go_wp2_with (at_builtin; refine Lib.wpList_append_run _ rfl _ _ _ _ rfl _ _ rfl rfl _ _ (hr _) ?_)
  go_wp2
  go_ret
  exact ⟨_, _, rfl, O1, B1⟩
theorem app_len2 {L M : List Ou} : (L ++ M).length = L.length + M.length := List.length_append
set_option maxHeartbeats 8000000 in
theorem concatO (q : Nat) (a1 a2 : Option Addr) (c1 c2 : Nat) (L1 L2 : List Ou) (w : World) (h1 : w.cell? ⟨q, 0, none⟩ = some (.slice a1 L1.length c1)) (h2 : w.cell? ⟨q, 1, none⟩ = some (.slice a2 L2.length c2)) (v1 : FView ouEnc w a1 L1) (v2 : FView ouEnc w a2 L2) (n1 : a1 = none → c1 = 0) (n2 : a2 = none → c2 = 0) (l1 : L1.length ≤ 1048576) (l2 : L2.length ≤ 1048576) :
    Calls Tryz.prog 152 #[.slice (some ⟨q, 0, none⟩) 2 2] w fun e w' => ∃ ad cap, e = .returned (.slice ad (L1 ++ L2).length cap) ∧ FOwn ouEnc 8 114 w.heap.size w' (.slice ad (L1 ++ L2).length cap) (L1 ++ L2) ∧ Below w.heap.size w w' := by
  obtain ⟨i0, hi, hz0, hz1, hz2⟩ := info_parts ouInfo
  have d1 : ¬ (L1.length : Int) < 0 := by omega
  have d2 : ¬ (L1.length : Int) + (L2.length : Int) < 0 := by omega
  have e1 : decide ((L1.length : Int) < 0) = false := decide_eq_false d1
  have e2 : decide ((L1.length : Int) + (L2.length : Int) < 0) = false := decide_eq_false d2
  have hql := World.block_lt_of_cell? w _ h1
  have b1 := v1.lt ouEnc_len (by omega)
  have b2 := v2.lt ouEnc_len (by omega)
  go_enter Tryz.func152, Tryz.ntmps152
  go_wp2
  refine wp_loop_rounds 3 ?_
  rw [rounds_succ]
  go_wp2_with fail
  rw [rounds_succ]
  go_wp2_with fail
  rw [rounds_succ]
  go_wp2_with fail
  go_at_call 190
  refine (growO _ w (by omega) (by omega)).mono ?_
  rintro e y ⟨ad, cap, rfl, O, ky⟩
  have h1 := (World.cell?_of_block (a := ⟨q, 0, none⟩) (ky.block q hql)).trans h1
  have h2 := (World.cell?_of_block (a := ⟨q, 1, none⟩) (ky.block q hql)).trans h2
  have v1 := v1.below ky b1
  have v2 := v2.below ky b2
  have hsz := ky.size
  go_wp2
  refine wp_loop_rounds 3 ?_
  rw [rounds_succ]
  go_wp2_with (first | (at_builtin; refine fappL ouEnc_len ouEnc_ones rfl _ _ 46 rfl w.heap.size 114 i0 (.agg #[.int .i64 0, .int .i64 0, .int .i64 0, .int .i64 0, .int .i64 0, .int .i64 0, .int .i64 0, .bool false]) 64 Tryz.underlying46 hi hz0 hz1 hz2 rfl (by decide) (by decide) (.slice ad 0 cap) [] rfl O a1 c1 L1 rfl n1 v1 ?z0 ?z1 ?_) | go_in)
  case z0 => first | omega | (simp; omega)
  case z1 => exact hsz
  intro v' z O1 g1 _
  replace O1 : FOwn ouEnc 8 114 w.heap.size z v' L1 := O1
  obtain ⟨ad', cap', rfl⟩ := O1.open_
  have ob : ∀ k, (Value.slice ad 0 cap).ownBlock = some k → w.heap.size ≤ k := fun k e => (O.lt k e).1
  have kz : Below w.heap.size w z := ky.grown g1 hsz ob
  have hq2 : z.heap[q]? = y.heap[q]? := g1.block q (by omega) (fun e => by have := ob q e.symm; omega)
  have h2 := (World.cell?_of_block (a := ⟨q, 1, none⟩) hq2).trans h2
  have h1 := (World.cell?_of_block (a := ⟨q, 0, none⟩) hq2).trans h1
  have v2 : FView ouEnc z a2 L2 := v2.carry (fun a e p => g1.block _ (by have := b2 a e p; omega) (fun e2 => by have h3 := ob _ e2.symm; have h4 := b2 a e p; omega))
  have hs2 := kz.size
  clear g1 ob hq2 O ky
  go_wp2_with fail
  rw [rounds_succ]
  go_wp2_with (first | (at_builtin; refine fappL ouEnc_len ouEnc_ones rfl _ _ 46 rfl w.heap.size 114 i0 (.agg #[.int .i64 0, .int .i64 0, .int .i64 0, .int .i64 0, .int .i64 0, .int .i64 0, .int .i64 0, .bool false]) 64 Tryz.underlying46 hi hz0 hz1 hz2 rfl (by decide) (by decide) (.slice ad' L1.length cap') L1 rfl O1 a2 c2 L2 rfl n2 v2 ?y0 ?y1 ?_) | go_in)
  case y0 => first | omega | (simp; omega)
  case y1 => exact hs2
  intro v' x O2 g2 _
  obtain ⟨ad2, cap2, rfl⟩ := O2.open_
  have ob : ∀ k, (Value.slice ad' L1.length cap').ownBlock = some k → w.heap.size ≤ k := fun k e => (O1.lt k e).1
  have kx : Below w.heap.size w x := kz.grown g2 hs2 ob
  clear g2 ob O1 kz h1 h2 v1 v2
  obtain ⟨M, hM⟩ : ∃ M, L1 ++ L2 = M := ⟨_, rfl⟩
  rw [hM] at O2 ⊢
  replace hM : Hid _ := hM
  go_wp2_with fail
  rw [rounds_succ]
  go_wp2
  go_ret
  obtain rfl := hM.out
  exact ⟨_, _, rfl, O2, kx⟩
/-- What was said, as a piece of a list that the call owns. -/
def SdO (base : Nat) (w : World) (a : Option Addr) (c : Nat) (L : List Ou) : Prop := (a = none ∧ c = 0 ∧ L = []) ∨ ∃ (g : Nat) (pre : List Ou) (cap : Nat), a = some ⟨g, pre.length * 8, none⟩ ∧ c + pre.length = cap ∧ FOwn ouEnc 8 114 base w (.slice (some ⟨g, 0, none⟩) (pre ++ L).length cap) (pre ++ L)
theorem SdO.of {base : Nat} {w : World} {a : Option Addr} {c : Nat} {L : List Ou} (h : FOwn ouEnc 8 114 base w (.slice a L.length c) L) : SdO base w a c L := by
  rcases h.2 with ⟨e, h0⟩ | ⟨g, c2, cur, e, _⟩
  · simp only [Value.slice.injEq] at e
    exact .inl ⟨e.1, e.2.2, List.eq_nil_of_length_eq_zero e.2.1⟩
  · simp only [Value.slice.injEq] at e
    obtain ⟨rfl, _, _⟩ := e
    exact .inr ⟨g, [], c, rfl, rfl, h⟩
theorem SdO.view {base : Nat} {w : World} {a : Option Addr} {c : Nat} {L : List Ou} (h : SdO base w a c L) : FView ouEnc w a L := by
  rcases h with ⟨_, _, rfl⟩ | ⟨g, pre, cap, rfl, _, O⟩
  · exact FView.nil
  · have := O.view.2.dropO (k := pre.length) (by simp)
    rwa [List.drop_left] at this
theorem SdO.nil0 {base : Nat} {w : World} {a : Option Addr} {c : Nat} {L : List Ou} (h : SdO base w a c L) (e : a = none) : c = 0 := by
  rcases h with ⟨_, h, _⟩ | ⟨g, pre, cap, e2, _⟩
  · exact h
  · rw [e] at e2; cases e2
theorem SdO.lt {base : Nat} {w : World} {a : Option Addr} {c n : Nat} {L : List Ou} (h : SdO base w a c L) : ∀ k, (Value.slice a n c).ownBlock = some k → base ≤ k ∧ k < w.heap.size := by
  intro k e
  rcases h with ⟨rfl, _, _⟩ | ⟨g, pre, cap, rfl, _, O⟩
  · cases e
  · exact O.lt k e
theorem SdO.keep {base : Nat} {w w' : World} {a : Option Addr} {c : Nat} {L : List Ou} (h : SdO base w a c L) (k : ∀ g, base ≤ g → g < w.heap.size → (∀ n, (Value.slice a n c).ownBlock = some g) → w'.heap[g]? = w.heap[g]?) : SdO base w' a c L := by
  rcases h with h | ⟨g, pre, cap, rfl, hc, O⟩
  · exact .inl h
  · exact .inr ⟨g, pre, cap, rfl, hc, O.keep (fun g2 e => k g2 (O.lt g2 e).1 (O.lt g2 e).2 (fun n => e))⟩
theorem SdO.base {b1 b2 : Nat} {w : World} {a : Option Addr} {c : Nat} {L : List Ou} (h : SdO b1 w a c L) (hb : b2 ≤ b1) : SdO b2 w a c L := by
  rcases h with h | ⟨g, pre, cap, e, hc, O⟩
  · exact .inl h
  · exact .inr ⟨g, pre, cap, e, hc, O.base hb⟩
set_option maxHeartbeats 4000000 in
theorem saidI (a1 a2 : Option Addr) (c1 c2 : Nat) (S L : List Ou) (w : World) (v1 : FView ouEnc w a1 S) (v2 : FView ouEnc w a2 L) (n1 : a1 = none → c1 = 0) (n2 : a2 = none → c2 = 0) (l1 : S.length ≤ 1048576) (l2 : L.length ≤ 1048576) :
    Calls Tryz.prog 94 #[.slice a1 S.length c1, .slice a2 L.length c2] w fun e w' => ∃ a c, e = .returned (.slice a (lastS (S ++ L)).length c) ∧ SdO w.heap.size w' a c (lastS (S ++ L)) ∧ Below w.heap.size w w' := by
  obtain ⟨Q, hQ⟩ : ∃ Q, Q = S ++ L := ⟨_, rfl⟩
  rw [← hQ]
  replace hQ : Hid _ := hQ
  obtain ⟨y, hy⟩ : ∃ y, y = w.alloc (Obj.cells #[.slice a1 S.length c1, .slice a2 L.length c2] 46) := ⟨_, rfl⟩
  have B0 : Below w.heap.size w y := by rw [hy]; exact below_new _
  have h1 : y.cell? ⟨w.heap.size, 0, none⟩ = some (.slice a1 S.length c1) := by rw [hy]; simp [go_sem]
  have h2 : y.cell? ⟨w.heap.size, 1, none⟩ = some (.slice a2 L.length c2) := by rw [hy]; simp [go_sem]
  have v1 := v1.below B0 (v1.lt ouEnc_len (by omega))
  have v2 := v2.below B0 (v2.lt ouEnc_len (by omega))
  go_enter Tryz.func94, Tryz.ntmps94
  go_wp2_with fail
  go_at_call 152
  rw [← hy]
  clear hy
  refine (concatO w.heap.size a1 a2 c1 c2 S L y h1 h2 v1 v2 n1 n2 l1 l2).mono ?_
  rintro e z ⟨ad, cap, rfl, O, kq⟩
  have B1 := B0.trans (kq.mono B0.size)
  have O := O.base B0.size
  have bl : (S ++ L).length ≤ 2097152 := by rw [List.length_append]; omega
  rw [← hQ.out] at O bl ⊢
  clear hQ kq h1 h2 v1 v2 B0
  have hcap := O.capM
  have hcm : cap ≤ maxLen := by
    rcases O.2 with ⟨e, _⟩ | ⟨g, c, cur, e, _, _, _, hm, _⟩
    · simp only [Value.slice.injEq] at e; omega
    · simp only [Value.slice.injEq] at e; omega
  by_cases h40 : Q.length ≤ 40
  · have hw : IntKind.i64.wrap ((Q.length : Int) - 40) = (Q.length : Int) - 40 := by rw [IntKind.wrap_i64]; omega
    have hm : max (0 : Int) ((Q.length : Int) - 40) = 0 := by omega
    have hX : lastS Q = Q := lastS_all h40
    cases ad with
    | none =>
      obtain rfl := O.view.2.none_nil
      obtain rfl := own_noneM O
      go_wp2
      go_ret
      exact ⟨none, 0, by rw [hX]; rfl, .inl ⟨rfl, rfl, hX⟩, B1⟩
    | some a =>
      obtain ⟨g, rfl⟩ : ∃ g, a = ⟨g, 0, none⟩ := by
        rcases O.2 with ⟨e, _⟩ | ⟨g, c, cur, e, _⟩
        · simp at e
        · simp only [Value.slice.injEq, Option.some.injEq] at e; exact ⟨g, e.1⟩
      replace hX : Hid _ := hX
      go_wp2
      go_ret
      exact ⟨_, cap, by rw [hX.out]; rfl, by rw [hX.out]; exact SdO.of O, B1⟩
  · obtain ⟨n, hn⟩ : ∃ n, Q.length = n + 40 := ⟨Q.length - 40, by omega⟩
    have hw : IntKind.i64.wrap ((Q.length : Int) - 40) = (n : Int) := by rw [IntKind.wrap_i64]; omega
    have hm : max (0 : Int) (n : Int) = (n : Int) := by omega
    obtain ⟨g, rfl⟩ : ∃ g, ad = some ⟨g, 0, none⟩ := by
      rcases O.2 with ⟨e, _⟩ | ⟨g, c, cur, e, _⟩
      · simp only [Value.slice.injEq] at e; omega
      · simp only [Value.slice.injEq] at e; exact ⟨g, e.1⟩
    have hX : lastS Q = Q.drop n := by unfold lastS; rw [show Q.length - 40 = n by omega]
    have hl : (lastS Q).length = 40 := by rw [hX, List.length_drop]; omega
    have hpre : (Q.take n).length = n := by rw [List.length_take]; omega
    have hS : SdO w.heap.size z (some ⟨g, n * 8, none⟩) (cap - n) (lastS Q) := .inr ⟨g, Q.take n, cap, by rw [hpre], by rw [hpre]; omega, by rw [hX, List.take_append_drop]; exact O⟩
    replace hX : Hid _ := hX
    replace hl : Hid _ := hl
    replace hS : Hid _ := hS
    replace hpre : Hid _ := hpre
    have hlt : n < cap := by omega
    have hq2 : n ≤ Q.length := by omega
    have hn2 : Q.length - n = 40 := by omega
    replace hn : Hid _ := hn
    clear O
    go_wp2
    go_ret
    exact ⟨_, _, by rw [hl.out]; rfl, hS.out, B1⟩

end Go.Proofs.YtnpiljegdiconaaGreat
namespace Go.Proofs.YtnpiljegdiconaaGreat
open Go.ChangeShapes Go.WideShapes Go.ChangeAt Go.RowKit
open Go.ChangeMaps (open_string shut_string)
set_option linter.unusedVariables false
set_option maxRecDepth 100000

set_option linter.unusedSimpArgs false in
set_option maxHeartbeats 8000000 in
theorem saidOfI (x : BxD) (w : World) (hJ : BxJ w x) (hb : bxOk x.p = true) :
    Calls Tryz.prog 99 #[.agg #[.int .i64 x.id, .int .i64 x.po, .int .i64 x.rg.ep, .int .i64 x.rg.ow, .int .i64 x.rg.pa, .slice x.aT x.two.length x.cT, .slice x.aN x.net.length x.cN, .slice x.aG x.ga.length x.cG, .slice x.aL x.ln.length x.cL, .slice x.aS x.sd.length x.cS]] w fun e w' => YN e (saidJ x.p) ∧ Below w.heap.size w w' := by
  obtain ⟨Q, hQ⟩ : ∃ Q : Prop, Q = (saidJ x.p) := ⟨_, rfl⟩
  rw [← hQ]
  replace hQ : Hid _ := hQ
  obtain ⟨y, hy⟩ : ∃ y, y = w.alloc (Obj.cells #[.int .i64 x.id, .int .i64 x.po, .int .i64 x.rg.ep, .int .i64 x.rg.ow, .int .i64 x.rg.pa, .slice x.aT x.two.length x.cT, .slice x.aN x.net.length x.cN, .slice x.aG x.ga.length x.cG, .slice x.aL x.ln.length x.cL, .slice x.aS x.sd.length x.cS] 48) := ⟨_, rfl⟩
  have B : Below w.heap.size w y := by rw [hy]; exact below_new _
  have A : BxAt y w.heap.size x := by rw [hy]; exact BxAt.new w _ x
  have J := hJ.later B
  have hln : x.ln.length ≤ 60 := (bxOk_smJ hb).2.2.2.2.1
  have hsd : x.sd.length ≤ 40 := (bxOk_smJ hb).2.2.2.2.2
  have hBn := J.v.i.lt ikEnc_len (by omega)
  have hNl := newL_small x.id x.po
  obtain ⟨I, hI⟩ : ∃ v, newI x.id x.po = v := ⟨_, rfl⟩
  obtain ⟨N, hN⟩ : ∃ v, newL x.id x.po = v := ⟨_, rfl⟩
  have hQ2 : Hid (Q ↔ lastS (outsA I N x.ln) = x.sd) := by unfold Hid; rw [hQ.out, ← hI, ← hN]; exact Iff.rfl
  rw [hN] at hNl
  replace hI : Hid _ := hI
  replace hN : Hid _ := hN
  clear hQ hb
  have hw0 := A.lt
  go_enter Tryz.func99, Tryz.ntmps99
  go_upto_region 1 with fail
  rw [← hy]
  clear hy
  have cc := A
  obtain ⟨a0, a1, a2, a3, a4, a5, a6, a7, a8, a9⟩ := cc
  go_wp2_with fail
  go_at_call 29
  clear a0 a1 a2 a3 a4 a5 a6 a7 a8 a9
  refine (newBI x.id x.po y).mono ?_
  rintro e u1 ⟨a1, c1, rfl, O1, k1⟩
  rw [hN.out] at O1
  rw [hI.out, hN.out]
  obtain ⟨nk, hnk⟩ : ∃ b, nOk x.id x.po = b := ⟨_, rfl⟩
  rw [hnk]
  clear hI hN hnk
  have A := A.below k1 A.lt
  have B1 := B.trans (k1.mono B.size)
  have s1 := k1.size
  have lo1 := O1.lt
  clear k1 B J
  obtain ⟨u2, hu2⟩ : ∃ u2, u2 = u1.alloc (Obj.cells #[.int .i64 I, .slice a1 N.length c1] 56) := ⟨_, rfl⟩
  have k2 : Below u1.heap.size u1 u2 := by rw [hu2]; exact below_new _
  have P := BBox.new u1 56 I (.slice a1 N.length c1)
  rw [← hu2] at P
  have B := B1.trans (k2.mono B1.size)
  have A := A.below k2 A.lt
  have O1 := O1.later k2
  have s2 := P.lt
  go_upto_region 2 with fail
  rw [← hu2]
  clear hu2 k2 B1
  obtain ⟨p, hp⟩ : ∃ p, p = u1.heap.size := ⟨_, rfl⟩
  rw [← hp] at P s1 s2 lo1 ⊢
  clear hp
  have lp : w.heap.size < p := by omega
  have J := hJ.later B
  have cc := A
  obtain ⟨a0, a1, a2, a3, a4, a5, a6, a7, a8, a9⟩ := cc
  go_upto_region 4 with fail
  clear a0 a1 a2 a3 a4 a5 a6 a7 a8 a9 J
  go_loopw [5, 6, 20] (fun v5 v6 i wr => ∃ (k : Nat) (a : Option Addr) (c : Nat) (L : List Pt) (a5 : Option Addr) (c5 : Nat) (S : List Ou), k ≤ x.ln.length ∧ i = .int .i64 (k : Int) ∧ v5 = .slice a5 S.length c5 ∧ Hid (ofL I N (x.ln.take k) = L) ∧ Hid (lastS (outsA I N (x.ln.take k)) = S) ∧ BBox wr p I (.slice a L.length c) ∧ FOwn ptEnc 11 109 w.heap.size wr (.slice a L.length c) L ∧ (∀ g, (Value.slice a L.length c).ownBlock = some g → g ≠ p) ∧ SdO (p + 1) wr a5 c5 S ∧ BxAt wr w.heap.size x ∧ Below w.heap.size w wr) (fun _ _ i _ => x.ln.length - (intOf i).toNat)
  case atStart => exact ⟨0, a1, c1, N, none, 0, [], Nat.zero_le _, rfl, rfl, rfl, rfl, P, O1.base (by omega), fun g e => by have := lo1 g e; omega, .inl ⟨rfl, rfl, rfl⟩, A, B⟩
  case round =>
    obtain ⟨k, a, c, L, a5, c5, S, hk, rfl, rfl, hL, hS, P, O, hne, SO, A, B⟩ := hrel
    have hLl : L.length ≤ 4 := by rw [← hL.out, ofL_len]; exact hNl
    have hSl : S.length ≤ 40 := by rw [← hS.out]; exact lastS_len _
    clear O1 lo1
    have J := hJ.later B
    by_cases hlt : k < x.ln.length
    · have hst := ofL_step I N x.ln ikN hlt
      have hso := outsA_step I N x.ln ikN hlt
      rw [hL.out] at hst hso
      have hs2 : lastS (S ++ reactO I L (x.ln.getD k ikN)) = lastS (outsA I N (x.ln.take (k + 1))) := by rw [hso, ← hS.out, lastS_app]
      clear hso hL hS
      obtain ⟨b, off, hat, _⟩ := J.v.i (by omega)
      obtain ⟨d, hh⟩ : ∃ d, x.ln.getD k ikN = d := ⟨_, rfl⟩
      rw [hh] at hst hs2
      have hck : IkAtO wr b (off + k * 8) d := by have h1 := J.v.i; rw [hat] at h1; rw [← hh]; exact ikAtO_of (h1.at_ ikEnc_len ikN hlt)
      replace hst : Hid _ := hst
      replace hs2 : Hid _ := hs2
      clear hh
      have lp2 := P.lt
      have bs := B.size
      have ln := O.lt
      rw [hat]
      obtain ⟨e0, e1, e2, e3, e4, e5, e6, e7⟩ := hck
      obtain ⟨u, hu⟩ : ∃ u, u = wr.alloc (Obj.cells #[.int .i64 d.k, .int .i64 d.q, .int .i64 d.r, .int .i64 d.c, .int .i64 d.b, .int .i64 d.p, .int .i64 d.h, .bool d.up] 105) := ⟨_, rfl⟩
      replace hat : Hid _ := hat
      have ku : Below wr.heap.size wr u := by rw [hu]; exact below_new _
      have U : InAt u wr.heap.size d := by rw [hu]; exact InAt.new wr _ d
      have P := P.below ku P.lt
      have A := A.below ku A.lt
      have O := O.later ku
      have SO := SO.keep (fun g _ hg _ => ku.block g hg)
      have B3 := B.trans (ku.mono B.size)
      have su := ku.size
      go_upto_region 6 with fail
      rw [← hu]
      clear hu ku e0 e1 e2 e3 e4 e5 e6 e7 B J
      have cc := P
      obtain ⟨⟨p0, p1⟩, pf⟩ := cc
      obtain ⟨e0, e1, e2, e3, e4, e5, e6, e7⟩ := U
      go_wp2_with fail
      go_at_call 156
      clear p0 p1 pf e0 e1 e2 e3 e4 e5 e6 e7
      refine (reactI I a c L d u O.view.2 (by omega) O.capn).mono ?_
      rintro e w2 ⟨a2, c2, o2, d2, rfl, O2, Q2, _, k2⟩
      have hOl := reactO_len I L d
      obtain ⟨M, hM⟩ : ∃ M, reactL I L d = M := ⟨_, rfl⟩
      obtain ⟨OO, hOO⟩ : ∃ M, reactO I L d = M := ⟨_, rfl⟩
      rw [hM] at O2 ⊢
      rw [hOO] at Q2 hOl ⊢
      have hst2 : Hid (ofL I N (x.ln.take (k + 1)) = M) := by unfold Hid; rw [hst.out]; exact hM
      have hs3 : Hid (lastS (S ++ OO) = lastS (outsA I N (x.ln.take (k + 1)))) := by unfold Hid; rw [← hs2.out, hOO]
      clear hM hOO hst hs2
      have P := P.below k2 P.lt
      have A := A.below k2 A.lt
      have B3 := B3.trans (k2.mono B3.size)
      have SO := SO.keep (fun g _ hg _ => k2.block g hg)
      have P9 := P.put I (.slice a2 M.length c2)
      have lo2 := O2.lt
      have lq2 := Q2.lt
      clear O hne ln k2
      obtain ⟨w3, hw3⟩ : ∃ y_, y_ = (w2.setCell ⟨p, 0, none⟩ (.int .i64 I)).setCell ⟨p, 1, none⟩ (.slice a2 M.length c2) := ⟨_, rfl⟩
      have kp : ∀ g, g ≠ p → w3.heap[g]? = w2.heap[g]? := fun g hg => by rw [hw3]; exact P.put1 I _ g hg
      have O9 : FOwn ptEnc 11 109 w.heap.size w3 (.slice a2 M.length c2) M := (O2.base (by omega)).keep (fun g e => kp g (by have := lo2 g e; omega))
      have Q9 : FOwn ouEnc 8 114 (p + 1) w3 (.slice o2 OO.length d2) OO := (Q2.base (by omega)).keep (fun g e => kp g (by have := lq2 g e; omega))
      have S9 : SdO (p + 1) w3 a5 c5 S := SO.keep (fun g hg _ _ => kp g (by omega))
      have A9 := A.keep (kp w.heap.size (by omega))
      have B9 : Below w.heap.size w w3 := by rw [hw3]; exact (B3.setCell (p := ⟨p, 0, none⟩) (by show _ ≤ p; omega) _).setCell (p := ⟨p, 1, none⟩) (by show _ ≤ p; omega) _
      have hne9 : ∀ g, (Value.slice a2 M.length c2).ownBlock = some g → g ≠ p := fun g e => by have := lo2 g e; omega
      rw [← hw3] at P9
      clear O2 Q2 SO A B3 lo2 lq2
      obtain ⟨⟨p0, p1⟩, pf⟩ := P
      have g0 := pf 0
      have g1 := pf 1
      clear pf
      go_upto_region 7 with fail
      rw [← hw3]
      clear hw3 kp p0 p1 g0 g1
      go_wp2_with fail
      go_at_call 94
      refine (saidI a5 o2 c5 d2 S OO w3 S9.view Q9.view.2 (fun e => S9.nil0 e) Q9.capn (by omega) (by omega)).mono ?_
      rintro e w4 ⟨a6, c6, rfl, S6, k4⟩
      have sz3 := P9.lt
      have hs4 : Hid (lastS (outsA I N (x.ln.take (k + 1))) = lastS (S ++ OO)) := hs3.out.symm
      obtain ⟨T, hT⟩ : ∃ T, T = lastS (S ++ OO) := ⟨_, rfl⟩
      rw [← hT] at S6 hs4 ⊢
      clear hT hs3 Q9 S9
      have P9 := P9.below k4 P9.lt
      have A9 := A9.below k4 A9.lt
      have O9 := O9.later k4
      have B9 := B9.trans (k4.mono B9.size)
      have S6 := S6.base (b2 := p + 1) (by omega)
      clear k4
      go_wp2
      go_roundw
      case rel => exact ⟨k + 1, a2, c2, M, a6, c6, T, by omega, by go_num, rfl, hst2, hs4, P9, O9, hne9, S6, A9, B9⟩
      case measure => simp [intOf]; omega
    · obtain rfl : k = x.ln.length := by omega
      rw [List.take_length] at hS
      have cc := A
      obtain ⟨a0, a1, a2, a3, a4, a5, a6, a7, a8, a9⟩ := cc
      go_wp2_with fail
      go_at_call 157
      clear a0 a1 a2 a3 a4 a5 a6 a7 a8 a9
      refine (ouEql x.aS a5 x.cS c5 x.sd S wr J.v.s SO.view (by omega) (by omega)).mono ?_
      rintro e u9 ⟨⟨rb, rfl, hrb⟩, kq⟩
      have B := B.trans (kq.mono B.size)
      replace hrb : Hid _ := hrb
      clear kq SO P O A J
      go_wp2
      go_ret
      exact ⟨YN.is (by rw [hQ2.out, hS.out]; exact hrb.out.trans eq_comm), B⟩

end Go.Proofs.YtnpiljegdiconaaGreat
namespace Go.Proofs.YtnpiljegdiconaaGreat
open Go.ChangeShapes Go.WideShapes Go.ChangeAt Go.RowKit
open Go.ChangeMaps (open_string shut_string)
set_option linter.unusedVariables false
set_option maxRecDepth 100000

set_option linter.unusedSimpArgs false in
set_option maxHeartbeats 4000000 in
theorem jSaidI (x : BxD) (w : World) (hJ : BxJ w x) :
    Calls Tryz.prog 43 #[.agg #[.int .i64 x.id, .int .i64 x.po, .int .i64 x.rg.ep, .int .i64 x.rg.ow, .int .i64 x.rg.pa, .slice x.aT x.two.length x.cT, .slice x.aN x.net.length x.cN, .slice x.aG x.ga.length x.cG, .slice x.aL x.ln.length x.cL, .slice x.aS x.sd.length x.cS]] w fun e w' => YN e (bxOk x.p = true ∧ saidJ x.p) ∧ Below w.heap.size w w' := by
  obtain ⟨Q, hQ⟩ : ∃ Q : Prop, Q = (bxOk x.p = true ∧ saidJ x.p) := ⟨_, rfl⟩
  rw [← hQ]
  have hQ2 : Hid ((bxOk x.p = true ∧ ∀ k, k < 1 → ([saidJ x.p] : List Prop).getD k True) ↔ Q) := by
    unfold Hid
    rw [hQ]
    constructor
    · rintro ⟨h0, h⟩
      exact ⟨h0, h 0 (by decide)⟩
    · rintro ⟨h0, q0⟩
      refine ⟨h0, fun k hk => ?_⟩
      rcases (by omega : k = 0) with rfl
      · exact q0
  clear hQ
  obtain ⟨y, hy⟩ : ∃ y, y = w.alloc (Obj.cells #[.int .i64 x.id, .int .i64 x.po, .int .i64 x.rg.ep, .int .i64 x.rg.ow, .int .i64 x.rg.pa, .slice x.aT x.two.length x.cT, .slice x.aN x.net.length x.cN, .slice x.aG x.ga.length x.cG, .slice x.aL x.ln.length x.cL, .slice x.aS x.sd.length x.cS] 48) := ⟨_, rfl⟩
  have B : Below w.heap.size w y := by rw [hy]; exact below_new _
  have A : BxAt y w.heap.size x := by rw [hy]; exact BxAt.new w _ x
  have J := hJ.later B
  go_enter Tryz.func43, Tryz.ntmps43
  go_upto_region 1 with fail
  rw [← hy]
  clear hy
  have cc := A
  obtain ⟨a0, a1, a2, a3, a4, a5, a6, a7, a8, a9⟩ := cc
  go_wp2_with fail
  go_at_call 97
  clear a0 a1 a2 a3 a4 a5 a6 a7 a8 a9
  obtain ⟨y2, hy2⟩ : ∃ y_, y_ = y.alloc (Obj.cells #[.func (.func 99) #[] #[]] 185) := ⟨_, rfl⟩
  have V2 : FView fnEnc y2 (some ⟨y.heap.size, 0, none⟩) [99] := by
    rw [hy2]
    intro _
    refine ⟨y.heap.size, 0, rfl, fun j v hv => ?_⟩
    simp only [fcells, fnEnc, List.append_nil, List.cons_append, List.nil_append] at hv
    have hj : j < 1 := (List.getElem?_eq_some_iff.1 hv).1
    rcases (by omega : j = 0) with rfl <;> (cases hv; simp [go_sem])
  have kq : Below y.heap.size y y2 := by rw [hy2]; exact below_new _
  rw [← hy2]
  have J := J.later kq
  have B := B.trans (kq.mono B.size)
  clear hy2 kq A
  refine (judgeI x [99] (fun k => ([saidJ x.p] : List Prop).getD k True) (some ⟨y.heap.size, 0, none⟩) 1 y2 J V2 (by decide) (fun k hk => ?_) (fun h0 k hk w' hj => ?_)).mono ?_
  · have hk : k < 1 := hk
    rcases (by omega : k = 0) with rfl
    · exact enters_of Tryz.func99 (by kernel_rfl) rfl
  · have hk : k < 1 := hk
    rcases (by omega : k = 0) with rfl
    · exact saidOfI x w' hj h0
  · rintro e u9 ⟨⟨rb, rfl, hrb⟩, kq⟩
    have B := B.trans (kq.mono B.size)
    have hrb : Hid (rb = true ↔ Q) := by unfold Hid; rw [← hQ2.out]; exact hrb
    clear kq J V2
    go_wp2
    go_ret
    exact ⟨YN.is hrb.out, B⟩

end Go.Proofs.YtnpiljegdiconaaGreat
